import Derived.Test.YtolcaknhjjejeaaGreatDoorKMBwQ
import Derived.Test.YtolcaknhjjejeaaGreatDoorKMT9Tok
import Derived.Test.YtolcaknhjjejeaaGreatDoorKMRns
namespace Go.Proofs.YtolcaknhjjejeaaGreatDoor.V
open Go Go.RowKit M U
open Go.ChangeShapes Go.WideShapes Go.Deep
set_option linter.unusedVariables false
set_option linter.unusedSimpArgs false
theorem IsTks.sub {w : World} {A : Option Addr} {n c : Nat} {L : List Tk} (h : IsTks w A n L) (hc : n ≤ c) {f t : Nat} (hf : f ≤ t) (ht : t ≤ n) :
    IsTks w (if c = f then A else Option.map (fun x => x.add (f * 3)) A) (t - f) (seg L f t) := by
  refine ⟨by rw [seg_length (by have := h.leng; omega)], by have := h.most; omega, fun x hx => h.good x (seg_mem hx), ?_⟩
  by_cases h0 : t - f = 0
  · exact .inl h0
  · right
    rcases h.cells with q | ⟨b, o, rfl, hb, hcs⟩
    · omega
    · rw [if_neg (by omega)]
      refine ⟨b, o + f * 3, by simp [cadd_at], hb, fun i x hx => ?_⟩
      have hx' : L[f + i]? = some x := by
        unfold seg at hx
        rw [List.getElem?_take] at hx
        split at hx
        · rw [List.getElem?_drop] at hx; exact hx
        · cases hx
      have k := hcs (f + i) x hx'
      have e : o + (f + i) * 3 = o + f * 3 + i * 3 := by omega
      exact ⟨by rw [← e]; exact k.l, by rw [← e]; exact k.n, by rw [← e]; exact k.d⟩
end Go.Proofs.YtolcaknhjjejeaaGreatDoor.V
