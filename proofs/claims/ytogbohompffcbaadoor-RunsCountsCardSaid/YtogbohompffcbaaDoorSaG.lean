/- A slice of bytes that came in, read as numbers; the three laws' walks over the program's own functions. Conditions: as each theorem names them. -/
import Derived.Test.YtogbohompffcbaaDoorSaF
import Derived.Test.YtogbohompffcbaaDoorLwU
import Derived.Test.YtogbohompffcbaaDoorLwD
import Derived.Test.YtogbohompffcbaaDoorLwE
import Derived.ChangeSlices
import Derived.Deep.Slices
namespace Go.Proofs.YtogbohompffcbaaDoor
open Go Go.RowKit M
open Go.ChangeShapes Go.WideShapes
set_option linter.unusedVariables false

/-- A slice of integers that came in. -/
def IsRow (k : IntKind) (w : World) (a : Option Addr) (len cap : Nat) (zs : List Int) : Prop :=
  (a = none ∧ len = 0 ∧ cap = 0 ∧ zs = []) ∨
  ∃ ad, a = some ad ∧ len ≤ cap ∧ cap ≤ maxLen ∧ zs.length = cap ∧ (∀ i, i < zs.length → w.cell? (ad.add i) = some (.int k (zs.getD i 0))) ∧ (∀ n ∈ zs, (Lit.int k n).wf = true)
theorem IsRow.most {k : IntKind} {w : World} {a : Option Addr} {len cap : Nat} {zs : List Int} (h : IsRow k w a len cap zs) : len ≤ cap ∧ cap ≤ maxLen := by
  rcases h with ⟨_, h1, h2, _⟩ | ⟨ad, _, h1, h2, _⟩
  · rw [h1, h2]; exact ⟨Nat.le_refl _, by decide⟩
  · exact ⟨h1, h2⟩
theorem IsRow.bys {w : World} {a : Option Addr} {len cap : Nat} {zs : List Int} (h : IsRow .u8 w a len cap zs) : ∃ l, U.IsBys w a len l := by
  refine ⟨(zs.take len).map Int.toNat, ?_⟩
  have hm := h.most
  rcases h with ⟨rfl, rfl, rfl, rfl⟩ | ⟨ad, rfl, h1, h2, h3, h4, h5⟩
  · exact U.IsBys.nil _ _
  · have hz : ∀ x ∈ zs, 0 ≤ x ∧ x ≤ 255 := fun x hx => by
      have := h5 x hx
      simpa [Lit.wf, IntKind.min, IntKind.max, IntKind.signed, IntKind.bits] using this
    refine ⟨by rw [List.length_map, List.length_take]; omega, by omega, fun x hx => ?_, ?_⟩
    · obtain ⟨y, hy, rfl⟩ := List.mem_map.1 hx
      have := hz y (List.mem_of_mem_take hy)
      omega
    · by_cases h0 : len = 0
      · exact .inl h0
      · have c0 := h4 0 (by omega)
        have hsp : ad.spot = none := by
          have := World.cell?_spot c0
          rw [Addr.add, if_pos rfl] at this
          exact this
        obtain ⟨b, o, sp⟩ := ad
        obtain rfl : sp = none := hsp
        refine .inr ⟨b, o, rfl, ?_, fun i x hx => ?_⟩
        · have := World.block_lt_of_cell? _ _ c0
          rwa [U.nadd_at] at this
        · rw [List.getElem?_map, List.getElem?_take] at hx
          by_cases hi : i < len
          · rw [if_pos hi] at hx
            have hi2 : i < zs.length := by omega
            rw [List.getElem?_eq_getElem hi2] at hx
            simp only [Option.map_some, Option.some.injEq] at hx
            have h6 := h4 i hi2
            rw [U.nadd_at, List.getD, List.getElem?_eq_getElem hi2, Option.getD_some] at h6
            rw [h6, ← hx]
            have h7 := hz _ (List.getElem_mem hi2)
            congr 2
            omega
          · rw [if_neg hi] at hx; cases hx

theorem RunsTell_walk (a0 : Option Addr) (len0 cap0 : Nat) (z0 : List Int) (a1 : Option Addr) (len1 cap1 : Nat) (z1 : List M.Rn) (a2 : Int) (W : World) (w0 : IsRow .u8 W a0 len0 cap0 z0) (w1 : U.IsRns W a1 len1 z1) (w2 : (Lit.int .i64 a2).wf = true) (H : U.Tab W) :
    Calls Tryd.prog 3 #[.slice a0 len0 cap0, .slice a1 len1 cap1, .int .i64 a2] W fun e w' => e = .returned (.bool true) ∧ Below W.heap.size W w' := by
  obtain ⟨l, hl⟩ := w0.bys
  have hx : a2 ≤ 9223372036854775807 := by
    have : -9223372036854775808 ≤ a2 ∧ a2 ≤ 9223372036854775807 := by simpa [Lit.wf, IntKind.min, IntKind.max, IntKind.signed, IntKind.bits] using w2
    exact this.2
  exact U.tell_law U.cts a0 a1 len0 cap0 len1 cap1 l z1 a2 W H hl w0.most.1 w1 hx
theorem RunsBack_walk (a0 : Option Addr) (len0 cap0 : Nat) (z0 : List Int) (a1 : Int) (W : World) (w0 : IsRow .u8 W a0 len0 cap0 z0) (w1 : (Lit.int .u16 a1).wf = true) (H : U.Tab W) :
    Calls Tryd.prog 4 #[.slice a0 len0 cap0, .int .u16 a1] W fun e w' => e = .returned (.bool true) ∧ Below W.heap.size W w' := by
  obtain ⟨l, hl⟩ := w0.bys
  have hx : 0 ≤ a1 ∧ a1 ≤ 65535 := by simpa [Lit.wf, IntKind.min, IntKind.max, IntKind.signed, IntKind.bits] using w1
  exact U.back_law U.cts a0 len0 cap0 l a1 W H hl hx
theorem RunsCounts_walk (a0 : Option Addr) (len0 cap0 : Nat) (z0 : List M.Rn) (a1 : Int) (W : World) (w0 : U.IsRns W a0 len0 z0) (w1 : (Lit.int .i8 a1).wf = true) (H : U.Tab W) :
    Calls Tryd.prog 5 #[.slice a0 len0 cap0, .int .i8 a1] W fun e w' => e = .returned (.bool true) ∧ Below W.heap.size W w' := by
  have hx : -128 ≤ a1 ∧ a1 ≤ 127 := by simpa [Lit.wf, IntKind.min, IntKind.max, IntKind.signed, IntKind.bits] using w1
  exact U.counts_law U.cts a0 len0 cap0 z0 a1 W H w0 hx
end Go.Proofs.YtogbohompffcbaaDoor
