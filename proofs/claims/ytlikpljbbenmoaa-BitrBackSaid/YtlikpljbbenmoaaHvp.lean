/- What Heavy answers: whether the pieces are more than a statement writes. Conditions: as each theorem names them. -/
import Derived.Test.YtlikpljbbenmoaaPie
namespace Go.Proofs.Ytlikpljbbenmoaa
open Go.RowKit M
set_option linter.unusedVariables false

/-- The bytes of all texts. -/
def szs (l : List Pc) : Nat := (l.map fun c => c.s.size).sum
theorem szs_take_succ (l : List Pc) (k : Nat) (h : k < l.length) : szs (l.take (k + 1)) = szs (l.take k) + l[k].s.size := by
  unfold szs
  rw [List.take_succ_eq_append_getElem h, List.map_append, List.sum_append]
  simp
theorem szs_take_le (l : List Pc) (k : Nat) : szs (l.take k) ≤ szs l := by
  have h : szs l = szs (l.take k) + szs (l.drop k) := by
    unfold szs
    rw [← List.sum_append, ← List.map_append, List.take_append_drop]
  omega
def heavyB (l : List Pc) : Bool := decide (4096 < szs l ∨ 300 < l.length)

variable {w : World} {ao : Option Addr} {len cap : Nat} {cs : List Pc}

theorem heavy_any (h : IsPcs w ao len cs) (b : Bool) (hb : heavyB cs = b) :
    Calls Try.prog 14 #[.slice ao len cap] w fun e w' => e = .returned (.bool b) ∧ w = w' := by
  have hmx : len ≤ 9223372036854775807 := h.most
  have HB := Lib.hid hb
  have HH := Lib.hid h
  have hlen := h.leng
  have HL := Lib.hid hlen
  clear h hlen hb
  go_enter Try.func14, Try.ntmps14
  go_wp2_with fail
  go_loop [3, 4] (fun n i => ∃ k : Nat, k ≤ len ∧ i = .int .i64 k ∧ n = .int .i64 (szs (cs.take k)) ∧ szs (cs.take k) ≤ 4096) (fun _ i => len - (intOf i).toNat)
  case atStart => exact ⟨0, Nat.zero_le _, rfl, rfl, by simp [szs]⟩
  case round =>
    obtain ⟨k, hk, rfl, rfl, hn⟩ := hrel
    by_cases hlt : k < len
    · have hkl : k < cs.length := by rw [HL.out]; exact hlt
      have hc := HH.out.good cs[k] (List.getElem_mem hkl)
      have hs := hc.s
      have hsz := szs_take_succ cs k hkl
      have hle := szs_take_le cs (k + 1)
      rcases HH.out.cells with h0 | ⟨b', o, rfl, hbw, hcell⟩
      · omega
      · have hcs := (hcell k cs[k] (List.getElem?_eq_getElem hkl)).s
        generalize cs[k] = c at *
        generalize szs (cs.take k) = N at *
        have HS := Lib.hid hsz
        have HE := Lib.hid hle
        clear hsz hcell hle
        have hlt' : decide (k < len) = true := decide_eq_true hlt
        by_cases hover : 4096 < N + c.s.size
        · have hov : (4096 : Int) < (N : Int) + (c.s.size : Int) := by omega
          have hbt : b = true := by
            rw [← HB.out]
            have := HS.out; have := HE.out
            exact decide_eq_true (.inl (by omega))
          subst hbt
          clear hover
          go_wp2_with fail
          go_ret
          exact ⟨rfl, rfl⟩
        · have hov : (N : Int) + (c.s.size : Int) ≤ 4096 := by omega
          clear hover
          go_wp2_with fail
          go_round
          case rel => exact ⟨k + 1, by omega, by go_num, by rw [HS.out]; go_num, by rw [HS.out]; omega⟩
          case measure => simp [intOf]; omega
    · obtain rfl : k = len := by omega
      have hlt' : decide (k < k) = false := decide_eq_false (by omega)
      have hfull : szs (cs.take k) = szs cs := by rw [List.take_of_length_le (by rw [HL.out]; exact Nat.le_refl _)]
      have hbv : decide ((300 : Int) < (k : Int)) = b := by
        rw [← HB.out]
        unfold heavyB
        rw [HL.out, decide_eq_decide]
        omega
      have HV := Lib.hid hbv
      clear hbv hfull
      go_wp2_with fail
      go_ret
      exact ⟨congrArg (fun z => Ending.returned (.bool z)) HV.out, rfl⟩
end Go.Proofs.Ytlikpljbbenmoaa
