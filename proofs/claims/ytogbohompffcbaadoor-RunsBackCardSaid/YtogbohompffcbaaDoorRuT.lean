/- The document's Times (layer 12). Conditions: as each theorem names them. -/
import Derived.Test.YtogbohompffcbaaDoorRuA
namespace Go.Proofs.YtogbohompffcbaaDoor.U
open Go Go.RowKit M
set_option linter.unusedVariables false
set_option linter.unusedSimpArgs false

set_option maxRecDepth 1000000 in
theorem rtimes_any (s e : Nat) (w : World) (hs : s ≤ 255) (he : e ≤ 255) : Calls Tryd.prog 15 #[.agg #[.int .u8 s, .int .u8 e]] w fun x w' => x = .returned (.int .i64 (tms ⟨s, e⟩ : Nat)) ∧ Below w.heap.size w w' := by
  have hc : (s < 16 ∧ e = 0) ∨ (s < 16 ∧ e ≠ 0) ∨ (s = 16 ∧ e < 4) ∨ (s = 16 ∧ 4 ≤ e) ∨ (s = 17 ∧ e < 8) ∨ (s = 17 ∧ 8 ≤ e) ∨ (s = 18 ∧ e < 128) ∨ (s = 18 ∧ 128 ≤ e) ∨ (18 < s) := by omega
  rcases hc with h | h | h | h | h | h | h | h | h
  · have ht : tms ⟨s, e⟩ = 1 := by unfold tms; simp only; split <;> first | omega | (split <;> first | omega | (split <;> first | omega | (split <;> omega)))
    rw [ht]
    have d_s16 : decide ((s : Int) < 16) = true := decide_eq_true (by omega)
    have d_s16' : decide (s < 16) = true := decide_eq_true (by omega)
    have e_e0 : ((e : Int) == 0) = true := by rw [beq_iff_eq]; omega
    have e_e0' : (e == 0) = true := by rw [beq_iff_eq]; omega
    clear h ht
    go_enter Tryd.func15, Tryd.ntmps15
    go_wp2
    go_ret
    exact ⟨by simp, (Below.refl _ _).alloc (Nat.le_refl _) _⟩
  · have ht : tms ⟨s, e⟩ = 0 := by unfold tms; simp only; split <;> first | omega | (split <;> first | omega | (split <;> first | omega | (split <;> omega)))
    rw [ht]
    have d_s16 : decide ((s : Int) < 16) = true := decide_eq_true (by omega)
    have d_s16' : decide (s < 16) = true := decide_eq_true (by omega)
    have e_e0 : ((e : Int) == 0) = false := by rw [beq_eq_false_iff_ne]; omega
    have e_e0' : (e == 0) = false := by rw [beq_eq_false_iff_ne]; omega
    have e_s16 : ((s : Int) == 16) = false := by rw [beq_eq_false_iff_ne]; omega
    have e_s16' : (s == 16) = false := by rw [beq_eq_false_iff_ne]; omega
    have e_s17 : ((s : Int) == 17) = false := by rw [beq_eq_false_iff_ne]; omega
    have e_s17' : (s == 17) = false := by rw [beq_eq_false_iff_ne]; omega
    have e_s18 : ((s : Int) == 18) = false := by rw [beq_eq_false_iff_ne]; omega
    have e_s18' : (s == 18) = false := by rw [beq_eq_false_iff_ne]; omega
    clear h ht
    go_enter Tryd.func15, Tryd.ntmps15
    go_wp2
    go_ret
    exact ⟨by simp, (Below.refl _ _).alloc (Nat.le_refl _) _⟩
  · have ht : tms ⟨s, e⟩ = 3 + e := by unfold tms; simp only; split <;> first | omega | (split <;> first | omega | (split <;> first | omega | (split <;> omega)))
    rw [ht]
    have d_s16 : decide ((s : Int) < 16) = false := decide_eq_false (by omega)
    have d_s16' : decide (s < 16) = false := decide_eq_false (by omega)
    have e_s16 : ((s : Int) == 16) = true := by rw [beq_iff_eq]; omega
    have e_s16' : (s == 16) = true := by rw [beq_iff_eq]; omega
    have d_e4 : decide ((e : Int) < 4) = true := decide_eq_true (by omega)
    have d_e4' : decide (e < 4) = true := decide_eq_true (by omega)
    clear h ht
    go_enter Tryd.func15, Tryd.ntmps15
    go_wp2
    go_ret
    exact ⟨by simp, (Below.refl _ _).alloc (Nat.le_refl _) _⟩
  · have ht : tms ⟨s, e⟩ = 0 := by unfold tms; simp only; split <;> first | omega | (split <;> first | omega | (split <;> first | omega | (split <;> omega)))
    rw [ht]
    have d_s16 : decide ((s : Int) < 16) = false := decide_eq_false (by omega)
    have d_s16' : decide (s < 16) = false := decide_eq_false (by omega)
    have e_s16 : ((s : Int) == 16) = true := by rw [beq_iff_eq]; omega
    have e_s16' : (s == 16) = true := by rw [beq_iff_eq]; omega
    have d_e4 : decide ((e : Int) < 4) = false := decide_eq_false (by omega)
    have d_e4' : decide (e < 4) = false := decide_eq_false (by omega)
    have e_s17 : ((s : Int) == 17) = false := by rw [beq_eq_false_iff_ne]; omega
    have e_s17' : (s == 17) = false := by rw [beq_eq_false_iff_ne]; omega
    have e_s18 : ((s : Int) == 18) = false := by rw [beq_eq_false_iff_ne]; omega
    have e_s18' : (s == 18) = false := by rw [beq_eq_false_iff_ne]; omega
    clear h ht
    go_enter Tryd.func15, Tryd.ntmps15
    go_wp2
    go_ret
    exact ⟨by simp, (Below.refl _ _).alloc (Nat.le_refl _) _⟩
  · have ht : tms ⟨s, e⟩ = 3 + e := by unfold tms; simp only; split <;> first | omega | (split <;> first | omega | (split <;> first | omega | (split <;> omega)))
    rw [ht]
    have d_s16 : decide ((s : Int) < 16) = false := decide_eq_false (by omega)
    have d_s16' : decide (s < 16) = false := decide_eq_false (by omega)
    have e_s16 : ((s : Int) == 16) = false := by rw [beq_eq_false_iff_ne]; omega
    have e_s16' : (s == 16) = false := by rw [beq_eq_false_iff_ne]; omega
    have e_s17 : ((s : Int) == 17) = true := by rw [beq_iff_eq]; omega
    have e_s17' : (s == 17) = true := by rw [beq_iff_eq]; omega
    have d_e8 : decide ((e : Int) < 8) = true := decide_eq_true (by omega)
    have d_e8' : decide (e < 8) = true := decide_eq_true (by omega)
    clear h ht
    go_enter Tryd.func15, Tryd.ntmps15
    go_wp2
    go_ret
    exact ⟨by simp, (Below.refl _ _).alloc (Nat.le_refl _) _⟩
  · have ht : tms ⟨s, e⟩ = 0 := by unfold tms; simp only; split <;> first | omega | (split <;> first | omega | (split <;> first | omega | (split <;> omega)))
    rw [ht]
    have d_s16 : decide ((s : Int) < 16) = false := decide_eq_false (by omega)
    have d_s16' : decide (s < 16) = false := decide_eq_false (by omega)
    have e_s16 : ((s : Int) == 16) = false := by rw [beq_eq_false_iff_ne]; omega
    have e_s16' : (s == 16) = false := by rw [beq_eq_false_iff_ne]; omega
    have e_s17 : ((s : Int) == 17) = true := by rw [beq_iff_eq]; omega
    have e_s17' : (s == 17) = true := by rw [beq_iff_eq]; omega
    have d_e8 : decide ((e : Int) < 8) = false := decide_eq_false (by omega)
    have d_e8' : decide (e < 8) = false := decide_eq_false (by omega)
    have e_s18 : ((s : Int) == 18) = false := by rw [beq_eq_false_iff_ne]; omega
    have e_s18' : (s == 18) = false := by rw [beq_eq_false_iff_ne]; omega
    clear h ht
    go_enter Tryd.func15, Tryd.ntmps15
    go_wp2
    go_ret
    exact ⟨by simp, (Below.refl _ _).alloc (Nat.le_refl _) _⟩
  · have ht : tms ⟨s, e⟩ = 11 + e := by unfold tms; simp only; split <;> first | omega | (split <;> first | omega | (split <;> first | omega | (split <;> omega)))
    rw [ht]
    have d_s16 : decide ((s : Int) < 16) = false := decide_eq_false (by omega)
    have d_s16' : decide (s < 16) = false := decide_eq_false (by omega)
    have e_s16 : ((s : Int) == 16) = false := by rw [beq_eq_false_iff_ne]; omega
    have e_s16' : (s == 16) = false := by rw [beq_eq_false_iff_ne]; omega
    have e_s17 : ((s : Int) == 17) = false := by rw [beq_eq_false_iff_ne]; omega
    have e_s17' : (s == 17) = false := by rw [beq_eq_false_iff_ne]; omega
    have e_s18 : ((s : Int) == 18) = true := by rw [beq_iff_eq]; omega
    have e_s18' : (s == 18) = true := by rw [beq_iff_eq]; omega
    have d_e128 : decide ((e : Int) < 128) = true := decide_eq_true (by omega)
    have d_e128' : decide (e < 128) = true := decide_eq_true (by omega)
    clear h ht
    go_enter Tryd.func15, Tryd.ntmps15
    go_wp2
    go_ret
    exact ⟨by simp, (Below.refl _ _).alloc (Nat.le_refl _) _⟩
  · have ht : tms ⟨s, e⟩ = 0 := by unfold tms; simp only; split <;> first | omega | (split <;> first | omega | (split <;> first | omega | (split <;> omega)))
    rw [ht]
    have d_s16 : decide ((s : Int) < 16) = false := decide_eq_false (by omega)
    have d_s16' : decide (s < 16) = false := decide_eq_false (by omega)
    have e_s16 : ((s : Int) == 16) = false := by rw [beq_eq_false_iff_ne]; omega
    have e_s16' : (s == 16) = false := by rw [beq_eq_false_iff_ne]; omega
    have e_s17 : ((s : Int) == 17) = false := by rw [beq_eq_false_iff_ne]; omega
    have e_s17' : (s == 17) = false := by rw [beq_eq_false_iff_ne]; omega
    have e_s18 : ((s : Int) == 18) = true := by rw [beq_iff_eq]; omega
    have e_s18' : (s == 18) = true := by rw [beq_iff_eq]; omega
    have d_e128 : decide ((e : Int) < 128) = false := decide_eq_false (by omega)
    have d_e128' : decide (e < 128) = false := decide_eq_false (by omega)
    clear h ht
    go_enter Tryd.func15, Tryd.ntmps15
    go_wp2
    go_ret
    exact ⟨by simp, (Below.refl _ _).alloc (Nat.le_refl _) _⟩
  · have ht : tms ⟨s, e⟩ = 0 := by unfold tms; simp only; split <;> first | omega | (split <;> first | omega | (split <;> first | omega | (split <;> omega)))
    rw [ht]
    have d_s16 : decide ((s : Int) < 16) = false := decide_eq_false (by omega)
    have d_s16' : decide (s < 16) = false := decide_eq_false (by omega)
    have e_s16 : ((s : Int) == 16) = false := by rw [beq_eq_false_iff_ne]; omega
    have e_s16' : (s == 16) = false := by rw [beq_eq_false_iff_ne]; omega
    have e_s17 : ((s : Int) == 17) = false := by rw [beq_eq_false_iff_ne]; omega
    have e_s17' : (s == 17) = false := by rw [beq_eq_false_iff_ne]; omega
    have e_s18 : ((s : Int) == 18) = false := by rw [beq_eq_false_iff_ne]; omega
    have e_s18' : (s == 18) = false := by rw [beq_eq_false_iff_ne]; omega
    clear h ht
    go_enter Tryd.func15, Tryd.ntmps15
    go_wp2
    go_ret
    exact ⟨by simp, (Below.refl _ _).alloc (Nat.le_refl _) _⟩
end Go.Proofs.YtogbohompffcbaaDoor.U
