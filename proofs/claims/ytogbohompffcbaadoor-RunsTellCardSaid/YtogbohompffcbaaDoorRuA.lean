/- The document's Bits (layer 12). Conditions: as each theorem names them. -/
import Derived.Test.YtogbohompffcbaaDoorRns
namespace Go.Proofs.YtogbohompffcbaaDoor.U
open Go Go.RowKit M
set_option linter.unusedVariables false
set_option linter.unusedSimpArgs false

theorem rbits_any (s : Nat) (w : World) (hs : s ≤ 255) : Calls Tryd.prog 16 #[.int .u8 s] w fun x w' => x = .returned (.int .i64 (rbs s)) ∧ w = w' := by
  have hc : s < 16 ∨ s = 16 ∨ s = 17 ∨ s = 18 ∨ 18 < s := by omega
  rcases hc with h | h | h | h | h
  · have ht : rbs s = 0 := by unfold rbs; split <;> first | omega | (split <;> first | omega | (split <;> first | omega | (split <;> omega)))
    rw [ht]
    have d_s16 : decide ((s : Int) < 16) = true := decide_eq_true (by omega)
    have d_s16' : decide (s < 16) = true := decide_eq_true (by omega)
    clear h ht
    go_enter Tryd.func16, Tryd.ntmps16
    go_wp2
    go_ret
    exact ⟨rfl, rfl⟩
  · have ht : rbs s = 2 := by unfold rbs; split <;> first | omega | (split <;> first | omega | (split <;> first | omega | (split <;> omega)))
    rw [ht]
    have d_s16 : decide ((s : Int) < 16) = false := decide_eq_false (by omega)
    have d_s16' : decide (s < 16) = false := decide_eq_false (by omega)
    have e_s16 : ((s : Int) == 16) = true := by rw [beq_iff_eq]; omega
    have e_s16' : (s == 16) = true := by rw [beq_iff_eq]; omega
    clear h ht
    go_enter Tryd.func16, Tryd.ntmps16
    go_wp2
    go_ret
    exact ⟨rfl, rfl⟩
  · have ht : rbs s = 3 := by unfold rbs; split <;> first | omega | (split <;> first | omega | (split <;> first | omega | (split <;> omega)))
    rw [ht]
    have d_s16 : decide ((s : Int) < 16) = false := decide_eq_false (by omega)
    have d_s16' : decide (s < 16) = false := decide_eq_false (by omega)
    have e_s16 : ((s : Int) == 16) = false := by rw [beq_eq_false_iff_ne]; omega
    have e_s16' : (s == 16) = false := by rw [beq_eq_false_iff_ne]; omega
    have e_s17 : ((s : Int) == 17) = true := by rw [beq_iff_eq]; omega
    have e_s17' : (s == 17) = true := by rw [beq_iff_eq]; omega
    clear h ht
    go_enter Tryd.func16, Tryd.ntmps16
    go_wp2
    go_ret
    exact ⟨rfl, rfl⟩
  · have ht : rbs s = 7 := by unfold rbs; split <;> first | omega | (split <;> first | omega | (split <;> first | omega | (split <;> omega)))
    rw [ht]
    have d_s16 : decide ((s : Int) < 16) = false := decide_eq_false (by omega)
    have d_s16' : decide (s < 16) = false := decide_eq_false (by omega)
    have e_s16 : ((s : Int) == 16) = false := by rw [beq_eq_false_iff_ne]; omega
    have e_s16' : (s == 16) = false := by rw [beq_eq_false_iff_ne]; omega
    have e_s17 : ((s : Int) == 17) = false := by rw [beq_eq_false_iff_ne]; omega
    have e_s17' : (s == 17) = false := by rw [beq_eq_false_iff_ne]; omega
    have e_s18 : ((s : Int) == 18) = true := by rw [beq_iff_eq]; omega
    have e_s18' : (s == 18) = true := by rw [beq_iff_eq]; omega
    clear h ht
    go_enter Tryd.func16, Tryd.ntmps16
    go_wp2
    go_ret
    exact ⟨rfl, rfl⟩
  · have ht : rbs s = -1 := by unfold rbs; split <;> first | omega | (split <;> first | omega | (split <;> first | omega | (split <;> omega)))
    rw [ht]
    have d_s16 : decide ((s : Int) < 16) = false := decide_eq_false (by omega)
    have d_s16' : decide (s < 16) = false := decide_eq_false (by omega)
    have e_s16 : ((s : Int) == 16) = false := by rw [beq_eq_false_iff_ne]; omega
    have e_s16' : (s == 16) = false := by rw [beq_eq_false_iff_ne]; omega
    have e_s17 : ((s : Int) == 17) = false := by rw [beq_eq_false_iff_ne]; omega
    have e_s17' : (s == 17) = false := by rw [beq_eq_false_iff_ne]; omega
    have e_s18 : ((s : Int) == 18) = false := by rw [beq_eq_false_iff_ne]; omega
    have e_s18' : (s == 18) = false := by rw [beq_eq_false_iff_ne]; omega
    clear h ht
    go_enter Tryd.func16, Tryd.ntmps16
    go_wp2
    go_ret
    exact ⟨rfl, rfl⟩
end Go.Proofs.YtogbohompffcbaaDoor.U
