/- What the document's Needs of layer 6 answers. Conditions: as each theorem names them. -/
import Derived.Test.YteicamfelamfhaaPkF
namespace Go.Proofs.Yteicamfelamfhaa
open Go.RowKit M
set_option linter.unusedVariables false

theorem nds_at {n k : Nat} (h1 : 1 ≤ k) (h2 : n ≤ 2 ^ k) (h3 : 1 ≤ n) (h4 : k = 1 ∨ 2 ^ (k - 1) < n) : nds n = k := by
  have a := (nds_le h1).2 h2
  have b : 1 ≤ nds n := by unfold nds; rw [if_neg (by omega)]; exact Nat.le_max_left _ _
  by_cases q : k = 1
  · omega
  · have d := mt (nds_le (n := n) (k := k - 1) (by omega)).1 (by omega)
    omega
set_option maxHeartbeats 1000000 in
theorem rneeds_any (n : Int) (w : World) (h0 : -9223372036854775808 ≤ n) (h1 : n ≤ 1099511627776) : Calls Try.prog 13 #[.int .i64 n] w fun e w' => e = .returned (.int .i64 (nds n.toNat)) ∧ w = w' := by
  by_cases h : n < 1
  · have hv := Lib.hid (nds_zero h)
    go_enter Try.func13, Try.ntmps13
    go_wp2_with fail
    go_ret
    exact ⟨by rw [hv.out]; rfl, rfl⟩
  · go_enter Try.func13, Try.ntmps13
    go_wp2_with fail
    go_loop [3, 4] (fun q r => ∃ k x : Nat, q = .int .i64 k ∧ r = .int .i64 x ∧ 1 ≤ k ∧ k ≤ 41 ∧ x ≤ 2199023255552 ∧ Hid (x = 2 ^ k ∧ (k = 1 ∨ 2 ^ (k - 1) < n.toNat))) (fun q _ => 41 - (intOf q).toNat)
    case atStart => exact ⟨1, 2, rfl, rfl, by omega, by omega, by omega, Lib.hid ⟨rfl, .inl rfl⟩⟩
    case round =>
      obtain ⟨k, x, rfl, rfl, k1, k2, x2, HX⟩ := hrel
      by_cases hlt : (x : Int) < n
      · have hk : k < 40 := by
          have e := HX.out.1
          have g : (2 : Nat) ^ 40 = 1099511627776 := rfl
          have : 2 ^ k < 2 ^ 40 := by rw [← e]; omega
          exact (Nat.pow_lt_pow_iff_right (by decide)).1 this
        go_wp2_with fail
        go_round
        case rel => exact ⟨k + 1, 2 * x, by go_num, by go_num, by omega, by omega, by omega, Lib.hid ⟨by rw [HX.out.1, Nat.pow_succ]; omega, .inr (by rw [Nat.add_sub_cancel, ← HX.out.1]; omega)⟩⟩
        case measure => simp [intOf]; omega
      · have HV := Lib.hid (nds_at (n := n.toNat) k1 (by rw [← HX.out.1]; omega) (by omega) HX.out.2)
        go_wp2_with fail
        go_ret
        exact ⟨by rw [HV.out]; rfl, rfl⟩
end Go.Proofs.Yteicamfelamfhaa
