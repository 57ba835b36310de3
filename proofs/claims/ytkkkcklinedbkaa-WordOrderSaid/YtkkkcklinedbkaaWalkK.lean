/- The walk of WordOrder: it returns true for any arguments that their kinds hold. Conditions: none. -/
import Derived.Test.YtkkkcklinedbkaaWalkJ
import Derived.Test.YtkkkcklinedbkaaMathD
namespace Go.Proofs.Ytkkkcklinedbkaa
open Go.RowKit M
set_option linter.unusedVariables false

set_option maxHeartbeats 1000000 in
theorem order_zero (a2 a3 a4 a5 : Int) (N M K : Nat) (w : World) (h2 : 0 ≤ a2 ∧ a2 ≤ 255) (h3 : 0 ≤ a3 ∧ a3 ≤ 65535) (h4 : 0 ≤ a4 ∧ a4 ≤ 65535) (h5 : 0 ≤ a5 ∧ a5 ≤ 65535) (hN : N < big) (hM : M < big)
    (hK : a2 % 64 = K) (hK64 : K < 64) (k1 : bits .or .u64 (IntKind.u64.wrap ((mk K : Int) * 2)) 1 = (mk (K + 1) : Int)) (k2 : bits .andNot .u64 (mk K : Int) (mk (K + 1) : Int) = 0)
    (x z : Int) (hx : Hid (up (1 + a3) (1 + a4) = x)) (hx2 : Hid (up x (1 + a4) = x)) (hz : Hid (up (1 + a3) ((1 + a4) * (1 + a5)) = z)) (hz2 : Hid (up x ((1 + a4) * (1 + a5)) = z)) (hxz : x ≤ z) (hx0 : 1 ≤ x ∧ x ≤ 4611686018427387904) (hz0 : z ≤ 4611686018427387904)
    (hab : 1 ≤ (1 + a4) * (1 + a5) ∧ (1 + a4) * (1 + a5) ≤ 4294967296) (hn : N ≤ 0) (hle : N ≤ M) (hlg : lg N ≤ lg M) :
    Calls Try.prog 8 #[.int .u64 N, .int .u64 M, .int .u8 a2, .int .u16 a3, .int .u16 a4, .int .u16 a5] w fun e w' => e = .returned (.bool true) ∧ Below w.heap.size w w' := by
  go_enter Try.func8, Try.ntmps8
  go_wp2_with fail
  refine (mask_nat (K + 1) _ (by omega)).mono ?_; rintro e w' ⟨rfl, rfl⟩
  go_wp2_with fail
  refine (mask_nat K _ (by omega)).mono ?_; rintro e w' ⟨rfl, rfl⟩
  go_wp2_with fail
  refine (mask_nat K _ (by omega)).mono ?_; rintro e w' ⟨rfl, rfl⟩
  go_wp2_with fail
  refine (mask_nat (K + 1) _ (by omega)).mono ?_; rintro e w' ⟨rfl, rfl⟩
  go_wp2_with fail
  refine (log_any N _ (by omega) (by simpa using hN)).mono ?_; rintro e w' ⟨rfl, rfl⟩
  rw [Int.toNat_natCast]
  go_wp2_with fail
  refine (log_any M _ (by omega) (by simpa using hM)).mono ?_; rintro e w' ⟨rfl, rfl⟩
  rw [Int.toNat_natCast]
  go_wp2_with fail
  refine (up_any (1 + a3) (1 + a4) _ (by omega) (by omega)).mono ?_; rintro e w' ⟨rfl, rfl⟩
  rw [hx.out]
  go_wp2_with fail
  refine (up_any x (1 + a4) _ (by omega) (by omega)).mono ?_; rintro e w' ⟨rfl, rfl⟩
  rw [hx2.out]
  go_wp2_with fail
  refine (up_any (1 + a3) ((1 + a4) * (1 + a5)) _ (by omega) (by omega)).mono ?_; rintro e w' ⟨rfl, rfl⟩
  rw [hz.out]
  go_wp2_with fail
  refine (up_any (1 + a3) (1 + a4) _ (by omega) (by omega)).mono ?_; rintro e w' ⟨rfl, rfl⟩
  rw [hx.out]
  go_wp2_with fail
  refine (up_any x ((1 + a4) * (1 + a5)) _ (by omega) (by omega)).mono ?_; rintro e w' ⟨rfl, rfl⟩
  rw [hz2.out]
  go_wp2_with fail
  refine (up_any (1 + a3) ((1 + a4) * (1 + a5)) _ (by omega) (by omega)).mono ?_; rintro e w' ⟨rfl, rfl⟩
  rw [hz.out]
  go_wp2_with fail
  refine (alive_any _).mono ?_; rintro e W4 ⟨rfl, hb4⟩
  go_wp2_with fail
  go_ret
  exact ⟨rfl, hb4⟩

set_option maxHeartbeats 1000000 in
theorem order_le (a2 a3 a4 a5 : Int) (N M K : Nat) (w : World) (h2 : 0 ≤ a2 ∧ a2 ≤ 255) (h3 : 0 ≤ a3 ∧ a3 ≤ 65535) (h4 : 0 ≤ a4 ∧ a4 ≤ 65535) (h5 : 0 ≤ a5 ∧ a5 ≤ 65535) (hN : N < big) (hM : M < big)
    (hK : a2 % 64 = K) (hK64 : K < 64) (k1 : bits .or .u64 (IntKind.u64.wrap ((mk K : Int) * 2)) 1 = (mk (K + 1) : Int)) (k2 : bits .andNot .u64 (mk K : Int) (mk (K + 1) : Int) = 0)
    (x z : Int) (hx : Hid (up (1 + a3) (1 + a4) = x)) (hx2 : Hid (up x (1 + a4) = x)) (hz : Hid (up (1 + a3) ((1 + a4) * (1 + a5)) = z)) (hz2 : Hid (up x ((1 + a4) * (1 + a5)) = z)) (hxz : x ≤ z) (hx0 : 1 ≤ x ∧ x ≤ 4611686018427387904) (hz0 : z ≤ 4611686018427387904)
    (hab : 1 ≤ (1 + a4) * (1 + a5) ∧ (1 + a4) * (1 + a5) ≤ 4294967296) (G : Nat) (HG : Hid (lg N = (G : Int))) (hG : G < 64) (hG2 : bits .and .i64 (G : Int) 63 = (G : Int)) (hG3 : ((N : Int) / 2 ^ G != 1) = false) (hn : 0 < N) (hle : N ≤ M) (hlg : (G : Int) ≤ lg M) :
    Calls Try.prog 8 #[.int .u64 N, .int .u64 M, .int .u8 a2, .int .u16 a3, .int .u16 a4, .int .u16 a5] w fun e w' => e = .returned (.bool true) ∧ Below w.heap.size w w' := by
  go_enter Try.func8, Try.ntmps8
  go_wp2_with fail
  refine (mask_nat (K + 1) _ (by omega)).mono ?_; rintro e w' ⟨rfl, rfl⟩
  go_wp2_with fail
  refine (mask_nat K _ (by omega)).mono ?_; rintro e w' ⟨rfl, rfl⟩
  go_wp2_with fail
  refine (mask_nat K _ (by omega)).mono ?_; rintro e w' ⟨rfl, rfl⟩
  go_wp2_with fail
  refine (mask_nat (K + 1) _ (by omega)).mono ?_; rintro e w' ⟨rfl, rfl⟩
  go_wp2_with fail
  refine (log_any N _ (by omega) (by simpa using hN)).mono ?_; rintro e w' ⟨rfl, rfl⟩
  rw [Int.toNat_natCast, HG.out]
  go_wp2_with fail
  refine (log_any M _ (by omega) (by simpa using hM)).mono ?_; rintro e w' ⟨rfl, rfl⟩
  rw [Int.toNat_natCast]
  go_wp2_with fail
  refine (log_any N _ (by omega) (by simpa using hN)).mono ?_; rintro e w' ⟨rfl, rfl⟩
  rw [Int.toNat_natCast, HG.out]
  go_wp2_with fail
  refine (log_any N _ (by omega) (by simpa using hN)).mono ?_; rintro e w' ⟨rfl, rfl⟩
  rw [Int.toNat_natCast, HG.out]
  go_wp2_with fail
  refine (up_any (1 + a3) (1 + a4) _ (by omega) (by omega)).mono ?_; rintro e w' ⟨rfl, rfl⟩
  rw [hx.out]
  go_wp2_with fail
  refine (up_any x (1 + a4) _ (by omega) (by omega)).mono ?_; rintro e w' ⟨rfl, rfl⟩
  rw [hx2.out]
  go_wp2_with fail
  refine (up_any (1 + a3) ((1 + a4) * (1 + a5)) _ (by omega) (by omega)).mono ?_; rintro e w' ⟨rfl, rfl⟩
  rw [hz.out]
  go_wp2_with fail
  refine (up_any (1 + a3) (1 + a4) _ (by omega) (by omega)).mono ?_; rintro e w' ⟨rfl, rfl⟩
  rw [hx.out]
  go_wp2_with fail
  refine (up_any x ((1 + a4) * (1 + a5)) _ (by omega) (by omega)).mono ?_; rintro e w' ⟨rfl, rfl⟩
  rw [hz2.out]
  go_wp2_with fail
  refine (up_any (1 + a3) ((1 + a4) * (1 + a5)) _ (by omega) (by omega)).mono ?_; rintro e w' ⟨rfl, rfl⟩
  rw [hz.out]
  go_wp2_with fail
  refine (alive_any _).mono ?_; rintro e W4 ⟨rfl, hb4⟩
  go_wp2_with fail
  go_ret
  exact ⟨rfl, hb4⟩

set_option maxHeartbeats 1000000 in
theorem order_gt (a2 a3 a4 a5 : Int) (N M K : Nat) (w : World) (h2 : 0 ≤ a2 ∧ a2 ≤ 255) (h3 : 0 ≤ a3 ∧ a3 ≤ 65535) (h4 : 0 ≤ a4 ∧ a4 ≤ 65535) (h5 : 0 ≤ a5 ∧ a5 ≤ 65535) (hN : N < big) (hM : M < big)
    (hK : a2 % 64 = K) (hK64 : K < 64) (k1 : bits .or .u64 (IntKind.u64.wrap ((mk K : Int) * 2)) 1 = (mk (K + 1) : Int)) (k2 : bits .andNot .u64 (mk K : Int) (mk (K + 1) : Int) = 0)
    (x z : Int) (hx : Hid (up (1 + a3) (1 + a4) = x)) (hx2 : Hid (up x (1 + a4) = x)) (hz : Hid (up (1 + a3) ((1 + a4) * (1 + a5)) = z)) (hz2 : Hid (up x ((1 + a4) * (1 + a5)) = z)) (hxz : x ≤ z) (hx0 : 1 ≤ x ∧ x ≤ 4611686018427387904) (hz0 : z ≤ 4611686018427387904)
    (hab : 1 ≤ (1 + a4) * (1 + a5) ∧ (1 + a4) * (1 + a5) ≤ 4294967296) (G : Nat) (HG : Hid (lg N = (G : Int))) (hG : G < 64) (hG2 : bits .and .i64 (G : Int) 63 = (G : Int)) (hG3 : ((N : Int) / 2 ^ G != 1) = false) (hn : 0 < N) (hle : M < N) :
    Calls Try.prog 8 #[.int .u64 N, .int .u64 M, .int .u8 a2, .int .u16 a3, .int .u16 a4, .int .u16 a5] w fun e w' => e = .returned (.bool true) ∧ Below w.heap.size w w' := by
  go_enter Try.func8, Try.ntmps8
  go_wp2_with fail
  refine (mask_nat (K + 1) _ (by omega)).mono ?_; rintro e w' ⟨rfl, rfl⟩
  go_wp2_with fail
  refine (mask_nat K _ (by omega)).mono ?_; rintro e w' ⟨rfl, rfl⟩
  go_wp2_with fail
  refine (mask_nat K _ (by omega)).mono ?_; rintro e w' ⟨rfl, rfl⟩
  go_wp2_with fail
  refine (mask_nat (K + 1) _ (by omega)).mono ?_; rintro e w' ⟨rfl, rfl⟩
  go_wp2_with fail
  refine (log_any N _ (by omega) (by simpa using hN)).mono ?_; rintro e w' ⟨rfl, rfl⟩
  rw [Int.toNat_natCast, HG.out]
  go_wp2_with fail
  refine (log_any N _ (by omega) (by simpa using hN)).mono ?_; rintro e w' ⟨rfl, rfl⟩
  rw [Int.toNat_natCast, HG.out]
  go_wp2_with fail
  refine (up_any (1 + a3) (1 + a4) _ (by omega) (by omega)).mono ?_; rintro e w' ⟨rfl, rfl⟩
  rw [hx.out]
  go_wp2_with fail
  refine (up_any x (1 + a4) _ (by omega) (by omega)).mono ?_; rintro e w' ⟨rfl, rfl⟩
  rw [hx2.out]
  go_wp2_with fail
  refine (up_any (1 + a3) ((1 + a4) * (1 + a5)) _ (by omega) (by omega)).mono ?_; rintro e w' ⟨rfl, rfl⟩
  rw [hz.out]
  go_wp2_with fail
  refine (up_any (1 + a3) (1 + a4) _ (by omega) (by omega)).mono ?_; rintro e w' ⟨rfl, rfl⟩
  rw [hx.out]
  go_wp2_with fail
  refine (up_any x ((1 + a4) * (1 + a5)) _ (by omega) (by omega)).mono ?_; rintro e w' ⟨rfl, rfl⟩
  rw [hz2.out]
  go_wp2_with fail
  refine (up_any (1 + a3) ((1 + a4) * (1 + a5)) _ (by omega) (by omega)).mono ?_; rintro e w' ⟨rfl, rfl⟩
  rw [hz.out]
  go_wp2_with fail
  refine (alive_any _).mono ?_; rintro e W4 ⟨rfl, hb4⟩
  go_wp2_with fail
  go_ret
  exact ⟨rfl, hb4⟩

theorem WordOrder_walk (a0 a1 a2 a3 a4 a5 : Int) (w : World) (w0 : (Lit.int .u64 a0).wf = true) (w1 : (Lit.int .u64 a1).wf = true) (w2 : (Lit.int .u8 a2).wf = true) (w3 : (Lit.int .u16 a3).wf = true) (w4 : (Lit.int .u16 a4).wf = true) (w5 : (Lit.int .u16 a5).wf = true) :
    Calls Try.prog 8 #[.int .u64 a0, .int .u64 a1, .int .u8 a2, .int .u16 a3, .int .u16 a4, .int .u16 a5] w fun e w' => e = .returned (.bool true) ∧ Below w.heap.size w w' := by
  have hn := u64_bounds w0
  have hm := u64_bounds w1
  have h2 := u8_bounds w2
  have h3 := u16_bounds w3
  have h4 := u16_bounds w4
  have h5 := u16_bounds w5
  clear w0 w1 w2 w3 w4 w5
  obtain ⟨N, rfl⟩ := Int.eq_ofNat_of_zero_le hn.1
  obtain ⟨M, rfl⟩ := Int.eq_ofNat_of_zero_le hm.1
  have hN := hn.2
  have hM := hm.2
  rw [Int.toNat_natCast] at hN hM
  clear hn hm
  obtain ⟨K, hK⟩ : ∃ K : Nat, a2 % 64 = K := ⟨(a2 % 64).toNat, by omega⟩
  have hK64 : K < 64 := by omega
  have g := up_again (1 + a3) (1 + a4) (1 + a5) (by omega) (by omega) (by omega)
  have r1 := up_range (1 + a3) (1 + a4)
  have r2 := up_range (1 + a3) ((1 + a4) * (1 + a5))
  have hab1 : 1 * 1 ≤ (1 + a4) * (1 + a5) := Int.mul_le_mul (by omega) (by omega) (by omega) (by omega)
  have hab2 : (1 + a4) * (1 + a5) ≤ 65536 * 65536 := Int.mul_le_mul (by omega) (by omega) (by omega) (by omega)
  by_cases hz : N = 0
  · exact order_zero a2 a3 a4 a5 N M K w h2 h3 h4 h5 hN hM hK hK64 (mask_grow K hK64) (mask_less K hK64) _ _ rfl g.1 rfl g.2.2.1 g.2.1 ⟨g.2.2.2, r1.2⟩ r2.2 ⟨by omega, by omega⟩ (by omega) (by omega) (lg_mono N M (by omega))
  · have e : ((N : Int) / 2 ^ N.log2) = ((N / 2 ^ N.log2 : Nat) : Int) := by simp
    have hG : N.log2 < 64 := log_lt hz (by rw [← big_eq]; exact hN)
    have hG3 : ((N : Int) / 2 ^ N.log2 != 1) = false := by rw [e, log_div hz]; rfl
    by_cases hle : N ≤ M
    · have hl := lg_mono N M hle
      rw [lg_nat N hz] at hl
      exact order_le a2 a3 a4 a5 N M K w h2 h3 h4 h5 hN hM hK hK64 (mask_grow K hK64) (mask_less K hK64) _ _ rfl g.1 rfl g.2.2.1 g.2.1 ⟨g.2.2.2, r1.2⟩ r2.2 ⟨by omega, by omega⟩ N.log2 (lg_nat N hz) hG (and63 _ hG) hG3 (by omega) hle hl
    · exact order_gt a2 a3 a4 a5 N M K w h2 h3 h4 h5 hN hM hK hK64 (mask_grow K hK64) (mask_less K hK64) _ _ rfl g.1 rfl g.2.2.1 g.2.1 ⟨g.2.2.2, r1.2⟩ r2.2 ⟨by omega, by omega⟩ N.log2 (lg_nat N hz) hG (and63 _ hG) hG3 (by omega) (by omega)

end Go.Proofs.Ytkkkcklinedbkaa
