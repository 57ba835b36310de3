/- The walk of WordBack: it returns true for any arguments that their kinds hold. Conditions: none. -/
import Derived.Test.YtkkkcklinedbkaaWalkJ
import Derived.Test.YtkkkcklinedbkaaMathE
namespace Go.Proofs.Ytkkkcklinedbkaa
open Go.RowKit M
set_option linter.unusedVariables false

set_option maxHeartbeats 1000000 in
theorem back_same_short (a2 : Int) (a3 a4 : ByteArray) (N M K C X : Nat) (w : World) (h2 : 0 ≤ a2 ∧ a2 ≤ 255) (h3 : a3.size ≤ 4096) (h4 : a4.size ≤ 4096)
    (hK : 1 + a2 % 8 = K) (hK1 : 1 ≤ K ∧ K ≤ 8) (hC : 8 * (K : Int) = C) (hC1 : C ≤ 64) (ha1 : bits .and .u64 (N : Int) (mk C : Int) = (X : Int)) (ha2 : bits .and .u64 (M : Int) (mk C : Int) = (X : Int)) (hX : X < 256 ^ K)
    (z : ByteArray) (hz : Hid (bstr (le X K) = z)) (hzs : z.size = K) (hg : Hid (vl (((a3 ++ z ++ a4).data.toList.drop a3.size).take K) = X)) (hlen : a4.size < K) :
    Calls Try.prog 5 #[.int .u64 N, .int .u64 M, .int .u8 a2, .string a3, .string a4] w fun e w' => e = .returned (.bool true) ∧ Below w.heap.size w w' := by
  have hzs' : z.size ≤ 8 := by omega
  have hsz : (a3 ++ z ++ a4).size = a3.size + z.size + a4.size := by rw [ByteArray.size_append, ByteArray.size_append]
  have hmx : (a3 ++ z ++ a4).size ≤ maxLen := by unfold maxLen; omega
  have hmx4 : a4.size ≤ maxLen := by unfold maxLen; omega
  have hfit : a3.size + K ≤ (a3 ++ z ++ a4).size := by omega
  clear hsz
  go_enter Try.func5, Try.ntmps5
  go_wp2_with fail
  refine (mask_nat C _ hC1).mono ?_; rintro e w' ⟨rfl, rfl⟩
  go_wp2_with fail
  refine (mask_nat C _ hC1).mono ?_; rintro e w' ⟨rfl, rfl⟩
  go_wp2_with fail
  refine (put_yes X K _ (by omega) (by omega) hX).mono ?_; rintro e W1 ⟨rfl, hb1⟩
  rw [hz.out]
  go_wp2_with fail
  refine (put_yes X K _ (by omega) (by omega) hX).mono ?_; rintro e W2 ⟨rfl, hb2⟩
  rw [hz.out]
  go_wp2_with fail
  refine (get_yes (a3 ++ z ++ a4) a3.size K _ hmx hK1.1 hK1.2 hfit).mono ?_; rintro e w' ⟨rfl, rfl⟩
  rw [hg.out]
  go_wp2_with fail
  refine (get_no a4 0 K _ hmx4 (by omega)).mono ?_; rintro e w' ⟨rfl, rfl⟩
  go_wp2_with fail
  refine (alive_any _).mono ?_; rintro e W4 ⟨rfl, hb4⟩
  go_wp2_with fail
  go_ret
  exact ⟨rfl, (hb1.trans (hb2.mono hb1.size)).trans (hb4.mono (Nat.le_trans hb1.size hb2.size))⟩

set_option maxHeartbeats 1000000 in
theorem back_same_long (a2 : Int) (a3 a4 : ByteArray) (N M K C X : Nat) (w : World) (h2 : 0 ≤ a2 ∧ a2 ≤ 255) (h3 : a3.size ≤ 4096) (h4 : a4.size ≤ 4096)
    (hK : 1 + a2 % 8 = K) (hK1 : 1 ≤ K ∧ K ≤ 8) (hC : 8 * (K : Int) = C) (hC1 : C ≤ 64) (ha1 : bits .and .u64 (N : Int) (mk C : Int) = (X : Int)) (ha2 : bits .and .u64 (M : Int) (mk C : Int) = (X : Int)) (hX : X < 256 ^ K)
    (z : ByteArray) (hz : Hid (bstr (le X K) = z)) (hzs : z.size = K) (hg : Hid (vl (((a3 ++ z ++ a4).data.toList.drop a3.size).take K) = X)) (hlen : K ≤ a4.size) :
    Calls Try.prog 5 #[.int .u64 N, .int .u64 M, .int .u8 a2, .string a3, .string a4] w fun e w' => e = .returned (.bool true) ∧ Below w.heap.size w w' := by
  have hzs' : z.size ≤ 8 := by omega
  have hsz : (a3 ++ z ++ a4).size = a3.size + z.size + a4.size := by rw [ByteArray.size_append, ByteArray.size_append]
  have hmx : (a3 ++ z ++ a4).size ≤ maxLen := by unfold maxLen; omega
  have hmx4 : a4.size ≤ maxLen := by unfold maxLen; omega
  have hfit : a3.size + K ≤ (a3 ++ z ++ a4).size := by omega
  clear hsz
  go_enter Try.func5, Try.ntmps5
  go_wp2_with fail
  refine (mask_nat C _ hC1).mono ?_; rintro e w' ⟨rfl, rfl⟩
  go_wp2_with fail
  refine (mask_nat C _ hC1).mono ?_; rintro e w' ⟨rfl, rfl⟩
  go_wp2_with fail
  refine (put_yes X K _ (by omega) (by omega) hX).mono ?_; rintro e W1 ⟨rfl, hb1⟩
  rw [hz.out]
  go_wp2_with fail
  refine (put_yes X K _ (by omega) (by omega) hX).mono ?_; rintro e W2 ⟨rfl, hb2⟩
  rw [hz.out]
  go_wp2_with fail
  refine (get_yes (a3 ++ z ++ a4) a3.size K _ hmx hK1.1 hK1.2 hfit).mono ?_; rintro e w' ⟨rfl, rfl⟩
  rw [hg.out]
  go_wp2_with fail
  refine (get_yes a4 0 K _ hmx4 hK1.1 hK1.2 (by omega)).mono ?_; rintro e w' ⟨rfl, rfl⟩
  obtain ⟨y, hy⟩ : ∃ y, y = vl ((a4.data.toList.drop 0).take K) := ⟨_, rfl⟩
  rw [← hy]
  have hyl : y < 256 ^ K := by rw [hy, List.drop_zero]; exact vl_take_lt a4 K hlen
  have hput : Hid (bstr (le y K) = a4.extract 0 K) := by rw [hy, List.drop_zero, put_take a4 K hlen]; exact take_extract a4 K
  clear hy
  go_wp2_with fail
  refine (put_yes y K _ (by omega) (by omega) hyl).mono ?_; rintro e W3 ⟨rfl, hb3⟩
  rw [hput.out]
  go_wp2_with fail
  refine (alive_any _).mono ?_; rintro e W4 ⟨rfl, hb4⟩
  go_wp2_with fail
  go_ret
  exact ⟨rfl, ((hb1.trans (hb2.mono hb1.size)).trans (hb3.mono (Nat.le_trans hb1.size hb2.size))).trans (hb4.mono (Nat.le_trans (Nat.le_trans hb1.size hb2.size) hb3.size))⟩

set_option maxHeartbeats 1000000 in
theorem back_other_short (a2 : Int) (a3 a4 : ByteArray) (N M K C X Y : Nat) (w : World) (h2 : 0 ≤ a2 ∧ a2 ≤ 255) (h3 : a3.size ≤ 4096) (h4 : a4.size ≤ 4096)
    (hK : 1 + a2 % 8 = K) (hK1 : 1 ≤ K ∧ K ≤ 8) (hC : 8 * (K : Int) = C) (hC1 : C ≤ 64) (ha1 : bits .and .u64 (N : Int) (mk C : Int) = (X : Int)) (ha2 : bits .and .u64 (M : Int) (mk C : Int) = (Y : Int)) (hX : X < 256 ^ K) (hY : Y < 256 ^ K)
    (z z2 : ByteArray) (hz : Hid (bstr (le X K) = z)) (hz2 : Hid (bstr (le Y K) = z2)) (hne : ((X : Int) == (Y : Int)) = false) (hzne : (z.toList == z2.toList) = false) (hzs : z.size = K) (hg : Hid (vl (((a3 ++ z ++ a4).data.toList.drop a3.size).take K) = X)) (hlen : a4.size < K) :
    Calls Try.prog 5 #[.int .u64 N, .int .u64 M, .int .u8 a2, .string a3, .string a4] w fun e w' => e = .returned (.bool true) ∧ Below w.heap.size w w' := by
  have hzs' : z.size ≤ 8 := by omega
  have hsz : (a3 ++ z ++ a4).size = a3.size + z.size + a4.size := by rw [ByteArray.size_append, ByteArray.size_append]
  have hmx : (a3 ++ z ++ a4).size ≤ maxLen := by unfold maxLen; omega
  have hmx4 : a4.size ≤ maxLen := by unfold maxLen; omega
  have hfit : a3.size + K ≤ (a3 ++ z ++ a4).size := by omega
  clear hsz
  go_enter Try.func5, Try.ntmps5
  go_wp2_with fail
  refine (mask_nat C _ hC1).mono ?_; rintro e w' ⟨rfl, rfl⟩
  go_wp2_with fail
  refine (mask_nat C _ hC1).mono ?_; rintro e w' ⟨rfl, rfl⟩
  go_wp2_with fail
  refine (put_yes X K _ (by omega) (by omega) hX).mono ?_; rintro e W1 ⟨rfl, hb1⟩
  rw [hz.out]
  go_wp2_with fail
  refine (put_yes Y K _ (by omega) (by omega) hY).mono ?_; rintro e W2 ⟨rfl, hb2⟩
  rw [hz2.out]
  go_wp2_with fail
  refine (get_yes (a3 ++ z ++ a4) a3.size K _ hmx hK1.1 hK1.2 hfit).mono ?_; rintro e w' ⟨rfl, rfl⟩
  rw [hg.out]
  go_wp2_with fail
  refine (get_no a4 0 K _ hmx4 (by omega)).mono ?_; rintro e w' ⟨rfl, rfl⟩
  go_wp2_with fail
  refine (alive_any _).mono ?_; rintro e W4 ⟨rfl, hb4⟩
  go_wp2_with fail
  go_ret
  exact ⟨rfl, (hb1.trans (hb2.mono hb1.size)).trans (hb4.mono (Nat.le_trans hb1.size hb2.size))⟩

set_option maxHeartbeats 1000000 in
theorem back_other_long (a2 : Int) (a3 a4 : ByteArray) (N M K C X Y : Nat) (w : World) (h2 : 0 ≤ a2 ∧ a2 ≤ 255) (h3 : a3.size ≤ 4096) (h4 : a4.size ≤ 4096)
    (hK : 1 + a2 % 8 = K) (hK1 : 1 ≤ K ∧ K ≤ 8) (hC : 8 * (K : Int) = C) (hC1 : C ≤ 64) (ha1 : bits .and .u64 (N : Int) (mk C : Int) = (X : Int)) (ha2 : bits .and .u64 (M : Int) (mk C : Int) = (Y : Int)) (hX : X < 256 ^ K) (hY : Y < 256 ^ K)
    (z z2 : ByteArray) (hz : Hid (bstr (le X K) = z)) (hz2 : Hid (bstr (le Y K) = z2)) (hne : ((X : Int) == (Y : Int)) = false) (hzne : (z.toList == z2.toList) = false) (hzs : z.size = K) (hg : Hid (vl (((a3 ++ z ++ a4).data.toList.drop a3.size).take K) = X)) (hlen : K ≤ a4.size) :
    Calls Try.prog 5 #[.int .u64 N, .int .u64 M, .int .u8 a2, .string a3, .string a4] w fun e w' => e = .returned (.bool true) ∧ Below w.heap.size w w' := by
  have hzs' : z.size ≤ 8 := by omega
  have hsz : (a3 ++ z ++ a4).size = a3.size + z.size + a4.size := by rw [ByteArray.size_append, ByteArray.size_append]
  have hmx : (a3 ++ z ++ a4).size ≤ maxLen := by unfold maxLen; omega
  have hmx4 : a4.size ≤ maxLen := by unfold maxLen; omega
  have hfit : a3.size + K ≤ (a3 ++ z ++ a4).size := by omega
  clear hsz
  go_enter Try.func5, Try.ntmps5
  go_wp2_with fail
  refine (mask_nat C _ hC1).mono ?_; rintro e w' ⟨rfl, rfl⟩
  go_wp2_with fail
  refine (mask_nat C _ hC1).mono ?_; rintro e w' ⟨rfl, rfl⟩
  go_wp2_with fail
  refine (put_yes X K _ (by omega) (by omega) hX).mono ?_; rintro e W1 ⟨rfl, hb1⟩
  rw [hz.out]
  go_wp2_with fail
  refine (put_yes Y K _ (by omega) (by omega) hY).mono ?_; rintro e W2 ⟨rfl, hb2⟩
  rw [hz2.out]
  go_wp2_with fail
  refine (get_yes (a3 ++ z ++ a4) a3.size K _ hmx hK1.1 hK1.2 hfit).mono ?_; rintro e w' ⟨rfl, rfl⟩
  rw [hg.out]
  go_wp2_with fail
  refine (get_yes a4 0 K _ hmx4 hK1.1 hK1.2 (by omega)).mono ?_; rintro e w' ⟨rfl, rfl⟩
  obtain ⟨y, hy⟩ : ∃ y, y = vl ((a4.data.toList.drop 0).take K) := ⟨_, rfl⟩
  rw [← hy]
  have hyl : y < 256 ^ K := by rw [hy, List.drop_zero]; exact vl_take_lt a4 K hlen
  have hput : Hid (bstr (le y K) = a4.extract 0 K) := by rw [hy, List.drop_zero, put_take a4 K hlen]; exact take_extract a4 K
  clear hy
  go_wp2_with fail
  refine (put_yes y K _ (by omega) (by omega) hyl).mono ?_; rintro e W3 ⟨rfl, hb3⟩
  rw [hput.out]
  go_wp2_with fail
  refine (alive_any _).mono ?_; rintro e W4 ⟨rfl, hb4⟩
  go_wp2_with fail
  go_ret
  exact ⟨rfl, ((hb1.trans (hb2.mono hb1.size)).trans (hb3.mono (Nat.le_trans hb1.size hb2.size))).trans (hb4.mono (Nat.le_trans (Nat.le_trans hb1.size hb2.size) hb3.size))⟩

theorem toList_inj {a b : ByteArray} (h : a.toList = b.toList) : a = b := by
  rw [ByteArray.toList_eq, ByteArray.toList_eq] at h
  exact ByteArray.ext (Array.toList_inj.1 h)

theorem back_far1 (a0 a1 a2 : Int) (a3 a4 : ByteArray) (w : World) (h : 4096 < a3.size) :
    Calls Try.prog 5 #[.int .u64 a0, .int .u64 a1, .int .u8 a2, .string a3, .string a4] w fun e w' => e = .returned (.bool true) ∧ Below w.heap.size w w' := by
  go_enter Try.func5, Try.ntmps5
  go_wp2_with fail
  refine (alive_any _).mono ?_; rintro e W4 ⟨rfl, hb4⟩
  go_wp2_with fail
  go_ret
  exact ⟨rfl, hb4⟩
theorem back_far2 (a0 a1 a2 : Int) (a3 a4 : ByteArray) (w : World) (h3 : a3.size ≤ 4096) (h : 4096 < a4.size) :
    Calls Try.prog 5 #[.int .u64 a0, .int .u64 a1, .int .u8 a2, .string a3, .string a4] w fun e w' => e = .returned (.bool true) ∧ Below w.heap.size w w' := by
  go_enter Try.func5, Try.ntmps5
  go_wp2_with fail
  refine (alive_any _).mono ?_; rintro e W4 ⟨rfl, hb4⟩
  go_wp2_with fail
  go_ret
  exact ⟨rfl, hb4⟩

theorem WordBack_walk (a0 a1 a2 : Int) (a3 a4 : ByteArray) (w : World) (w0 : (Lit.int .u64 a0).wf = true) (w1 : (Lit.int .u64 a1).wf = true) (w2 : (Lit.int .u8 a2).wf = true) (w3 : a3.size ≤ maxLen) (w4 : a4.size ≤ maxLen) :
    Calls Try.prog 5 #[.int .u64 a0, .int .u64 a1, .int .u8 a2, .string a3, .string a4] w fun e w' => e = .returned (.bool true) ∧ Below w.heap.size w w' := by
  by_cases g3 : 4096 < a3.size
  · exact back_far1 a0 a1 a2 a3 a4 w g3
  by_cases g4 : 4096 < a4.size
  · exact back_far2 a0 a1 a2 a3 a4 w (by omega) g4
  have hn := u64_bounds w0
  have hm := u64_bounds w1
  have h2 := u8_bounds w2
  obtain ⟨N, rfl⟩ := Int.eq_ofNat_of_zero_le hn.1
  obtain ⟨M, rfl⟩ := Int.eq_ofNat_of_zero_le hm.1
  have hN := hn.2
  have hM := hm.2
  rw [Int.toNat_natCast] at hN hM
  obtain ⟨K, hK⟩ : ∃ K : Nat, 1 + a2 % 8 = K := ⟨(1 + a2 % 8).toNat, by omega⟩
  have hK1 : 1 ≤ K ∧ K ≤ 8 := by omega
  have hC : 8 * (K : Int) = ((8 * K : Nat) : Int) := by omega
  have ha1 := and_mask N (8 * K) hN (by omega)
  have ha2 := and_mask M (8 * K) hM (by omega)
  obtain ⟨X, hX⟩ : ∃ X, X = N % 2 ^ (8 * K) := ⟨_, rfl⟩
  obtain ⟨Y, hY⟩ : ∃ Y, Y = M % 2 ^ (8 * K) := ⟨_, rfl⟩
  rw [← hX] at ha1
  rw [← hY] at ha2
  have hXs : X < 256 ^ K := by rw [hX, ← pow256]; exact Nat.mod_lt _ (Nat.pow_pos (by decide))
  have hYs : Y < 256 ^ K := by rw [hY, ← pow256]; exact Nat.mod_lt _ (Nat.pow_pos (by decide))
  have hg := got_between a3 a4 X K hXs
  have hs := bstr_le_size X K
  by_cases e : X = Y
  · rw [← e] at ha2
    by_cases hl : K ≤ a4.size
    · exact back_same_long a2 a3 a4 N M K (8 * K) X w h2 (by omega) (by omega) hK hK1 hC (by omega) ha1 ha2 hXs _ rfl hs hg hl
    · exact back_same_short a2 a3 a4 N M K (8 * K) X w h2 (by omega) (by omega) hK hK1 hC (by omega) ha1 ha2 hXs _ rfl hs hg (by omega)
  · have hne : ((X : Int) == (Y : Int)) = false := by rw [beq_eq_false_iff_ne]; omega
    have hzne : ((bstr (le X K)).toList == (bstr (le Y K)).toList) = false := by
      rw [beq_eq_false_iff_ne]
      intro g
      exact bstr_ne X Y K hXs hYs e (toList_inj g)
    by_cases hl : K ≤ a4.size
    · exact back_other_long a2 a3 a4 N M K (8 * K) X Y w h2 (by omega) (by omega) hK hK1 hC (by omega) ha1 ha2 hXs hYs _ _ rfl rfl hne hzne hs hg hl
    · exact back_other_short a2 a3 a4 N M K (8 * K) X Y w h2 (by omega) (by omega) hK hK1 hC (by omega) ha1 ha2 hXs hYs _ _ rfl rfl hne hzne hs hg (by omega)

end Go.Proofs.Ytkkkcklinedbkaa
