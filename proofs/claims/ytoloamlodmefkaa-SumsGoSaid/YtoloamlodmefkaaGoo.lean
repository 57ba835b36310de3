/- SumsGo returns true for any arguments that their kinds hold. Conditions: none. -/
import Derived.Test.YtoloamlodmefkaaApa
import Derived.Test.YtoloamlodmefkaaReg
namespace Go.Proofs.Ytoloamlodmefkaa
open Go.RowKit M
set_option linter.unusedVariables false
set_option linter.unusedSimpArgs false

theorem go_far (a0 a1 a2 : ByteArray) (w : World) (h0 : a0.size ≤ reachBytes) (h1 : a1.size ≤ reachBytes) (h2 : a2.size ≤ reachBytes) (h : 16384 < a0.size + a1.size + a2.size) :
    Calls Try.prog 4 #[.string a0, .string a1, .string a2] w fun e w' => e = .returned (.bool true) ∧ Below w.heap.size w w' := by
  unfold reachBytes at h0 h1 h2
  have hd : (16384 : Int) < (a0.size : Int) + (a1.size : Int) + (a2.size : Int) := by omega
  go_enter Try.func4, Try.ntmps4
  go_wp2_with fail
  refine (alive_any _).mono ?_; rintro e w9 ⟨rfl, b9⟩
  go_wp2_with fail
  go_ret
  exact ⟨rfl, b9⟩

theorem nums_assoc (s t u : ByteArray) : nums (s ++ t ++ u) = nums (s ++ (t ++ u)) := by rw [nums_append, nums_append, nums_append, nums_append, List.append_assoc]

set_option maxHeartbeats 4000000 in
set_option maxRecDepth 1000000 in
theorem go_yes (s t u : ByteArray) (w : World) (h : s.size + t.size + u.size ≤ 16384) :
    Calls Try.prog 4 #[.string s, .string t, .string u] w fun e w' => e = .returned (.bool true) ∧ Below w.heap.size w w' := by
  have HS := Lib.hid (show s.size ≤ maxLen by unfold maxLen; omega)
  have HT := Lib.hid (show t.size ≤ maxLen by unfold maxLen; omega)
  have HU := Lib.hid (show u.size ≤ maxLen by unfold maxLen; omega)
  have HST := Lib.hid (show (s ++ t).size ≤ maxLen by rw [ByteArray.size_append]; unfold maxLen; omega)
  have HT2 := Lib.hid (show t.size < 18446744073709551616 by omega)
  have HU2 := Lib.hid (show u.size < 18446744073709551616 by omega)
  have HTU2 := Lib.hid (show t.size + u.size < 18446744073709551616 by omega)
  have hcat : s.size + t.size ≤ 9223372036854775807 := by omega
  have hcat2 : ¬ 9223372036854775807 < s.size + t.size := by omega
  have hw1 : IntKind.i64.wrap ((t.size : Int) + (u.size : Int)) = (t.size : Int) + (u.size : Int) := IntWalk.i64_in _ ⟨by omega, by omega⟩
  have hw3 : IntKind.u64.wrap (u.size : Int) = (u.size : Int) := by rw [IntKind.wrap_u64]; omega
  obtain ⟨N, hN⟩ : ∃ N, N = t.size + u.size := ⟨_, rfl⟩
  have hw2 : IntKind.u64.wrap ((t.size : Int) + (u.size : Int)) = (N : Int) := by rw [IntKind.wrap_u64, hN]; omega
  have E1 := Lib.hid (adl_append 1 s t)
  have E2 := Lib.hid (show join (adl 1 s) (adl 1 t) t.size = adl 1 (s ++ t) by rw [join_adl, adl_append])
  have E3 := Lib.hid (show join (adl 1 t) (adl 1 u) u.size = adl 1 (t ++ u) by rw [join_adl, adl_append])
  have E4 := Lib.hid (show join (adl 1 (s ++ t)) (adl 1 u) u.size = adl 1 (s ++ t ++ u) by rw [join_adl, adl_append])
  have E5 := Lib.hid (show join (adl 1 s) (adl 1 (t ++ u)) (t.size + u.size) = adl 1 (s ++ t ++ u) by
    have := join_adl (adl 1 s) (t ++ u)
    rw [ByteArray.size_append] at this
    rw [this, adl_append]
    exact (adl_nums (nums_assoc s t u) 1).symm)
  rw [← hN] at E5 HTU2
  clear hN
  have E6 := Lib.hid (crcm_crc s t)
  have E7 := Lib.hid (crcm_st s)
  go_enter Try.func4, Try.ntmps4
  go_wp2_with fail
  refine (adler_any s _ HS.out).mono ?_; rintro e w' ⟨rfl, rfl⟩
  go_wp2_with fail
  refine (adler_any t _ HT.out).mono ?_; rintro e w' ⟨rfl, rfl⟩
  go_wp2_with fail
  refine (adler_any u _ HU.out).mono ?_; rintro e w' ⟨rfl, rfl⟩
  go_wp2_with fail
  refine (table_any _).mono ?_; rintro e w1 ⟨rfl, b1⟩
  have hz := arrZero
  have H1 := Lib.hid (Ta.first b1 st)
  clear b1
  go_wp2_with (refine step_store rfl _ _ rfl _ st rfl rfl ?_)
  clear hz
  refine (join_any _ _ t.size _ (adl_lt 1 s) (adl_lt 1 t) HT2.out).mono ?_; rintro e w' ⟨rfl, rfl⟩
  rw [E2.out]
  go_wp2_with fail
  refine (join_any _ _ u.size _ (adl_lt 1 t) (adl_lt 1 u) HU2.out).mono ?_; rintro e w' ⟨rfl, rfl⟩
  rw [E3.out]
  go_wp2_with fail
  refine at_region H1.out (fun h0 => ?_)
  refine tk_op (i := 0) (d := some 42) (v := ?_) rfl rfl (by kernel_rfl) (by kernel_rfl) (by kernel_rfl) (fun _ _ _ h => h) (by rfl) (fun w hS => ?_) h0 ?_
  rotate_left
  · (go_simp; (try with_reducible rfl))
  simp only [Act.put, List.setIfInBounds_toArray, List.set_cons_zero, List.set_cons_succ]
  refine tk_op (i := 1) (d := some 43) (v := ?_) rfl rfl (by kernel_rfl) (by kernel_rfl) (by kernel_rfl) (fun _ _ _ h => h) (by rfl) (fun w hS => ?_) h0 ?_
  rotate_left
  · (go_simp; (try with_reducible rfl))
  simp only [Act.put, List.setIfInBounds_toArray, List.set_cons_zero, List.set_cons_succ]
  refine tk_op (i := 3) (d := some 45) (v := ?_) rfl rfl (by kernel_rfl) (by kernel_rfl) (by kernel_rfl) (fun _ _ _ h => h) (by rfl) (fun w hS => ?_) h0 ?_
  rotate_left
  · (go_simp; (try with_reducible rfl))
  simp only [Act.put, List.setIfInBounds_toArray, List.set_cons_zero, List.set_cons_succ]
  refine tk_op (i := 4) (d := some 46) (v := ?_) rfl rfl (by kernel_rfl) (by kernel_rfl) (by kernel_rfl) (fun _ _ _ h => h) (by rfl) (fun w hS => ?_) h0 ?_
  rotate_left
  · (go_simp; (try with_reducible rfl))
  simp only [Act.put, List.setIfInBounds_toArray, List.set_cons_zero, List.set_cons_succ]
  refine tk_op (i := 5) (d := some 47) (v := ?_) rfl rfl (by kernel_rfl) (by kernel_rfl) (by kernel_rfl) (fun _ _ _ h => h) (by rfl) (fun w hS => ?_) h0 ?_
  rotate_left
  · (go_simp; (try with_reducible rfl))
  simp only [Act.put, List.setIfInBounds_toArray, List.set_cons_zero, List.set_cons_succ]
  refine at_call (i := 2) (by kernel_rfl) rfl (fun K hK => ?_)
  go_simp
  refine (more_any _ t _ (adl_lt 1 s) HT.out).mono ?_; rintro e w' ⟨rfl, rfl⟩
  rw [E1.out]
  refine hK.out _ _ h0 (fun h1 => ?_)
  clear hK K h0
  (try simp only [Act.put, List.setIfInBounds_toArray, List.set_cons_zero, List.set_cons_succ])
  refine at_call (i := 6) (by kernel_rfl) rfl (fun K hK => ?_)
  go_simp
  refine (adler_any _ _ HST.out).mono ?_; rintro e w' ⟨rfl, rfl⟩
  refine hK.out _ _ h1 (fun h2 => ?_)
  clear hK K h1
  (try simp only [Act.put, List.setIfInBounds_toArray, List.set_cons_zero, List.set_cons_succ])
  refine tk_op (i := 7) (d := some 49) (v := ?_) rfl rfl (by kernel_rfl) (by kernel_rfl) (by kernel_rfl) (fun _ _ _ h => h) (by rfl) (fun w hS => ?_) h2 ?_
  rotate_left
  · (go_simp; (try with_reducible rfl))
  simp only [Act.put, List.setIfInBounds_toArray, List.set_cons_zero, List.set_cons_succ]
  refine tk_op (i := 8) (d := some 50) (v := ?_) rfl rfl (by kernel_rfl) (by kernel_rfl) (by kernel_rfl) (fun _ _ _ h => h) (by rfl) (fun w hS => ?_) h2 ?_
  rotate_left
  · (go_simp; (try with_reducible rfl))
  simp only [Act.put, List.setIfInBounds_toArray, List.set_cons_zero, List.set_cons_succ]
  refine tk_op (i := 9) (d := some 51) (v := ?_) rfl rfl (by kernel_rfl) (by kernel_rfl) (by kernel_rfl) (fun _ _ _ h => h) (by rfl) (fun w hS => ?_) h2 ?_
  rotate_left
  · (go_simp; (try with_reducible rfl))
  simp only [Act.put, List.setIfInBounds_toArray, List.set_cons_zero, List.set_cons_succ]
  refine tk_op (i := 10) (d := some 52) (v := ?_) rfl rfl (by kernel_rfl) (by kernel_rfl) (by kernel_rfl) (fun _ _ _ h => h) (by rfl) (fun w hS => ?_) h2 ?_
  rotate_left
  · (go_simp; (try with_reducible rfl))
  simp only [Act.put, List.setIfInBounds_toArray, List.set_cons_zero, List.set_cons_succ]
  refine tk_op (i := 11) (d := some 53) (v := ?_) rfl rfl (by kernel_rfl) (by kernel_rfl) (by kernel_rfl) (fun _ _ _ h => h) (by rfl) (fun w hS => ?_) h2 ?_
  rotate_left
  · (go_simp; (try with_reducible rfl))
  simp only [Act.put, List.setIfInBounds_toArray, List.set_cons_zero, List.set_cons_succ]
  refine tk_op (i := 12) (d := some 54) (v := ?_) rfl rfl (by kernel_rfl) (by kernel_rfl) (by kernel_rfl) (fun _ _ _ h => h) (by rfl) (fun w hS => ?_) h2 ?_
  rotate_left
  · (go_simp; (try with_reducible rfl))
  simp only [Act.put, List.setIfInBounds_toArray, List.set_cons_zero, List.set_cons_succ]
  refine at_call (i := 13) (by kernel_rfl) rfl (fun K hK => ?_)
  go_simp
  refine (adler_any _ _ HST.out).mono ?_; rintro e w' ⟨rfl, rfl⟩
  refine hK.out _ _ h2 (fun h3 => ?_)
  clear hK K h2
  (try simp only [Act.put, List.setIfInBounds_toArray, List.set_cons_zero, List.set_cons_succ])
  refine tk_op (i := 14) (d := some 56) (v := ?_) rfl rfl (by kernel_rfl) (by kernel_rfl) (by kernel_rfl) (fun _ _ _ h => h) (by rfl) (fun w hS => ?_) h3 ?_
  rotate_left
  · (go_simp; (try with_reducible rfl))
  simp only [Act.put, List.setIfInBounds_toArray, List.set_cons_zero, List.set_cons_succ]
  refine tk_op (i := 15) (d := some 57) (v := ?_) rfl rfl (by kernel_rfl) (by kernel_rfl) (by kernel_rfl) (fun _ _ _ h => h) (by rfl) (fun w hS => ?_) h3 ?_
  rotate_left
  · (go_simp; (try with_reducible rfl))
  simp only [Act.put, List.setIfInBounds_toArray, List.set_cons_zero, List.set_cons_succ]
  refine tk_op (i := 16) (d := some 58) (v := ?_) rfl rfl (by kernel_rfl) (by kernel_rfl) (by kernel_rfl) (fun _ _ _ h => h) (by rfl) (fun w hS => ?_) h3 ?_
  rotate_left
  · (go_simp; (try with_reducible rfl))
  simp only [Act.put, List.setIfInBounds_toArray, List.set_cons_zero, List.set_cons_succ]
  refine tk_op (i := 17) (d := some 59) (v := ?_) rfl rfl (by kernel_rfl) (by kernel_rfl) (by kernel_rfl) (fun _ _ _ h => h) (by rfl) (fun w hS => ?_) h3 ?_
  rotate_left
  · (go_simp; (try with_reducible rfl))
  simp only [Act.put, List.setIfInBounds_toArray, List.set_cons_zero, List.set_cons_succ]
  refine tk_op (i := 18) (d := some 60) (v := ?_) rfl rfl (by kernel_rfl) (by kernel_rfl) (by kernel_rfl) (fun _ _ _ h => h) (by rfl) (fun w hS => ?_) h3 ?_
  rotate_left
  · (go_simp; (try with_reducible rfl))
  simp only [Act.put, List.setIfInBounds_toArray, List.set_cons_zero, List.set_cons_succ]
  refine tk_op (i := 19) (d := some 61) (v := ?_) rfl rfl (by kernel_rfl) (by kernel_rfl) (by kernel_rfl) (fun _ _ _ h => h) (by rfl) (fun w hS => ?_) h3 ?_
  rotate_left
  · (go_simp; (try with_reducible rfl))
  simp only [Act.put, List.setIfInBounds_toArray, List.set_cons_zero, List.set_cons_succ]
  refine tk_op (i := 20) (d := some 62) (v := ?_) rfl rfl (by kernel_rfl) (by kernel_rfl) (by kernel_rfl) (fun _ _ _ h => h) (by rfl) (fun w hS => ?_) h3 ?_
  rotate_left
  · (go_simp; (try with_reducible rfl))
  simp only [Act.put, List.setIfInBounds_toArray, List.set_cons_zero, List.set_cons_succ]
  refine tk_op (i := 21) (d := some 63) (v := ?_) rfl rfl (by kernel_rfl) (by kernel_rfl) (by kernel_rfl) (fun _ _ _ h => h) (by rfl) (fun w hS => ?_) h3 ?_
  rotate_left
  · (go_simp; (try with_reducible rfl))
  simp only [Act.put, List.setIfInBounds_toArray, List.set_cons_zero, List.set_cons_succ]
  refine tk_op (i := 23) (d := some 65) (v := ?_) rfl rfl (by kernel_rfl) (by kernel_rfl) (by kernel_rfl) (fun _ _ _ h => h) (by rfl) (fun w hS => ?_) h3 ?_
  rotate_left
  · (go_simp; (try with_reducible rfl))
  simp only [Act.put, List.setIfInBounds_toArray, List.set_cons_zero, List.set_cons_succ]
  refine tk_op (i := 24) (d := some 66) (v := ?_) rfl rfl (by kernel_rfl) (by kernel_rfl) (by kernel_rfl) (fun _ _ _ h => h) (by rfl) (fun w hS => ?_) h3 ?_
  rotate_left
  · (go_simp; (try with_reducible rfl))
  simp only [Act.put, List.setIfInBounds_toArray, List.set_cons_zero, List.set_cons_succ]
  refine tk_op (i := 25) (d := some 67) (v := ?_) rfl rfl (by kernel_rfl) (by kernel_rfl) (by kernel_rfl) (fun _ _ _ h => h) (by rfl) (fun w hS => ?_) h3 ?_
  rotate_left
  · (go_simp; (try with_reducible rfl))
  simp only [Act.put, List.setIfInBounds_toArray, List.set_cons_zero, List.set_cons_succ]
  refine tk_op (i := 26) (d := some 68) (v := ?_) rfl rfl (by kernel_rfl) (by kernel_rfl) (by kernel_rfl) (fun _ _ _ h => h) (by rfl) (fun w hS => ?_) h3 ?_
  rotate_left
  · (go_simp; (try with_reducible rfl))
  simp only [Act.put, List.setIfInBounds_toArray, List.set_cons_zero, List.set_cons_succ]
  refine tk_op (i := 27) (d := some 69) (v := ?_) rfl rfl (by kernel_rfl) (by kernel_rfl) (by kernel_rfl) (fun _ _ _ h => h) (by rfl) (fun w hS => ?_) h3 ?_
  rotate_left
  · (go_simp; (try with_reducible rfl))
  simp only [Act.put, List.setIfInBounds_toArray, List.set_cons_zero, List.set_cons_succ]
  refine tk_op (i := 28) (d := some 70) (v := ?_) rfl rfl (by kernel_rfl) (by kernel_rfl) (by kernel_rfl) (fun _ _ _ h => h) (by rfl) (fun w hS => ?_) h3 ?_
  rotate_left
  · (go_simp; (try with_reducible rfl))
  simp only [Act.put, List.setIfInBounds_toArray, List.set_cons_zero, List.set_cons_succ]
  refine tk_op (i := 29) (d := some 71) (v := ?_) rfl rfl (by kernel_rfl) (by kernel_rfl) (by kernel_rfl) (fun _ _ _ h => h) (by rfl) (fun w hS => ?_) h3 ?_
  rotate_left
  · (go_simp; (try with_reducible rfl))
  simp only [Act.put, List.setIfInBounds_toArray, List.set_cons_zero, List.set_cons_succ]
  refine tk_op (i := 30) (d := some 72) (v := ?_) rfl rfl (by kernel_rfl) (by kernel_rfl) (by kernel_rfl) (fun _ _ _ h => h) (by rfl) (fun w hS => ?_) h3 ?_
  rotate_left
  · (go_simp; (try with_reducible rfl))
  simp only [Act.put, List.setIfInBounds_toArray, List.set_cons_zero, List.set_cons_succ]
  refine at_call (i := 22) (by kernel_rfl) rfl (fun K hK => ?_)
  go_simp
  refine (join_any _ _ _ _ (adl_lt 1 _) (adl_lt 1 u) HU2.out).mono ?_; rintro e w' ⟨rfl, rfl⟩
  rw [E4.out]
  refine hK.out _ _ h3 (fun h4 => ?_)
  clear hK K h3
  (try simp only [Act.put, List.setIfInBounds_toArray, List.set_cons_zero, List.set_cons_succ])
  refine at_call (i := 31) (by kernel_rfl) rfl (fun K hK => ?_)
  go_simp
  refine (join_any _ _ _ _ (adl_lt 1 s) (adl_lt 1 _) HTU2.out).mono ?_; rintro e w' ⟨rfl, rfl⟩
  rw [E5.out]
  refine hK.out _ _ h4 (fun h5 => ?_)
  clear hK K h4
  (try simp only [Act.put, List.setIfInBounds_toArray, List.set_cons_zero, List.set_cons_succ])
  refine tk_op (i := 32) (d := some 74) (v := ?_) rfl rfl (by kernel_rfl) (by kernel_rfl) (by kernel_rfl) (fun _ _ _ h => h) (by rfl) (fun w hS => ?_) h5 ?_
  rotate_left
  · (go_simp; (try with_reducible rfl))
  simp only [Act.put, List.setIfInBounds_toArray, List.set_cons_zero, List.set_cons_succ]
  refine tk_op (i := 33) (d := some 75) (v := ?_) rfl rfl (by kernel_rfl) (by kernel_rfl) (by kernel_rfl) (fun _ _ _ h => h) (by rfl) (fun w hS => ?_) h5 ?_
  rotate_left
  · (go_simp; (try with_reducible rfl))
  simp only [Act.put, List.setIfInBounds_toArray, List.set_cons_zero, List.set_cons_succ]
  refine tk_op (i := 34) (d := some 76) (v := ?_) rfl rfl (by kernel_rfl) (by kernel_rfl) (by kernel_rfl) (fun _ _ _ h => h) (by rfl) (fun w hS => ?_) h5 ?_
  rotate_left
  · (go_simp; (try with_reducible rfl))
  simp only [Act.put, List.setIfInBounds_toArray, List.set_cons_zero, List.set_cons_succ]
  refine tk_load (i := 35) (d := some 77) rfl rfl (by kernel_rfl) (by kernel_rfl) (by kernel_rfl) (fun _ _ _ h => h) (by rfl) rfl rfl h5 ?_
  simp only [Act.put, List.setIfInBounds_toArray, List.set_cons_zero, List.set_cons_succ]
  refine tk_op (i := 36) (d := some 78) (v := ?_) rfl rfl (by kernel_rfl) (by kernel_rfl) (by kernel_rfl) (fun _ _ _ h => h) (by rfl) (fun w hS => ?_) h5 ?_
  rotate_left
  · (go_simp; (try with_reducible rfl))
  simp only [Act.put, List.setIfInBounds_toArray, List.set_cons_zero, List.set_cons_succ]
  refine tk_op (i := 38) (d := some 80) (v := ?_) rfl rfl (by kernel_rfl) (by kernel_rfl) (by kernel_rfl) (fun _ _ _ h => h) (by rfl) (fun w hS => ?_) h5 ?_
  rotate_left
  · (go_simp; (try with_reducible rfl))
  simp only [Act.put, List.setIfInBounds_toArray, List.set_cons_zero, List.set_cons_succ]
  refine tk_op (i := 40) (d := some 82) (v := ?_) rfl rfl (by kernel_rfl) (by kernel_rfl) (by kernel_rfl) (fun _ _ _ h => h) (by rfl) (fun w hS => ?_) h5 ?_
  rotate_left
  · (go_simp; (try with_reducible rfl))
  simp only [Act.put, List.setIfInBounds_toArray, List.set_cons_zero, List.set_cons_succ]
  refine tk_op (i := 41) (d := some 83) (v := ?_) rfl rfl (by kernel_rfl) (by kernel_rfl) (by kernel_rfl) (fun _ _ _ h => h) (by rfl) (fun w hS => ?_) h5 ?_
  rotate_left
  · (go_simp; (try with_reducible rfl))
  simp only [Act.put, List.setIfInBounds_toArray, List.set_cons_zero, List.set_cons_succ]
  refine tk_op (i := 42) (d := some 84) (v := ?_) rfl rfl (by kernel_rfl) (by kernel_rfl) (by kernel_rfl) (fun _ _ _ h => h) (by rfl) (fun w hS => ?_) h5 ?_
  rotate_left
  · (go_simp; (try with_reducible rfl))
  simp only [Act.put, List.setIfInBounds_toArray, List.set_cons_zero, List.set_cons_succ]
  refine at_call (i := 37) (by kernel_rfl) rfl (fun K hK => ?_)
  go_simp
  refine (crc_any _ _ HS.out).mono ?_; rintro e wr5 ⟨rfl, br⟩
  refine hK.out _ _ (h5.next br) (fun h6 => ?_)
  clear hK K h5 br
  (try simp only [Act.put, List.setIfInBounds_toArray, List.set_cons_zero, List.set_cons_succ])
  refine at_call (i := 39) (by kernel_rfl) rfl (fun K hK => ?_)
  go_simp
  refine (cmore_any st _ t _ Tn_st (crc_lt s) HT.out).mono ?_; rintro e wr6 ⟨rfl, br⟩
  rw [E6.out]
  refine hK.out _ _ (h6.next br) (fun h7 => ?_)
  clear hK K h6 br
  (try simp only [Act.put, List.setIfInBounds_toArray, List.set_cons_zero, List.set_cons_succ])
  refine at_call (i := 43) (by kernel_rfl) rfl (fun K hK => ?_)
  go_simp
  refine (crc_any _ _ HST.out).mono ?_; rintro e wr7 ⟨rfl, br⟩
  refine hK.out _ _ (h7.next br) (fun h8 => ?_)
  clear hK K h7 br
  (try simp only [Act.put, List.setIfInBounds_toArray, List.set_cons_zero, List.set_cons_succ])
  refine tk_op (i := 44) (d := some 86) (v := ?_) rfl rfl (by kernel_rfl) (by kernel_rfl) (by kernel_rfl) (fun _ _ _ h => h) (by rfl) (fun w hS => ?_) h8 ?_
  rotate_left
  · (go_simp; (try with_reducible rfl))
  simp only [Act.put, List.setIfInBounds_toArray, List.set_cons_zero, List.set_cons_succ]
  refine tk_op (i := 45) (d := some 87) (v := ?_) rfl rfl (by kernel_rfl) (by kernel_rfl) (by kernel_rfl) (fun _ _ _ h => h) (by rfl) (fun w hS => ?_) h8 ?_
  rotate_left
  · (go_simp; (try with_reducible rfl))
  simp only [Act.put, List.setIfInBounds_toArray, List.set_cons_zero, List.set_cons_succ]
  refine tk_op (i := 46) (d := some 88) (v := ?_) rfl rfl (by kernel_rfl) (by kernel_rfl) (by kernel_rfl) (fun _ _ _ h => h) (by rfl) (fun w hS => ?_) h8 ?_
  rotate_left
  · (go_simp; (try with_reducible rfl))
  simp only [Act.put, List.setIfInBounds_toArray, List.set_cons_zero, List.set_cons_succ]
  refine tk_load (i := 47) (d := some 89) rfl rfl (by kernel_rfl) (by kernel_rfl) (by kernel_rfl) (fun _ _ _ h => h) (by rfl) rfl rfl h8 ?_
  simp only [Act.put, List.setIfInBounds_toArray, List.set_cons_zero, List.set_cons_succ]
  refine tk_op (i := 48) (d := some 90) (v := ?_) rfl rfl (by kernel_rfl) (by kernel_rfl) (by kernel_rfl) (fun _ _ _ h => h) (by rfl) (fun w hS => ?_) h8 ?_
  rotate_left
  · (go_simp; (try with_reducible rfl))
  simp only [Act.put, List.setIfInBounds_toArray, List.set_cons_zero, List.set_cons_succ]
  refine tk_op (i := 50) (d := some 92) (v := ?_) rfl rfl (by kernel_rfl) (by kernel_rfl) (by kernel_rfl) (fun _ _ _ h => h) (by rfl) (fun w hS => ?_) h8 ?_
  rotate_left
  · (go_simp; (try with_reducible rfl))
  simp only [Act.put, List.setIfInBounds_toArray, List.set_cons_zero, List.set_cons_succ]
  refine at_call (i := 49) (by kernel_rfl) rfl (fun K hK => ?_)
  go_simp
  refine (cmore_any st 0 s _ Tn_st (by decide) HS.out).mono ?_; rintro e wr8 ⟨rfl, br⟩
  rw [E7.out]
  refine hK.out _ _ (h8.next br) (fun h9 => ?_)
  clear hK K h8 br
  (try simp only [Act.put, List.setIfInBounds_toArray, List.set_cons_zero, List.set_cons_succ])
  refine at_call (i := 51) (by kernel_rfl) rfl (fun K hK => ?_)
  go_simp
  refine (crc_any _ _ HS.out).mono ?_; rintro e wr9 ⟨rfl, br⟩
  refine hK.out _ _ (h9.next br) (fun h10 => ?_)
  clear hK K h9 br
  (try simp only [Act.put, List.setIfInBounds_toArray, List.set_cons_zero, List.set_cons_succ])
  refine tk_op (i := 52) (d := some 94) (v := ?_) rfl rfl (by kernel_rfl) (by kernel_rfl) (by kernel_rfl) (fun _ _ _ h => h) (by rfl) (fun w hS => ?_) h10 ?_
  rotate_left
  · (go_simp; (try with_reducible rfl))
  simp only [Act.put, List.setIfInBounds_toArray, List.set_cons_zero, List.set_cons_succ]
  refine tk_op (i := 53) (d := some 95) (v := ?_) rfl rfl (by kernel_rfl) (by kernel_rfl) (by kernel_rfl) (fun _ _ _ h => h) (by rfl) (fun w hS => ?_) h10 ?_
  rotate_left
  · (go_simp; (try with_reducible rfl))
  simp only [Act.put, List.setIfInBounds_toArray, List.set_cons_zero, List.set_cons_succ]
  refine tk_op (i := 54) (d := some 96) (v := ?_) rfl rfl (by kernel_rfl) (by kernel_rfl) (by kernel_rfl) (fun _ _ _ h => h) (by rfl) (fun w hS => ?_) h10 ?_
  rotate_left
  · (go_simp; (try with_reducible rfl))
  simp only [Act.put, List.setIfInBounds_toArray, List.set_cons_zero, List.set_cons_succ]
  refine at_call (i := 55) (by kernel_rfl) rfl (fun K hK => ?_)
  go_simp
  refine (alive_any _).mono ?_; rintro e wr10 ⟨rfl, br⟩
  refine hK.out _ _ (h10.next br) (fun h11 => ?_)
  clear hK K h10 br
  (try simp only [Act.put, List.setIfInBounds_toArray, List.set_cons_zero, List.set_cons_succ])
  refine tk_op (i := 56) (d := some 98) (v := ?_) rfl rfl (by kernel_rfl) (by kernel_rfl) (by kernel_rfl) (fun _ _ _ h => h) (by rfl) (fun w hS => ?_) h11 ?_
  rotate_left
  · (go_simp; (try with_reducible rfl))
  simp only [Act.put, List.setIfInBounds_toArray, List.set_cons_zero, List.set_cons_succ]
  refine tk_op (i := 57) (d := some 6) (v := ?_) rfl rfl (by kernel_rfl) (by kernel_rfl) (by kernel_rfl) (fun _ _ _ h => h) (by rfl) (fun w hS => ?_) h11 ?_
  rotate_left
  · (go_simp; (try with_reducible rfl))
  simp only [Act.put, List.setIfInBounds_toArray, List.set_cons_zero, List.set_cons_succ]
  refine wpAnyH_done (by kernel_rfl) ?_ _

  have H6 := Lib.hid h11
  go_wp2_with fail
  go_ret
  exact ⟨rfl, H6.out.b⟩

theorem SumsGo_walk (a0 a1 a2 : ByteArray) (w : World) (w0 : a0.size ≤ reachBytes) (w1 : a1.size ≤ reachBytes) (w2 : a2.size ≤ reachBytes) :
    Calls Try.prog 4 #[.string a0, .string a1, .string a2] w fun e w' => e = .returned (.bool true) ∧ Below w.heap.size w w' := by
  by_cases h : a0.size + a1.size + a2.size ≤ 16384
  · exact go_yes a0 a1 a2 w h
  · exact go_far a0 a1 a2 w w0 w1 w2 (by omega)

end Go.Proofs.Ytoloamlodmefkaa
