/- SumsMore returns true for any arguments that their kinds hold. Conditions: none. -/
import Derived.Test.YtoloamlodmefkaaApa
import Derived.Test.YtoloamlodmefkaaReg
namespace Go.Proofs.Ytoloamlodmefkaa
open Go.RowKit M
set_option linter.unusedVariables false
set_option linter.unusedSimpArgs false

/-- a table, one cell of which is another number -/
def Ts (k c : Nat) (i : Nat) : Nat := if i = k then c else st i
theorem Ts_num (k c : Nat) (h : c < big32) : Tn (Ts k c) := by
  intro i hi
  unfold Ts
  split
  · exact h
  · exact Tn_st i hi
/-- The table that a law holds, once a cell of it is stored. -/
theorem TV_set (k c : Nat) : (TV st).setIfInBounds k (.int .u32 c) = TV (Ts k c) := by
  apply Array.ext_getElem?
  intro i
  rw [Array.getElem?_setIfInBounds, TV_size]
  by_cases hi : i < 256
  · rw [TV_at _ i hi, TV_at _ i hi]
    by_cases e : k = i
    · subst e; simp [Ts, hi]
    · rw [if_neg e]
      unfold Ts
      rw [if_neg (fun g => e g.symm)]
  · rw [Array.getElem?_eq_none (by rw [TV_size]; omega), Array.getElem?_eq_none (by rw [TV_size]; omega)]
    by_cases e : k = i
    · rw [if_pos e, if_neg (by omega)]
    · rw [if_neg e]

theorem more_far (a0 : Int) (a1 a2 : ByteArray) (a3 a4 : Int) (w : World) (h1 : a1.size ≤ reachBytes) (h2 : a2.size ≤ reachBytes) (h : 16384 < a1.size + a2.size) :
    Calls Try.prog 7 #[.int .u32 a0, .string a1, .string a2, .int .u8 a3, .int .u32 a4] w fun e w' => e = .returned (.bool true) ∧ Below w.heap.size w w' := by
  unfold reachBytes at h1 h2
  have hd : (16384 : Int) < (a1.size : Int) + (a2.size : Int) := by omega
  go_enter Try.func7, Try.ntmps7
  go_wp2_with fail
  refine (alive_any _).mono ?_; rintro e w9 ⟨rfl, b9⟩
  go_wp2_with fail
  go_ret
  exact ⟨rfl, b9⟩

set_option maxHeartbeats 2000000 in
set_option maxRecDepth 1000000 in
theorem more_yes (a : Nat) (s t : ByteArray) (k c : Nat) (w : World) (ha : a < big32) (h : s.size + t.size ≤ 16384) (hk : k < 256) (hc : c < big32) :
    Calls Try.prog 7 #[.int .u32 a, .string s, .string t, .int .u8 k, .int .u32 c] w fun e w' => e = .returned (.bool true) ∧ Below w.heap.size w w' := by
  have HS := Lib.hid (show s.size ≤ maxLen by unfold maxLen; omega)
  have HT := Lib.hid (show t.size ≤ maxLen by unfold maxLen; omega)
  have HST := Lib.hid (show (s ++ t).size ≤ maxLen by rw [ByteArray.size_append]; unfold maxLen; omega)
  have HA := Lib.hid ha
  have HN := Lib.hid (Ts_num k c hc)
  go_enter Try.func7, Try.ntmps7
  go_wp2_with fail
  refine (table_any _).mono ?_; rintro e w1 ⟨rfl, b1⟩
  have hz := arrZero
  have hc1 := (Tb.made w1 st).cell hk
  have hf1 := (Tb.made w1 st).frozen k
  have hset := TV_set k c
  have H1 := Lib.hid (Ta.first b1 (Ts k c))
  clear b1
  go_wp2_with (refine step_store rfl _ _ rfl _ st rfl rfl ?_)
  refine (more_any _ _ _ HA.out HS.out).mono ?_; rintro e w' ⟨rfl, rfl⟩
  go_wp2_with fail
  refine (more_any _ _ _ (adl_lt _ _) HT.out).mono ?_; rintro e w' ⟨rfl, rfl⟩
  have e1 := adl_append a s t
  have e2 := crcm_append (Ts k c) a s t
  clear hz hc1 hf1 hset
  have E2 := Lib.hid e2
  clear e2
  go_wp2_with fail
  refine at_region H1.out (fun h0 => ?_)
  refine tk_load (i := 0) (d := some 32) rfl rfl (by kernel_rfl) (by kernel_rfl) (by kernel_rfl) (fun _ _ _ h => h) (by rfl) rfl rfl h0 ?_
  simp only [Act.put, List.setIfInBounds_toArray, List.set_cons_zero, List.set_cons_succ]
  refine tk_load (i := 1) (d := some 33) rfl rfl (by kernel_rfl) (by kernel_rfl) (by kernel_rfl) (fun _ _ _ h => h) (by rfl) rfl rfl h0 ?_
  simp only [Act.put, List.setIfInBounds_toArray, List.set_cons_zero, List.set_cons_succ]
  refine tk_op (i := 2) (d := some 34) (v := ?_) rfl rfl (by kernel_rfl) (by kernel_rfl) (by kernel_rfl) (fun _ _ _ h => h) (by rfl) (fun w hS => ?_) h0 ?_
  rotate_left
  · (go_simp; (try with_reducible rfl))
  simp only [Act.put, List.setIfInBounds_toArray, List.set_cons_zero, List.set_cons_succ]
  refine tk_op (i := 3) (d := some 35) (v := ?_) rfl rfl (by kernel_rfl) (by kernel_rfl) (by kernel_rfl) (fun _ _ _ h => h) (by rfl) (fun w hS => ?_) h0 ?_
  rotate_left
  · (go_simp; (try with_reducible rfl))
  simp only [Act.put, List.setIfInBounds_toArray, List.set_cons_zero, List.set_cons_succ]
  refine tk_op (i := 5) (d := some 37) (v := ?_) rfl rfl (by kernel_rfl) (by kernel_rfl) (by kernel_rfl) (fun _ _ _ h => h) (by rfl) (fun w hS => ?_) h0 ?_
  rotate_left
  · (go_simp; (try with_reducible rfl))
  simp only [Act.put, List.setIfInBounds_toArray, List.set_cons_zero, List.set_cons_succ]
  refine at_call (i := 4) (by kernel_rfl) rfl (fun K hK => ?_)
  go_simp
  refine (cmore_any (Ts k c) a s _ HN.out HA.out HS.out).mono ?_; rintro e w2 ⟨rfl, b2⟩
  refine hK.out _ _ (h0.next b2) (fun h1 => ?_)
  clear hK K b2
  (try simp only [Act.put, List.setIfInBounds_toArray, List.set_cons_zero, List.set_cons_succ])
  refine at_call (i := 6) (by kernel_rfl) rfl (fun K hK => ?_)
  go_simp
  refine (cmore_any (Ts k c) _ t _ HN.out (crcm_lt HN.out HA.out s) HT.out).mono ?_; rintro e w3 ⟨rfl, b3⟩
  rw [E2.out]
  refine hK.out _ _ (h1.next b3) (fun h2 => ?_)
  clear hK K b3
  (try simp only [Act.put, List.setIfInBounds_toArray, List.set_cons_zero, List.set_cons_succ])
  refine tk_op (i := 7) (d := some 13) (v := ?_) rfl rfl (by kernel_rfl) (by kernel_rfl) (by kernel_rfl) (fun _ _ _ h => h) (by rfl) (fun w hS => ?_) h2 ?_
  rotate_left
  · (go_simp; (try with_reducible rfl))
  simp only [Act.put, List.setIfInBounds_toArray, List.set_cons_zero, List.set_cons_succ]
  refine wpAnyH_done (by kernel_rfl) ?_ _
  obtain ⟨p, hp⟩ : ∃ p, p = a % 65536 := ⟨_, rfl⟩
  obtain ⟨x, hx⟩ : ∃ x, x = lo a := ⟨_, rfl⟩
  obtain ⟨y, hy⟩ : ∃ y, y = hi a := ⟨_, rfl⟩
  have hx1 : x < 65521 := by rw [hx]; exact lo_lt a
  have hy1 : y < 65521 := by rw [hy]; exact hi_lt a
  have g1 : bits .and .u32 (a : Int) 65535 = (p : Int) := by
    have := and32 a 65535 HA.out (by decide)
    rw [show (65535 : Nat) = 2 ^ 16 - 1 from rfl, Nat.and_two_pow_sub_one_eq_mod] at this
    rw [hp]; exact this
  have g2 : (p : Int) % 65521 = (x : Int) := by rw [hp, hx]; rfl
  have g3 : (a : Int) / 65536 % 65521 = (y : Int) := by rw [hy]; rfl
  have g4 : (y : Int) * 65536 % 4294967296 = (y : Int) * 65536 := by omega
  have g5 : bits .or .u32 ((y : Int) * 65536) (x : Int) = ((y * 65536 + x : Nat) : Int) := by
    have := or32 (y * 65536) x (by unfold big32; omega) (by unfold big32; omega)
    rw [show y * 65536 ||| x = y * 65536 + x by
      have := Nat.two_pow_add_eq_or_of_lt (i := 16) (b := x) (show x < 2 ^ 16 by omega) y
      rw [Nat.mul_comm]; exact this.symm] at this
    exact this
  have hp1 : p < 65536 := by rw [hp]; exact Nat.mod_lt _ (by decide)
  have ha1 : a ≤ 4294967295 := by have := HA.out; unfold big32 at this; omega
  have E3 := Lib.hid (show adl a ⟨#[]⟩ = y * 65536 + x by rw [hx, hy]; rfl)
  have E4 := Lib.hid (crcm_empty (Ts k c) a)
  have H2 := Lib.hid h2
  clear h0 h1 h2 hp hx hy e1 ha
  go_wp2_with fail
  refine (more_any _ _ _ HA.out HST.out).mono ?_; rintro e w' ⟨rfl, rfl⟩
  go_wp2_with (refine step_load _ rfl (by rfl) _ rfl (Ts k c) H2.out.t ?_)
  refine (cmore_any (Ts k c) a (s ++ t) _ HN.out HA.out HST.out).mono ?_; rintro e w4 ⟨rfl, b4⟩
  have H4 := Lib.hid (H2.out.next b4)
  clear b4
  go_wp2_with (refine step_load _ rfl (by rfl) _ rfl (Ts k c) H4.out.t ?_)
  refine (cmore_any (Ts k c) a ⟨#[]⟩ _ HN.out HA.out (by decide)).mono ?_; rintro e w5 ⟨rfl, b5⟩
  rw [E4.out]
  have H5 := Lib.hid (H4.out.next b5)
  clear b5
  go_wp2_with fail
  refine (more_any _ ⟨#[]⟩ _ HA.out (by decide)).mono ?_; rintro e w' ⟨rfl, rfl⟩
  rw [E3.out]
  go_wp2_with fail
  refine (alive_any _).mono ?_; rintro e w6 ⟨rfl, b6⟩
  have H6 := Lib.hid (H5.out.next b6)
  clear b6
  go_wp2_with fail
  go_ret
  exact ⟨rfl, H6.out.b⟩

theorem SumsMore_walk (a0 : Int) (a1 a2 : ByteArray) (a3 a4 : Int) (w : World) (w0 : (Lit.int .u32 a0).wf = true) (w1 : a1.size ≤ reachBytes) (w2 : a2.size ≤ reachBytes) (w3 : (Lit.int .u8 a3).wf = true) (w4 : (Lit.int .u32 a4).wf = true) :
    Calls Try.prog 7 #[.int .u32 a0, .string a1, .string a2, .int .u8 a3, .int .u32 a4] w fun e w' => e = .returned (.bool true) ∧ Below w.heap.size w w' := by
  by_cases h : a1.size + a2.size ≤ 16384
  · obtain ⟨a, rfl, ha⟩ := u32_nat w0
    obtain ⟨k, rfl, hk⟩ := u8_nat w3
    obtain ⟨c, rfl, hc⟩ := u32_nat w4
    exact more_yes a a1 a2 k c w ha h hk hc
  · exact more_far a0 a1 a2 a3 a4 w w1 w2 (by omega)

end Go.Proofs.Ytoloamlodmefkaa
