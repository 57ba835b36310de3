/- SumsTells returns true for any arguments that their kinds hold. Conditions: none. -/
import Derived.Test.YtoloamlodmefkaaMor
namespace Go.Proofs.Ytoloamlodmefkaa
open Go.RowKit M
set_option linter.unusedVariables false
set_option linter.unusedSimpArgs false

/-- A loop that leaves what it carries as it is. -/
theorem run_forIn_same {P : Program} {w : World} {A B : Type} (g : A → B → Sem (ForInStep B)) (x : B) : ∀ l : List A, (∀ y ∈ l, (g y x).run P w = .ok (.yield x) w) → (forIn l x g).run P w = .ok x w
  | [], _ => by simp [Sem.run_pure]
  | y :: l, h => by
    rw [List.forIn_cons, Sem.run_bind, h y (by simp)]
    exact run_forIn_same g x l (fun z hz => h z (by simp [hz]))

/-- An array is equal to itself. -/
theorem arr_eq (f : Nat → Nat) (d : Nat) (w : World) : (Op.equalIn (d + 2) 25 (.agg (TV f)) (.agg (TV f))).run Try.prog w = .ok true w := by
  have hs : (sizeOf 22).run Try.prog w = .ok 1 w := by kernel_rfl
  have hagg : (isAgg 22).run Try.prog w = .ok false w := by kernel_rfl
  have hp : ∀ i, i < 256 → (part 22 (TV f) i).run Try.prog w = .ok (.int .u32 (f i)) w := by
    intro i hi
    simp only [part, Sem.run_bind, hagg, Result.andThen, Bool.false_eq_true, if_false, TV_at f i hi, Sem.run_pure]
  have hq : ∀ i, (Op.equalIn (d + 1) 22 (.int .u32 (f i)) (.int .u32 (f i))).run Try.prog w = .ok true w := by
    intro i
    simp [Op.equalIn, run_underlying Try.underlying22]
  rw [Op.equalIn, Sem.run_bind, run_underlying Try.underlying25]
  simp only [Result.andThen_ok, Sem.run_bind, hs]
  rw [Std.Legacy.Range.forIn_eq_forIn_range']
  rw [run_forIn_same _ _ _ (fun i hi => by
    have hi2 : i < 256 := by simpa [List.mem_range'] using hi
    simp only [Nat.mul_one, Sem.run_bind, hp i hi2, hq, Result.andThen_ok]
    rfl)]
  rfl

theorem tells_far (s : ByteArray) (a b n k c : Int) (w : World) (h : 16384 < s.size) :
    Calls Try.prog 3 #[.string s, .int .u32 a, .int .u32 b, .int .u64 n, .int .u8 k, .int .u32 c] w fun e w' => e = .returned (.bool true) ∧ Below w.heap.size w w' := by
  go_enter Try.func3, Try.ntmps3
  go_wp2_with fail
  refine (alive_any _).mono ?_; rintro e w9 ⟨rfl, b9⟩
  go_wp2_with fail
  go_ret
  exact ⟨rfl, b9⟩

/-- A cell of the table that a law holds is stored. -/
theorem Ta.set {W w : World} {B tb : Nat} (h : Ta W B tb st w) (k c : Nat) : Ta W B tb (Ts k c) (w.setCell ⟨tb, k, none⟩ (.int .u32 c)) :=
  ⟨h.t.set k c, h.b.setCell h.l _, h.l⟩

set_option maxHeartbeats 4000000 in
set_option maxRecDepth 1000000 in
theorem tells_yes (s : ByteArray) (a b n k c : Nat) (w : World) (h : s.size ≤ 16384) (ha : a < big32) (hb : b < big32) (hn : n < 18446744073709551616) (hk : k < 256) (hc : c < big32) :
    Calls Try.prog 3 #[.string s, .int .u32 a, .int .u32 b, .int .u64 n, .int .u8 k, .int .u32 c] w fun e w' => e = .returned (.bool true) ∧ Below w.heap.size w w' := by
  have HS := Lib.hid (show s.size ≤ maxLen by unfold maxLen; omega)
  have HA := Lib.hid ha
  have HB := Lib.hid hb
  have HN := Lib.hid hn
  have HTn := Lib.hid (Ts_num k c hc)
  have heq := fun w => arr_eq st 9998 w
  have hz := arrZero
  clear ha hb hn hc
  go_enter Try.func3, Try.ntmps3
  go_wp2_with fail
  refine (rtable_any _).mono ?_; rintro e w1 ⟨rfl, b1⟩
  have H1 := Lib.hid (Ta.first b1 st)
  clear b1
  go_wp2_with (refine step_store rfl _ _ rfl _ st rfl rfl ?_)
  clear hz
  refine at_region H1.out (fun h0 => ?_)
  refine tk_load (i := 1) (d := some 20) rfl rfl (by kernel_rfl) (by kernel_rfl) (by kernel_rfl) (fun _ _ _ h => h) (by rfl) rfl rfl h0 ?_
  simp only [Act.put, List.setIfInBounds_toArray, List.set_cons_zero, List.set_cons_succ]
  refine at_call (i := 0) (by kernel_rfl) rfl (fun K hK => ?_)
  go_simp
  refine (table_any _).mono ?_; rintro e wr0 ⟨rfl, br⟩
  refine hK.out _ _ (h0.next br) (fun h1 => ?_)
  clear hK K h0 br
  (try simp only [Act.put, List.setIfInBounds_toArray, List.set_cons_zero, List.set_cons_succ])
  refine tk_op (i := 2) (d := some 21) (v := ?_) rfl rfl (by kernel_rfl) (by kernel_rfl) (by kernel_rfl) (fun _ _ _ h => h) (by rfl) (fun w hS => ?_) h1 ?_
  rotate_left
  · (go_simp; (try with_reducible rfl))
  simp only [Act.put, List.setIfInBounds_toArray, List.set_cons_zero, List.set_cons_succ]
  refine wpAnyH_done (by kernel_rfl) ?_ _

  have hcell := h1.t.cell hk
  have hfroz := h1.t.frozen k
  have H2 := Lib.hid (h1.set k c)
  clear h1 heq
  go_wp2_with fail
  refine at_region H2.out (fun h0 => ?_)
  refine tk_op (i := 0) (d := some 25) (v := ?_) rfl rfl (by kernel_rfl) (by kernel_rfl) (by kernel_rfl) (fun _ _ _ h => h) (by rfl) (fun w hS => ?_) h0 ?_
  rotate_left
  · (go_simp; (try with_reducible rfl))
  simp only [Act.put, List.setIfInBounds_toArray, List.set_cons_zero, List.set_cons_succ]
  refine tk_op (i := 2) (d := some 27) (v := ?_) rfl rfl (by kernel_rfl) (by kernel_rfl) (by kernel_rfl) (fun _ _ _ h => h) (by rfl) (fun w hS => ?_) h0 ?_
  rotate_left
  · (go_simp; (try with_reducible rfl))
  simp only [Act.put, List.setIfInBounds_toArray, List.set_cons_zero, List.set_cons_succ]
  refine at_call (i := 1) (by kernel_rfl) rfl (fun K hK => ?_)
  go_simp
  refine (adler_any s _ HS.out).mono ?_; rintro e w' ⟨rfl, rfl⟩
  refine hK.out _ _ h0 (fun h1 => ?_)
  clear hK K h0
  (try simp only [Act.put, List.setIfInBounds_toArray, List.set_cons_zero, List.set_cons_succ])
  refine at_call (i := 3) (by kernel_rfl) rfl (fun K hK => ?_)
  go_simp
  refine (radler_any 1 s _ (by decide) HS.out).mono ?_; rintro e w' ⟨rfl, rfl⟩
  refine hK.out _ _ h1 (fun h2 => ?_)
  clear hK K h1
  (try simp only [Act.put, List.setIfInBounds_toArray, List.set_cons_zero, List.set_cons_succ])
  refine tk_op (i := 4) (d := some 29) (v := ?_) rfl rfl (by kernel_rfl) (by kernel_rfl) (by kernel_rfl) (fun _ _ _ h => h) (by rfl) (fun w hS => ?_) h2 ?_
  rotate_left
  · (go_simp; (try with_reducible rfl))
  simp only [Act.put, List.setIfInBounds_toArray, List.set_cons_zero, List.set_cons_succ]
  refine tk_op (i := 5) (d := some 30) (v := ?_) rfl rfl (by kernel_rfl) (by kernel_rfl) (by kernel_rfl) (fun _ _ _ h => h) (by rfl) (fun w hS => ?_) h2 ?_
  rotate_left
  · (go_simp; (try with_reducible rfl))
  simp only [Act.put, List.setIfInBounds_toArray, List.set_cons_zero, List.set_cons_succ]
  refine tk_op (i := 6) (d := some 31) (v := ?_) rfl rfl (by kernel_rfl) (by kernel_rfl) (by kernel_rfl) (fun _ _ _ h => h) (by rfl) (fun w hS => ?_) h2 ?_
  rotate_left
  · (go_simp; (try with_reducible rfl))
  simp only [Act.put, List.setIfInBounds_toArray, List.set_cons_zero, List.set_cons_succ]
  refine tk_op (i := 7) (d := some 32) (v := ?_) rfl rfl (by kernel_rfl) (by kernel_rfl) (by kernel_rfl) (fun _ _ _ h => h) (by rfl) (fun w hS => ?_) h2 ?_
  rotate_left
  · (go_simp; (try with_reducible rfl))
  simp only [Act.put, List.setIfInBounds_toArray, List.set_cons_zero, List.set_cons_succ]
  refine tk_op (i := 9) (d := some 34) (v := ?_) rfl rfl (by kernel_rfl) (by kernel_rfl) (by kernel_rfl) (fun _ _ _ h => h) (by rfl) (fun w hS => ?_) h2 ?_
  rotate_left
  · (go_simp; (try with_reducible rfl))
  simp only [Act.put, List.setIfInBounds_toArray, List.set_cons_zero, List.set_cons_succ]
  refine tk_op (i := 10) (d := some 35) (v := ?_) rfl rfl (by kernel_rfl) (by kernel_rfl) (by kernel_rfl) (fun _ _ _ h => h) (by rfl) (fun w hS => ?_) h2 ?_
  rotate_left
  · (go_simp; (try with_reducible rfl))
  simp only [Act.put, List.setIfInBounds_toArray, List.set_cons_zero, List.set_cons_succ]
  refine at_call (i := 8) (by kernel_rfl) rfl (fun K hK => ?_)
  go_simp
  refine (more_any a s _ HA.out HS.out).mono ?_; rintro e w' ⟨rfl, rfl⟩
  refine hK.out _ _ h2 (fun h3 => ?_)
  clear hK K h2
  (try simp only [Act.put, List.setIfInBounds_toArray, List.set_cons_zero, List.set_cons_succ])
  refine at_call (i := 11) (by kernel_rfl) rfl (fun K hK => ?_)
  go_simp
  refine (radler_any a s _ HA.out HS.out).mono ?_; rintro e w' ⟨rfl, rfl⟩
  refine hK.out _ _ h3 (fun h4 => ?_)
  clear hK K h3
  (try simp only [Act.put, List.setIfInBounds_toArray, List.set_cons_zero, List.set_cons_succ])
  refine tk_op (i := 12) (d := some 37) (v := ?_) rfl rfl (by kernel_rfl) (by kernel_rfl) (by kernel_rfl) (fun _ _ _ h => h) (by rfl) (fun w hS => ?_) h4 ?_
  rotate_left
  · (go_simp; (try with_reducible rfl))
  simp only [Act.put, List.setIfInBounds_toArray, List.set_cons_zero, List.set_cons_succ]
  refine tk_op (i := 13) (d := some 38) (v := ?_) rfl rfl (by kernel_rfl) (by kernel_rfl) (by kernel_rfl) (fun _ _ _ h => h) (by rfl) (fun w hS => ?_) h4 ?_
  rotate_left
  · (go_simp; (try with_reducible rfl))
  simp only [Act.put, List.setIfInBounds_toArray, List.set_cons_zero, List.set_cons_succ]
  refine tk_op (i := 14) (d := some 39) (v := ?_) rfl rfl (by kernel_rfl) (by kernel_rfl) (by kernel_rfl) (fun _ _ _ h => h) (by rfl) (fun w hS => ?_) h4 ?_
  rotate_left
  · (go_simp; (try with_reducible rfl))
  simp only [Act.put, List.setIfInBounds_toArray, List.set_cons_zero, List.set_cons_succ]
  refine tk_op (i := 15) (d := some 40) (v := ?_) rfl rfl (by kernel_rfl) (by kernel_rfl) (by kernel_rfl) (fun _ _ _ h => h) (by rfl) (fun w hS => ?_) h4 ?_
  rotate_left
  · (go_simp; (try with_reducible rfl))
  simp only [Act.put, List.setIfInBounds_toArray, List.set_cons_zero, List.set_cons_succ]
  refine tk_op (i := 16) (d := some 41) (v := ?_) rfl rfl (by kernel_rfl) (by kernel_rfl) (by kernel_rfl) (fun _ _ _ h => h) (by rfl) (fun w hS => ?_) h4 ?_
  rotate_left
  · (go_simp; (try with_reducible rfl))
  simp only [Act.put, List.setIfInBounds_toArray, List.set_cons_zero, List.set_cons_succ]
  refine tk_op (i := 17) (d := some 42) (v := ?_) rfl rfl (by kernel_rfl) (by kernel_rfl) (by kernel_rfl) (fun _ _ _ h => h) (by rfl) (fun w hS => ?_) h4 ?_
  rotate_left
  · (go_simp; (try with_reducible rfl))
  simp only [Act.put, List.setIfInBounds_toArray, List.set_cons_zero, List.set_cons_succ]
  refine tk_op (i := 19) (d := some 44) (v := ?_) rfl rfl (by kernel_rfl) (by kernel_rfl) (by kernel_rfl) (fun _ _ _ h => h) (by rfl) (fun w hS => ?_) h4 ?_
  rotate_left
  · (go_simp; (try with_reducible rfl))
  simp only [Act.put, List.setIfInBounds_toArray, List.set_cons_zero, List.set_cons_succ]
  refine tk_op (i := 20) (d := some 45) (v := ?_) rfl rfl (by kernel_rfl) (by kernel_rfl) (by kernel_rfl) (fun _ _ _ h => h) (by rfl) (fun w hS => ?_) h4 ?_
  rotate_left
  · (go_simp; (try with_reducible rfl))
  simp only [Act.put, List.setIfInBounds_toArray, List.set_cons_zero, List.set_cons_succ]
  refine tk_op (i := 21) (d := some 46) (v := ?_) rfl rfl (by kernel_rfl) (by kernel_rfl) (by kernel_rfl) (fun _ _ _ h => h) (by rfl) (fun w hS => ?_) h4 ?_
  rotate_left
  · (go_simp; (try with_reducible rfl))
  simp only [Act.put, List.setIfInBounds_toArray, List.set_cons_zero, List.set_cons_succ]
  refine at_call (i := 18) (by kernel_rfl) rfl (fun K hK => ?_)
  go_simp
  refine (join_any a b n _ HA.out HB.out HN.out).mono ?_; rintro e w' ⟨rfl, rfl⟩
  refine hK.out _ _ h4 (fun h5 => ?_)
  clear hK K h4
  (try simp only [Act.put, List.setIfInBounds_toArray, List.set_cons_zero, List.set_cons_succ])
  refine at_call (i := 22) (by kernel_rfl) rfl (fun K hK => ?_)
  go_simp
  refine (rjoin_any a b n _ HA.out HB.out HN.out).mono ?_; rintro e w' ⟨rfl, rfl⟩
  refine hK.out _ _ h5 (fun h6 => ?_)
  clear hK K h5
  (try simp only [Act.put, List.setIfInBounds_toArray, List.set_cons_zero, List.set_cons_succ])
  refine tk_op (i := 23) (d := some 48) (v := ?_) rfl rfl (by kernel_rfl) (by kernel_rfl) (by kernel_rfl) (fun _ _ _ h => h) (by rfl) (fun w hS => ?_) h6 ?_
  rotate_left
  · (go_simp; (try with_reducible rfl))
  simp only [Act.put, List.setIfInBounds_toArray, List.set_cons_zero, List.set_cons_succ]
  refine tk_op (i := 24) (d := some 49) (v := ?_) rfl rfl (by kernel_rfl) (by kernel_rfl) (by kernel_rfl) (fun _ _ _ h => h) (by rfl) (fun w hS => ?_) h6 ?_
  rotate_left
  · (go_simp; (try with_reducible rfl))
  simp only [Act.put, List.setIfInBounds_toArray, List.set_cons_zero, List.set_cons_succ]
  refine tk_op (i := 25) (d := some 50) (v := ?_) rfl rfl (by kernel_rfl) (by kernel_rfl) (by kernel_rfl) (fun _ _ _ h => h) (by rfl) (fun w hS => ?_) h6 ?_
  rotate_left
  · (go_simp; (try with_reducible rfl))
  simp only [Act.put, List.setIfInBounds_toArray, List.set_cons_zero, List.set_cons_succ]
  refine tk_op (i := 26) (d := some 51) (v := ?_) rfl rfl (by kernel_rfl) (by kernel_rfl) (by kernel_rfl) (fun _ _ _ h => h) (by rfl) (fun w hS => ?_) h6 ?_
  rotate_left
  · (go_simp; (try with_reducible rfl))
  simp only [Act.put, List.setIfInBounds_toArray, List.set_cons_zero, List.set_cons_succ]
  refine tk_op (i := 28) (d := some 53) (v := ?_) rfl rfl (by kernel_rfl) (by kernel_rfl) (by kernel_rfl) (fun _ _ _ h => h) (by rfl) (fun w hS => ?_) h6 ?_
  rotate_left
  · (go_simp; (try with_reducible rfl))
  simp only [Act.put, List.setIfInBounds_toArray, List.set_cons_zero, List.set_cons_succ]
  refine at_call (i := 27) (by kernel_rfl) rfl (fun K hK => ?_)
  go_simp
  refine (crc_any s _ HS.out).mono ?_; rintro e wr6 ⟨rfl, br⟩
  refine hK.out _ _ (h6.next br) (fun h7 => ?_)
  clear hK K h6 br
  (try simp only [Act.put, List.setIfInBounds_toArray, List.set_cons_zero, List.set_cons_succ])
  refine at_call (i := 29) (by kernel_rfl) rfl (fun K hK => ?_)
  go_simp
  refine (rcrc_any s _ HS.out).mono ?_; rintro e w' ⟨rfl, rfl⟩
  refine hK.out _ _ h7 (fun h8 => ?_)
  clear hK K h7
  (try simp only [Act.put, List.setIfInBounds_toArray, List.set_cons_zero, List.set_cons_succ])
  refine tk_op (i := 30) (d := some 55) (v := ?_) rfl rfl (by kernel_rfl) (by kernel_rfl) (by kernel_rfl) (fun _ _ _ h => h) (by rfl) (fun w hS => ?_) h8 ?_
  rotate_left
  · (go_simp; (try with_reducible rfl))
  simp only [Act.put, List.setIfInBounds_toArray, List.set_cons_zero, List.set_cons_succ]
  refine tk_op (i := 31) (d := some 56) (v := ?_) rfl rfl (by kernel_rfl) (by kernel_rfl) (by kernel_rfl) (fun _ _ _ h => h) (by rfl) (fun w hS => ?_) h8 ?_
  rotate_left
  · (go_simp; (try with_reducible rfl))
  simp only [Act.put, List.setIfInBounds_toArray, List.set_cons_zero, List.set_cons_succ]
  refine tk_op (i := 32) (d := some 57) (v := ?_) rfl rfl (by kernel_rfl) (by kernel_rfl) (by kernel_rfl) (fun _ _ _ h => h) (by rfl) (fun w hS => ?_) h8 ?_
  rotate_left
  · (go_simp; (try with_reducible rfl))
  simp only [Act.put, List.setIfInBounds_toArray, List.set_cons_zero, List.set_cons_succ]
  refine tk_load (i := 33) (d := some 58) rfl rfl (by kernel_rfl) (by kernel_rfl) (by kernel_rfl) (fun _ _ _ h => h) (by rfl) rfl rfl h8 ?_
  simp only [Act.put, List.setIfInBounds_toArray, List.set_cons_zero, List.set_cons_succ]
  refine tk_op (i := 34) (d := some 59) (v := ?_) rfl rfl (by kernel_rfl) (by kernel_rfl) (by kernel_rfl) (fun _ _ _ h => h) (by rfl) (fun w hS => ?_) h8 ?_
  rotate_left
  · (go_simp; (try with_reducible rfl))
  simp only [Act.put, List.setIfInBounds_toArray, List.set_cons_zero, List.set_cons_succ]
  refine tk_op (i := 35) (d := some 60) (v := ?_) rfl rfl (by kernel_rfl) (by kernel_rfl) (by kernel_rfl) (fun _ _ _ h => h) (by rfl) (fun w hS => ?_) h8 ?_
  rotate_left
  · (go_simp; (try with_reducible rfl))
  simp only [Act.put, List.setIfInBounds_toArray, List.set_cons_zero, List.set_cons_succ]
  refine tk_load (i := 37) (d := some 62) rfl rfl (by kernel_rfl) (by kernel_rfl) (by kernel_rfl) (fun _ _ _ h => h) (by rfl) rfl rfl h8 ?_
  simp only [Act.put, List.setIfInBounds_toArray, List.set_cons_zero, List.set_cons_succ]
  refine tk_op (i := 38) (d := some 63) (v := ?_) rfl rfl (by kernel_rfl) (by kernel_rfl) (by kernel_rfl) (fun _ _ _ h => h) (by rfl) (fun w hS => ?_) h8 ?_
  rotate_left
  · (go_simp; (try with_reducible rfl))
  simp only [Act.put, List.setIfInBounds_toArray, List.set_cons_zero, List.set_cons_succ]
  refine tk_op (i := 39) (d := some 64) (v := ?_) rfl rfl (by kernel_rfl) (by kernel_rfl) (by kernel_rfl) (fun _ _ _ h => h) (by rfl) (fun w hS => ?_) h8 ?_
  rotate_left
  · (go_simp; (try with_reducible rfl))
  simp only [Act.put, List.setIfInBounds_toArray, List.set_cons_zero, List.set_cons_succ]
  refine at_call (i := 36) (by kernel_rfl) rfl (fun K hK => ?_)
  go_simp
  refine (cmore_any (Ts k c) a s _ HTn.out HA.out HS.out).mono ?_; rintro e wr8 ⟨rfl, br⟩
  refine hK.out _ _ (h8.next br) (fun h9 => ?_)
  clear hK K h8 br
  (try simp only [Act.put, List.setIfInBounds_toArray, List.set_cons_zero, List.set_cons_succ])
  refine at_call (i := 40) (by kernel_rfl) rfl (fun K hK => ?_)
  go_simp
  refine (rmore_any (Ts k c) a s _ HTn.out HA.out HS.out).mono ?_; rintro e wr9 ⟨rfl, br⟩
  refine hK.out _ _ (h9.next br) (fun h10 => ?_)
  clear hK K h9 br
  (try simp only [Act.put, List.setIfInBounds_toArray, List.set_cons_zero, List.set_cons_succ])
  refine tk_op (i := 41) (d := some 66) (v := ?_) rfl rfl (by kernel_rfl) (by kernel_rfl) (by kernel_rfl) (fun _ _ _ h => h) (by rfl) (fun w hS => ?_) h10 ?_
  rotate_left
  · (go_simp; (try with_reducible rfl))
  simp only [Act.put, List.setIfInBounds_toArray, List.set_cons_zero, List.set_cons_succ]
  refine tk_op (i := 42) (d := some 67) (v := ?_) rfl rfl (by kernel_rfl) (by kernel_rfl) (by kernel_rfl) (fun _ _ _ h => h) (by rfl) (fun w hS => ?_) h10 ?_
  rotate_left
  · (go_simp; (try with_reducible rfl))
  simp only [Act.put, List.setIfInBounds_toArray, List.set_cons_zero, List.set_cons_succ]
  refine tk_op (i := 43) (d := some 68) (v := ?_) rfl rfl (by kernel_rfl) (by kernel_rfl) (by kernel_rfl) (fun _ _ _ h => h) (by rfl) (fun w hS => ?_) h10 ?_
  rotate_left
  · (go_simp; (try with_reducible rfl))
  simp only [Act.put, List.setIfInBounds_toArray, List.set_cons_zero, List.set_cons_succ]
  refine at_call (i := 44) (by kernel_rfl) rfl (fun K hK => ?_)
  go_simp
  refine (alive_any _).mono ?_; rintro e wr10 ⟨rfl, br⟩
  refine hK.out _ _ (h10.next br) (fun h11 => ?_)
  clear hK K h10 br
  (try simp only [Act.put, List.setIfInBounds_toArray, List.set_cons_zero, List.set_cons_succ])
  refine tk_op (i := 45) (d := some 70) (v := ?_) rfl rfl (by kernel_rfl) (by kernel_rfl) (by kernel_rfl) (fun _ _ _ h => h) (by rfl) (fun w hS => ?_) h11 ?_
  rotate_left
  · (go_simp; (try with_reducible rfl))
  simp only [Act.put, List.setIfInBounds_toArray, List.set_cons_zero, List.set_cons_succ]
  refine tk_op (i := 46) (d := some 12) (v := ?_) rfl rfl (by kernel_rfl) (by kernel_rfl) (by kernel_rfl) (fun _ _ _ h => h) (by rfl) (fun w hS => ?_) h11 ?_
  rotate_left
  · (go_simp; (try with_reducible rfl))
  simp only [Act.put, List.setIfInBounds_toArray, List.set_cons_zero, List.set_cons_succ]
  refine wpAnyH_done (by kernel_rfl) ?_ _

  have H6 := Lib.hid h11
  go_wp2_with fail
  go_ret
  exact ⟨rfl, H6.out.b⟩

theorem SumsTells_walk (a0 : ByteArray) (a1 a2 a3 a4 a5 : Int) (w : World) (w0 : a0.size ≤ maxLen) (w1 : (Lit.int .u32 a1).wf = true) (w2 : (Lit.int .u32 a2).wf = true) (w3 : (Lit.int .u64 a3).wf = true) (w4 : (Lit.int .u8 a4).wf = true) (w5 : (Lit.int .u32 a5).wf = true) :
    Calls Try.prog 3 #[.string a0, .int .u32 a1, .int .u32 a2, .int .u64 a3, .int .u8 a4, .int .u32 a5] w fun e w' => e = .returned (.bool true) ∧ Below w.heap.size w w' := by
  by_cases h : a0.size ≤ 16384
  · obtain ⟨a, rfl, ha⟩ := u32_nat w1
    obtain ⟨b, rfl, hb⟩ := u32_nat w2
    obtain ⟨n, rfl, hn⟩ := u64_nat w3
    obtain ⟨k, rfl, hk⟩ := u8_nat w4
    obtain ⟨c, rfl, hc⟩ := u32_nat w5
    exact tells_yes a0 a b n k c w h ha hb hn hk hc
  · exact tells_far a0 a1 a2 a3 a4 a5 w (by omega)

end Go.Proofs.Ytoloamlodmefkaa
