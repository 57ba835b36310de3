/- PackTells returns true for any counts, any limit, any number. Conditions: none. -/
import Derived.Test.YteicamfelamfhaaRfL
namespace Go.Proofs.Yteicamfelamfhaa
open Go.RowKit M
set_option linter.unusedVariables false

theorem i64_wf {a : Int} (h : (Lit.int .i64 a).wf = true) : -9223372036854775808 ≤ a ∧ a ≤ 9223372036854775807 := by
  simpa [Lit.wf, IntKind.min, IntKind.max, IntKind.signed, IntKind.bits] using h

theorem tells_far (A : Option Addr) (n c : Nat) (L x : Int) (W : World) (hn : n ≤ maxLen) (h : 330 < n) :
    Calls Try.prog 3 #[.slice A n c, .int .i64 L, .int .i64 x] W fun e w' => e = .returned (.bool true) ∧ Below W.heap.size W w' := by
  have hn' : n ≤ 9223372036854775807 := by unfold maxLen at hn; omega
  have d1 : decide (330 < (n : Int)) = true := decide_eq_true (by omega)
  clear h
  go_enter Try.func3, Try.ntmps3
  go_wp2_with fail
  refine (alive_any _).mono ?_; rintro e w2 ⟨rfl, b2⟩
  go_wp2_with fail
  go_ret
  exact ⟨rfl, b2⟩

set_option maxHeartbeats 1000000 in
set_option maxRecDepth 1000000 in
theorem tells_bad (A : Option Addr) (n c' : Nat) (z : Nat → Int) (L x : Int) (W : World) (hn : n ≤ 330) (x0 : -9223372036854775808 ≤ x) (H : Nums W .i64 A n z) (hb : ¬ MayC z n ∨ L < 1 ∨ 15 < L) :
    Calls Try.prog 3 #[.slice A n c', .int .i64 L, .int .i64 x] W fun e w' => e = .returned (.bool true) ∧ Below W.heap.size W w' := by
  have d1 : decide (330 < (n : Int)) = false := decide_eq_false (by omega)
  have C1 := Lib.hid (lens_bad A n c' z L W (by unfold maxLen; omega) H hb)
  have C2 := Lib.hid (fun w (hw : Below W.heap.size W w) => rlens_bad A n c' z L w (by unfold maxLen; omega) (H.below hw) hb)
  by_cases hx : x ≤ 1099511627776
  · have NA := Lib.hid (fun w => needs_any x w x0 hx)
    have NB := Lib.hid (fun w => rneeds_any x w x0 hx)
    obtain ⟨r, hr⟩ : ∃ r, nds x.toNat = r := ⟨_, rfl⟩
    rw [hr] at NA NB
    have dx : decide (1099511627776 < x) = false := decide_eq_false (by omega)
    clear hr H hb
    go_enter Try.func3, Try.ntmps3
    go_wp2_with fail
    refine C1.out.mono ?_; rintro e1 w1 ⟨rfl, b1⟩
    have B1 := Lib.hid b1
    clear b1
    go_wp2_with fail
    refine (C2.out _ B1.out).mono ?_; rintro e2 w2 ⟨rfl, b2⟩
    have B2 := Lib.hid (B1.out.trans (b2.mono B1.out.size))
    clear b2
    go_wp2_with fail
    refine (sameLens_any none none 0 0 0 (fun _ => 0) (fun _ => 0) _ (Nat.zero_le _) (fun h => absurd h (by omega)) (fun h => absurd h (by omega)) (fun _ _ => rfl)).mono ?_; rintro e0 w5 ⟨rfl, q5, rfl⟩
    go_wp2_with fail
    refine (NA.out _).mono ?_; rintro e0 wx ⟨rfl, rfl⟩
    go_wp2_with fail
    refine (NB.out _).mono ?_; rintro e0 wx ⟨rfl, rfl⟩
    go_wp2_with fail
    refine (alive_any _).mono ?_; rintro e0 w6 ⟨rfl, b6⟩
    go_wp2_with fail
    go_ret
    exact ⟨rfl, (below_drewN B2.out _).trans (b6.mono B2.out.size)⟩
  · have dx : decide (1099511627776 < x) = true := decide_eq_true (by omega)
    clear H hb
    go_enter Try.func3, Try.ntmps3
    go_wp2_with fail
    refine C1.out.mono ?_; rintro e1 w1 ⟨rfl, b1⟩
    have B1 := Lib.hid b1
    clear b1
    go_wp2_with fail
    refine (C2.out _ B1.out).mono ?_; rintro e2 w2 ⟨rfl, b2⟩
    have B2 := Lib.hid (B1.out.trans (b2.mono B1.out.size))
    clear b2
    go_wp2_with fail
    refine (sameLens_any none none 0 0 0 (fun _ => 0) (fun _ => 0) _ (Nat.zero_le _) (fun h => absurd h (by omega)) (fun h => absurd h (by omega)) (fun _ _ => rfl)).mono ?_; rintro e0 w5 ⟨rfl, q5, rfl⟩
    go_wp2_with fail
    refine (alive_any _).mono ?_; rintro e0 w6 ⟨rfl, b6⟩
    go_wp2_with fail
    go_ret
    exact ⟨rfl, (below_drewN B2.out _).trans (b6.mono B2.out.size)⟩

set_option maxHeartbeats 1000000 in
set_option maxRecDepth 1000000 in
theorem tells_few (A : Option Addr) (n c' L m : Nat) (x : Int) (c : Nat → Nat) (e : Nat → Nat × Nat) (W : World) (hn : n ≤ 320) (x0 : -9223372036854775808 ≤ x) (hc : ∀ i, c i ≤ 1073741824) (H : Nums W .i64 A n (fun i => (c i : Int))) (h1 : 1 ≤ L) (h2 : L ≤ 15) (hl : IsLv c n m e) (hb : L < nds m) :
    Calls Try.prog 3 #[.slice A n c', .int .i64 (L : Int), .int .i64 x] W fun e w' => e = .returned (.bool true) ∧ Below W.heap.size W w' := by
  have d1 : decide (330 < (n : Int)) = false := decide_eq_false (by omega)
  have C1 := Lib.hid (lens_few A n c' L m c e W hn hc H h1 h2 hl hb)
  have C2 := Lib.hid (fun w (hw : Below W.heap.size W w) => rlens_few A n c' L m c e w hn hc (H.below hw) h1 h2 hl hb)
  by_cases hx : x ≤ 1099511627776
  · have NA := Lib.hid (fun w => needs_any x w x0 hx)
    have NB := Lib.hid (fun w => rneeds_any x w x0 hx)
    obtain ⟨r, hr⟩ : ∃ r, nds x.toNat = r := ⟨_, rfl⟩
    rw [hr] at NA NB
    have dx : decide (1099511627776 < x) = false := decide_eq_false (by omega)
    clear hr H hb hc hl
    go_enter Try.func3, Try.ntmps3
    go_wp2_with fail
    refine C1.out.mono ?_; rintro e1 w1 ⟨rfl, b1⟩
    have B1 := Lib.hid b1
    clear b1
    go_wp2_with fail
    refine (C2.out _ B1.out).mono ?_; rintro e2 w2 ⟨rfl, b2⟩
    have B2 := Lib.hid (B1.out.trans (b2.mono B1.out.size))
    clear b2
    go_wp2_with fail
    refine (sameLens_any none none 0 0 0 (fun _ => 0) (fun _ => 0) _ (Nat.zero_le _) (fun h => absurd h (by omega)) (fun h => absurd h (by omega)) (fun _ _ => rfl)).mono ?_; rintro e0 w5 ⟨rfl, q5, rfl⟩
    go_wp2_with fail
    refine (NA.out _).mono ?_; rintro e0 wx ⟨rfl, rfl⟩
    go_wp2_with fail
    refine (NB.out _).mono ?_; rintro e0 wx ⟨rfl, rfl⟩
    go_wp2_with fail
    refine (alive_any _).mono ?_; rintro e0 w6 ⟨rfl, b6⟩
    go_wp2_with fail
    go_ret
    exact ⟨rfl, (below_drewN B2.out _).trans (b6.mono B2.out.size)⟩
  · have dx : decide (1099511627776 < x) = true := decide_eq_true (by omega)
    clear H hb hc hl
    go_enter Try.func3, Try.ntmps3
    go_wp2_with fail
    refine C1.out.mono ?_; rintro e1 w1 ⟨rfl, b1⟩
    have B1 := Lib.hid b1
    clear b1
    go_wp2_with fail
    refine (C2.out _ B1.out).mono ?_; rintro e2 w2 ⟨rfl, b2⟩
    have B2 := Lib.hid (B1.out.trans (b2.mono B1.out.size))
    clear b2
    go_wp2_with fail
    refine (sameLens_any none none 0 0 0 (fun _ => 0) (fun _ => 0) _ (Nat.zero_le _) (fun h => absurd h (by omega)) (fun h => absurd h (by omega)) (fun _ _ => rfl)).mono ?_; rintro e0 w5 ⟨rfl, q5, rfl⟩
    go_wp2_with fail
    refine (alive_any _).mono ?_; rintro e0 w6 ⟨rfl, b6⟩
    go_wp2_with fail
    go_ret
    exact ⟨rfl, (below_drewN B2.out _).trans (b6.mono B2.out.size)⟩

set_option maxHeartbeats 1000000 in
set_option maxRecDepth 1000000 in
theorem tells_ok (A : Option Addr) (n c' L m : Nat) (x : Int) (c : Nat → Nat) (e : Nat → Nat × Nat) (W : World) (hn : n ≤ 320) (x0 : -9223372036854775808 ≤ x) (hc : ∀ i, c i ≤ 1073741824) (H : Nums W .i64 A n (fun i => (c i : Int))) (h1 : 1 ≤ L) (h2 : L ≤ 15) (hl : IsLv c n m e) (hb : nds m ≤ L) :
    Calls Try.prog 3 #[.slice A n c', .int .i64 (L : Int), .int .i64 x] W fun e w' => e = .returned (.bool true) ∧ Below W.heap.size W w' := by
  have d1 : decide (330 < (n : Int)) = false := decide_eq_false (by omega)
  have C1 := Lib.hid (lens_ok A n c' L m c e W hn hc H h1 h2 hl hb)
  have C2 := Lib.hid (fun w (hw : Below W.heap.size W w) => rlens_ok A n c' L m c e w hn hc (H.below hw) h1 h2 hl hb)
  by_cases hx : x ≤ 1099511627776
  · have NA := Lib.hid (fun w => needs_any x w x0 hx)
    have NB := Lib.hid (fun w => rneeds_any x w x0 hx)
    obtain ⟨r, hr⟩ : ∃ r, nds x.toNat = r := ⟨_, rfl⟩
    rw [hr] at NA NB
    have dx : decide (1099511627776 < x) = false := decide_eq_false (by omega)
    clear hr H hb hc hl
    go_enter Try.func3, Try.ntmps3
    go_wp2_with fail
    refine C1.out.mono ?_; rintro e1 w1 ⟨g1, rfl, l1, r1, b1⟩
    have R1 := Lib.hid r1
    have B1 := Lib.hid b1
    clear r1 b1 l1
    go_wp2_with fail
    refine (C2.out _ B1.out).mono ?_; rintro e2 w2 ⟨g2, rfl, l2, r2, b2⟩
    have R2 := Lib.hid r2
    have R1 := Lib.hid (R1.out.below b2 R1.out.lt)
    have B2 := Lib.hid (B1.out.trans (b2.mono B1.out.size))
    clear r2 b2 l2
    go_wp2_with fail
    refine (sameLens_any (some ⟨g1, 0, none⟩) (some ⟨g2, 0, none⟩) n n n (pl m e L) (pl m e L) _ (by unfold maxLen; omega) R1.out.nums R2.out.nums (fun _ _ => rfl)).mono ?_; rintro e0 w5 ⟨rfl, q5, rfl⟩
    go_wp2_with fail
    refine (NA.out _).mono ?_; rintro e0 wx ⟨rfl, rfl⟩
    go_wp2_with fail
    refine (NB.out _).mono ?_; rintro e0 wx ⟨rfl, rfl⟩
    go_wp2_with fail
    refine (alive_any _).mono ?_; rintro e0 w6 ⟨rfl, b6⟩
    go_wp2_with fail
    go_ret
    exact ⟨rfl, (below_drewN B2.out _).trans (b6.mono B2.out.size)⟩
  · have dx : decide (1099511627776 < x) = true := decide_eq_true (by omega)
    clear H hb hc hl
    go_enter Try.func3, Try.ntmps3
    go_wp2_with fail
    refine C1.out.mono ?_; rintro e1 w1 ⟨g1, rfl, l1, r1, b1⟩
    have R1 := Lib.hid r1
    have B1 := Lib.hid b1
    clear r1 b1 l1
    go_wp2_with fail
    refine (C2.out _ B1.out).mono ?_; rintro e2 w2 ⟨g2, rfl, l2, r2, b2⟩
    have R2 := Lib.hid r2
    have R1 := Lib.hid (R1.out.below b2 R1.out.lt)
    have B2 := Lib.hid (B1.out.trans (b2.mono B1.out.size))
    clear r2 b2 l2
    go_wp2_with fail
    refine (sameLens_any (some ⟨g1, 0, none⟩) (some ⟨g2, 0, none⟩) n n n (pl m e L) (pl m e L) _ (by unfold maxLen; omega) R1.out.nums R2.out.nums (fun _ _ => rfl)).mono ?_; rintro e0 w5 ⟨rfl, q5, rfl⟩
    go_wp2_with fail
    refine (alive_any _).mono ?_; rintro e0 w6 ⟨rfl, b6⟩
    go_wp2_with fail
    go_ret
    exact ⟨rfl, (below_drewN B2.out _).trans (b6.mono B2.out.size)⟩

theorem PackTells_walk (a0 : Option Addr) (len0 cap0 : Nat) (z0 : List Int) (a1 a2 : Int) (w : World) (w0 : IsRow .i64 w a0 len0 cap0 z0) (w1 : (Lit.int .i64 a1).wf = true) (w2 : (Lit.int .i64 a2).wf = true) :
    Calls Try.prog 3 #[.slice a0 len0 cap0, .int .i64 a1, .int .i64 a2] w fun e w' => e = .returned (.bool true) ∧ Below w.heap.size w w' := by
  have hm := w0.most
  have hx := (i64_wf w2).1
  by_cases h : 330 < len0
  · exact tells_far a0 len0 cap0 a1 a2 w (by omega) h
  by_cases hb : ¬ MayC (fun i => z0.getD i 0) len0 ∨ a1 < 1 ∨ 15 < a1
  · exact tells_bad a0 len0 cap0 _ a1 a2 w (by omega) hx w0.nums hb
  have hM : MayC (fun i => z0.getD i 0) len0 := Classical.byContradiction fun g => hb (.inl g)
  have hL1 : ¬ a1 < 1 := fun g => hb (.inr (.inl g))
  have hL2 : ¬ 15 < a1 := fun g => hb (.inr (.inr g))
  obtain ⟨L, hL⟩ : ∃ L : Nat, a1 = L := ⟨a1.toNat, by omega⟩
  subst hL
  obtain ⟨c, hc⟩ : ∃ c : Nat → Nat, c = fun i => if i < len0 then (z0.getD i 0).toNat else 0 := ⟨_, rfl⟩
  have hcb : ∀ i, c i ≤ 1073741824 := fun i => by
    rw [hc]
    show (if i < len0 then (z0.getD i 0).toNat else 0) ≤ 1073741824
    split
    · rename_i g
      have := hM.2 i g
      have h3 : 0 ≤ z0.getD i 0 ∧ z0.getD i 0 ≤ 1073741824 := this
      omega
    · omega
  have hN : Nums w .i64 a0 len0 (fun i => (c i : Int)) := w0.nums.congr fun i hi => by
    have h3 : 0 ≤ z0.getD i 0 ∧ z0.getD i 0 ≤ 1073741824 := hM.2 i hi
    rw [hc]
    show z0.getD i 0 = (((if i < len0 then (z0.getD i 0).toNat else 0 : Nat)) : Int)
    rw [if_pos hi]; omega
  obtain ⟨m, e, hl⟩ := lv_ex c len0
  by_cases hq : nds m ≤ L
  · exact tells_ok a0 len0 cap0 L m a2 c e w hM.1 hx hcb hN (by omega) (by omega) hl hq
  · exact tells_few a0 len0 cap0 L m a2 c e w hM.1 hx hcb hN (by omega) (by omega) hl (by omega)
end Go.Proofs.Yteicamfelamfhaa
