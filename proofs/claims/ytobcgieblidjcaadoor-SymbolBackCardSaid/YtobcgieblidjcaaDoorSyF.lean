/- The length, or the distance, of a symbol and a number besides: what the program's functions answer; the document's examples. Conditions: as each theorem names them. -/
import Derived.Test.YtobcgieblidjcaaDoorSyE
namespace Go.Proofs.YtobcgieblidjcaaDoor
open Go Go.RowKit M
set_option linter.unusedVariables false
set_option linter.unusedSimpArgs false

theorem lof_many {i e : Nat} (hi : i < 28) (h : ¬ e < 2 ^ lb i) : lof i e = 0 := by
  unfold lof; rw [if_neg (fun q => h (Nat.lt_of_lt_of_le q.2 (ls_le (by omega))))]
theorem lof_few {i e : Nat} (hi : i < 28) (h : e < 2 ^ lb i) : lof i e = (if ll i + e ≤ 257 then ll i + e else 0) ∧ (0 < lof i e ↔ ll i + e ≤ 257) := by
  have h3 : ∀ i, i < 28 → 3 ≤ ll i ∧ (i ≠ 27 → ll i + 2 ^ lb i ≤ 227) := by decide
  obtain ⟨g1, g2⟩ := h3 i hi
  have hs := lof_ls (i := i) (e := e) (by omega)
  by_cases q : ll i + e ≤ 257
  · have : e < ls i := by
      refine hs.1 ⟨h, fun g => ?_⟩
      obtain ⟨rfl, rfl⟩ := g
      exact absurd q (by decide)
    unfold lof
    rw [if_pos ⟨by omega, this⟩, if_pos q]
    exact ⟨rfl, fun _ => q, fun _ => by omega⟩
  · have : ¬ e < ls i := fun g => by
      by_cases e27 : i = 27
      · subst e27
        have g' : e < 31 := g
        have q' : ¬ 227 + e ≤ 257 := q
        omega
      · have := g2 e27
        omega
    unfold lof
    rw [if_neg (fun g => this g.2), if_neg q]
    exact ⟨rfl, fun g => by omega, fun g => absurd g q⟩
theorem dof_many {i e : Nat} (h : ¬ e < 2 ^ db i) : dof i e = 0 := by
  unfold dof; rw [if_neg (fun q => h q.2)]
theorem dof_few {i e : Nat} (hi : i < 30) (h : e < 2 ^ db i) : dof i e = (if dl i + e ≤ 32768 then dl i + e else 0) ∧ (0 < dof i e ↔ dl i + e ≤ 32768) := by
  have h3 : ∀ i, i < 30 → 1 ≤ dl i ∧ dl i + 2 ^ db i ≤ 32769 := by decide
  obtain ⟨g1, g2⟩ := h3 i hi
  have q : dl i + e ≤ 32768 := by omega
  unfold dof
  rw [if_pos ⟨by omega, h⟩, if_pos q]
  exact ⟨rfl, fun _ => q, fun _ => by omega⟩

set_option maxRecDepth 1000000 in
theorem lengthOf_no (x : Int) (e : Nat) (w : World) (H : Tab w) (hx : x < 257 ∨ 285 < x) : Calls Tryd.prog 14 #[.int .i64 x, .int .u32 e] w fun y w' => y = .returned (.tuple #[.int .i64 0, .bool false]) ∧ Below w.heap.size w w' := by
  have HS := Lib.hid (show Calls Tryd.prog 23 #[.agg #[.int .i64 257, .int .i64 28, .int .i64 3, .int .i64 257, .int .i64 2], .int .i64 x, .int .u32 e] w fun y w' => y = .returned (.tuple #[.int .i64 0, .bool false]) ∧ Below w.heap.size w w' from numberOf_no 257 28 3 257 2 x e w (by decide) (by decide) (by omega))
  have c0 := H.l0
  have c1 := H.l1
  have c2 := H.l2
  have c3 := H.l3
  have c4 := H.l4
  have e1 : (x == 285) = false := by rw [beq_eq_false_iff_ne]; omega
  clear H hx
  go_enter Tryd.func14, Tryd.ntmps14
  go_wp2_with (go_at_call 23; (with_reducible refine HS.out.mono ?_); rintro e w1 ⟨rfl, b1⟩; have B1 := Lib.hid b1; clear b1)
  exact bodyPost_ret (v := .tuple #[.int .i64 0, .bool false]) (by simp [results, Tryd.results14, go_sem]) rfl ⟨rfl, B1.out⟩

set_option maxRecDepth 1000000 in
theorem lengthOf_yes (i e : Nat) (x : Int) (w : World) (H : Tab w) (hi : i ≤ 28) (hx : x = 257 + (i : Int)) : Calls Tryd.prog 14 #[.int .i64 x, .int .u32 e] w fun y w' => y = .returned (.tuple #[.int .i64 (lof i e : Nat), .bool (decide (0 < lof i e))]) ∧ Below w.heap.size w w' := by
  by_cases h : i = 28
  · subst h
    obtain rfl : x = 285 := by omega
    by_cases g : e = 0
    · subst g
      show Calls Tryd.prog 14 #[.int .i64 285, .int .u32 0] w fun y w' => y = .returned (.tuple #[.int .i64 258, .bool true]) ∧ Below w.heap.size w w'
      go_enter Tryd.func14, Tryd.ntmps14
      go_wp2_with fail
      exact bodyPost_ret (v := .tuple #[.int .i64 258, .bool true]) (by simp [results, Tryd.results14, go_sem]) rfl ⟨rfl, Below.refl _ _⟩
    · have hv : lof 28 e = 0 := by
        unfold lof
        rw [if_neg (fun q => by have : e < 1 := q.2; omega)]
      rw [hv]
      show Calls Tryd.prog 14 #[.int .i64 285, .int .u32 e] w fun y w' => y = .returned (.tuple #[.int .i64 0, .bool false]) ∧ Below w.heap.size w w'
      have HS := Lib.hid (show Calls Tryd.prog 23 #[.agg #[.int .i64 257, .int .i64 28, .int .i64 3, .int .i64 257, .int .i64 2], (.int .i64 285), .int .u32 e] w fun y w' => y = .returned (.tuple #[.int .i64 0, .bool false]) ∧ Below w.heap.size w w' from numberOf_no 257 28 3 257 2 285 e w (by decide) (by decide) (.inr (by decide)))
      have c0 := H.l0
      have c1 := H.l1
      have c2 := H.l2
      have c3 := H.l3
      have c4 := H.l4
      have e1 : ((e : Int) == 0) = false := by rw [beq_eq_false_iff_ne]; omega
      have e2 : (e == 0) = false := by rw [beq_eq_false_iff_ne]; exact g
      clear H hi hx g hv
      go_enter Tryd.func14, Tryd.ntmps14
      go_wp2_with (go_at_call 23; (with_reducible refine HS.out.mono ?_); rintro e w1 ⟨rfl, b1⟩; have B1 := Lib.hid b1; clear b1)
      exact bodyPost_ret (v := .tuple #[.int .i64 0, .bool false]) (by simp [results, Tryd.results14, go_sem]) rfl ⟨rfl, B1.out⟩
  · have hi' : i < 28 := by omega
    have c0 := H.l0
    have c1 := H.l1
    have c2 := H.l2
    have c3 := H.l3
    have c4 := H.l4
    have e1 : (x == 285) = false := by rw [beq_eq_false_iff_ne]; omega
    obtain ⟨v, b, HS, hv, hb⟩ : ∃ (v : Nat) (b : Bool), Hid (Calls Tryd.prog 23 #[.agg #[.int .i64 257, .int .i64 28, .int .i64 3, .int .i64 257, .int .i64 2], .int .i64 x, .int .u32 e] w fun y w' => y = .returned (.tuple #[.int .i64 v, .bool b]) ∧ Below w.heap.size w w') ∧ lof i e = v ∧ decide (0 < lof i e) = b := by
      by_cases q : e < 2 ^ lb i
      · obtain ⟨f1, f2⟩ := lof_few hi' q
        have hq := numberOf_yes 257 28 3 257 2 i e x w (by decide) (by decide) (by decide) (.inr rfl) (by decide) hi' (by omega) (by rw [bt_lb i hi']; exact q) (by rw [lt_ll i hi']; have := ll_le i hi; omega)
        rw [lt_ll i hi'] at hq
        exact ⟨_, _, Lib.hid hq, f1, decide_eq_decide.2 f2⟩
      · have hq := numberOf_many 257 28 3 257 2 i e x w (by decide) (by decide) (.inr rfl) hi' (by omega) (by rw [bt_lb i hi']; exact q)
        exact ⟨0, false, Lib.hid hq, lof_many hi' q, by rw [lof_many hi' q]; rfl⟩
    rw [hb, hv]
    clear H hi hi' hx h hb hv
    go_enter Tryd.func14, Tryd.ntmps14
    go_wp2_with (go_at_call 23; (with_reducible refine HS.out.mono ?_); rintro e w1 ⟨rfl, b1⟩; have B1 := Lib.hid b1; clear b1)
    exact bodyPost_ret (v := .tuple #[.int .i64 v, .bool b]) (by simp [results, Tryd.results14, go_sem]) rfl ⟨rfl, B1.out⟩

set_option maxRecDepth 1000000 in
theorem distOf_no (x : Int) (e : Nat) (w : World) (H : Tab w) (hx : x < 0 ∨ 29 < x) : Calls Tryd.prog 15 #[.int .i64 x, .int .u32 e] w fun y w' => y = .returned (.tuple #[.int .i64 0, .bool false]) ∧ Below w.heap.size w w' := by
  have HS := Lib.hid (show Calls Tryd.prog 23 #[.agg #[.int .i64 0, .int .i64 30, .int .i64 1, .int .i64 32768, .int .i64 1], .int .i64 x, .int .u32 e] w fun y w' => y = .returned (.tuple #[.int .i64 0, .bool false]) ∧ Below w.heap.size w w' from numberOf_no 0 30 1 32768 1 x e w (by decide) (by decide) (by omega))
  have c0 := H.d0
  have c1 := H.d1
  have c2 := H.d2
  have c3 := H.d3
  have c4 := H.d4
  clear H hx
  go_enter Tryd.func15, Tryd.ntmps15
  go_wp2_with (go_at_call 23; (with_reducible refine HS.out.mono ?_); rintro e w1 ⟨rfl, b1⟩; have B1 := Lib.hid b1; clear b1)
  exact bodyPost_ret (v := .tuple #[.int .i64 0, .bool false]) (by simp [results, Tryd.results15, go_sem]) rfl ⟨rfl, B1.out⟩

set_option maxRecDepth 1000000 in
theorem distOf_yes (i e : Nat) (x : Int) (w : World) (H : Tab w) (hi : i ≤ 29) (hx : x = (i : Int)) : Calls Tryd.prog 15 #[.int .i64 x, .int .u32 e] w fun y w' => y = .returned (.tuple #[.int .i64 (dof i e : Nat), .bool (decide (0 < dof i e))]) ∧ Below w.heap.size w w' := by
  have hi' : i < 30 := by omega
  have c0 := H.d0
  have c1 := H.d1
  have c2 := H.d2
  have c3 := H.d3
  have c4 := H.d4
  obtain ⟨v, b, HS, hv, hb⟩ : ∃ (v : Nat) (b : Bool), Hid (Calls Tryd.prog 23 #[.agg #[.int .i64 0, .int .i64 30, .int .i64 1, .int .i64 32768, .int .i64 1], .int .i64 x, .int .u32 e] w fun y w' => y = .returned (.tuple #[.int .i64 v, .bool b]) ∧ Below w.heap.size w w') ∧ dof i e = v ∧ decide (0 < dof i e) = b := by
    by_cases q : e < 2 ^ db i
    · obtain ⟨f1, f2⟩ := dof_few hi' q
      have hq := numberOf_yes 0 30 1 32768 1 i e x w (by decide) (by decide) (by decide) (.inl rfl) (by decide) hi' (by omega) (by rw [bt_db i hi']; exact q) (by rw [lt_dl i hi']; have := dl_le i hi; omega)
      rw [lt_dl i hi'] at hq
      exact ⟨_, _, Lib.hid hq, f1, decide_eq_decide.2 f2⟩
    · have hq := numberOf_many 0 30 1 32768 1 i e x w (by decide) (by decide) (.inl rfl) hi' (by omega) (by rw [bt_db i hi']; exact q)
      exact ⟨0, false, Lib.hid hq, dof_many q, by rw [dof_many q]; rfl⟩
  rw [hb, hv]
  clear H hi hi' hx hb hv
  go_enter Tryd.func15, Tryd.ntmps15
  go_wp2_with (go_at_call 23; (with_reducible refine HS.out.mono ?_); rintro e w1 ⟨rfl, b1⟩; have B1 := Lib.hid b1; clear b1)
  exact bodyPost_ret (v := .tuple #[.int .i64 v, .bool b]) (by simp [results, Tryd.results15, go_sem]) rfl ⟨rfl, B1.out⟩


set_option maxRecDepth 1000000 in
theorem works_any (w : World) (H : Tab w) : Calls Tryd.prog 18 #[] w fun e w' => e = .returned (.bool true) ∧ Below w.heap.size w w' := by
  have HL := Lib.hid (show Calls Tryd.prog 6 #[.int .i64 13] w fun e w' => e = .returned (.tuple #[.int .i64 266, .int .u32 0, .int .i64 1, .bool true]) ∧ Below w.heap.size w w' from length_yes 13 w H (by decide))
  have HD := Lib.hid (fun w1 (h : Tab w1) => (show Calls Tryd.prog 8 #[.int .i64 6] w1 fun e w' => e = .returned (.tuple #[.int .i64 4, .int .u32 1, .int .i64 1, .bool true]) ∧ Below w1.heap.size w1 w' from dist_yes 6 w1 h (by decide)))
  have HO := Lib.hid (fun w1 (h : Tab w1) => (show Calls Tryd.prog 14 #[.int .i64 284, .int .u32 31] w1 fun e w' => e = .returned (.tuple #[.int .i64 0, .bool false]) ∧ Below w1.heap.size w1 w' from lengthOf_yes 27 31 284 w1 h (by decide) (by decide)))
  have HH := Lib.hid H
  clear H
  go_enter Tryd.func18, Tryd.ntmps18
  go_wp2_with (first
    | (go_at_call 6; (with_reducible refine HL.out.mono ?_); rintro e w1 ⟨rfl, b1⟩; have B1 := Lib.hid b1; clear b1)
    | (go_at_call 8; (with_reducible refine (HD.out _ (HH.out.below B1.out (Nat.le_refl _))).mono ?_); rintro e w2 ⟨rfl, b2⟩; have B2 := Lib.hid (B1.out.trans (b2.mono B1.out.size)); clear b2)
    | (go_at_call 14; (with_reducible refine (HO.out _ (HH.out.below B2.out (Nat.le_refl _))).mono ?_); rintro e w3 ⟨rfl, b3⟩; have B3 := Lib.hid (B2.out.trans (b3.mono B2.out.size)); clear b3))
  go_ret
  exact ⟨rfl, B3.out⟩
end Go.Proofs.YtobcgieblidjcaaDoor
