/- ModsReads returns true for any argument that its kinds hold. Conditions: none. -/
import Derived.Test.YtbbfbijgclpjeaaOdS
namespace Go.Proofs.Ytbbfbijgclpjeaa
open Go Go.RowKit M O
set_option linter.unusedVariables false
set_option linter.unusedSimpArgs false

set_option maxRecDepth 1000000 in
set_option maxHeartbeats 2000000 in
theorem ModsReads_walk (a0 : Int) (a1 a2 : ByteArray) (W : World) (w0 : (Lit.int .i64 a0).wf = true) (w1 : a1.size ≤ maxLen) (w2 : a2.size ≤ maxLen) :
    Calls Try.prog 4 #[.int .i64 a0, .string a1, .string a2] W fun e w' => e = .returned (.bool true) ∧ Below W.heap.size W w' := by
  unfold maxLen at w1 w2
  have HV := Lib.hid alive_any
  clear w0
  by_cases h1 : 32768 < a1.size
  · have d1 : decide (32768 < (a1.size : Int)) = true := decide_eq_true (by omega)
    have d1' : decide (32768 < a1.size) = true := decide_eq_true h1
    clear h1
    go_enter Try.func4, Try.ntmps4
    go_wp2_with (go_at_call 11; (with_reducible refine (HV.out _).mono ?_); rintro e w4 ⟨rfl, b4⟩; have B4 := Lib.hid b4; clear b4)
    go_ret
    exact ⟨rfl, B4.out⟩
  · have d1 : decide (32768 < (a1.size : Int)) = false := decide_eq_false (by omega)
    have d1' : decide (32768 < a1.size) = false := decide_eq_false h1
    by_cases h2 : 16385 < a2.size
    · have d2 : decide (16385 < (a2.size : Int)) = true := decide_eq_true (by omega)
      have d2' : decide (16385 < a2.size) = true := decide_eq_true h2
      clear h1 h2
      go_enter Try.func4, Try.ntmps4
      go_wp2_with (go_at_call 11; (with_reducible refine (HV.out _).mono ?_); rintro e w4 ⟨rfl, b4⟩; have B4 := Lib.hid b4; clear b4)
      go_ret
      exact ⟨rfl, B4.out⟩
    · have d2 : decide (16385 < (a2.size : Int)) = false := decide_eq_false (by omega)
      have d2' : decide (16385 < a2.size) = false := decide_eq_false h2
      obtain ⟨L, E, hLE⟩ : ∃ L E, decl a0 a1.data.toList = (L, E) := ⟨_, _, rfl⟩
      obtain ⟨X, F, hXF⟩ : ∃ X F, rpl a2.data.toList a1.data.toList = (X, F) := ⟨_, _, rfl⟩
      have hd := fun w => decode_any a0 a1 w (by omega)
      have hd' := fun w => rdecode_any a0 a1 w (by omega)
      have HD := Lib.hid (show ∀ w, Calls Try.prog 22 #[.int .i64 a0, .string a1] w fun e w' => ∃ A n c, e = .returned (.tuple #[.slice A n c, .int .i64 E]) ∧ IsMds w' A n L ∧ n ≤ 1000000 ∧ Below w.heap.size w w' from fun w => (hd w).mono (fun e w' ⟨A, n, c, q1, q2, q3, _, q5⟩ => by rw [hLE] at q1 q2; exact ⟨A, n, c, q1, q2, by rw [size_list] at q3; omega, q5⟩))
      have HD' := Lib.hid (show ∀ w, Calls Try.prog 23 #[.int .i64 a0, .string a1] w fun e w' => ∃ A n c, e = .returned (.tuple #[.slice A n c, .int .i64 E]) ∧ IsMds w' A n L ∧ n ≤ 1000000 ∧ Below w.heap.size w w' from fun w => (hd' w).mono (fun e w' ⟨A, n, c, q1, q2, q3, _, q5⟩ => by rw [hLE] at q1 q2; exact ⟨A, n, c, q1, q2, by rw [size_list] at q3; omega, q5⟩))
      have hr := fun w => replay_any a2 a1 w (by omega) (by omega)
      have hr' := fun w => rreplay_any a2 a1 w (by omega) (by omega)
      rw [hXF] at hr hr'
      obtain ⟨Y, hY⟩ : ∃ Y, bstr X = Y := ⟨_, rfl⟩
      simp only [hY] at hr hr'
      have HR := Lib.hid hr
      have HR' := Lib.hid hr'
      have HS := Lib.hid (show ∀ A B n c m c' w, IsMds w A n L → IsMds w B m L → n ≤ 1000000 → m ≤ 1000000 → Calls Try.prog 26 #[.slice A n c, .slice B m c'] w fun e w' => e = .returned (.bool true) ∧ Below w.heap.size w w' from fun A B n c m c' w i1 i2 l1 l2 => by
        have := rsame_any A B n c m c' L L w i1 i2 l1 l2
        rwa [decide_eq_true rfl] at this)
      clear h1 h2 hd hd' hr hr' hLE hXF hY
      go_enter Try.func4, Try.ntmps4
      go_wp2_with (first
        | (go_at_call 22; (with_reducible refine (HD.out _).mono ?_); rintro e w4 ⟨A, n, c, rfl, i4, l4, b4⟩; have I4 := Lib.hid i4; have L4 := Lib.hid l4; have B4 := Lib.hid b4; clear i4 l4 b4)
        | (go_at_call 23; (with_reducible refine (HD'.out _).mono ?_); rintro e w5 ⟨A', n', c', rfl, i5, l5, b5⟩; have I5 := Lib.hid i5; have J5 := Lib.hid (I4.out.below b5); have L5 := Lib.hid l5; have B5 := Lib.hid (B4.out.trans (b5.mono B4.out.size)); clear i5 l5 b5)
        | (go_at_call 24; (with_reducible refine (HR.out _).mono ?_); rintro e w6 ⟨rfl, b6⟩; have I6 := Lib.hid (I5.out.below b6); have J6 := Lib.hid (J5.out.below b6); have B6 := Lib.hid (B5.out.trans (b6.mono B5.out.size)); clear b6)
        | (go_at_call 25; (with_reducible refine (HR'.out _).mono ?_); rintro e w7 ⟨rfl, b7⟩; have I7 := Lib.hid (I6.out.below b7); have J7 := Lib.hid (J6.out.below b7); have B7 := Lib.hid (B6.out.trans (b7.mono B6.out.size)); clear b7)
        | (go_at_call 26; (with_reducible refine (HS.out _ _ _ _ _ _ _ J7.out I7.out L4.out L5.out).mono ?_); rintro e w8 ⟨rfl, b8⟩; have B8 := Lib.hid (B7.out.trans (b8.mono B7.out.size)); clear b8)
        | (go_at_call 11; (with_reducible refine (HV.out _).mono ?_); rintro e w9 ⟨rfl, b9⟩; have B9 := Lib.hid (B8.out.trans (b9.mono B8.out.size)); clear b9))
      go_ret
      exact ⟨rfl, B9.out⟩
end Go.Proofs.Ytbbfbijgclpjeaa
