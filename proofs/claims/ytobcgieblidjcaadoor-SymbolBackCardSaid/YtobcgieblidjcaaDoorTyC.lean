/- The law of what lengths and distances are as symbols: the walk, where the number is both. Conditions: as each theorem names them. -/
import Derived.Test.YtobcgieblidjcaaDoorSyF
namespace Go.Proofs.YtobcgieblidjcaaDoor
open Go Go.RowKit M
set_option linter.unusedVariables false
set_option linter.unusedSimpArgs false

set_option maxRecDepth 1000000 in
set_option maxHeartbeats 4000000 in
theorem tells_yy (x z : Int) (e s b c s' b' c' u v : Nat) (g h k m : Int) (gg hh : Bool) (W : World) (H : Tab W)
    (hb : b < 4294967296)
    (hb' : b' < 4294967296)
    (HL : Hid (∀ w, Tab w → Calls Tryd.prog 6 #[.int .i64 x] w fun y w' => y = .returned (.tuple #[.int .i64 s, .int .u32 b, .int .i64 c, .bool true]) ∧ Below w.heap.size w w'))
    (HRL : Hid (∀ w, Tab w → Calls Tryd.prog 7 #[.int .i64 x] w fun y w' => y = .returned (.tuple #[.int .i64 s, .int .i64 b]) ∧ Below w.heap.size w w'))
    (HD : Hid (∀ w, Tab w → Calls Tryd.prog 8 #[.int .i64 x] w fun y w' => y = .returned (.tuple #[.int .i64 s', .int .u32 b', .int .i64 c', .bool true]) ∧ Below w.heap.size w w'))
    (HRD : Hid (∀ w, Tab w → Calls Tryd.prog 9 #[.int .i64 x] w fun y w' => y = .returned (.tuple #[.int .i64 s', .int .i64 b']) ∧ Below w.heap.size w w'))
    (HRLB : Hid (∀ w, Tab w → Calls Tryd.prog 10 #[.int .i64 s] w fun y w' => y = .returned (.int .i64 c) ∧ Below w.heap.size w w'))
    (HRDB : Hid (∀ w, Tab w → Calls Tryd.prog 11 #[.int .i64 s'] w fun y w' => y = .returned (.int .i64 c') ∧ Below w.heap.size w w'))
    (HLZ : Hid (∀ w, Tab w → Calls Tryd.prog 12 #[.int .i64 z] w fun y w' => y = .returned (.tuple #[.int .i64 g, .bool gg]) ∧ Below w.heap.size w w'))
    (HDZ : Hid (∀ w, Tab w → Calls Tryd.prog 13 #[.int .i64 z] w fun y w' => y = .returned (.tuple #[.int .i64 h, .bool hh]) ∧ Below w.heap.size w w'))
    (HLO : Hid (∀ w, Tab w → Calls Tryd.prog 14 #[.int .i64 z, .int .u32 e] w fun y w' => y = .returned (.tuple #[.int .i64 u, .bool (decide (0 < u))]) ∧ Below w.heap.size w w'))
    (HDO : Hid (∀ w, Tab w → Calls Tryd.prog 15 #[.int .i64 z, .int .u32 e] w fun y w' => y = .returned (.tuple #[.int .i64 v, .bool (decide (0 < v))]) ∧ Below w.heap.size w w'))
    (HRLZ : Hid (∀ w, Tab w → Calls Tryd.prog 10 #[.int .i64 z] w fun y w' => y = .returned (.int .i64 k) ∧ Below w.heap.size w w'))
    (HRDZ : Hid (∀ w, Tab w → Calls Tryd.prog 11 #[.int .i64 z] w fun y w' => y = .returned (.int .i64 m) ∧ Below w.heap.size w w'))
    (HRLO : Hid (∀ w, Tab w → Calls Tryd.prog 16 #[.int .i64 z, .int .u32 e] w fun y w' => y = .returned (.int .i64 u) ∧ Below w.heap.size w w'))
    (HRDO : Hid (∀ w, Tab w → Calls Tryd.prog 17 #[.int .i64 z, .int .u32 e] w fun y w' => y = .returned (.int .i64 v) ∧ Below w.heap.size w w'))
    (hk : (k = -1 ∧ g = 0 ∧ gg = false) ∨ ∃ n : Nat, k = n ∧ g = n ∧ gg = true) (hm : (m = -1 ∧ h = 0 ∧ hh = false) ∨ ∃ n : Nat, m = n ∧ h = n ∧ hh = true) :
    Calls Tryd.prog 3 #[.int .i64 x, .int .i64 z, .int .u32 e] W fun y w' => y = .returned (.bool true) ∧ Below W.heap.size W w' := by
  have HW := Lib.hid works_any
  have HT := Lib.hid H
  clear H
  rcases hk with ⟨rfl, rfl, rfl⟩ | ⟨kn, rfl, rfl, rfl⟩ <;> rcases hm with ⟨rfl, rfl, rfl⟩ | ⟨mn, rfl, rfl, rfl⟩
  all_goals
    go_enter Tryd.func3, Tryd.ntmps3
    go_wp2_with (first
      | (go_at_call 6; (with_reducible refine (HL.out _ HT.out).mono ?_); rintro y w1 ⟨rfl, b1⟩; have B0 := Lib.hid b1; clear b1)
      | (go_at_call 7; (with_reducible refine (HRL.out _ (HT.out.below B0.out (Nat.le_refl _))).mono ?_); rintro y w2 ⟨rfl, b1⟩; have B1 := Lib.hid (B0.out.trans (b1.mono B0.out.size)); clear b1)
      | (go_at_call 8; (with_reducible refine (HD.out _ (HT.out.below B1.out (Nat.le_refl _))).mono ?_); rintro y w3 ⟨rfl, b1⟩; have B2 := Lib.hid (B1.out.trans (b1.mono B1.out.size)); clear b1)
      | (go_at_call 9; (with_reducible refine (HRD.out _ (HT.out.below B2.out (Nat.le_refl _))).mono ?_); rintro y w4 ⟨rfl, b1⟩; have B3 := Lib.hid (B2.out.trans (b1.mono B2.out.size)); clear b1)
      | (go_at_call 10; (with_reducible refine (HRLB.out _ (HT.out.below B3.out (Nat.le_refl _))).mono ?_); rintro y w5 ⟨rfl, b1⟩; have B4 := Lib.hid (B3.out.trans (b1.mono B3.out.size)); clear b1)
      | (go_at_call 11; (with_reducible refine (HRDB.out _ (HT.out.below B4.out (Nat.le_refl _))).mono ?_); rintro y w6 ⟨rfl, b1⟩; have B5 := Lib.hid (B4.out.trans (b1.mono B4.out.size)); clear b1)
      | (go_at_call 12; (with_reducible refine (HLZ.out _ (HT.out.below B5.out (Nat.le_refl _))).mono ?_); rintro y w7 ⟨rfl, b1⟩; have B6 := Lib.hid (B5.out.trans (b1.mono B5.out.size)); clear b1)
      | (go_at_call 13; (with_reducible refine (HDZ.out _ (HT.out.below B6.out (Nat.le_refl _))).mono ?_); rintro y w8 ⟨rfl, b1⟩; have B7 := Lib.hid (B6.out.trans (b1.mono B6.out.size)); clear b1)
      | (go_at_call 14; (with_reducible refine (HLO.out _ (HT.out.below B7.out (Nat.le_refl _))).mono ?_); rintro y w9 ⟨rfl, b1⟩; have B8 := Lib.hid (B7.out.trans (b1.mono B7.out.size)); clear b1)
      | (go_at_call 15; (with_reducible refine (HDO.out _ (HT.out.below B8.out (Nat.le_refl _))).mono ?_); rintro y w10 ⟨rfl, b1⟩; have B9 := Lib.hid (B8.out.trans (b1.mono B8.out.size)); clear b1)
      | (go_at_call 10; (with_reducible refine (HRLZ.out _ (HT.out.below B9.out (Nat.le_refl _))).mono ?_); rintro y w11 ⟨rfl, b1⟩; have B10 := Lib.hid (B9.out.trans (b1.mono B9.out.size)); clear b1)
      | (go_at_call 11; (with_reducible refine (HRDZ.out _ (HT.out.below B10.out (Nat.le_refl _))).mono ?_); rintro y w12 ⟨rfl, b1⟩; have B11 := Lib.hid (B10.out.trans (b1.mono B10.out.size)); clear b1)
      | (go_at_call 16; (with_reducible refine (HRLO.out _ (HT.out.below B11.out (Nat.le_refl _))).mono ?_); rintro y w13 ⟨rfl, b1⟩; have B12 := Lib.hid (B11.out.trans (b1.mono B11.out.size)); clear b1)
      | (go_at_call 17; (with_reducible refine (HRDO.out _ (HT.out.below B12.out (Nat.le_refl _))).mono ?_); rintro y w14 ⟨rfl, b1⟩; have B13 := Lib.hid (B12.out.trans (b1.mono B12.out.size)); clear b1)
      | (go_at_call 18; (with_reducible refine (HW.out _ (HT.out.below B13.out (Nat.le_refl _))).mono ?_); rintro y w15 ⟨rfl, b1⟩; have B14 := Lib.hid (B13.out.trans (b1.mono B13.out.size)); clear b1))
    go_ret
    exact ⟨by simp, B14.out⟩
end Go.Proofs.YtobcgieblidjcaaDoor
