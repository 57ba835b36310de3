/- The law of lengths and distances as symbols, there and back: the walk. Conditions: as each theorem names them. -/
import Derived.Test.YtobcgieblidjcaaDoorSyF
import Derived.Deep.CutRange
namespace Go.Proofs.YtobcgieblidjcaaDoor
open Go Go.RowKit M
set_option linter.unusedVariables false
set_option linter.unusedSimpArgs false

set_option maxRecDepth 1000000 in
set_option maxHeartbeats 4000000 in
theorem back_walk (n S X : Nat) (W : World) (H : Tab W) (hn : n < 65536) (hS : S < 65536) (hX : X < 65536)
    (k s x b d s' x' b' : Nat) (hk : 3 + n % 256 = k) (hd : 1 + n % 32768 = d) (hx : x < 2 ^ b) (hb : b ≤ 5) (hx' : x' < 2 ^ b') (hb' : b' ≤ 13)
    (hs : s ≤ 285) (hs' : s' ≤ 29)
    (nx mo b2 nx' mo' b2' : Nat) (th th' : Bool)
    (hN : (k < 258 ∧ nx = s ∧ mo = x + 1 ∧ th = true) ∨ (k < 258 ∧ nx = s + 1 ∧ mo = 0 ∧ th = true) ∨ (k = 258 ∧ th = false))
    (hN' : (d < 32768 ∧ nx' = s' ∧ mo' = x' + 1 ∧ th' = true) ∨ (d < 32768 ∧ nx' = s' + 1 ∧ mo' = 0 ∧ th' = true) ∨ (d = 32768 ∧ th' = false))
    (i j bi bj r : Nat) (hr : S % 400 = r)
    (HL : Hid (∀ w, Tab w → Calls Tryd.prog 6 #[.int .i64 k] w fun y w' => y = .returned (.tuple #[.int .i64 s, .int .u32 x, .int .i64 b, .bool true]) ∧ Below w.heap.size w w'))
    (HO : Hid (∀ w, Tab w → Calls Tryd.prog 14 #[.int .i64 s, .int .u32 x] w fun y w' => y = .returned (.tuple #[.int .i64 k, .bool true]) ∧ Below w.heap.size w w'))
    (HN : Hid (∀ w, Tab w → Calls Tryd.prog 6 #[.int .i64 ((k : Int) + 1)] w fun y w' => y = .returned (.tuple #[.int .i64 nx, .int .u32 mo, .int .i64 b2, .bool th]) ∧ Below w.heap.size w w'))
    (HL' : Hid (∀ w, Tab w → Calls Tryd.prog 8 #[.int .i64 d] w fun y w' => y = .returned (.tuple #[.int .i64 s', .int .u32 x', .int .i64 b', .bool true]) ∧ Below w.heap.size w w'))
    (HO' : Hid (∀ w, Tab w → Calls Tryd.prog 15 #[.int .i64 s', .int .u32 x'] w fun y w' => y = .returned (.tuple #[.int .i64 d, .bool true]) ∧ Below w.heap.size w w'))
    (HN' : Hid (∀ w, Tab w → Calls Tryd.prog 8 #[.int .i64 ((d : Int) + 1)] w fun y w' => y = .returned (.tuple #[.int .i64 nx', .int .u32 mo', .int .i64 b2', .bool th']) ∧ Below w.heap.size w w'))
    (HP : Hid (∀ w, Tab w → Calls Tryd.prog 14 #[.int .i64 r, .int .u32 X] w fun y w' => y = .returned (.tuple #[.int .i64 i, .bool (decide (0 < i))]) ∧ Below w.heap.size w w'))
    (HQ : Hid (∀ w, Tab w → Calls Tryd.prog 15 #[.int .i64 r, .int .u32 X] w fun y w' => y = .returned (.tuple #[.int .i64 j, .bool (decide (0 < j))]) ∧ Below w.heap.size w w'))
    (HI : Hid (0 < i → ∀ w, Tab w → Calls Tryd.prog 6 #[.int .i64 i] w fun y w' => y = .returned (.tuple #[.int .i64 r, .int .u32 X, .int .i64 bi, .bool true]) ∧ Below w.heap.size w w'))
    (HJ : Hid (0 < j → ∀ w, Tab w → Calls Tryd.prog 8 #[.int .i64 j] w fun y w' => y = .returned (.tuple #[.int .i64 r, .int .u32 X, .int .i64 bj, .bool true]) ∧ Below w.heap.size w w')) :
    Calls Tryd.prog 4 #[.int .u16 n, .int .u16 S, .int .u16 X] W fun y w' => y = .returned (.bool true) ∧ Below W.heap.size W w' := by
  have HW := Lib.hid works_any
  have HT := Lib.hid H
  have e1 : (3 : Int) + (n : Int) % 256 = (k : Int) := by omega
  have e2 : (1 : Int) + (n : Int) % 32768 = (d : Int) := by omega
  have e3 : (S : Int) % 400 = (r : Int) := by omega
  have hr2 : r < 400 := by omega
  have hk2 : 3 ≤ k ∧ k ≤ 258 := by omega
  have hd2 : 1 ≤ d ∧ d ≤ 32768 := by omega
  have hx32 : x < 32 := Nat.lt_of_lt_of_le hx (Nat.le_trans (Nat.pow_le_pow_right (by decide) hb) (by decide))
  have hx14 : x' < 8192 := Nat.lt_of_lt_of_le hx' (Nat.le_trans (Nat.pow_le_pow_right (by decide) hb') (by decide))
  have HX1 := Lib.hid hx
  have HX2 := Lib.hid hx'
  have HNN := Lib.hid hN
  have HNN' := Lib.hid hN'
  have E1 := Lib.hid e1
  have E2 := Lib.hid e2
  have E3 := Lib.hid e3
  have pw : ∀ (x b : Nat), x < 2 ^ b → b ≤ 13 → (x : Int) < IntKind.u64.wrap (2 ^ b) := fun x b h hb => by
    have h1 : ((2 : Int) ^ b) = ((2 ^ b : Nat) : Int) := by rw [Int.natCast_pow]; rfl
    have h2 : 2 ^ b ≤ 8192 := Nat.le_trans (Nat.pow_le_pow_right (by decide) hb) (by decide)
    obtain ⟨y, hy⟩ : ∃ y, 2 ^ b = y := ⟨_, rfl⟩
    rw [h1, hy, IntKind.wrap_u64]
    rw [hy] at h h2
    omega
  have PW := Lib.hid pw
  clear H hk hd hx hx' hN hN' e2 e3 hr pw
  go_enter Tryd.func4, Tryd.ntmps4
  go_upto_region 4 with (first
    | (go_at_call 6; (with_reducible refine (HL.out _ HT.out).mono ?_); rintro y w1 ⟨rfl, b1⟩; have B0 := Lib.hid b1; clear b1)
    | (go_at_call 14; (with_reducible refine (HO.out _ (HT.out.below B0.out (Nat.le_refl _))).mono ?_); rintro y w2 ⟨rfl, b1⟩; have B1 := Lib.hid (B0.out.trans (b1.mono B0.out.size)); clear b1))
  go_cut [85] from 59 to 85 (fun c wx => c = .bool false ∧ wx = w2)
  case first =>
    have h0 := PW.out _ _ HX1.out (by omega)
    have h1 : decide (IntKind.u64.wrap (2 ^ b) ≤ (x : Int)) = false := decide_eq_false (by omega)
    go_wp2_with fail
    go_meet
    exact ⟨by simp; omega, rfl⟩
  case rest =>
  obtain ⟨rfl, rfl⟩ := hcut
  clear HL HO
  go_upto_region 7 with (go_at_call 6; (with_reducible refine (HN.out _ (HT.out.below B1.out (Nat.le_refl _))).mono ?_); rintro y w3 ⟨rfl, b1⟩; have B2 := Lib.hid (B1.out.trans (b1.mono B1.out.size)); clear b1)
  go_cut [122] from 94 to 122 (fun c wx => c = .bool false ∧ wx = w3)
  case first =>
    rcases HNN.out with ⟨q1, rfl, rfl, rfl⟩ | ⟨q1, rfl, rfl, rfl⟩ | ⟨q1, rfl⟩
    · have d1 : decide ((k : Int) < 258) = true := decide_eq_true (by omega)
      have d1' : decide (k < 258) = true := decide_eq_true (by omega)
      go_wp2_with fail
      go_meet
      exact ⟨rfl, rfl⟩
    · have d1 : decide ((k : Int) < 258) = true := decide_eq_true (by omega)
      have d1' : decide (k < 258) = true := decide_eq_true (by omega)
      have d2 : (((s : Int) + 1) == (s : Int)) = false := by rw [beq_eq_false_iff_ne]; omega
      go_wp2_with fail
      go_meet
      exact ⟨rfl, rfl⟩
    · have d1 : decide ((k : Int) < 258) = false := decide_eq_false (by omega)
      have d1' : decide (k < 258) = false := decide_eq_false (by omega)
      clear q1
      go_wp2_with fail
      go_meet
      exact ⟨rfl, rfl⟩
  case rest =>
  obtain ⟨rfl, rfl⟩ := hcut
  have e2 := E2.out
  clear HN HNN e1
  go_upto_region 12 with (first
    | (go_at_call 8; (with_reducible refine (HL'.out _ (HT.out.below B2.out (Nat.le_refl _))).mono ?_); rintro y w4 ⟨rfl, b1⟩; have B3 := Lib.hid (B2.out.trans (b1.mono B2.out.size)); clear b1)
    | (go_at_call 15; (with_reducible refine (HO'.out _ (HT.out.below B3.out (Nat.le_refl _))).mono ?_); rintro y w5 ⟨rfl, b1⟩; have B4 := Lib.hid (B3.out.trans (b1.mono B3.out.size)); clear b1))
  go_cut [166] from 140 to 166 (fun c wx => c = .bool false ∧ wx = w5)
  case first =>
    have h0 := PW.out _ _ HX2.out hb'
    have h1 : decide (IntKind.u64.wrap (2 ^ b') ≤ (x' : Int)) = false := decide_eq_false (by omega)
    go_wp2_with fail
    go_meet
    exact ⟨by simp; omega, rfl⟩
  case rest =>
  obtain ⟨rfl, rfl⟩ := hcut
  clear HL' HO'
  go_upto_region 15 with (go_at_call 8; (with_reducible refine (HN'.out _ (HT.out.below B4.out (Nat.le_refl _))).mono ?_); rintro y w6 ⟨rfl, b1⟩; have B5 := Lib.hid (B4.out.trans (b1.mono B4.out.size)); clear b1)
  go_cut [203] from 175 to 203 (fun c wx => c = .bool false ∧ wx = w6)
  case first =>
    rcases HNN'.out with ⟨q1, rfl, rfl, rfl⟩ | ⟨q1, rfl, rfl, rfl⟩ | ⟨q1, rfl⟩
    · have d1 : decide ((d : Int) < 32768) = true := decide_eq_true (by omega)
      have d1' : decide (d < 32768) = true := decide_eq_true (by omega)
      go_wp2_with fail
      go_meet
      exact ⟨rfl, rfl⟩
    · have d1 : decide ((d : Int) < 32768) = true := decide_eq_true (by omega)
      have d1' : decide (d < 32768) = true := decide_eq_true (by omega)
      have d2 : (((s' : Int) + 1) == (s' : Int)) = false := by rw [beq_eq_false_iff_ne]; omega
      go_wp2_with fail
      go_meet
      exact ⟨rfl, rfl⟩
    · have d1 : decide ((d : Int) < 32768) = false := decide_eq_false (by omega)
      have d1' : decide (d < 32768) = false := decide_eq_false (by omega)
      clear q1
      go_wp2_with fail
      go_meet
      exact ⟨rfl, rfl⟩
  case rest =>
  obtain ⟨rfl, rfl⟩ := hcut
  have e3 := E3.out
  clear HN' HNN' e2
  by_cases hi : 0 < i
  · have HI' := Lib.hid (HI.out hi)
    have di : decide (0 < i) = true := decide_eq_true hi
    clear hi
    by_cases hj : 0 < j
    · have HJ' := Lib.hid (HJ.out hj)
      have dj : decide (0 < j) = true := decide_eq_true hj
      clear hj HI HJ
      go_wp2_with (first
        | (go_at_call 14; (with_reducible refine (HP.out _ (HT.out.below B5.out (Nat.le_refl _))).mono ?_); rintro y w7 ⟨rfl, b1⟩; have B6 := Lib.hid (B5.out.trans (b1.mono B5.out.size)); clear b1)
        | (go_at_call 6; (with_reducible refine (HI'.out _ (HT.out.below B6.out (Nat.le_refl _))).mono ?_); rintro y w8 ⟨rfl, b1⟩; have B7 := Lib.hid (B6.out.trans (b1.mono B6.out.size)); clear b1)
        | (go_at_call 15; (with_reducible refine (HQ.out _ (HT.out.below B7.out (Nat.le_refl _))).mono ?_); rintro y w9 ⟨rfl, b1⟩; have B8 := Lib.hid (B7.out.trans (b1.mono B7.out.size)); clear b1)
        | (go_at_call 8; (with_reducible refine (HJ'.out _ (HT.out.below B8.out (Nat.le_refl _))).mono ?_); rintro y w10 ⟨rfl, b1⟩; have B9 := Lib.hid (B8.out.trans (b1.mono B8.out.size)); clear b1)
        | (go_at_call 18; (with_reducible refine (HW.out _ (HT.out.below B9.out (Nat.le_refl _))).mono ?_); rintro y w11 ⟨rfl, b1⟩; have B10 := Lib.hid (B9.out.trans (b1.mono B9.out.size)); clear b1))
      go_ret
      exact ⟨by simp, B10.out⟩
    · have dj : decide (0 < j) = false := decide_eq_false hj
      clear hj HI HJ
      go_wp2_with (first
        | (go_at_call 14; (with_reducible refine (HP.out _ (HT.out.below B5.out (Nat.le_refl _))).mono ?_); rintro y w7 ⟨rfl, b1⟩; have B6 := Lib.hid (B5.out.trans (b1.mono B5.out.size)); clear b1)
        | (go_at_call 6; (with_reducible refine (HI'.out _ (HT.out.below B6.out (Nat.le_refl _))).mono ?_); rintro y w8 ⟨rfl, b1⟩; have B7 := Lib.hid (B6.out.trans (b1.mono B6.out.size)); clear b1)
        | (go_at_call 15; (with_reducible refine (HQ.out _ (HT.out.below B7.out (Nat.le_refl _))).mono ?_); rintro y w9 ⟨rfl, b1⟩; have B8 := Lib.hid (B7.out.trans (b1.mono B7.out.size)); clear b1)
        | (go_at_call 18; (with_reducible refine (HW.out _ (HT.out.below B8.out (Nat.le_refl _))).mono ?_); rintro y w11 ⟨rfl, b1⟩; have B10 := Lib.hid (B8.out.trans (b1.mono B8.out.size)); clear b1))
      go_ret
      exact ⟨by simp, B10.out⟩
  · have di : decide (0 < i) = false := decide_eq_false hi
    clear hi
    by_cases hj : 0 < j
    · have HJ' := Lib.hid (HJ.out hj)
      have dj : decide (0 < j) = true := decide_eq_true hj
      clear hj HI HJ
      go_wp2_with (first
        | (go_at_call 14; (with_reducible refine (HP.out _ (HT.out.below B5.out (Nat.le_refl _))).mono ?_); rintro y w7 ⟨rfl, b1⟩; have B6 := Lib.hid (B5.out.trans (b1.mono B5.out.size)); clear b1)
        | (go_at_call 15; (with_reducible refine (HQ.out _ (HT.out.below B6.out (Nat.le_refl _))).mono ?_); rintro y w9 ⟨rfl, b1⟩; have B8 := Lib.hid (B6.out.trans (b1.mono B6.out.size)); clear b1)
        | (go_at_call 8; (with_reducible refine (HJ'.out _ (HT.out.below B8.out (Nat.le_refl _))).mono ?_); rintro y w10 ⟨rfl, b1⟩; have B9 := Lib.hid (B8.out.trans (b1.mono B8.out.size)); clear b1)
        | (go_at_call 18; (with_reducible refine (HW.out _ (HT.out.below B9.out (Nat.le_refl _))).mono ?_); rintro y w11 ⟨rfl, b1⟩; have B10 := Lib.hid (B9.out.trans (b1.mono B9.out.size)); clear b1))
      go_ret
      exact ⟨by simp, B10.out⟩
    · have dj : decide (0 < j) = false := decide_eq_false hj
      clear hj HI HJ
      go_wp2_with (first
        | (go_at_call 14; (with_reducible refine (HP.out _ (HT.out.below B5.out (Nat.le_refl _))).mono ?_); rintro y w7 ⟨rfl, b1⟩; have B6 := Lib.hid (B5.out.trans (b1.mono B5.out.size)); clear b1)
        | (go_at_call 15; (with_reducible refine (HQ.out _ (HT.out.below B6.out (Nat.le_refl _))).mono ?_); rintro y w9 ⟨rfl, b1⟩; have B8 := Lib.hid (B6.out.trans (b1.mono B6.out.size)); clear b1)
        | (go_at_call 18; (with_reducible refine (HW.out _ (HT.out.below B8.out (Nat.le_refl _))).mono ?_); rintro y w11 ⟨rfl, b1⟩; have B10 := Lib.hid (B8.out.trans (b1.mono B8.out.size)); clear b1))
      go_ret
      exact ⟨by simp, B10.out⟩
end Go.Proofs.YtobcgieblidjcaaDoor
