/- The document's examples of layer 18: alive answers true in any world. Conditions: as each theorem names them. -/
import Derived.Test.YtbbfbijgclpjeaaOdR
import Derived.Test.YtbbfbijgclpjeaaOdK
import Derived.Test.YtbbfbijgclpjeaaOdQ
namespace Go.Proofs.Ytbbfbijgclpjeaa.O
open Go Go.RowKit M
set_option linter.unusedVariables false
set_option linter.unusedSimpArgs false

def exA : List UInt8 := List.replicate 1024 97
def exL : List Md := [⟨3, ⟨#[120]⟩⟩, ⟨5, ⟨#[121]⟩⟩, ⟨20, ⟨#[122]⟩⟩]
def exM : List Md := [⟨3, ⟨#[120, 97, 121]⟩⟩, ⟨20, ⟨#[122]⟩⟩]
theorem ex1 : encl 1024 [⟨258, ⟨#[97, 98]⟩⟩] = ([2, 1, 2, 0, 97, 98], 0) := by decide +kernel
theorem ex2 : pg 1024 = true ∧ oks 1024 exL = true := by decide +kernel
theorem ex3 : decl 1024 [97, 98, 99] = ([], 7) := by
  refine decl_none (by decide) (dec_none (by simp) rfl)
theorem ex4 : apl [97] [] = ([], 2) := by decide +kernel
theorem ex5 : pg 16384 = true ∧ pg 1000 = false := by decide
theorem ex6 : dif (bstr exA) (bstr (app exA exL)) = exM := by decide +kernel

theorem ok_of {p : Int} {s : ByteArray} (h1 : 0 ≤ p ∧ p ≤ 1000000) (h2 : s.size ≤ 1000000) : Md.ok ⟨p, s⟩ := ⟨⟨by show _ ≤ p; omega, by show p ≤ _; omega⟩, by show s.size ≤ _; omega⟩
set_option maxRecDepth 1000000 in
set_option maxHeartbeats 2000000 in
theorem alive_any (W : World) : Calls Try.prog 11 #[] W fun e w' => e = .returned (.bool true) ∧ Below W.heap.size W w' := by
  obtain ⟨PA, hPA⟩ : ∃ P, bstr exA = P := ⟨_, rfl⟩
  obtain ⟨PB, hPB⟩ : ∃ P, bstr (app exA exL) = P := ⟨_, rfl⟩
  have hAs : PA.size = 1024 := by rw [← hPA, bstr_size]; rfl
  have hAd : PA.data.toList = exA := by rw [← hPA]; rfl
  have hBs : PB.size = 1024 := by rw [← hPB, bstr_size]; exact app_length (N := 1024) exL exA rfl ex2.2
  have HB := Lib.hid (show ∀ w, Calls Try.prog 30 #[.int .i64 1024, .int .u8 97] w fun e w' => e = .returned (.string PA) ∧ Below w.heap.size w w' from fun w => by
    rw [← hPA]; exact blank_any 1024 97 w (by omega) (by omega))
  have HE := Lib.hid (show ∀ w : World, Calls Try.prog 12 #[.int .i64 1024, .slice (some ⟨w.heap.size, 0, none⟩) 1 1] (w.alloc (.cells #[.int .i64 258, .string ⟨#[97, 98]⟩] 34)) fun e w' => e = .returned (.tuple #[.string ⟨#[2, 1, 2, 0, 97, 98]⟩, .int .i64 0]) ∧ Below w.heap.size w w' from fun w => by
    have := encode_any 1024 (some ⟨w.heap.size, 0, none⟩) 1 1 _ _ (IsMds.lit1 w 258 ⟨#[97, 98]⟩ (ok_of (by decide) (by decide))) (by decide)
    rw [ex1] at this
    exact this.mono (fun e w' h => ⟨h.1, ((Below.refl _ w).alloc (Nat.le_refl _) _).trans (h.2.mono (by simp))⟩))
  have HA := Lib.hid (show ∀ w : World, Calls Try.prog 14 #[.string PA, .slice (some ⟨w.heap.size, 0, none⟩) 3 3] (w.alloc (.cells #[.int .i64 3, .string ⟨#[120]⟩, .int .i64 5, .string ⟨#[121]⟩, .int .i64 20, .string ⟨#[122]⟩] 34)) fun e w' => e = .returned (.tuple #[.string PB, .int .i64 0]) ∧ Below w.heap.size w w' from fun w => by
    have := apply_any PA (some ⟨w.heap.size, 0, none⟩) 3 3 exL _ (IsMds.lit3 w 3 ⟨#[120]⟩ 5 ⟨#[121]⟩ 20 ⟨#[122]⟩ (ok_of (by decide) (by decide)) (ok_of (by decide) (by decide)) (ok_of (by decide) (by decide))) (by omega)
    have e : apl PA.data.toList exL = (app exA exL, 0) := by
      rw [hAd]
      unfold apl
      rw [show ((exA.length : Nat) : Int) = 1024 from rfl, ex2.1, ex2.2]; rfl
    rw [e] at this
    rw [← hPB]
    exact this.mono (fun e w' h => ⟨h.1, ((Below.refl _ w).alloc (Nat.le_refl _) _).trans (h.2.mono (by simp))⟩))
  have HD := Lib.hid (show ∀ w, Calls Try.prog 28 #[.string PA, .string PB] w fun e w' => ∃ A c, e = .returned (.tuple #[.slice A 2 c, .int .i64 0]) ∧ IsMds w' A 2 exM ∧ Below w.heap.size w w' from fun w => by
    refine (diff_any PA PB w (by omega) (by omega)).mono ?_
    rintro e w' ⟨A, n, c, h1, h2, h3, _, h4⟩
    have e : difl PA PB = (exM, 0) := by
      unfold difl
      rw [if_pos ⟨by omega, by rw [hAs]; rfl⟩, ← hPA, ← hPB, ex6]
    rw [e] at h1 h2
    obtain rfl : 2 = n := h2.leng
    exact ⟨A, c, h1, h2, h4⟩)
  have HC := Lib.hid (show ∀ w, Calls Try.prog 22 #[.int .i64 1024, .string ⟨#[97, 98, 99]⟩] w fun e w' => ∃ A n c, e = .returned (.tuple #[.slice A n c, .int .i64 7]) ∧ Below w.heap.size w w' from fun w => by
    refine (decode_any 1024 ⟨#[97, 98, 99]⟩ w (by decide)).mono ?_
    rintro e w' ⟨A, n, c, h1, h2, h3, _, h4⟩
    have e : decl 1024 (⟨#[97, 98, 99]⟩ : ByteArray).data.toList = ([], 7) := ex3
    rw [e] at h1
    exact ⟨A, n, c, h1, h4⟩)
  have HI := Lib.hid (show ∀ w, Calls Try.prog 14 #[.string ⟨#[97]⟩, .slice none 0 0] w fun e w' => e = .returned (.tuple #[.string ⟨#[]⟩, .int .i64 2]) ∧ Below w.heap.size w w' from fun w => by
    have := apply_any ⟨#[97]⟩ none 0 0 [] w (IsMds.nil w none) (by decide)
    rw [show apl (⟨#[97]⟩ : ByteArray).data.toList [] = ([], 2) from ex4] at this
    exact this)
  have HS := Lib.hid (show ∀ (w : World) A c, IsMds w A 2 exM → Calls Try.prog 26 #[.slice A 2 c, .slice (some ⟨w.heap.size, 0, none⟩) 2 2] (w.alloc (.cells #[.int .i64 3, .string ⟨#[120, 97, 121]⟩, .int .i64 20, .string ⟨#[122]⟩] 34)) fun e w' => e = .returned (.bool true) ∧ Below w.heap.size w w' from fun w A c hi => by
    have hb0 : Below w.heap.size w (w.alloc (.cells #[.int .i64 3, .string ⟨#[120, 97, 121]⟩, .int .i64 20, .string ⟨#[122]⟩] 34)) := (Below.refl _ w).alloc (Nat.le_refl _) _
    have := rsame_any A (some ⟨w.heap.size, 0, none⟩) 2 c 2 2 exM exM _ (hi.below hb0) (IsMds.lit2 w 3 ⟨#[120, 97, 121]⟩ 20 ⟨#[122]⟩ (ok_of (by decide) (by decide)) (ok_of (by decide) (by decide))) (by omega) (by omega)
    rw [decide_eq_true rfl] at this
    exact this.mono (fun e w' h => ⟨h.1, hb0.trans (h.2.mono (by simp))⟩))
  have HZ := Lib.hid (show ∀ (w : World) A c, IsMds w A 2 exM → Calls Try.prog 20 #[.slice A 2 c] w fun e w' => e = .returned (.int .i64 12) ∧ Below w.heap.size w w' from fun w A c hi => size_any A 2 c exM w hi (by decide))
  have HP := Lib.hid (show ∀ w, Calls Try.prog 18 #[.int .i64 16384] w fun e w' => e = .returned (.bool true) ∧ w = w' from fun w => page_any 16384 w)
  have HQ := Lib.hid (show ∀ w, Calls Try.prog 18 #[.int .i64 1000] w fun e w' => e = .returned (.bool false) ∧ w = w' from fun w => page_any 1000 w)
  clear hPA hPB hAs hAd hBs
  go_enter Try.func11, Try.ntmps11
  go_wp2_with (first
    | (go_at_call 12; (with_reducible refine (HE.out _).mono ?_); rintro e w1 ⟨rfl, b1⟩; have B1 := Lib.hid b1; clear b1)
    | (go_at_call 30; (with_reducible refine (HB.out _).mono ?_); rintro e w2 ⟨rfl, b2⟩; have B2 := Lib.hid (B1.out.trans (b2.mono B1.out.size)); clear b2)
    | (go_at_call 14; (with_reducible refine (HA.out _).mono ?_); rintro e w3 ⟨rfl, b3⟩; have B3 := Lib.hid (B2.out.trans (b3.mono B2.out.size)); clear b3)
    | (go_at_call 28; (with_reducible refine (HD.out _).mono ?_); rintro e w4 ⟨A, c, rfl, i4, b4⟩; have I4 := Lib.hid i4; have B4 := Lib.hid (B3.out.trans (b4.mono B3.out.size)); clear i4 b4)
    | (go_at_call 22; (with_reducible refine (HC.out _).mono ?_); rintro e w5 ⟨A5, n5, c5, rfl, b5⟩; have I5 := Lib.hid (I4.out.below b5); have B5 := Lib.hid (B4.out.trans (b5.mono B4.out.size)); clear b5)
    | (go_at_call 14; (with_reducible refine (HI.out _).mono ?_); rintro e w6 ⟨rfl, b6⟩; have I6 := Lib.hid (I5.out.below b6); have B6 := Lib.hid (B5.out.trans (b6.mono B5.out.size)); clear b6)
    | (go_at_call 26; (with_reducible refine (HS.out _ _ _ I6.out).mono ?_); rintro e w7 ⟨rfl, b7⟩; have I7 := Lib.hid (I6.out.below b7); have B7 := Lib.hid (B6.out.trans (b7.mono B6.out.size)); clear b7)
    | (go_at_call 20; (with_reducible refine (HZ.out _ _ _ I7.out).mono ?_); rintro e w8 ⟨rfl, b8⟩; have B8 := Lib.hid (B7.out.trans (b8.mono B7.out.size)); clear b8)
    | (go_at_call 18; (with_reducible refine (HP.out _).mono ?_); rintro e w' ⟨rfl, rfl⟩)
    | (go_at_call 18; (with_reducible refine (HQ.out _).mono ?_); rintro e w' ⟨rfl, rfl⟩))
  go_ret
  exact ⟨rfl, B8.out⟩
end Go.Proofs.Ytbbfbijgclpjeaa.O
