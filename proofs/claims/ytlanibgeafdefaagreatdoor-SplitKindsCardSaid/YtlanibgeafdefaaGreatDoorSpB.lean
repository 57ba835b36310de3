import Derived.Test.YtlanibgeafdefaaGreatDoorSpA
import Derived.Test.YtlanibgeafdefaaGreatDoorSpD
namespace Go.Proofs.YtlanibgeafdefaaGreatDoor.V
open Go Go.RowKit M U
set_option linter.unusedVariables false
set_option linter.unusedSimpArgs false
set_option maxRecDepth 1000000
set_option maxHeartbeats 2000000 in
theorem kinds_raw {T : World → Prop} (C : Sps T) (A : Option Addr) (n c : Nat) (L : List Tk) (raw : ByteArray) (own : Bool) (W : World) (H : T W) (hL : IsTks W A n L) (hnc : n ≤ c) (hn : n ≤ 500) (hr : raw.size ≤ 4096) :
    Calls Tryz.prog 3 #[.slice A n c, .string raw, .bool false] W fun e w' => e = .returned (.bool true) ∧ Below W.heap.size W w' := by
  have hl := hL.leng
  have HW := Lib.hid (fun w (b : Below W.heap.size W w) => works14 C w (C.keep H b))
  have dn : decide ((500 : Int) < (n : Int)) = false := decide_eq_false (by omega)
  have dn' : decide (500 < n) = false := decide_eq_false (by omega)
  have dr : decide ((4096 : Int) < (raw.size : Int)) = false := decide_eq_false (by omega)
  have dr' : decide (4096 < raw.size) = false := decide_eq_false (by omega)
  have ds : decide ((32768 : Int) < (raw.size : Int)) = false := decide_eq_false (by omega)
  have ds' : decide (32768 < raw.size) = false := decide_eq_false (by omega)
  by_cases hm : mys L raw = 0
  · obtain ⟨hm1, hm2⟩ := mys_zero.1 hm
    have HK := Lib.hid (fun (w1 : World) (b : Below W.heap.size W w1) => C.kind A n c L raw w1 (C.keep H b) (hL.below b) (by omega) (by omega) hm1 hm2)
    have HMy := Lib.hid (fun (w1 : World) (b : Below W.heap.size W w1) => (show Calls Tryz.prog 9 #[.slice A n c, .string raw] w1 (fun e w' => e = .returned (.int .i64 0) ∧ Below w1.heap.size w1 w') from by
      have h := rmay14_any A n c L raw w1 (hL.below b) (by omega) (by omega)
      rw [hm] at h
      exact h))
    have HP := Lib.hid (fun (w1 : World) (b : Below W.heap.size W w1) => C.parts A n c L raw w1 (C.keep H b) (hL.below b) hnc (by omega) (by omega) hm1 hm2)
    have HR := Lib.hid (fun (w1 : World) (b : Below W.heap.size W w1) => rkind14_any A n c L raw w1 (hL.below b) (by omega) (by omega) hm1)
    obtain ⟨kk, hkk⟩ : ∃ kk, (kd L raw).1 = kk := ⟨_, rfl⟩
    obtain ⟨kb, hkb⟩ : ∃ kb, (kd L raw).2 = kb := ⟨_, rfl⟩
    rw [hkk, hkb] at HK HR
    have e1 : ((kk : Int) == (kk : Int)) = true := by rw [beq_iff_eq]
    have e2 : ((kb : Int) == (kb : Int)) = true := by rw [beq_iff_eq]
    clear hm hm1 hm2 hkk hkb hL C H hl hnc
    go_enter Tryz.func3, Tryz.ntmps3
    go_wp2_with (first
      | (go_at_call 8; (with_reducible refine (HK.out _ (Below.refl W.heap.size W)).mono ?_); rintro e w1 ⟨rfl, b1⟩; have B1 := Lib.hid (((Below.refl W.heap.size W)).trans (b1.mono ((Below.refl W.heap.size W)).size)); clear b1)
      | (go_at_call 9; (with_reducible refine (HMy.out _ B1.out).mono ?_); rintro e w2 ⟨rfl, b2⟩; have B2 := Lib.hid (B1.out.trans (b2.mono B1.out.size)); clear b2)
      | (go_at_call 10; (with_reducible refine (HP.out _ B2.out).mono ?_); rintro e w3 ⟨v, rfl, _, b3⟩; have B3 := Lib.hid (B2.out.trans (b3.mono B2.out.size)); clear b3)
      | (go_at_call 11; (with_reducible refine (HR.out _ B3.out).mono ?_); rintro e w4 ⟨rfl, b4⟩; have B4 := Lib.hid (B3.out.trans (b4.mono B3.out.size)); clear b4)
      | (go_at_call 6; (with_reducible refine (HW.out _ B4.out).mono ?_); rintro e w5 ⟨rfl, b5⟩; have B5 := Lib.hid (B4.out.trans (b5.mono B4.out.size)); clear b5))
    go_ret
    exact ⟨rfl, B5.out⟩
  · have HK := Lib.hid (fun (w1 : World) (b : Below W.heap.size W w1) => C.kindNo A n c L raw w1 (C.keep H b) (hL.below b) (by omega) (by omega) hm)
    have HMy := Lib.hid (fun (w1 : World) (b : Below W.heap.size W w1) => rmay14_any A n c L raw w1 (hL.below b) (by omega) (by omega))
    have HP := Lib.hid (fun (w1 : World) (b : Below W.heap.size W w1) => C.partsNo A n c L raw w1 (C.keep H b) (hL.below b) hnc (by omega) (by omega) hm)
    obtain ⟨m, hme⟩ : ∃ m, mys L raw = m := ⟨_, rfl⟩
    rw [hme] at HK HMy HP hm
    have e1 : ((m : Int) != (m : Int)) = false := by rw [bne_eq_false_iff_eq]
    have e2 : ((m : Int) != 0) = true := by rw [bne_iff_ne]; omega
    have e3 : decide (m = 0) = false := decide_eq_false hm
    have e4 : (m == 0) = false := by rw [beq_eq_false_iff_ne]; exact hm
    clear hme hL C H hl hnc
    go_enter Tryz.func3, Tryz.ntmps3
    go_wp2_with (first
      | (go_at_call 8; (with_reducible refine (HK.out _ (Below.refl W.heap.size W)).mono ?_); rintro e w1 ⟨rfl, b1⟩; have B1 := Lib.hid (((Below.refl W.heap.size W)).trans (b1.mono ((Below.refl W.heap.size W)).size)); clear b1)
      | (go_at_call 9; (with_reducible refine (HMy.out _ B1.out).mono ?_); rintro e w2 ⟨rfl, b2⟩; have B2 := Lib.hid (B1.out.trans (b2.mono B1.out.size)); clear b2)
      | (go_at_call 10; (with_reducible refine (HP.out _ B2.out).mono ?_); rintro e w3 ⟨v, rfl, b3⟩; have B3 := Lib.hid (B2.out.trans (b3.mono B2.out.size)); clear b3)
      | (go_at_call 6; (with_reducible refine (HW.out _ B3.out).mono ?_); rintro e w5 ⟨rfl, b5⟩; have B5 := Lib.hid (B3.out.trans (b5.mono B3.out.size)); clear b5))
    go_ret
    exact ⟨rfl, B5.out⟩
set_option maxHeartbeats 4000000 in
theorem kinds_own {T : World → Prop} (C : Sps T) (A : Option Addr) (n c : Nat) (L : List Tk) (raw : ByteArray) (own : Bool) (W : World) (H : T W) (hL : IsTks W A n L) (hnc : n ≤ c) (hn : n ≤ 500) (hr : raw.size ≤ 4096) :
    Calls Tryz.prog 3 #[.slice A n c, .string raw, .bool true] W fun e w' => e = .returned (.bool true) ∧ Below W.heap.size W w' := by
  have hl := hL.leng
  have HW := Lib.hid (fun w (b : Below W.heap.size W w) => works14 C w (C.keep H b))
  have dn : decide ((500 : Int) < (n : Int)) = false := decide_eq_false (by omega)
  have dn' : decide (500 < n) = false := decide_eq_false (by omega)
  have dr : decide ((4096 : Int) < (raw.size : Int)) = false := decide_eq_false (by omega)
  have dr' : decide (4096 < raw.size) = false := decide_eq_false (by omega)
  have hz := Tx.szs_le L
  have hT := Tx.rtext_any ⟨#[]⟩ A n c L W hL (by omega) (by decide)
  have hsz := txt_size (l := L)
  have hT2 : Calls Tryz.prog 7 #[.string ⟨#[]⟩, .slice A n c] W fun e w' => e = .returned (.tuple #[.string ⟨(Tx.txt [] L).1.toArray⟩, .int .i64 (Tx.txt [] L).2]) ∧ Below W.heap.size W w' := hT
  obtain ⟨S, hS⟩ : ∃ S : ByteArray, ⟨(Tx.txt [] L).1.toArray⟩ = S := ⟨_, rfl⟩
  have hSs : S.size = (Tx.txt [] L).1.length := by rw [← hS]; rfl
  rw [← hSs] at hsz
  rw [hS] at hT2
  obtain ⟨E, hE⟩ : ∃ E, (Tx.txt [] L).2 = E := ⟨_, rfl⟩
  rw [hE] at hT2 hsz
  have HT := Lib.hid hT2
  clear hT hT2 hS hSs hE
  by_cases hE0 : E = 0
  · subst hE0
    have hSz := hsz rfl
    clear hsz
    by_cases hbig : 32768 < S.size
    · have ds : decide ((32768 : Int) < (S.size : Int)) = true := decide_eq_true (by omega)
      have ds' : decide (32768 < S.size) = true := decide_eq_true hbig
      have hS3 : S.size ≤ 200000 := by omega
      clear hbig hSz hz hL C H hl hnc
      go_enter Tryz.func3, Tryz.ntmps3
      go_wp2_with (first
    | (go_at_call 7; (with_reducible refine HT.out.mono ?_); rintro e w0 ⟨rfl, b0⟩; have B0 := Lib.hid b0; clear b0)
        | (go_at_call 6; (with_reducible refine (HW.out _ B0.out).mono ?_); rintro e w5 ⟨rfl, b5⟩; have B5 := Lib.hid (B0.out.trans (b5.mono B0.out.size)); clear b5))
      go_ret
      exact ⟨rfl, B5.out⟩
    · have ds : decide ((32768 : Int) < (S.size : Int)) = false := decide_eq_false (by omega)
      have ds' : decide (32768 < S.size) = false := decide_eq_false hbig
      have hS3 : S.size ≤ 32768 := by omega
      by_cases hm : mys L S = 0
      · obtain ⟨hm1, hm2⟩ := mys_zero.1 hm
        have HK := Lib.hid (fun (w1 : World) (b : Below W.heap.size W w1) => C.kind A n c L S w1 (C.keep H b) (hL.below b) (by omega) (by omega) hm1 hm2)
        have HMy := Lib.hid (fun (w1 : World) (b : Below W.heap.size W w1) => (show Calls Tryz.prog 9 #[.slice A n c, .string S] w1 (fun e w' => e = .returned (.int .i64 0) ∧ Below w1.heap.size w1 w') from by
          have h := rmay14_any A n c L S w1 (hL.below b) (by omega) (by omega)
          rw [hm] at h
          exact h))
        have HP := Lib.hid (fun (w1 : World) (b : Below W.heap.size W w1) => C.parts A n c L S w1 (C.keep H b) (hL.below b) hnc (by omega) (by omega) hm1 hm2)
        have HR := Lib.hid (fun (w1 : World) (b : Below W.heap.size W w1) => rkind14_any A n c L S w1 (hL.below b) (by omega) (by omega) hm1)
        obtain ⟨kk, hkk⟩ : ∃ kk, (kd L S).1 = kk := ⟨_, rfl⟩
        obtain ⟨kb, hkb⟩ : ∃ kb, (kd L S).2 = kb := ⟨_, rfl⟩
        rw [hkk, hkb] at HK HR
        have e1 : ((kk : Int) == (kk : Int)) = true := by rw [beq_iff_eq]
        have e2 : ((kb : Int) == (kb : Int)) = true := by rw [beq_iff_eq]
        clear hm hm1 hm2 hkk hkb hL C H hl hnc hbig hSz hz
        go_enter Tryz.func3, Tryz.ntmps3
        go_wp2_with (first
          | (go_at_call 7; (with_reducible refine HT.out.mono ?_); rintro e w0 ⟨rfl, b0⟩; have B0 := Lib.hid b0; clear b0)
          | (go_at_call 8; (with_reducible refine (HK.out _ B0.out).mono ?_); rintro e w1 ⟨rfl, b1⟩; have B1 := Lib.hid ((B0.out).trans (b1.mono (B0.out).size)); clear b1)
          | (go_at_call 9; (with_reducible refine (HMy.out _ B1.out).mono ?_); rintro e w2 ⟨rfl, b2⟩; have B2 := Lib.hid (B1.out.trans (b2.mono B1.out.size)); clear b2)
          | (go_at_call 10; (with_reducible refine (HP.out _ B2.out).mono ?_); rintro e w3 ⟨v, rfl, _, b3⟩; have B3 := Lib.hid (B2.out.trans (b3.mono B2.out.size)); clear b3)
          | (go_at_call 11; (with_reducible refine (HR.out _ B3.out).mono ?_); rintro e w4 ⟨rfl, b4⟩; have B4 := Lib.hid (B3.out.trans (b4.mono B3.out.size)); clear b4)
          | (go_at_call 6; (with_reducible refine (HW.out _ B4.out).mono ?_); rintro e w5 ⟨rfl, b5⟩; have B5 := Lib.hid (B4.out.trans (b5.mono B4.out.size)); clear b5))
        go_ret
        exact ⟨rfl, B5.out⟩
      · have HK := Lib.hid (fun (w1 : World) (b : Below W.heap.size W w1) => C.kindNo A n c L S w1 (C.keep H b) (hL.below b) (by omega) (by omega) hm)
        have HMy := Lib.hid (fun (w1 : World) (b : Below W.heap.size W w1) => rmay14_any A n c L S w1 (hL.below b) (by omega) (by omega))
        have HP := Lib.hid (fun (w1 : World) (b : Below W.heap.size W w1) => C.partsNo A n c L S w1 (C.keep H b) (hL.below b) hnc (by omega) (by omega) hm)
        obtain ⟨m, hme⟩ : ∃ m, mys L S = m := ⟨_, rfl⟩
        rw [hme] at HK HMy HP hm
        have e1 : ((m : Int) != (m : Int)) = false := by rw [bne_eq_false_iff_eq]
        have e2 : ((m : Int) != 0) = true := by rw [bne_iff_ne]; omega
        have e3 : decide (m = 0) = false := decide_eq_false hm
        have e4 : (m == 0) = false := by rw [beq_eq_false_iff_ne]; exact hm
        clear hme hL C H hl hnc hbig hSz hz
        go_enter Tryz.func3, Tryz.ntmps3
        go_wp2_with (first
          | (go_at_call 7; (with_reducible refine HT.out.mono ?_); rintro e w0 ⟨rfl, b0⟩; have B0 := Lib.hid b0; clear b0)
          | (go_at_call 8; (with_reducible refine (HK.out _ B0.out).mono ?_); rintro e w1 ⟨rfl, b1⟩; have B1 := Lib.hid ((B0.out).trans (b1.mono (B0.out).size)); clear b1)
          | (go_at_call 9; (with_reducible refine (HMy.out _ B1.out).mono ?_); rintro e w2 ⟨rfl, b2⟩; have B2 := Lib.hid (B1.out.trans (b2.mono B1.out.size)); clear b2)
          | (go_at_call 10; (with_reducible refine (HP.out _ B2.out).mono ?_); rintro e w3 ⟨v, rfl, b3⟩; have B3 := Lib.hid (B2.out.trans (b3.mono B2.out.size)); clear b3)
          | (go_at_call 6; (with_reducible refine (HW.out _ B3.out).mono ?_); rintro e w5 ⟨rfl, b5⟩; have B5 := Lib.hid (B3.out.trans (b5.mono B3.out.size)); clear b5))
        go_ret
        exact ⟨rfl, B5.out⟩
  · have dE : (E == 0) = false := by rw [beq_eq_false_iff_ne]; exact hE0
    have dE' : decide (E = 0) = false := decide_eq_false hE0
    have ds : decide ((32768 : Int) < (raw.size : Int)) = false := decide_eq_false (by omega)
    have ds' : decide (32768 < raw.size) = false := decide_eq_false (by omega)
    by_cases hm : mys L raw = 0
    · obtain ⟨hm1, hm2⟩ := mys_zero.1 hm
      have HK := Lib.hid (fun (w1 : World) (b : Below W.heap.size W w1) => C.kind A n c L raw w1 (C.keep H b) (hL.below b) (by omega) (by omega) hm1 hm2)
      have HMy := Lib.hid (fun (w1 : World) (b : Below W.heap.size W w1) => (show Calls Tryz.prog 9 #[.slice A n c, .string raw] w1 (fun e w' => e = .returned (.int .i64 0) ∧ Below w1.heap.size w1 w') from by
        have h := rmay14_any A n c L raw w1 (hL.below b) (by omega) (by omega)
        rw [hm] at h
        exact h))
      have HP := Lib.hid (fun (w1 : World) (b : Below W.heap.size W w1) => C.parts A n c L raw w1 (C.keep H b) (hL.below b) hnc (by omega) (by omega) hm1 hm2)
      have HR := Lib.hid (fun (w1 : World) (b : Below W.heap.size W w1) => rkind14_any A n c L raw w1 (hL.below b) (by omega) (by omega) hm1)
      obtain ⟨kk, hkk⟩ : ∃ kk, (kd L raw).1 = kk := ⟨_, rfl⟩
      obtain ⟨kb, hkb⟩ : ∃ kb, (kd L raw).2 = kb := ⟨_, rfl⟩
      rw [hkk, hkb] at HK HR
      have e1 : ((kk : Int) == (kk : Int)) = true := by rw [beq_iff_eq]
      have e2 : ((kb : Int) == (kb : Int)) = true := by rw [beq_iff_eq]
      clear hm hm1 hm2 hkk hkb hL C H hl hnc hsz hz hE0
      go_enter Tryz.func3, Tryz.ntmps3
      go_wp2_with (first
        | (go_at_call 7; (with_reducible refine HT.out.mono ?_); rintro e w0 ⟨rfl, b0⟩; have B0 := Lib.hid b0; clear b0)
        | (go_at_call 8; (with_reducible refine (HK.out _ B0.out).mono ?_); rintro e w1 ⟨rfl, b1⟩; have B1 := Lib.hid ((B0.out).trans (b1.mono (B0.out).size)); clear b1)
        | (go_at_call 9; (with_reducible refine (HMy.out _ B1.out).mono ?_); rintro e w2 ⟨rfl, b2⟩; have B2 := Lib.hid (B1.out.trans (b2.mono B1.out.size)); clear b2)
        | (go_at_call 10; (with_reducible refine (HP.out _ B2.out).mono ?_); rintro e w3 ⟨v, rfl, _, b3⟩; have B3 := Lib.hid (B2.out.trans (b3.mono B2.out.size)); clear b3)
        | (go_at_call 11; (with_reducible refine (HR.out _ B3.out).mono ?_); rintro e w4 ⟨rfl, b4⟩; have B4 := Lib.hid (B3.out.trans (b4.mono B3.out.size)); clear b4)
        | (go_at_call 6; (with_reducible refine (HW.out _ B4.out).mono ?_); rintro e w5 ⟨rfl, b5⟩; have B5 := Lib.hid (B4.out.trans (b5.mono B4.out.size)); clear b5))
      go_ret
      exact ⟨rfl, B5.out⟩
    · have HK := Lib.hid (fun (w1 : World) (b : Below W.heap.size W w1) => C.kindNo A n c L raw w1 (C.keep H b) (hL.below b) (by omega) (by omega) hm)
      have HMy := Lib.hid (fun (w1 : World) (b : Below W.heap.size W w1) => rmay14_any A n c L raw w1 (hL.below b) (by omega) (by omega))
      have HP := Lib.hid (fun (w1 : World) (b : Below W.heap.size W w1) => C.partsNo A n c L raw w1 (C.keep H b) (hL.below b) hnc (by omega) (by omega) hm)
      obtain ⟨m, hme⟩ : ∃ m, mys L raw = m := ⟨_, rfl⟩
      rw [hme] at HK HMy HP hm
      have e1 : ((m : Int) != (m : Int)) = false := by rw [bne_eq_false_iff_eq]
      have e2 : ((m : Int) != 0) = true := by rw [bne_iff_ne]; omega
      have e3 : decide (m = 0) = false := decide_eq_false hm
      have e4 : (m == 0) = false := by rw [beq_eq_false_iff_ne]; exact hm
      clear hme hL C H hl hnc hsz hz hE0
      go_enter Tryz.func3, Tryz.ntmps3
      go_wp2_with (first
        | (go_at_call 7; (with_reducible refine HT.out.mono ?_); rintro e w0 ⟨rfl, b0⟩; have B0 := Lib.hid b0; clear b0)
        | (go_at_call 8; (with_reducible refine (HK.out _ B0.out).mono ?_); rintro e w1 ⟨rfl, b1⟩; have B1 := Lib.hid ((B0.out).trans (b1.mono (B0.out).size)); clear b1)
        | (go_at_call 9; (with_reducible refine (HMy.out _ B1.out).mono ?_); rintro e w2 ⟨rfl, b2⟩; have B2 := Lib.hid (B1.out.trans (b2.mono B1.out.size)); clear b2)
        | (go_at_call 10; (with_reducible refine (HP.out _ B2.out).mono ?_); rintro e w3 ⟨v, rfl, b3⟩; have B3 := Lib.hid (B2.out.trans (b3.mono B2.out.size)); clear b3)
        | (go_at_call 6; (with_reducible refine (HW.out _ B3.out).mono ?_); rintro e w5 ⟨rfl, b5⟩; have B5 := Lib.hid (B3.out.trans (b5.mono B3.out.size)); clear b5))
      go_ret
      exact ⟨rfl, B5.out⟩
theorem kinds_heavy {T : World → Prop} (C : Sps T) (A : Option Addr) (n c : Nat) (raw : ByteArray) (own : Bool) (W : World) (H : T W) (hn : n ≤ maxLen) (hr : raw.size ≤ maxLen) (hv : 500 < n ∨ 4096 < raw.size) :
    Calls Tryz.prog 3 #[.slice A n c, .string raw, .bool own] W fun e w' => e = .returned (.bool true) ∧ Below W.heap.size W w' := by
  unfold maxLen at hn hr
  have HW := Lib.hid (works14 C W H)
  by_cases h5 : 500 < n
  · have dn : decide ((500 : Int) < (n : Int)) = true := decide_eq_true (by omega)
    have dn' : decide (500 < n) = true := decide_eq_true h5
    clear C H hv h5
    go_enter Tryz.func3, Tryz.ntmps3
    go_wp2_with (go_at_call 6; (with_reducible refine HW.out.mono ?_); rintro e w7 ⟨rfl, b7⟩; have B7 := Lib.hid b7; clear b7)
    go_ret
    exact ⟨rfl, B7.out⟩
  · have dn : decide ((500 : Int) < (n : Int)) = false := decide_eq_false (by omega)
    have dn' : decide (500 < n) = false := decide_eq_false h5
    have h6 : 4096 < raw.size := by omega
    have dr : decide ((4096 : Int) < (raw.size : Int)) = true := decide_eq_true (by omega)
    have dr' : decide (4096 < raw.size) = true := decide_eq_true h6
    clear C H hv h5 h6
    go_enter Tryz.func3, Tryz.ntmps3
    go_wp2_with (go_at_call 6; (with_reducible refine HW.out.mono ?_); rintro e w7 ⟨rfl, b7⟩; have B7 := Lib.hid b7; clear b7)
    go_ret
    exact ⟨rfl, B7.out⟩
theorem kinds_law {T : World → Prop} (C : Sps T) (A : Option Addr) (n c : Nat) (L : List Tk) (raw : ByteArray) (own : Bool) (W : World) (H : T W) (hL : IsTks W A n L) (hnc : n ≤ c) (hr : raw.size ≤ maxLen) :
    Calls Tryz.prog 3 #[.slice A n c, .string raw, .bool own] W fun e w' => e = .returned (.bool true) ∧ Below W.heap.size W w' := by
  by_cases hv : 500 < n ∨ 4096 < raw.size
  · exact kinds_heavy C A n c raw own W H hL.most hr hv
  · cases own
    · exact kinds_raw C A n c L raw false W H hL hnc (by omega) (by omega)
    · exact kinds_own C A n c L raw true W H hL hnc (by omega) (by omega)
end Go.Proofs.YtlanibgeafdefaaGreatDoor.V
