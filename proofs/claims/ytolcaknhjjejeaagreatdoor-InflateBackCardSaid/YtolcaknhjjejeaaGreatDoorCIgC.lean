import Derived.Test.YtolcaknhjjejeaaGreatDoorCMIfH
import Derived.Test.YtolcaknhjjejeaaGreatDoorCMDfO
namespace Go.Proofs.YtolcaknhjjejeaaGreatDoor.I
set_option maxRecDepth 1000000
open Go Go.RowKit M
set_option linter.unusedVariables false
set_option linter.unusedSimpArgs false
theorem rdeflate_any (d t : ByteArray) (k : Nat) (w : World) (hk : k ≤ 9) (hd : d.size ≤ 32768) (ht : t.size ≤ 10000) :
    Calls Tryz.prog 9 #[.string d, .string t, .int .i64 k, .int .i64 16384] w fun e w' => e = .returned (.tuple #[.string (V.dby d t k), .int .i64 0]) ∧ Below w.heap.size w w' := by
  have hs := (V.dby_short d t k (by omega)).1
  have hb : V.bnd t.size ≤ 10500 := by unfold V.bnd; split <;> omega
  rw [V.dby_size] at hs
  by_cases h0 : k = 0
  · subst h0
    exact (V.rdeflate_zero d t 16384 w (by omega)).mono fun e w' h => ⟨h.2.1 (by omega), h.1⟩
  · exact (V.rdeflate_some d t k 16384 w (by omega) hd ht).mono fun e w' h => ⟨h.2.1 (by omega), h.1⟩
theorem text_of (d t : ByteArray) : (⟨((d.data.toList ++ t.data.toList).drop d.size).toArray⟩ : ByteArray) = t := by
  have h : d.data.toList.length = d.size := Array.length_toList
  rw [← h, List.drop_left]
theorem Ifs.back {T : World → Prop} (C : Ifs T) (d t u : ByteArray) (k : Nat) (w : World) (H : T w) (hd : d.size ≤ 4096) (ht : t.size ≤ 10000) (hu : u.size ≤ 100) :
    Calls Tryz.prog 11 #[.string d, .string (V.dby d t k ++ u), .int .i64 t.size] w fun e w' => e = .returned (.tuple #[.string t, .int .i64 (V.dby d t k).size, .int .i64 0]) ∧ Below w.heap.size w w' := by
  have hs := (V.dby_short d t k (by omega)).1
  have hb : V.bnd t.size ≤ 10500 := by unfold V.bnd; split <;> omega
  have h := C.yes d (V.dby d t k ++ u) t.size w H (by omega) (by rw [ByteArray.size_append]; omega) (by omega)
  rw [inf_dby (by omega) (by omega) (by decide) (Nat.le_refl _)] at h
  unfold ansE at h
  rw [ans_yes] at h
  simp only [text_of] at h
  rw [V.dby_size]
  exact h
theorem app_none (X : ByteArray) : X ++ ⟨#[]⟩ = X := ByteArray.append_empty
theorem inf_own {d t : ByteArray} {k Lim : Nat} (hd : d.size ≤ 4096) (ht : t.size ≤ 10000) (hL : t.size ≤ Lim) : inf 1000000 (V.dby d t k) d.size Lim (0, d.data.toList) = .ok ((), ((V.dbs d t k).length, d.data.toList ++ t.data.toList)) := by
  have := inf_dby (d := d) (t := t) (u := ⟨#[]⟩) (k := k) (K := 1000000) (Lim := Lim) (by omega) (by omega) (by decide) hL
  rw [app_none] at this
  exact this
theorem Ifs.cuts {T : World → Prop} (C : Ifs T) (d t : ByteArray) (k c : Nat) (w : World) (H : T w) (hd : d.size ≤ 4096) (ht : t.size ≤ 10000) (hc : c < (V.dby d t k).size) :
    Calls Tryz.prog 11 #[.string d, .string ((V.dby d t k).extract 0 c), .int .i64 t.size] w fun e w' => e = .returned (.tuple #[.string ⟨#[]⟩, .int .i64 0, .int .i64 6]) ∧ Below w.heap.size w w' := by
  have hs := (V.dby_short d t k (by omega)).1
  have hb : V.bnd t.size ≤ 10500 := by unfold V.bnd; split <;> omega
  have h := C.yes d ((V.dby d t k).extract 0 c) t.size w H (by omega) (by rw [ByteArray.size_extract]; omega) (by omega)
  have hdl : d.data.toList.length = d.size := Array.length_toList
  rw [inf_cut hdl (inf_own hd ht (Nat.le_refl _)) (V.dby_size d t k).symm hc rfl] at h
  exact h
theorem Ifs.low {T : World → Prop} (C : Ifs T) (d t : ByteArray) (k L : Nat) (w : World) (H : T w) (hd : d.size ≤ 4096) (ht : t.size ≤ 10000) (hL : L < t.size) :
    Calls Tryz.prog 11 #[.string d, .string (V.dby d t k), .int .i64 L] w fun e w' => e = .returned (.tuple #[.string ⟨#[]⟩, .int .i64 0, .int .i64 5]) ∧ Below w.heap.size w w' := by
  have hs := (V.dby_short d t k (by omega)).1
  have hb : V.bnd t.size ≤ 10500 := by unfold V.bnd; split <;> omega
  have hdl : d.data.toList.length = d.size := Array.length_toList
  have h := C.yes d (V.dby d t k) L w H (by omega) (by omega) (by omega)
  rw [inf_low hdl (inf_own hd ht (Nat.le_refl _)) (by rw [← hdl, List.drop_left, show t.data.toList.length = t.size from Array.length_toList]; exact hL)] at h
  exact h
set_option maxHeartbeats 4000000 in
theorem iback_law {T : World → Prop} (C : Ifs T) (d t bh : ByteArray) (tm lv : Nat) (W : World) (H : T W) (htm : tm ≤ 255) (hlv : lv ≤ 255) :
    Calls Tryz.prog 4 #[.string d, .string t, .int .u8 tm, .int .u8 lv, .string bh] W fun e w' => e = .returned (.bool true) ∧ Below W.heap.size W w' := by
  have HW := Lib.hid (fun (w : World) (b : Below W.heap.size W w) => works16 C w (C.keep H b))
  have HH := Lib.hid (fun (w : World) => heavy16_any d t w)
  obtain ⟨b1, hb1⟩ : ∃ b, decide (4096 < d.size ∨ 1024 < t.size) = b := ⟨_, rfl⟩
  rw [hb1] at HH
  obtain ⟨b2, hb2⟩ : ∃ b, decide (100 < bh.size) = b := ⟨_, rfl⟩
  have hb2' : decide ((100 : Int) < (bh.size : Int)) = b2 := by rw [← hb2]; exact decide_eq_decide.2 (by omega)
  by_cases hc : b1 = true ∨ b2 = true
  · clear H hb1
    cases b1 <;> cases b2 <;> first
      | exact absurd hc (by decide)
      | (clear hc
         go_enter Tryz.func4, Tryz.ntmps4
         go_wp2_with (first
           | (go_at_call 7; (with_reducible refine (HH.out _).mono ?_); rintro e w1 ⟨rfl, rfl⟩)
           | (go_at_call 8; (with_reducible refine (HW.out _ (Below.refl _ _)).mono ?_); rintro e w5 ⟨rfl, b5⟩; have B5 := Lib.hid b5; clear b5))
         go_ret
         exact ⟨rfl, B5.out⟩)
  · obtain rfl : b1 = false := by cases b1 <;> simp_all
    obtain rfl : b2 = false := by cases b2 <;> simp_all
    have hd : d.size ≤ 4096 := by have := of_decide_eq_false hb1; omega
    have ht : t.size ≤ 1024 := by have := of_decide_eq_false hb1; omega
    have hbh : bh.size ≤ 100 := by have := of_decide_eq_false hb2; omega
    obtain ⟨q, hq⟩ : ∃ q, tm % 20 = q := ⟨_, rfl⟩
    have hq2 : (tm : Int) % 20 = (q : Int) := by omega
    have hq3 : Int.tmod (tm : Int) 20 = (q : Int) := by rw [Int.tmod_eq_emod_of_nonneg (by omega)]; exact hq2
    have hq4 : q < 20 := by omega
    have hq5 : IntKind.i64.wrap (tm : Int) = (tm : Int) := IntWalk.i64_in _ (by omega)
    obtain ⟨k, hk⟩ : ∃ k, lv % 10 = k := ⟨_, rfl⟩
    have hk2 : (lv : Int) % 10 = (k : Int) := by omega
    have hk3 : Int.tmod (lv : Int) 10 = (k : Int) := by rw [Int.tmod_eq_emod_of_nonneg (by omega)]; exact hk2
    have hk4 : k ≤ 9 := by omega
    have hk5 : IntKind.i64.wrap (k : Int) = (k : Int) := IntWalk.i64_in _ (by omega)
    have hk6 : IntKind.u8.wrap (k : Int) = (k : Int) := by simp [IntKind.wrap, IntKind.bits, IntKind.signed]; omega
    have HD := Lib.hid (fun (s : ByteArray) (w : World) (hs : s.size ≤ 5119) => rdeflate_any d s k w hk4 (by omega) (by omega))
    have HI := Lib.hid (fun (s : ByteArray) (w : World) (b : Below W.heap.size W w) (hs : s.size ≤ 5119) => C.back d s bh k w (C.keep H b) hd (by omega) hbh)
    have HX := Lib.hid (fun (s : ByteArray) (hs : s.size ≤ 5119) => (show (V.dby d s k).size ≤ 100000 from by
      have h1 := (V.dby_short d s k (by omega)).1
      have hb : V.bnd s.size ≤ 10500 := by unfold V.bnd; split <;> omega
      omega))
    clear hq hk H C hb1 hb2 hc
    go_enter Tryz.func4, Tryz.ntmps4
    go_wp2_with (go_at_call 7; (with_reducible refine (HH.out _).mono ?_); rintro e w1 ⟨rfl, rfl⟩)
    go_loopw [11, 12] (fun y x wr => ∃ (s : ByteArray) (i : Nat), i ≤ 20 ∧ x = .int .i64 i ∧ y = .string s ∧ s.size ≤ 5119 ∧ Below W.heap.size W wr) (fun _ x _ => 20 - (intOf x).toNat)
    case atStart => exact ⟨⟨#[]⟩, 0, by omega, rfl, rfl, by decide, Below.refl _ _⟩
    case round =>
      obtain ⟨s, i, hi, rfl, rfl, hs, hb⟩ := hrel
      have HB := Lib.hid hb
      clear hb
      have s4 : s.size + t.size ≤ 9223372036854775807 := by omega
      by_cases cc : i < 1 + q ∧ s.size < 4096
      · obtain ⟨ca, cb⟩ := cc
        have a1 : decide ((i : Int) < 1 + (q : Int)) = true := decide_eq_true (by omega)
        have a1' : decide (i < 1 + q) = true := decide_eq_true ca
        have a2 : decide ((s.size : Int) < 4096) = true := decide_eq_true (by omega)
        have a2' : decide (s.size < 4096) = true := decide_eq_true cb
        go_wp2_with fail
        go_roundw
        case rel => exact ⟨s ++ t, i + 1, by omega, by go_num, rfl, by rw [ByteArray.size_append]; omega, HB.out⟩
        case measure => (simp [intOf]; try omega)
      · obtain ⟨b1, hb1⟩ : ∃ b, decide (i < 1 + q) = b := ⟨_, rfl⟩
        obtain ⟨b2, hb2⟩ : ∃ b, decide (s.size < 4096) = b := ⟨_, rfl⟩
        have hb3 : (b1 && b2) = false := by rw [← hb1, ← hb2, Bool.and_eq_false_iff, decide_eq_false_iff_not, decide_eq_false_iff_not]; omega
        have hb1' : decide ((i : Int) < 1 + (q : Int)) = b1 := by rw [← hb1]; exact decide_eq_decide.2 (by omega)
        have hb2' : decide ((s.size : Int) < 4096) = b2 := by rw [← hb2]; exact decide_eq_decide.2 (by omega)
        have hD := HD.out s
        have hI := HI.out s
        have hX := HX.out s hs
        obtain ⟨X, hXe⟩ : ∃ X, V.dby d s k = X := ⟨_, rfl⟩
        rw [hXe] at hX
        simp only [hXe] at hD hI
        have HD := Lib.hid (fun w => hD w hs)
        have HI := Lib.hid (fun w b => hI w b hs)
        have x1 : X.size + bh.size ≤ 9223372036854775807 := by omega
        clear hD hI hXe HX cc hb1 hb2
        cases b1 <;> cases b2 <;> first
          | exact absurd hb3 (by decide)
          | (go_wp2_with (first
              | (go_at_call 9; (with_reducible refine (HD.out _).mono ?_); rintro e w1 ⟨rfl, b1⟩; have B1 := Lib.hid (HB.out.trans (b1.mono HB.out.size)); clear b1)
              | (go_at_call 11; (with_reducible refine (HI.out _ B1.out).mono ?_); rintro e w2 ⟨rfl, b2⟩; have B2 := Lib.hid (B1.out.trans (b2.mono B1.out.size)); clear b2)
              | (go_at_call 8; (with_reducible refine (HW.out _ B2.out).mono ?_); rintro e w5 ⟨rfl, b5⟩; have B5 := Lib.hid (B2.out.trans (b5.mono B2.out.size)); clear b5))
             go_ret
             exact ⟨rfl, B5.out⟩)
theorem rem_nat {a b c : Nat} (h : a % b = c) : Int.tmod (a : Int) (b : Int) = (c : Int) := by
  rw [Int.tmod_eq_emod_of_nonneg (by omega), ← h]
  first | exact (Int.natCast_emod _ _).symm | exact (Int.ofNat_emod _ _).symm | simp
set_option maxHeartbeats 4000000 in
theorem icuts_law {T : World → Prop} (C : Ifs T) (d t : ByteArray) (lv cut less : Nat) (W : World) (H : T W) (hlv : lv ≤ 255) (hcut : cut ≤ 65535) (hless : less ≤ 65535) :
    Calls Tryz.prog 5 #[.string d, .string t, .int .u8 lv, .int .u16 cut, .int .u16 less] W fun e w' => e = .returned (.bool true) ∧ Below W.heap.size W w' := by
  have HW := Lib.hid (fun (w : World) (b : Below W.heap.size W w) => works16 C w (C.keep H b))
  have HH := Lib.hid (fun (w : World) => heavy16_any d t w)
  obtain ⟨b1, hb1⟩ : ∃ b, decide (4096 < d.size ∨ 1024 < t.size) = b := ⟨_, rfl⟩
  rw [hb1] at HH
  cases b1 with
  | true =>
    clear H hb1
    go_enter Tryz.func5, Tryz.ntmps5
    go_wp2_with (first
      | (go_at_call 7; (with_reducible refine (HH.out _).mono ?_); rintro e w1 ⟨rfl, rfl⟩)
      | (go_at_call 8; (with_reducible refine (HW.out _ (Below.refl _ _)).mono ?_); rintro e w5 ⟨rfl, b5⟩; have B5 := Lib.hid b5; clear b5))
    go_ret
    exact ⟨rfl, B5.out⟩
  | false =>
    have hd : d.size ≤ 4096 := by have := of_decide_eq_false hb1; omega
    have ht : t.size ≤ 1024 := by have := of_decide_eq_false hb1; omega
    obtain ⟨k, hk⟩ : ∃ k, lv % 10 = k := ⟨_, rfl⟩
    have hk2 : (lv : Int) % 10 = (k : Int) := by omega
    have hk3 : Int.tmod (lv : Int) 10 = (k : Int) := by rw [Int.tmod_eq_emod_of_nonneg (by omega)]; exact hk2
    have hk4 : k ≤ 9 := by omega
    have hk5 : IntKind.i64.wrap (k : Int) = (k : Int) := IntWalk.i64_in _ (by omega)
    have hk6 : IntKind.u8.wrap (k : Int) = (k : Int) := by simp [IntKind.wrap, IntKind.bits, IntKind.signed]; omega
    have HD := Lib.hid (fun (w : World) => rdeflate_any d t k w hk4 (by omega) (by omega))
    have hX1 := V.dby_short d t k (by omega)
    have hb : V.bnd t.size ≤ 10500 := by unfold V.bnd; split <;> omega
    have hC := fun (w : World) (b : Below W.heap.size W w) (c : Nat) (hc : c < (V.dby d t k).size) => C.cuts d t k c w (C.keep H b) hd (by omega) hc
    have hL := fun (w : World) (b : Below W.heap.size W w) (L : Nat) (hL : L < t.size) => C.low d t k L w (C.keep H b) hd (by omega) hL
    obtain ⟨X, hXe⟩ : ∃ X, V.dby d t k = X := ⟨_, rfl⟩
    rw [hXe] at HD hX1
    simp only [hXe] at hC hL
    have x1 : 1 ≤ X.size := hX1.2
    have x2 : X.size ≤ 10500 := by omega
    obtain ⟨c, hc⟩ : ∃ c, cut % X.size = c := ⟨_, rfl⟩
    have c1 : c < X.size := by rw [← hc]; exact Nat.mod_lt _ (by omega)
    have HC := Lib.hid (fun w b => hC w b c c1)
    have x3 : ((X.size : Int) == 0) = false := by rw [beq_eq_false_iff_ne]; omega
    have x4 : decide (X.size = 0) = false := decide_eq_false (by omega)
    have x5 : (X.size == 0) = false := by rw [beq_eq_false_iff_ne]; omega
    have c2 : Int.tmod (cut : Int) (X.size : Int) = (c : Int) := rem_nat hc
    have c3 : IntKind.i64.wrap (cut : Int) = (cut : Int) := IntWalk.i64_in _ (by omega)
    have c4 : IntKind.i64.wrap (c : Int) = (c : Int) := IntWalk.i64_in _ (by omega)
    have c5 : c ≤ X.size := by omega
    have l3 : IntKind.i64.wrap (less : Int) = (less : Int) := IntWalk.i64_in _ (by omega)
    by_cases h0 : t.size = 0
    · have y3 : ((t.size : Int) == 0) = true := by rw [beq_iff_eq]; omega
      have y5 : (t.size == 0) = true := by rw [beq_iff_eq]; omega
      clear h0 hk H C hb1 hC hL hXe hX1 hc hb
      go_enter Tryz.func5, Tryz.ntmps5
      go_wp2_with (first
        | (go_at_call 7; (with_reducible refine (HH.out _).mono ?_); rintro e w1 ⟨rfl, rfl⟩)
        | (go_at_call 9; (with_reducible refine (HD.out _).mono ?_); rintro e w2 ⟨rfl, b2⟩; have B2 := Lib.hid b2; clear b2)
        | (go_at_call 11; (with_reducible refine (HC.out _ B2.out).mono ?_); rintro e w3 ⟨rfl, b3⟩; have B3 := Lib.hid (B2.out.trans (b3.mono B2.out.size)); clear b3)
        | (go_at_call 8; (with_reducible refine (HW.out _ B3.out).mono ?_); rintro e w5 ⟨rfl, b5⟩; have B5 := Lib.hid (B3.out.trans (b5.mono B3.out.size)); clear b5))
      go_ret
      exact ⟨rfl, B5.out⟩
    · obtain ⟨m, hm⟩ : ∃ m, t.size - 1 = m := ⟨_, rfl⟩
      obtain ⟨l, hl⟩ : ∃ l, less % t.size = l := ⟨_, rfl⟩
      have l1 : l < t.size := by rw [← hl]; exact Nat.mod_lt _ (by omega)
      obtain ⟨L, hLe⟩ : ∃ L, m - l = L := ⟨_, rfl⟩
      have HL := Lib.hid (fun w b => hL w b L (by omega))
      have y3 : ((t.size : Int) == 0) = false := by rw [beq_eq_false_iff_ne]; omega
      have y4 : decide (t.size = 0) = false := decide_eq_false (by omega)
      have y5 : (t.size == 0) = false := by rw [beq_eq_false_iff_ne]; omega
      have l2 : Int.tmod (less : Int) (t.size : Int) = (l : Int) := rem_nat hl
      have l4 : (t.size : Int) - 1 = (m : Int) := by omega
      have l5 : IntKind.i64.wrap (m : Int) = (m : Int) := IntWalk.i64_in _ (by omega)
      have l6 : (m : Int) - (l : Int) = (L : Int) := by omega
      have l7 : IntKind.i64.wrap (L : Int) = (L : Int) := IntWalk.i64_in _ (by omega)
      have l8 : IntKind.i64.wrap (l : Int) = (l : Int) := IntWalk.i64_in _ (by omega)
      clear hk H C hb1 hC hL hXe hX1 hc hb hl hm hLe
      go_enter Tryz.func5, Tryz.ntmps5
      go_wp2_with (first
        | (go_at_call 7; (with_reducible refine (HH.out _).mono ?_); rintro e w1 ⟨rfl, rfl⟩)
        | (go_at_call 9; (with_reducible refine (HD.out _).mono ?_); rintro e w2 ⟨rfl, b2⟩; have B2 := Lib.hid b2; clear b2)
        | (go_at_call 11; (with_reducible refine (HC.out _ B2.out).mono ?_); rintro e w3 ⟨rfl, b3⟩; have B3 := Lib.hid (B2.out.trans (b3.mono B2.out.size)); clear b3)
        | (go_at_call 11; (with_reducible refine (HL.out _ B3.out).mono ?_); rintro e w4 ⟨rfl, b4⟩; have B4 := Lib.hid (B3.out.trans (b4.mono B3.out.size)); clear b4)
        | (go_at_call 8; (with_reducible refine (HW.out _ B4.out).mono ?_); rintro e w5 ⟨rfl, b5⟩; have B5 := Lib.hid (B4.out.trans (b5.mono B4.out.size)); clear b5))
      go_ret
      exact ⟨rfl, B5.out⟩
end Go.Proofs.YtolcaknhjjejeaaGreatDoor.I
