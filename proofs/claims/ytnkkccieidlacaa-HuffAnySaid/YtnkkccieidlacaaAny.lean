/- HuffAny returns true for any lengths, bytes, first table. Conditions: none. -/
import Derived.Test.YtnkkccieidlacaaBck
namespace Go.Proofs.Ytnkkccieidlacaa
open Go.RowKit M
set_option linter.unusedVariables false
set_option linter.unusedSimpArgs false

theorem Rd.drew {w : World} {B p a : Nat} {s : ByteArray} (h : Rd w B p s a) : Rd w.drew B p s a := h.drewN 1
theorem any_next (X a z : Nat) : X % 2 ^ (a + z) = X % 2 ^ a + X / 2 ^ a % 2 ^ z * 2 ^ a := by
  rw [Nat.pow_add, Nat.mod_mul, Nat.mul_comm (2 ^ a)]
theorem any_bit {X a i : Nat} (h : i < a) : X % 2 ^ a / 2 ^ i % 2 ^ 1 = X / 2 ^ i % 2 ^ 1 := by
  rw [part_mod, part_mod, mod_mod_le (show i + 1 ≤ a by omega)]

set_option maxRecDepth 1000000 in
theorem any_far (A : Option Addr) (n c : Nat) (s : ByteArray) (x : Int) (W : World) (hn : n ≤ maxLen) (hs : s.size ≤ maxLen) (h : 320 < n ∨ 200 < s.size) :
    Calls Try.prog 7 #[.slice A n c, .string s, .int .u8 x] W fun e w' => e = .returned (.bool true) ∧ Below W.heap.size W w' := by
  have hn' : n ≤ 9223372036854775807 := by unfold maxLen at hn; omega
  have hs' : s.size ≤ 9223372036854775807 := by unfold maxLen at hs; omega
  by_cases h1 : 320 < n
  · have hd : decide (320 < (n : Int)) = true := decide_eq_true (by omega)
    clear h
    go_enter Try.func7, Try.ntmps7
    go_wp2_with fail
    refine (alive_any _).mono ?_; rintro e w2 ⟨rfl, b2⟩
    have B2 := Lib.hid b2
    clear b2
    go_wp2_with fail
    go_ret
    exact ⟨rfl, B2.out⟩
  · have hd : decide (320 < (n : Int)) = false := decide_eq_false (by omega)
    have h2 : 200 < s.size := by omega
    have hd2 : decide (200 < (s.size : Int)) = true := decide_eq_true (by omega)
    clear h
    go_enter Try.func7, Try.ntmps7
    go_wp2_with fail
    refine (alive_any _).mono ?_; rintro e w2 ⟨rfl, b2⟩
    have B2 := Lib.hid b2
    clear b2
    go_wp2_with fail
    go_ret
    exact ⟨rfl, B2.out⟩

set_option maxRecDepth 1000000 in
set_option maxHeartbeats 1000000 in
theorem any_none (A : Option Addr) (n c : Nat) (l : Nat → Nat) (s : ByteArray) (o f : Nat) (W : World) (hn : n ≤ 320) (hs : s.size ≤ 200) (hl : ∀ i, l i ≤ 255) (H : Nums W .u8 A n (fun i => (l i : Int))) (ho : o < 256) (hf : o % 12 + 1 = f) (he : nerr l n (f : Int) ≠ 0) :
    Calls Try.prog 7 #[.slice A n c, .string s, .int .u8 o] W fun e w' => e = .returned (.bool true) ∧ Below W.heap.size W w' := by
  have hd : decide (320 < (n : Int)) = false := decide_eq_false (by omega)
  have hd2 : decide (200 < (s.size : Int)) = false := decide_eq_false (by omega)
  have hnm : n ≤ maxLen := by unfold maxLen; omega
  have hN := Lib.hid (fun w H => new_no_any A n c l (f : Int) w hnm hl H he)
  have hW := Lib.hid (fun w H => writes_any A n c l w hnm hl H)
  obtain ⟨E, hE⟩ : ∃ E, nerr l n (f : Int) = E := ⟨_, rfl⟩
  rw [hE] at hN he
  have e0 : ((E : Int) != 0) = true := by rw [bne_iff_ne]; omega
  have e1 : ((E : Int) == 0) = false := by rw [beq_eq_false_iff_ne]; omega
  have r1 : ((o : Int).tmod 12) = ((o % 12 : Nat) : Int) := by rw [Int.tmod_eq_emod_of_nonneg (by omega)]; rfl
  obtain ⟨o', ho'⟩ : ∃ o', o % 12 = o' := ⟨_, rfl⟩
  rw [ho'] at r1 hf
  have s1 : (o' : Int) + 1 = (f : Int) := by omega
  have HH := Lib.hid H
  clear H hl hE
  go_enter Try.func7, Try.ntmps7
  go_wp2_with fail
  refine (hN.out _ HH.out).mono ?_; rintro e w2 ⟨rfl, b2⟩
  have B2 := Lib.hid b2
  have H2 := Lib.hid (HH.out.below b2)
  clear b2
  go_wp2_with fail
  refine (hW.out _ H2.out).mono ?_; rintro e w3 ⟨A3, c3, rfl, _, _, _, b3, _⟩
  have B3 := Lib.hid (B2.out.trans (b3.mono B2.out.size))
  clear b3
  go_wp2_with fail
  refine (rnew_any s _ (B := w3.heap.size) (Nat.le_refl _)).mono ?_; rintro e w4 ⟨rfl, k4, r4, l4⟩
  have B4 := Lib.hid (B3.out.trans (k4.below B3.out.size (fun _ g => g.elim)))
  clear k4 r4 l4
  go_wp2_with fail
  refine (new_any 4096 _ (Nat.le_refl _)).mono ?_; rintro e w5 ⟨rfl, k5, r5, l5⟩
  have B5 := Lib.hid (B4.out.trans (k5.below B4.out.size (fun _ g => g.elim)))
  clear k5 r5 l5
  go_wp2_with fail
  refine (alive_any _).mono ?_; rintro e w6 ⟨rfl, b6⟩
  have B6 := Lib.hid (B5.out.trans (b6.mono B5.out.size))
  clear b6
  go_wp2_with fail
  go_ret
  exact ⟨rfl, B6.out⟩

set_option maxRecDepth 1000000 in
set_option maxHeartbeats 1000000 in
theorem any_some (A : Option Addr) (n c : Nat) (l : Nat → Nat) (s : ByteArray) (o f : Nat) (W : World) (hn : n ≤ 320) (hs : s.size ≤ 200) (hl : ∀ i, l i ≤ 255) (H : Nums W .u8 A n (fun i => (l i : Int))) (ho : o < 256) (hf : o % 12 + 1 = f) (htb : Tbl l n) :
    Calls Try.prog 7 #[.slice A n c, .string s, .int .u8 o] W fun e w' => e = .returned (.bool true) ∧ Below W.heap.size W w' := by
  have hd : decide (320 < (n : Int)) = false := decide_eq_false (by omega)
  have hd2 : decide (200 < (s.size : Int)) = false := decide_eq_false (by omega)
  have hnm : n ≤ maxLen := by unfold maxLen; omega
  have hfit := htb.fit
  have HF := Lib.hid hfit
  have hf1 : 1 ≤ f := by omega
  have hf2 : f ≤ 15 := by omega
  have hN := Lib.hid (fun w H => new_ok_any A n c l f w hl H htb hf1 hf2)
  have hW := Lib.hid (fun w H => writes_any A n c l w hnm hl H)
  have he : erc l n = 0 ∧ outn l n = n := by
    rcases erc_of (l := l) (n := n) with ⟨a, _⟩ | ⟨a, _⟩ | ⟨_, _, a, b⟩
    · unfold Tbl at htb; omega
    · unfold Tbl at htb; omega
    · exact ⟨a, b⟩
  rw [he.1, he.2] at hW
  have r1 : ((o : Int).tmod 12) = ((o % 12 : Nat) : Int) := by rw [Int.tmod_eq_emod_of_nonneg (by omega)]; rfl
  obtain ⟨o', ho'⟩ : ∃ o', o % 12 = o' := ⟨_, rfl⟩
  rw [ho'] at r1 hf
  have s1 : (o' : Int) + 1 = (f : Int) := by omega
  have HH := Lib.hid H
  clear H hl htb hfit he
  go_enter Try.func7, Try.ntmps7
  go_wp2_with fail
  refine (hN.out _ HH.out).mono ?_; rintro e w2 ⟨T, p, mm, G, N, D, rfl, hp, P2, b2⟩
  have B2 := Lib.hid b2
  have H2 := Lib.hid (HH.out.below b2)
  have P2 := Lib.hid P2
  clear b2 hp
  go_wp2_with fail
  refine (hW.out _ H2.out).mono ?_; rintro e w3 ⟨A3, c3, rfl, hc3, hc4, hcd, b3, _⟩
  have B3 := Lib.hid (B2.out.trans (b3.mono B2.out.size))
  have P3 := Lib.hid (P2.out.below b3)
  have C3 := Lib.hid hcd
  clear b3 hcd
  go_wp2_with fail
  refine (rnew_any s _ (B := w3.heap.size) (Nat.le_refl _)).mono ?_; rintro e w4 ⟨rfl, k4, r4, l4⟩
  have B4 := Lib.hid (k4.below (Nat.le_refl w3.heap.size) (fun _ g => g.elim))
  have R4 := Lib.hid r4
  have hlt4 := l4
  clear k4 r4 l4
  go_wp2_with fail
  refine (new_any 4096 _ (Nat.le_refl _)).mono ?_; rintro e w5 ⟨rfl, k5, t5, l5⟩
  have T5 := Lib.hid t5
  have R5 := Lib.hid (R4.out.same k5)
  have B5 := Lib.hid (B4.out.trans (k5.below (Nat.le_of_lt hlt4) (fun _ g => g.elim)))
  have hs5 := k5.size
  clear k5 t5 l5
  rw [show max (0 : Int) 4096 = 4096 by decide] at T5
  go_wp2_with fail
  obtain ⟨q, hq⟩ : ∃ q, w3.heap.size = q := ⟨_, rfl⟩
  obtain ⟨q2, hq2⟩ : ∃ q2, w4.heap.size = q2 := ⟨_, rfl⟩
  rw [hq] at B5 R5 hlt4 ⊢
  rw [hq2] at T5 hs5 hlt4 ⊢
  obtain ⟨Z8, hZ8⟩ : ∃ Z8, 8 * s.size = Z8 := ⟨_, rfl⟩
  have z8 : 8 * (s.size : Int) = (Z8 : Int) := by omega
  have hZ16 : Z8 ≤ 1600 := by omega
  have HZ8 := Lib.hid hZ8
  have HSZ := Lib.hid (show s.size ≤ 100000000 by omega)
  go_loopw [13] (fun iv wr => ∃ k a : Nat, ∃ S : Nat → Prop, k ≤ Z8 + 1 ∧ iv = .int .i64 k ∧ a ≤ Z8 ∧ Rd wr q q s a ∧ Wt wr q2 q2 S 4096 (tx s % 2 ^ a) a ∧ Below q w3 wr) (fun iv _ => Z8 + 1 - (intOf iv).toNat)
  case atStart => exact ⟨0, 0, _, by omega, rfl, by omega, R5.out, by rw [Nat.pow_zero, Nat.mod_one]; exact T5.out, B5.out⟩
  case round =>
    clear T5 R5 B5
    obtain ⟨k, a, S, hk, rfl, ha, hr, ht, hb⟩ := hrel
    have HR := Lib.hid hr
    have HT := Lib.hid ht
    have HB := Lib.hid hb
    have hbs := hb.size
    clear hr ht hb
    by_cases hkz : k ≤ Z8
    · have dk : decide ((k : Int) ≤ (Z8 : Int)) = true := decide_eq_true (by omega)
      have dk2 : decide (k ≤ Z8) = true := decide_eq_true hkz
      have hnx := hnext_any T p mm N n f G D l w3 wr q q a s HF.out hf1 hf2 P3.out (by omega) (by rw [hq]; exact HB.out) HR.out HSZ.out
      have hcs := lk_cases (l := l) (n := n) (X := nb s a (min 15 (8 * s.size - a))) (h := min 15 (8 * s.size - a)) HF.out
      have hen : lk l n (nb s a (min 15 (8 * s.size - a))) (min 15 (8 * s.size - a)) = (0, 0, 6) → Z8 - a < 15 := fun h => by
        have := lk_end HF.out h
        omega
      have hg : gnext l n s a = if (lk l n (nb s a (min 15 (8 * s.size - a))) (min 15 (8 * s.size - a))).2.2 = 0 then ((lk l n (nb s a (min 15 (8 * s.size - a))) (min 15 (8 * s.size - a))).1, 0, a + (lk l n (nb s a (min 15 (8 * s.size - a))) (min 15 (8 * s.size - a))).2.1)
        else (0, (lk l n (nb s a (min 15 (8 * s.size - a))) (min 15 (8 * s.size - a))).2.2, a) := rfl
      rcases hcs with ⟨i, i1, i2, i3, i4, hlk⟩ | hlk | hlk
      · rw [hlk, if_pos rfl] at hg
        dsimp only at hg
        rw [hg] at hnx
        have h15 := HF.out.1.2 i i1
        have hrs := rc_small (l := l) (n := n) (i := i) h15
        have hrl := rc_lt l n i
        have hle8 : l i ≤ 8 * s.size - a := Nat.le_trans i3 (Nat.min_le_right _ _)
        have hbt : tx s / 2 ^ a % 2 ^ l i = rc l n i := by
          rw [← i4]; unfold nb; rw [mod_mod_le i3]
        obtain ⟨b2, o2, rfl, hbs2, hcc⟩ := C3.out (by omega)
        have hb2q : b2 < q := by rw [← hq]; exact hbs2
        have c31 := (hcc i i1).1
        have c32 := (hcc i i1).2
        have HV := Lib.hid (any_next (tx s) a (l i))
        rw [hbt] at HV
        obtain ⟨N1, hN1⟩ : ∃ N1, rc l n i = N1 := ⟨_, rfl⟩
        obtain ⟨z, hz⟩ : ∃ z, l i = z := ⟨_, rfl⟩
        rw [hN1] at c31 hrs hrl HV
        rw [hz] at c32 h15 hrl hle8 HV hnx
        have HNX := Lib.hid hnx
        have hza : a + z ≤ Z8 := by omega
        have dz : ((z : Int) != ((a + z : Nat) : Int) - (a : Int)) = false := by rw [bne_eq_false_iff_eq]; omega
        have dz2 : ((a : Int) + (z : Int) - (a : Int)) = (z : Int) := by omega
        clear hnx hen hg hcc hbt hlk i3 i4
        go_wp2_with fail
        refine (at_any HR.out).mono ?_; rintro e w' ⟨rfl, rfl⟩
        go_wp2_with fail
        refine HNX.out.mono ?_; rintro e w5 ⟨rfl, r5, k5⟩
        have R5 := Lib.hid r5
        have T5 := Lib.hid (HT.out.keep k5 (fun j hj e => by have := (HT.out.lt hj).1; omega))
        have B5 := Lib.hid (HB.out.trans (k5.below (B := q) (by omega) (fun j hj => by omega)))
        have hs5' := B5.out.size
        clear r5 k5
        have g3 := (B5.out.drew.cell (p := ⟨b2, o2 + i * 2, none⟩) hb2q).trans c31
        have g4 := (B5.out.drew.cell (p := ⟨b2, o2 + i * 2 + 1, none⟩) hb2q).trans c32
        have hcode := code_any (T5.out.keep ((Kept.refl NoB w5).drew) (fun _ _ g => g)) (N1 : Int) (z : Int) (by omega) (by omega) (by omega)
        rw [Int.toNat_natCast, bitsR_yes (by omega) hrl (by omega)] at hcode
        have HC := Lib.hid hcode
        have di : decide ((i : Int) < 0) = false := decide_eq_false (by omega)
        have di2 : decide ((n : Int) ≤ (i : Int)) = false := decide_eq_false (by omega)
        have di3 : decide (n ≤ i) = false := decide_eq_false (by omega)
        have hii : ((i : Int)).toNat = i := by omega
        clear hcode
        go_wp2_with fail
        refine take_region (fun w' => w'.cell? ⟨b2, o2 + i * 2, none⟩ = some (.int .u32 N1) ∧ w'.cell? ⟨b2, o2 + i * 2 + 1, none⟩ = some (.int .u8 z)) ⟨g3, g4⟩ (fun h0 => ?_)
        first
        | (refine take_no (i := 0) (d := some 110) rfl rfl (by kernel_rfl) (by kernel_rfl) (by kernel_rfl) (fun _ _ _ h => h) (by rfl) h0 ?_; (try simp only [Act.put, List.setIfInBounds_toArray, List.set_cons_zero, List.set_cons_succ]))
        | (refine take_op (i := 0) (d := some 110) (v := ?_) rfl rfl (by kernel_rfl) (by kernel_rfl) (by kernel_rfl) (fun _ _ _ h => h) (by rfl) (fun w hSw => ?_) h0 ?_; rotate_left; (focus ((try dsimp only at hSw); go_simp; (try with_reducible rfl))); (try simp only [Act.put, List.setIfInBounds_toArray, List.set_cons_zero, List.set_cons_succ]))
        first
        | (refine take_no (i := 1) (d := some 111) rfl rfl (by kernel_rfl) (by kernel_rfl) (by kernel_rfl) (fun _ _ _ h => h) (by rfl) h0 ?_; (try simp only [Act.put, List.setIfInBounds_toArray, List.set_cons_zero, List.set_cons_succ]))
        | (refine take_op (i := 1) (d := some 111) (v := ?_) rfl rfl (by kernel_rfl) (by kernel_rfl) (by kernel_rfl) (fun _ _ _ h => h) (by rfl) (fun w hSw => ?_) h0 ?_; rotate_left; (focus ((try dsimp only at hSw); go_simp; (try with_reducible rfl))); (try simp only [Act.put, List.setIfInBounds_toArray, List.set_cons_zero, List.set_cons_succ]))
        first
        | (refine take_no (i := 2) (d := some 112) rfl rfl (by kernel_rfl) (by kernel_rfl) (by kernel_rfl) (fun _ _ _ h => h) (by rfl) h0 ?_; (try simp only [Act.put, List.setIfInBounds_toArray, List.set_cons_zero, List.set_cons_succ]))
        | (refine take_op (i := 2) (d := some 112) (v := ?_) rfl rfl (by kernel_rfl) (by kernel_rfl) (by kernel_rfl) (fun _ _ _ h => h) (by rfl) (fun w hSw => ?_) h0 ?_; rotate_left; (focus ((try dsimp only at hSw); go_simp; (try with_reducible rfl))); (try simp only [Act.put, List.setIfInBounds_toArray, List.set_cons_zero, List.set_cons_succ]))
        first
        | (refine take_no (i := 3) (d := some 113) rfl rfl (by kernel_rfl) (by kernel_rfl) (by kernel_rfl) (fun _ _ _ h => h) (by rfl) h0 ?_; (try simp only [Act.put, List.setIfInBounds_toArray, List.set_cons_zero, List.set_cons_succ]))
        | (refine take_op (i := 3) (d := some 113) (v := ?_) rfl rfl (by kernel_rfl) (by kernel_rfl) (by kernel_rfl) (fun _ _ _ h => h) (by rfl) (fun w hSw => ?_) h0 ?_; rotate_left; (focus ((try dsimp only at hSw); go_simp; (try with_reducible rfl))); (try simp only [Act.put, List.setIfInBounds_toArray, List.set_cons_zero, List.set_cons_succ]))
        first
        | (refine take_no (i := 4) (d := some 114) rfl rfl (by kernel_rfl) (by kernel_rfl) (by kernel_rfl) (fun _ _ _ h => h) (by rfl) h0 ?_; (try simp only [Act.put, List.setIfInBounds_toArray, List.set_cons_zero, List.set_cons_succ]))
        | (refine take_op (i := 4) (d := some 114) (v := ?_) rfl rfl (by kernel_rfl) (by kernel_rfl) (by kernel_rfl) (fun _ _ _ h => h) (by rfl) (fun w hSw => ?_) h0 ?_; rotate_left; (focus ((try dsimp only at hSw); go_simp; (try with_reducible rfl))); (try simp only [Act.put, List.setIfInBounds_toArray, List.set_cons_zero, List.set_cons_succ]))
        first
        | (refine take_no (i := 5) (d := some 115) rfl rfl (by kernel_rfl) (by kernel_rfl) (by kernel_rfl) (fun _ _ _ h => h) (by rfl) h0 ?_; (try simp only [Act.put, List.setIfInBounds_toArray, List.set_cons_zero, List.set_cons_succ]))
        | (refine take_op (i := 5) (d := some 115) (v := ?_) rfl rfl (by kernel_rfl) (by kernel_rfl) (by kernel_rfl) (fun _ _ _ h => h) (by rfl) (fun w hSw => ?_) h0 ?_; rotate_left; (focus ((try dsimp only at hSw); go_simp; (try with_reducible rfl))); (try simp only [Act.put, List.setIfInBounds_toArray, List.set_cons_zero, List.set_cons_succ]))
        first
        | (refine take_no (i := 6) (d := some 116) rfl rfl (by kernel_rfl) (by kernel_rfl) (by kernel_rfl) (fun _ _ _ h => h) (by rfl) h0 ?_; (try simp only [Act.put, List.setIfInBounds_toArray, List.set_cons_zero, List.set_cons_succ]))
        | (refine take_op (i := 6) (d := some 116) (v := ?_) rfl rfl (by kernel_rfl) (by kernel_rfl) (by kernel_rfl) (fun _ _ _ h => h) (by rfl) (fun w hSw => ?_) h0 ?_; rotate_left; (focus ((try dsimp only at hSw); go_simp; (try with_reducible rfl))); (try simp only [Act.put, List.setIfInBounds_toArray, List.set_cons_zero, List.set_cons_succ]))
        first
        | (refine take_no (i := 7) (d := some 117) rfl rfl (by kernel_rfl) (by kernel_rfl) (by kernel_rfl) (fun _ _ _ h => h) (by rfl) h0 ?_; (try simp only [Act.put, List.setIfInBounds_toArray, List.set_cons_zero, List.set_cons_succ]))
        | (refine take_op (i := 7) (d := some 117) (v := ?_) rfl rfl (by kernel_rfl) (by kernel_rfl) (by kernel_rfl) (fun _ _ _ h => h) (by rfl) (fun w hSw => ?_) h0 ?_; rotate_left; (focus ((try dsimp only at hSw); go_simp; (try with_reducible rfl))); (try simp only [Act.put, List.setIfInBounds_toArray, List.set_cons_zero, List.set_cons_succ]))
        first
        | (refine take_no (i := 8) (d := some 118) rfl rfl (by kernel_rfl) (by kernel_rfl) (by kernel_rfl) (fun _ _ _ h => h) (by rfl) h0 ?_; (try simp only [Act.put, List.setIfInBounds_toArray, List.set_cons_zero, List.set_cons_succ]))
        | (refine take_op (i := 8) (d := some 118) (v := ?_) rfl rfl (by kernel_rfl) (by kernel_rfl) (by kernel_rfl) (fun _ _ _ h => h) (by rfl) (fun w hSw => ?_) h0 ?_; rotate_left; (focus ((try dsimp only at hSw); go_simp; (try with_reducible rfl))); (try simp only [Act.put, List.setIfInBounds_toArray, List.set_cons_zero, List.set_cons_succ]))
        first
        | (refine take_no (i := 9) (d := some 119) rfl rfl (by kernel_rfl) (by kernel_rfl) (by kernel_rfl) (fun _ _ _ h => h) (by rfl) h0 ?_; (try simp only [Act.put, List.setIfInBounds_toArray, List.set_cons_zero, List.set_cons_succ]))
        | (refine take_op (i := 9) (d := some 119) (v := ?_) rfl rfl (by kernel_rfl) (by kernel_rfl) (by kernel_rfl) (fun _ _ _ h => h) (by rfl) (fun w hSw => ?_) h0 ?_; rotate_left; (focus ((try dsimp only at hSw); go_simp; (try with_reducible rfl))); (try simp only [Act.put, List.setIfInBounds_toArray, List.set_cons_zero, List.set_cons_succ]))
        first
        | (refine take_no (i := 10) (d := some 120) rfl rfl (by kernel_rfl) (by kernel_rfl) (by kernel_rfl) (fun _ _ _ h => h) (by rfl) h0 ?_; (try simp only [Act.put, List.setIfInBounds_toArray, List.set_cons_zero, List.set_cons_succ]))
        | (refine take_op (i := 10) (d := some 120) (v := ?_) rfl rfl (by kernel_rfl) (by kernel_rfl) (by kernel_rfl) (fun _ _ _ h => h) (by rfl) (fun w hSw => ?_) h0 ?_; rotate_left; (focus ((try dsimp only at hSw); go_simp; (try with_reducible rfl))); (try simp only [Act.put, List.setIfInBounds_toArray, List.set_cons_zero, List.set_cons_succ]))
        first
        | (refine take_no (i := 11) (d := some 121) rfl rfl (by kernel_rfl) (by kernel_rfl) (by kernel_rfl) (fun _ _ _ h => h) (by rfl) h0 ?_; (try simp only [Act.put, List.setIfInBounds_toArray, List.set_cons_zero, List.set_cons_succ]))
        | (refine take_op (i := 11) (d := some 121) (v := ?_) rfl rfl (by kernel_rfl) (by kernel_rfl) (by kernel_rfl) (fun _ _ _ h => h) (by rfl) (fun w hSw => ?_) h0 ?_; rotate_left; (focus ((try dsimp only at hSw); go_simp; (try with_reducible rfl))); (try simp only [Act.put, List.setIfInBounds_toArray, List.set_cons_zero, List.set_cons_succ]))
        first
        | (refine take_no (i := 12) (d := some 122) rfl rfl (by kernel_rfl) (by kernel_rfl) (by kernel_rfl) (fun _ _ _ h => h) (by rfl) h0 ?_; (try simp only [Act.put, List.setIfInBounds_toArray, List.set_cons_zero, List.set_cons_succ]))
        | (refine take_op (i := 12) (d := some 122) (v := ?_) rfl rfl (by kernel_rfl) (by kernel_rfl) (by kernel_rfl) (fun _ _ _ h => h) (by rfl) (fun w hSw => ?_) h0 ?_; rotate_left; (focus ((try dsimp only at hSw); go_simp; (try with_reducible rfl))); (try simp only [Act.put, List.setIfInBounds_toArray, List.set_cons_zero, List.set_cons_succ]))
        first
        | (refine take_no (i := 13) (d := some 123) rfl rfl (by kernel_rfl) (by kernel_rfl) (by kernel_rfl) (fun _ _ _ h => h) (by rfl) h0 ?_; (try simp only [Act.put, List.setIfInBounds_toArray, List.set_cons_zero, List.set_cons_succ]))
        | (refine take_op (i := 13) (d := some 123) (v := ?_) rfl rfl (by kernel_rfl) (by kernel_rfl) (by kernel_rfl) (fun _ _ _ h => h) (by rfl) (fun w hSw => ?_) h0 ?_; rotate_left; (focus ((try dsimp only at hSw); go_simp; (try with_reducible rfl))); (try simp only [Act.put, List.setIfInBounds_toArray, List.set_cons_zero, List.set_cons_succ]))
        first
        | (refine take_no (i := 14) (d := some 124) rfl rfl (by kernel_rfl) (by kernel_rfl) (by kernel_rfl) (fun _ _ _ h => h) (by rfl) h0 ?_; (try simp only [Act.put, List.setIfInBounds_toArray, List.set_cons_zero, List.set_cons_succ]))
        | (refine take_op (i := 14) (d := some 124) (v := ?_) rfl rfl (by kernel_rfl) (by kernel_rfl) (by kernel_rfl) (fun _ _ _ h => h) (by rfl) (fun w hSw => ?_) h0 ?_; rotate_left; (focus ((try dsimp only at hSw); go_simp; (try with_reducible rfl))); (try simp only [Act.put, List.setIfInBounds_toArray, List.set_cons_zero, List.set_cons_succ]))
        first
        | (refine take_no (i := 15) (d := some 125) rfl rfl (by kernel_rfl) (by kernel_rfl) (by kernel_rfl) (fun _ _ _ h => h) (by rfl) h0 ?_; (try simp only [Act.put, List.setIfInBounds_toArray, List.set_cons_zero, List.set_cons_succ]))
        | (refine take_op (i := 15) (d := some 125) (v := ?_) rfl rfl (by kernel_rfl) (by kernel_rfl) (by kernel_rfl) (fun _ _ _ h => h) (by rfl) (fun w hSw => ?_) h0 ?_; rotate_left; (focus ((try dsimp only at hSw); go_simp; (try with_reducible rfl))); (try simp only [Act.put, List.setIfInBounds_toArray, List.set_cons_zero, List.set_cons_succ]))
        first
        | (refine take_no (i := 17) (d := some 127) rfl rfl (by kernel_rfl) (by kernel_rfl) (by kernel_rfl) (fun _ _ _ h => h) (by rfl) h0 ?_; (try simp only [Act.put, List.setIfInBounds_toArray, List.set_cons_zero, List.set_cons_succ]))
        | (refine take_op (i := 17) (d := some 127) (v := ?_) rfl rfl (by kernel_rfl) (by kernel_rfl) (by kernel_rfl) (fun _ _ _ h => h) (by rfl) (fun w hSw => ?_) h0 ?_; rotate_left; (focus ((try dsimp only at hSw); go_simp; (try with_reducible rfl))); (try simp only [Act.put, List.setIfInBounds_toArray, List.set_cons_zero, List.set_cons_succ]))
        refine take_call (i := 16) (by kernel_rfl) rfl (fun K hK => ?_)
        go_simp
        refine (at_any R5.out.drew).mono ?_; rintro e w' ⟨rfl, rfl⟩
        refine hK.out _ _ ⟨h0.1, h0.2⟩ (fun h1 => ?_)
        clear hK K h0
        (try simp only [Act.put, List.setIfInBounds_toArray, List.set_cons_zero, List.set_cons_succ])
        first
        | (refine take_no (i := 18) (d := some 128) rfl rfl (by kernel_rfl) (by kernel_rfl) (by kernel_rfl) (fun _ _ _ h => h) (by rfl) h1 ?_; (try simp only [Act.put, List.setIfInBounds_toArray, List.set_cons_zero, List.set_cons_succ]))
        | (refine take_op (i := 18) (d := some 128) (v := ?_) rfl rfl (by kernel_rfl) (by kernel_rfl) (by kernel_rfl) (fun _ _ _ h => h) (by rfl) (fun w hSw => ?_) h1 ?_; rotate_left; (focus ((try dsimp only at hSw); go_simp; (try with_reducible rfl))); (try simp only [Act.put, List.setIfInBounds_toArray, List.set_cons_zero, List.set_cons_succ]))
        first
        | (refine take_no (i := 19) (d := some 129) rfl rfl (by kernel_rfl) (by kernel_rfl) (by kernel_rfl) (fun _ _ _ h => h) (by rfl) h1 ?_; (try simp only [Act.put, List.setIfInBounds_toArray, List.set_cons_zero, List.set_cons_succ]))
        | (refine take_op (i := 19) (d := some 129) (v := ?_) rfl rfl (by kernel_rfl) (by kernel_rfl) (by kernel_rfl) (fun _ _ _ h => h) (by rfl) (fun w hSw => ?_) h1 ?_; rotate_left; (focus ((try dsimp only at hSw); go_simp; (try with_reducible rfl))); (try simp only [Act.put, List.setIfInBounds_toArray, List.set_cons_zero, List.set_cons_succ]))
        first
        | (refine take_no (i := 20) (d := some 130) rfl rfl (by kernel_rfl) (by kernel_rfl) (by kernel_rfl) (fun _ _ _ h => h) (by rfl) h1 ?_; (try simp only [Act.put, List.setIfInBounds_toArray, List.set_cons_zero, List.set_cons_succ]))
        | (refine take_op (i := 20) (d := some 130) (v := ?_) rfl rfl (by kernel_rfl) (by kernel_rfl) (by kernel_rfl) (fun _ _ _ h => h) (by rfl) (fun w hSw => ?_) h1 ?_; rotate_left; (focus ((try dsimp only at hSw); go_simp; (try with_reducible rfl))); (try simp only [Act.put, List.setIfInBounds_toArray, List.set_cons_zero, List.set_cons_succ]))
        first
        | (refine take_no (i := 21) (d := some 131) rfl rfl (by kernel_rfl) (by kernel_rfl) (by kernel_rfl) (fun _ _ _ h => h) (by rfl) h1 ?_; (try simp only [Act.put, List.setIfInBounds_toArray, List.set_cons_zero, List.set_cons_succ]))
        | (refine take_op (i := 21) (d := some 131) (v := ?_) rfl rfl (by kernel_rfl) (by kernel_rfl) (by kernel_rfl) (fun _ _ _ h => h) (by rfl) (fun w hSw => ?_) h1 ?_; rotate_left; (focus ((try dsimp only at hSw); go_simp; (try with_reducible rfl))); (try simp only [Act.put, List.setIfInBounds_toArray, List.set_cons_zero, List.set_cons_succ]))
        first
        | (refine take_no (i := 22) (d := some 132) rfl rfl (by kernel_rfl) (by kernel_rfl) (by kernel_rfl) (fun _ _ _ h => h) (by rfl) h1 ?_; (try simp only [Act.put, List.setIfInBounds_toArray, List.set_cons_zero, List.set_cons_succ]))
        | (refine take_op (i := 22) (d := some 132) (v := ?_) rfl rfl (by kernel_rfl) (by kernel_rfl) (by kernel_rfl) (fun _ _ _ h => h) (by rfl) (fun w hSw => ?_) h1 ?_; rotate_left; (focus ((try dsimp only at hSw); go_simp; (try with_reducible rfl))); (try simp only [Act.put, List.setIfInBounds_toArray, List.set_cons_zero, List.set_cons_succ]))
        first
        | (refine take_no (i := 23) (d := some 133) rfl rfl (by kernel_rfl) (by kernel_rfl) (by kernel_rfl) (fun _ _ _ h => h) (by rfl) h1 ?_; (try simp only [Act.put, List.setIfInBounds_toArray, List.set_cons_zero, List.set_cons_succ]))
        | (refine take_op (i := 23) (d := some 133) (v := ?_) rfl rfl (by kernel_rfl) (by kernel_rfl) (by kernel_rfl) (fun _ _ _ h => h) (by rfl) (fun w hSw => ?_) h1 ?_; rotate_left; (focus ((try dsimp only at hSw); go_simp; (try with_reducible rfl))); (try simp only [Act.put, List.setIfInBounds_toArray, List.set_cons_zero, List.set_cons_succ]))
        first
        | (refine take_no (i := 24) (d := some 134) rfl rfl (by kernel_rfl) (by kernel_rfl) (by kernel_rfl) (fun _ _ _ h => h) (by rfl) h1 ?_; (try simp only [Act.put, List.setIfInBounds_toArray, List.set_cons_zero, List.set_cons_succ]))
        | (refine take_op (i := 24) (d := some 134) (v := ?_) rfl rfl (by kernel_rfl) (by kernel_rfl) (by kernel_rfl) (fun _ _ _ h => h) (by rfl) (fun w hSw => ?_) h1 ?_; rotate_left; (focus ((try dsimp only at hSw); go_simp; (try with_reducible rfl))); (try simp only [Act.put, List.setIfInBounds_toArray, List.set_cons_zero, List.set_cons_succ]))
        first
        | (refine take_no (i := 25) (d := some 135) rfl rfl (by kernel_rfl) (by kernel_rfl) (by kernel_rfl) (fun _ _ _ h => h) (by rfl) h1 ?_; (try simp only [Act.put, List.setIfInBounds_toArray, List.set_cons_zero, List.set_cons_succ]))
        | (refine take_op (i := 25) (d := some 135) (v := ?_) rfl rfl (by kernel_rfl) (by kernel_rfl) (by kernel_rfl) (fun _ _ _ h => h) (by rfl) (fun w hSw => ?_) h1 ?_; rotate_left; (focus ((try dsimp only at hSw); go_simp; (try with_reducible rfl))); (try simp only [Act.put, List.setIfInBounds_toArray, List.set_cons_zero, List.set_cons_succ]))
        first
        | (refine take_no (i := 26) (d := some 136) rfl rfl (by kernel_rfl) (by kernel_rfl) (by kernel_rfl) (fun _ _ _ h => h) (by rfl) h1 ?_; (try simp only [Act.put, List.setIfInBounds_toArray, List.set_cons_zero, List.set_cons_succ]))
        | (refine take_op (i := 26) (d := some 136) (v := ?_) rfl rfl (by kernel_rfl) (by kernel_rfl) (by kernel_rfl) (fun _ _ _ h => h) (by rfl) (fun w hSw => ?_) h1 ?_; rotate_left; (focus ((try dsimp only at hSw); go_simp; (try with_reducible rfl))); (try simp only [Act.put, List.setIfInBounds_toArray, List.set_cons_zero, List.set_cons_succ]))
        refine take_call (i := 27) (by kernel_rfl) rfl (fun K hK => ?_)
        go_simp
        refine HC.out.mono ?_; rintro e w6 ⟨rfl, S6, wt6, kp6, hS6⟩
        have n2 : ¬ S b2 := fun q => by have := (T5.out.lt q).1; omega
        refine hK.out _ _ ⟨kp6.cell h1.1 n2, kp6.cell h1.2 n2⟩ (fun h2 => ?_)
        clear hK K h1
        (try simp only [Act.put, List.setIfInBounds_toArray, List.set_cons_zero, List.set_cons_succ])
        first
        | (refine take_no (i := 28) (d := some 138) rfl rfl (by kernel_rfl) (by kernel_rfl) (by kernel_rfl) (fun _ _ _ h => h) (by rfl) h2 ?_; (try simp only [Act.put, List.setIfInBounds_toArray, List.set_cons_zero, List.set_cons_succ]))
        | (refine take_op (i := 28) (d := some 138) (v := ?_) rfl rfl (by kernel_rfl) (by kernel_rfl) (by kernel_rfl) (fun _ _ _ h => h) (by rfl) (fun w hSw => ?_) h2 ?_; rotate_left; (focus ((try dsimp only at hSw); go_simp; (try with_reducible rfl))); (try simp only [Act.put, List.setIfInBounds_toArray, List.set_cons_zero, List.set_cons_succ]))
        first
        | (refine take_no (i := 29) (d := some 139) rfl rfl (by kernel_rfl) (by kernel_rfl) (by kernel_rfl) (fun _ _ _ h => h) (by rfl) h2 ?_; (try simp only [Act.put, List.setIfInBounds_toArray, List.set_cons_zero, List.set_cons_succ]))
        | (refine take_op (i := 29) (d := some 139) (v := ?_) rfl rfl (by kernel_rfl) (by kernel_rfl) (by kernel_rfl) (fun _ _ _ h => h) (by rfl) (fun w hSw => ?_) h2 ?_; rotate_left; (focus ((try dsimp only at hSw); go_simp; (try with_reducible rfl))); (try simp only [Act.put, List.setIfInBounds_toArray, List.set_cons_zero, List.set_cons_succ]))
        refine wpAnyH_done (by kernel_rfl) ?_ _
        have R6 := Lib.hid (R5.out.drew.keep kp6 (fun g => by have := (T5.out.lt g).1; omega))
        have B6 := Lib.hid (B5.out.drew.trans (kp6.below (B := q) (by have := B5.out.drew.size; omega) (fun j hj => by have := (T5.out.lt hj).1; omega)))
        have T6 := Lib.hid wt6
        clear wt6 kp6 hS6 n2 g3 g4 HC
        go_wp2_with fail
        go_roundw
        case rel => exact ⟨k + 1, a + z, S6, by omega, by go_num, hza, R6.out, by rw [HV.out]; exact T6.out, B6.out⟩
        case measure => simp [intOf]; omega
      · have hlf := hen hlk
        rw [hlk, if_neg (by decide)] at hg
        dsimp only at hg
        rw [hg] at hnx
        have HNX := Lib.hid hnx
        obtain ⟨lf, hlfn⟩ : ∃ lf, Z8 - a = lf := ⟨_, rfl⟩
        rw [hlfn] at hlf
        have dl : decide (15 ≤ (lf : Int)) = false := decide_eq_false (by omega)
        have dl2 : decide (15 ≤ lf) = false := decide_eq_false (by omega)
        have hlft := Lib.hid (fun w (R : Rd w q q s a) => left_any R HSZ.out)
        rw [hZ8, hlfn] at hlft
        clear hnx hg hlk hen
        go_wp2_with fail
        refine (at_any HR.out).mono ?_; rintro e w' ⟨rfl, rfl⟩
        go_wp2_with fail
        refine HNX.out.mono ?_; rintro e w5 ⟨rfl, r5, k5⟩
        have R5 := Lib.hid r5
        have T5 := Lib.hid (HT.out.keep k5 (fun j hj e => by have := (HT.out.lt hj).1; omega))
        have B5 := Lib.hid (HB.out.trans (k5.below (B := q) (by omega) (fun j hj => by omega)))
        clear r5 k5
        go_wp2_with fail
        refine (at_any R5.out).mono ?_; rintro e w' ⟨rfl, rfl⟩
        go_wp2_with fail
        refine (hlft.out _ R5.out).mono ?_; rintro e w' ⟨rfl, nd, rfl⟩
        have RT := Lib.hid (R5.out.drewN nd)
        have TT := Lib.hid (T5.out.keep ((Kept.refl NoB w5).drewN nd) (fun _ _ g => g))
        have BT := Lib.hid (below_drewN B5.out nd)
        generalize w5.drewN nd = wt at RT TT BT ⊢
        go_wp2_with fail
        refine (at_any RT.out).mono ?_; rintro e w' ⟨rfl, rfl⟩
        go_wp2_with fail
        refine (rnew_any s _ (B := wt.heap.size) (Nat.le_refl _)).mono ?_; rintro e y1 ⟨rfl, k1, x1, l1⟩
        have hwq : q ≤ wt.heap.size := by have := BT.out.size; omega
        have TT1 := Lib.hid (TT.out.keep k1 (fun _ _ g => g))
        have X1 := Lib.hid x1
        have BT1 := Lib.hid (BT.out.trans (k1.below hwq (fun _ g => g.elim)))
        obtain ⟨q3, hq3⟩ : ∃ q3, wt.heap.size = q3 := ⟨_, rfl⟩
        rw [hq3] at X1 hwq l1 ⊢
        clear k1 x1
        go_wp2_with fail
        refine (text_any TT1.out (by omega)).mono ?_; rintro e y2 ⟨rfl, k2⟩
        have TT2 := Lib.hid (TT1.out.keep k2 (fun _ _ g => g))
        have X2 := Lib.hid (X1.out.same k2)
        have BT2 := Lib.hid (BT1.out.trans (k2.below (by omega) (fun _ g => g.elim)))
        have hy2 := k2.size
        clear k2
        have hts := text_size (tx s % 2 ^ a) a
        have htn := fun j (hj : j < a) => (nb_text (tx s % 2 ^ a) a j 1 (Nat.mod_lt _ (Nat.two_pow_pos a))).trans (any_bit hj)
        obtain ⟨tt, htt⟩ : ∃ tt, textR (tx s % 2 ^ a) a = tt := ⟨_, rfl⟩
        rw [htt] at hts htn ⊢
        have HTN := Lib.hid htn
        clear htt htn
        go_wp2_with fail
        refine (rnew_any tt _ (B := y2.heap.size) (Nat.le_refl _)).mono ?_; rintro e y3 ⟨rfl, k3, x3, l3⟩
        have TT3 := Lib.hid (TT2.out.keep k3 (fun _ _ g => g))
        have X3 := Lib.hid (X2.out.same k3)
        have Y3 := Lib.hid x3
        have BT3 := Lib.hid (BT2.out.trans (k3.below (by omega) (fun _ g => g.elim)))
        have hy3 := k3.size
        clear k3 x3
        obtain ⟨q4, hq4⟩ : ∃ q4, y2.heap.size = q4 := ⟨_, rfl⟩
        rw [hq4] at Y3 hy2 l3 hy3 ⊢
        have h34 : q3 < q4 := by omega
        go_wp2_with fail
        refine (wlen_any TT3.out (by omega)).mono ?_; rintro e y4 ⟨rfl, k4⟩
        have X4 := Lib.hid (X3.out.same k4)
        have Y4 := Lib.hid (Y3.out.same k4)
        have BT4 := Lib.hid (BT3.out.trans (k4.below (by omega) (fun _ g => g.elim)))
        have hy4 := k4.size
        clear k4
        go_wp2_with fail
        go_loopw [20] (fun iv w' => ∃ j : Nat, j ≤ a ∧ iv = .int .i64 j ∧ Rd w' q3 q3 s j ∧ Rd w' q4 q4 tt j ∧ Below q w3 w') (fun iv _ => a - (intOf iv).toNat)
        case atStart => exact ⟨0, Nat.zero_le _, rfl, X4.out, Y4.out, BT4.out⟩
        case round =>
          obtain ⟨j, hj, rfl, hx, hyy, hb⟩ := hrel
          have HX := Lib.hid hx
          have HY := Lib.hid hyy
          have HBB := Lib.hid hb
          have hbz := hb.size
          have hxl := hx.lt
          clear hx hyy hb
          by_cases hlt : j < a
          · have e1 : nb tt j 1 = nb s j 1 := HTN.out j hlt
            have h8 := HZ8.out
            have b1 := rbits_yes HX.out HSZ.out 1 (by decide) (by omega)
            have hc2 := Lib.hid (fun w (H : Rd w q4 q4 tt j) => rbits_yes H (by omega) 1 (by decide) (by omega))
            rw [e1] at hc2
            obtain ⟨v, hv⟩ : ∃ v, nb s j 1 = v := ⟨_, rfl⟩
            rw [hv] at b1 hc2
            have C1 := Lib.hid b1
            clear b1 e1 hv h8
            go_wp2_with fail
            refine C1.out.mono ?_; rintro e z1 ⟨rfl, rx, kx⟩
            have RX := Lib.hid rx
            have RY := Lib.hid (HY.out.keep kx (fun g => by omega))
            have BX := Lib.hid (HBB.out.trans (kx.below (B := q) (by omega) (fun i hi => by omega)))
            have hz1 := kx.size
            clear rx kx
            go_wp2_with fail
            refine (hc2.out _ RY.out).mono ?_; rintro e z2 ⟨rfl, ry, ky⟩
            have RY2 := Lib.hid ry
            have RX2 := Lib.hid (RX.out.keep ky (fun g => by omega))
            have BY := Lib.hid (BX.out.trans (ky.below (B := q) (by omega) (fun i hi => by omega)))
            clear ry ky
            go_wp2_with fail
            go_roundw
            case rel => exact ⟨j + 1, by omega, by go_num, RX2.out, RY2.out, BY.out⟩
            case measure => simp [intOf]; omega
          · obtain rfl : j = a := by omega
            go_wp2_with fail
            refine (alive_any _).mono ?_; rintro e z1 ⟨rfl, b9⟩
            have B9 := Lib.hid (HBB.out.trans (b9.mono (by omega)))
            clear b9
            go_wp2_with fail
            go_ret
            exact ⟨rfl, B3.out.trans (B9.out.mono (by rw [← hq]; exact B3.out.size))⟩
      · rw [hlk, if_neg (by decide)] at hg
        dsimp only at hg
        rw [hg] at hnx
        have HNX := Lib.hid hnx
        clear hnx hg hlk hen
        go_wp2_with fail
        refine (at_any HR.out).mono ?_; rintro e w' ⟨rfl, rfl⟩
        go_wp2_with fail
        refine HNX.out.mono ?_; rintro e wt ⟨rfl, r5, k5⟩
        have RT := Lib.hid r5
        have TT := Lib.hid (HT.out.keep k5 (fun j hj e => by have := (HT.out.lt hj).1; omega))
        have BT := Lib.hid (HB.out.trans (k5.below (B := q) (by omega) (fun j hj => by omega)))
        clear r5 k5
        go_wp2_with fail
        refine (at_any RT.out).mono ?_; rintro e w' ⟨rfl, rfl⟩
        go_wp2_with fail
        refine (at_any RT.out).mono ?_; rintro e w' ⟨rfl, rfl⟩
        go_wp2_with fail
        refine (rnew_any s _ (B := wt.heap.size) (Nat.le_refl _)).mono ?_; rintro e y1 ⟨rfl, k1, x1, l1⟩
        have hwq : q ≤ wt.heap.size := by have := BT.out.size; omega
        have TT1 := Lib.hid (TT.out.keep k1 (fun _ _ g => g))
        have X1 := Lib.hid x1
        have BT1 := Lib.hid (BT.out.trans (k1.below hwq (fun _ g => g.elim)))
        obtain ⟨q3, hq3⟩ : ∃ q3, wt.heap.size = q3 := ⟨_, rfl⟩
        rw [hq3] at X1 hwq l1 ⊢
        clear k1 x1
        go_wp2_with fail
        refine (text_any TT1.out (by omega)).mono ?_; rintro e y2 ⟨rfl, k2⟩
        have TT2 := Lib.hid (TT1.out.keep k2 (fun _ _ g => g))
        have X2 := Lib.hid (X1.out.same k2)
        have BT2 := Lib.hid (BT1.out.trans (k2.below (by omega) (fun _ g => g.elim)))
        have hy2 := k2.size
        clear k2
        have hts := text_size (tx s % 2 ^ a) a
        have htn := fun j (hj : j < a) => (nb_text (tx s % 2 ^ a) a j 1 (Nat.mod_lt _ (Nat.two_pow_pos a))).trans (any_bit hj)
        obtain ⟨tt, htt⟩ : ∃ tt, textR (tx s % 2 ^ a) a = tt := ⟨_, rfl⟩
        rw [htt] at hts htn ⊢
        have HTN := Lib.hid htn
        clear htt htn
        go_wp2_with fail
        refine (rnew_any tt _ (B := y2.heap.size) (Nat.le_refl _)).mono ?_; rintro e y3 ⟨rfl, k3, x3, l3⟩
        have TT3 := Lib.hid (TT2.out.keep k3 (fun _ _ g => g))
        have X3 := Lib.hid (X2.out.same k3)
        have Y3 := Lib.hid x3
        have BT3 := Lib.hid (BT2.out.trans (k3.below (by omega) (fun _ g => g.elim)))
        have hy3 := k3.size
        clear k3 x3
        obtain ⟨q4, hq4⟩ : ∃ q4, y2.heap.size = q4 := ⟨_, rfl⟩
        rw [hq4] at Y3 hy2 l3 hy3 ⊢
        have h34 : q3 < q4 := by omega
        go_wp2_with fail
        refine (wlen_any TT3.out (by omega)).mono ?_; rintro e y4 ⟨rfl, k4⟩
        have X4 := Lib.hid (X3.out.same k4)
        have Y4 := Lib.hid (Y3.out.same k4)
        have BT4 := Lib.hid (BT3.out.trans (k4.below (by omega) (fun _ g => g.elim)))
        have hy4 := k4.size
        clear k4
        go_wp2_with fail
        go_loopw [20] (fun iv w' => ∃ j : Nat, j ≤ a ∧ iv = .int .i64 j ∧ Rd w' q3 q3 s j ∧ Rd w' q4 q4 tt j ∧ Below q w3 w') (fun iv _ => a - (intOf iv).toNat)
        case atStart => exact ⟨0, Nat.zero_le _, rfl, X4.out, Y4.out, BT4.out⟩
        case round =>
          obtain ⟨j, hj, rfl, hx, hyy, hb⟩ := hrel
          have HX := Lib.hid hx
          have HY := Lib.hid hyy
          have HBB := Lib.hid hb
          have hbz := hb.size
          have hxl := hx.lt
          clear hx hyy hb
          by_cases hlt : j < a
          · have e1 : nb tt j 1 = nb s j 1 := HTN.out j hlt
            have h8 := HZ8.out
            have b1 := rbits_yes HX.out HSZ.out 1 (by decide) (by omega)
            have hc2 := Lib.hid (fun w (H : Rd w q4 q4 tt j) => rbits_yes H (by omega) 1 (by decide) (by omega))
            rw [e1] at hc2
            obtain ⟨v, hv⟩ : ∃ v, nb s j 1 = v := ⟨_, rfl⟩
            rw [hv] at b1 hc2
            have C1 := Lib.hid b1
            clear b1 e1 hv h8
            go_wp2_with fail
            refine C1.out.mono ?_; rintro e z1 ⟨rfl, rx, kx⟩
            have RX := Lib.hid rx
            have RY := Lib.hid (HY.out.keep kx (fun g => by omega))
            have BX := Lib.hid (HBB.out.trans (kx.below (B := q) (by omega) (fun i hi => by omega)))
            have hz1 := kx.size
            clear rx kx
            go_wp2_with fail
            refine (hc2.out _ RY.out).mono ?_; rintro e z2 ⟨rfl, ry, ky⟩
            have RY2 := Lib.hid ry
            have RX2 := Lib.hid (RX.out.keep ky (fun g => by omega))
            have BY := Lib.hid (BX.out.trans (ky.below (B := q) (by omega) (fun i hi => by omega)))
            clear ry ky
            go_wp2_with fail
            go_roundw
            case rel => exact ⟨j + 1, by omega, by go_num, RX2.out, RY2.out, BY.out⟩
            case measure => simp [intOf]; omega
          · obtain rfl : j = a := by omega
            go_wp2_with fail
            refine (alive_any _).mono ?_; rintro e z1 ⟨rfl, b9⟩
            have B9 := Lib.hid (HBB.out.trans (b9.mono (by omega)))
            clear b9
            go_wp2_with fail
            go_ret
            exact ⟨rfl, B3.out.trans (B9.out.mono (by rw [← hq]; exact B3.out.size))⟩
    · have dk : decide ((k : Int) ≤ (Z8 : Int)) = false := decide_eq_false (by omega)
      have dk2 : decide (k ≤ Z8) = false := decide_eq_false hkz
      have RT := HR
      have TT := HT
      have BT := HB
      clear HR HT HB
      generalize wr = wt at RT TT BT hbs ⊢
      go_wp2_with fail
      refine (at_any RT.out).mono ?_; rintro e w' ⟨rfl, rfl⟩
      go_wp2_with fail
      refine (rnew_any s _ (B := wt.heap.size) (Nat.le_refl _)).mono ?_; rintro e y1 ⟨rfl, k1, x1, l1⟩
      have hwq : q ≤ wt.heap.size := by have := BT.out.size; omega
      have TT1 := Lib.hid (TT.out.keep k1 (fun _ _ g => g))
      have X1 := Lib.hid x1
      have BT1 := Lib.hid (BT.out.trans (k1.below hwq (fun _ g => g.elim)))
      obtain ⟨q3, hq3⟩ : ∃ q3, wt.heap.size = q3 := ⟨_, rfl⟩
      rw [hq3] at X1 hwq l1 ⊢
      clear k1 x1
      go_wp2_with fail
      refine (text_any TT1.out (by omega)).mono ?_; rintro e y2 ⟨rfl, k2⟩
      have TT2 := Lib.hid (TT1.out.keep k2 (fun _ _ g => g))
      have X2 := Lib.hid (X1.out.same k2)
      have BT2 := Lib.hid (BT1.out.trans (k2.below (by omega) (fun _ g => g.elim)))
      have hy2 := k2.size
      clear k2
      have hts := text_size (tx s % 2 ^ a) a
      have htn := fun j (hj : j < a) => (nb_text (tx s % 2 ^ a) a j 1 (Nat.mod_lt _ (Nat.two_pow_pos a))).trans (any_bit hj)
      obtain ⟨tt, htt⟩ : ∃ tt, textR (tx s % 2 ^ a) a = tt := ⟨_, rfl⟩
      rw [htt] at hts htn ⊢
      have HTN := Lib.hid htn
      clear htt htn
      go_wp2_with fail
      refine (rnew_any tt _ (B := y2.heap.size) (Nat.le_refl _)).mono ?_; rintro e y3 ⟨rfl, k3, x3, l3⟩
      have TT3 := Lib.hid (TT2.out.keep k3 (fun _ _ g => g))
      have X3 := Lib.hid (X2.out.same k3)
      have Y3 := Lib.hid x3
      have BT3 := Lib.hid (BT2.out.trans (k3.below (by omega) (fun _ g => g.elim)))
      have hy3 := k3.size
      clear k3 x3
      obtain ⟨q4, hq4⟩ : ∃ q4, y2.heap.size = q4 := ⟨_, rfl⟩
      rw [hq4] at Y3 hy2 l3 hy3 ⊢
      have h34 : q3 < q4 := by omega
      go_wp2_with fail
      refine (wlen_any TT3.out (by omega)).mono ?_; rintro e y4 ⟨rfl, k4⟩
      have X4 := Lib.hid (X3.out.same k4)
      have Y4 := Lib.hid (Y3.out.same k4)
      have BT4 := Lib.hid (BT3.out.trans (k4.below (by omega) (fun _ g => g.elim)))
      have hy4 := k4.size
      clear k4
      go_wp2_with fail
      go_loopw [20] (fun iv w' => ∃ j : Nat, j ≤ a ∧ iv = .int .i64 j ∧ Rd w' q3 q3 s j ∧ Rd w' q4 q4 tt j ∧ Below q w3 w') (fun iv _ => a - (intOf iv).toNat)
      case atStart => exact ⟨0, Nat.zero_le _, rfl, X4.out, Y4.out, BT4.out⟩
      case round =>
        obtain ⟨j, hj, rfl, hx, hyy, hb⟩ := hrel
        have HX := Lib.hid hx
        have HY := Lib.hid hyy
        have HBB := Lib.hid hb
        have hbz := hb.size
        have hxl := hx.lt
        clear hx hyy hb
        by_cases hlt : j < a
        · have e1 : nb tt j 1 = nb s j 1 := HTN.out j hlt
          have h8 := HZ8.out
          have b1 := rbits_yes HX.out HSZ.out 1 (by decide) (by omega)
          have hc2 := Lib.hid (fun w (H : Rd w q4 q4 tt j) => rbits_yes H (by omega) 1 (by decide) (by omega))
          rw [e1] at hc2
          obtain ⟨v, hv⟩ : ∃ v, nb s j 1 = v := ⟨_, rfl⟩
          rw [hv] at b1 hc2
          have C1 := Lib.hid b1
          clear b1 e1 hv h8
          go_wp2_with fail
          refine C1.out.mono ?_; rintro e z1 ⟨rfl, rx, kx⟩
          have RX := Lib.hid rx
          have RY := Lib.hid (HY.out.keep kx (fun g => by omega))
          have BX := Lib.hid (HBB.out.trans (kx.below (B := q) (by omega) (fun i hi => by omega)))
          have hz1 := kx.size
          clear rx kx
          go_wp2_with fail
          refine (hc2.out _ RY.out).mono ?_; rintro e z2 ⟨rfl, ry, ky⟩
          have RY2 := Lib.hid ry
          have RX2 := Lib.hid (RX.out.keep ky (fun g => by omega))
          have BY := Lib.hid (BX.out.trans (ky.below (B := q) (by omega) (fun i hi => by omega)))
          clear ry ky
          go_wp2_with fail
          go_roundw
          case rel => exact ⟨j + 1, by omega, by go_num, RX2.out, RY2.out, BY.out⟩
          case measure => simp [intOf]; omega
        · obtain rfl : j = a := by omega
          go_wp2_with fail
          refine (alive_any _).mono ?_; rintro e z1 ⟨rfl, b9⟩
          have B9 := Lib.hid (HBB.out.trans (b9.mono (by omega)))
          clear b9
          go_wp2_with fail
          go_ret
          exact ⟨rfl, B3.out.trans (B9.out.mono (by rw [← hq]; exact B3.out.size))⟩

theorem HuffAny_walk (a0 : Option Addr) (len0 cap0 : Nat) (z0 : List Int) (a1 : ByteArray) (a2 : Int) (w : World) (w0 : IsRow .u8 w a0 len0 cap0 z0) (w1 : a1.size ≤ maxLen) (w2 : (Lit.int .u8 a2).wf = true) :
    Calls Try.prog 7 #[.slice a0 len0 cap0, .string a1, .int .u8 a2] w fun e w' => e = .returned (.bool true) ∧ Below w.heap.size w w' := by
  have h0 := w0.most
  obtain ⟨q1, q2⟩ := w0.nat8
  obtain ⟨o, rfl, ho⟩ := u8_nat w2
  by_cases h : 320 < len0 ∨ 200 < a1.size
  · exact any_far _ _ _ _ _ w (by omega) w1 h
  · by_cases he : nerr (nat8 z0) len0 ((o % 12 + 1 : Nat) : Int) = 0
    · exact any_some a0 len0 cap0 _ a1 o _ w (by omega) (by omega) q1 q2 ho rfl (nerr_ok he).2
    · exact any_none a0 len0 cap0 _ a1 o _ w (by omega) (by omega) q1 q2 ho rfl he
end Go.Proofs.Ytnkkccieidlacaa
