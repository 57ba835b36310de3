/- HuffBack returns true for any lengths, symbols, first table, bits behind. Conditions: none. -/
import Derived.Test.YtnkkccieidlacaaOwI
import Derived.Test.YtnkkccieidlacaaMathI
import Derived.Test.YtnkkccieidlacaaWtD
namespace Go.Proofs.Ytnkkccieidlacaa
open Go.RowKit M
set_option linter.unusedVariables false
set_option linter.unusedSimpArgs false

set_option maxRecDepth 1000000 in
theorem back_far (A B : Option Addr) (n m c d : Nat) (x y : Int) (W : World) (hn : n ≤ maxLen) (hm : m ≤ maxLen) (h : 320 < n ∨ 200 < m ∨ n = 0) :
    Calls Try.prog 4 #[.slice A n c, .slice B m d, .int .u8 x, .int .u8 y] W fun e w' => e = .returned (.bool true) ∧ Below W.heap.size W w' := by
  have hn' : n ≤ 9223372036854775807 := by unfold maxLen at hn; omega
  have hm' : m ≤ 9223372036854775807 := by unfold maxLen at hm; omega
  by_cases h1 : 320 < n
  · have hd : decide (320 < (n : Int)) = true := decide_eq_true (by omega)
    clear h
    go_enter Try.func4, Try.ntmps4
    go_wp2_with fail
    refine (alive_any _).mono ?_; rintro e w2 ⟨rfl, b2⟩
    have B2 := Lib.hid b2
    clear b2
    go_wp2_with fail
    go_ret
    exact ⟨rfl, B2.out⟩
  · have hd : decide (320 < (n : Int)) = false := decide_eq_false (by omega)
    by_cases h2 : 200 < m
    · have hd2 : decide (200 < (m : Int)) = true := decide_eq_true (by omega)
      clear h
      go_enter Try.func4, Try.ntmps4
      go_wp2_with fail
      refine (alive_any _).mono ?_; rintro e w2 ⟨rfl, b2⟩
      have B2 := Lib.hid b2
      clear b2
      go_wp2_with fail
      go_ret
      exact ⟨rfl, B2.out⟩
    · obtain rfl : n = 0 := by omega
      have hd2 : decide (200 < (m : Int)) = false := decide_eq_false (by omega)
      clear h
      go_enter Try.func4, Try.ntmps4
      go_wp2_with fail
      refine (alive_any _).mono ?_; rintro e w2 ⟨rfl, b2⟩
      have B2 := Lib.hid b2
      clear b2
      go_wp2_with fail
      go_ret
      exact ⟨rfl, B2.out⟩

set_option maxRecDepth 1000000 in
set_option maxHeartbeats 1000000 in
theorem back_none (A B : Option Addr) (n m c d : Nat) (l : Nat → Nat) (o f : Nat) (y : Int) (W : World) (hn : n ≤ 320) (hm : m ≤ 200) (hn0 : n ≠ 0) (hl : ∀ i, l i ≤ 255) (H : Nums W .u8 A n (fun i => (l i : Int))) (ho : o < 256) (hf : o % 12 + 1 = f) (he : nerr l n (f : Int) ≠ 0) :
    Calls Try.prog 4 #[.slice A n c, .slice B m d, .int .u8 o, .int .u8 y] W fun e w' => e = .returned (.bool true) ∧ Below W.heap.size W w' := by
  have hd : decide (320 < (n : Int)) = false := decide_eq_false (by omega)
  have hd2 : decide (200 < (m : Int)) = false := decide_eq_false (by omega)
  have hd3 : ((n : Int) == 0) = false := by rw [beq_eq_false_iff_ne]; omega
  have hnm : n ≤ maxLen := by unfold maxLen; omega
  have hN := Lib.hid (fun w H => new_no_any A n c l (f : Int) w hnm hl H he)
  have hW := Lib.hid (fun w H => writes_any A n c l w hnm hl H)
  obtain ⟨E, hE⟩ : ∃ E, nerr l n (f : Int) = E := ⟨_, rfl⟩
  rw [hE] at hN he
  have e0 : ((E : Int) != 0) = true := by rw [bne_iff_ne]; omega
  have e1 : ((E : Int) == 0) = false := by rw [beq_eq_false_iff_ne]; omega
  have r1 : ((o : Int).tmod 12) = ((o % 12 : Nat) : Int) := by rw [Int.tmod_eq_emod_of_nonneg (by omega)]; rfl
  obtain ⟨o', ho'⟩ : ∃ o', o % 12 = o' := ⟨_, rfl⟩
  rw [ho'] at r1 hf
  have s1 : (o' : Int) + 1 = (f : Int) := by omega
  have HH := Lib.hid H
  clear H hl hE
  go_enter Try.func4, Try.ntmps4
  go_wp2_with fail
  refine (hN.out _ HH.out).mono ?_; rintro e w2 ⟨rfl, b2⟩
  have B2 := Lib.hid b2
  have H2 := Lib.hid (HH.out.below b2)
  clear b2
  go_wp2_with fail
  refine (hW.out _ H2.out).mono ?_; rintro e w3 ⟨A3, c3, rfl, _, _, _, b3, _⟩
  have B3 := Lib.hid (B2.out.trans (b3.mono B2.out.size))
  clear b3
  go_wp2_with fail
  refine (alive_any _).mono ?_; rintro e w4 ⟨rfl, b4⟩
  have B4 := Lib.hid (B3.out.trans (b4.mono B3.out.size))
  clear b4
  go_wp2_with fail
  go_ret
  exact ⟨rfl, B4.out⟩

theorem Is.shape {base : Nat} {w : World} {v : Value} {n : Nat} {F : Nat → Int} (h : Is base w v n F) : ∃ a cap, v = .slice a n cap ∧ (0 < n → ∃ g, a = some ⟨g, 0, none⟩) := by
  rcases h.2 with ⟨hv, hn⟩ | ⟨g, cap, cur, hv, _⟩
  · subst hn
    exact ⟨none, 0, hv, fun h => absurd h (by omega)⟩
  · exact ⟨_, cap, hv, fun _ => ⟨g, rfl⟩⟩
/-- what Next answers where the j-th code stands -/
theorem gnext_code {l : Nat → Nat} {n j k V L : Nat} {xs : Nat → Nat} (hf : Fit l n) (hj : j < k) (hx : xs j < n) (h0 : l (xs j) ≠ 0) (hV : V % 2 ^ bL l xs k = bV l n xs k) (hL : bL l xs k ≤ L) (hVL : V < 2 ^ L) :
    gnext l n (textR V L) (bL l xs j) = (xs j, 0, bL l xs (j + 1)) := by
  have h15 := hf.1.2 _ hx
  have h1 := bV_code hj hV
  have hs := text_size V L
  have hm := bL_mono l xs (show j + 1 ≤ k from hj)
  have hb : bL l xs (j + 1) = bL l xs j + l (xs j) := rfl
  have hle : l (xs j) ≤ min 15 (8 * (textR V L).size - bL l xs j) := by rw [hs]; omega
  have hk := lk_code (X := nb (textR V L) (bL l xs j) (min 15 (8 * (textR V L).size - bL l xs j))) (h := min 15 (8 * (textR V L).size - bL l xs j)) hf hx h0 hle (by
    rw [nb_text _ _ _ _ hVL, mod_mod_le hle]; exact h1)
  unfold gnext
  rw [hk, if_pos rfl]
  rfl

set_option maxRecDepth 1000000 in
set_option maxHeartbeats 1000000 in
theorem back_some (A B : Option Addr) (n m c d : Nat) (l : Nat → Nat) (sy : Nat → Nat) (o f y : Nat) (W : World) (hn : n ≤ 320) (hm : m ≤ 200) (hn0 : n ≠ 0) (hl : ∀ i, l i ≤ 255) (H : Nums W .u8 A n (fun i => (l i : Int))) (hsy : ∀ i, sy i ≤ 65535) (HS : Nums W .u16 B m (fun i => (sy i : Int)))
    (ho : o < 256) (hf : o % 12 + 1 = f) (hy : y < 256) (htb : Tbl l n) :
    Calls Try.prog 4 #[.slice A n c, .slice B m d, .int .u8 o, .int .u8 y] W fun e w' => e = .returned (.bool true) ∧ Below W.heap.size W w' := by
  have hd : decide (320 < (n : Int)) = false := decide_eq_false (by omega)
  have hd2 : decide (200 < (m : Int)) = false := decide_eq_false (by omega)
  have hd3 : ((n : Int) == 0) = false := by rw [beq_eq_false_iff_ne]; omega
  have hnm : n ≤ maxLen := by unfold maxLen; omega
  have hfit := htb.fit
  have HF := Lib.hid hfit
  have hf1 : 1 ≤ f := by omega
  have hf2 : f ≤ 15 := by omega
  have hN := Lib.hid (fun w H => new_ok_any A n c l f w hl H htb hf1 hf2)
  have hW := Lib.hid (fun w H => writes_any A n c l w hnm hl H)
  have he : erc l n = 0 ∧ outn l n = n := by
    rcases erc_of (l := l) (n := n) with ⟨a, _⟩ | ⟨a, _⟩ | ⟨_, _, a, b⟩
    · unfold Tbl at htb; omega
    · unfold Tbl at htb; omega
    · exact ⟨a, b⟩
  rw [he.1, he.2] at hW
  have r1 : ((o : Int).tmod 12) = ((o % 12 : Nat) : Int) := by rw [Int.tmod_eq_emod_of_nonneg (by omega)]; rfl
  obtain ⟨o', ho'⟩ : ∃ o', o % 12 = o' := ⟨_, rfl⟩
  rw [ho'] at r1 hf
  have s1 : (o' : Int) + 1 = (f : Int) := by omega
  have HH := Lib.hid H
  have HSS := Lib.hid HS
  have HSY := Lib.hid hsy
  clear H HS hl hsy htb hfit he
  go_enter Try.func4, Try.ntmps4
  go_wp2_with fail
  refine (hN.out _ HH.out).mono ?_; rintro e w2 ⟨T, p, mm, G, N, D, rfl, hp, P2, b2⟩
  have B2 := Lib.hid b2
  have H2 := Lib.hid (HH.out.below b2)
  have P2 := Lib.hid P2
  clear b2 hp
  go_wp2_with fail
  refine (hW.out _ H2.out).mono ?_; rintro e w3 ⟨A3, c3, rfl, hc3, hc4, hcd, b3, _⟩
  have B3 := Lib.hid (B2.out.trans (b3.mono B2.out.size))
  have P3 := Lib.hid (P2.out.below b3)
  have C3 := Lib.hid hcd
  clear b3 hcd
  go_wp2_with fail
  refine (new_any 4096 _ (Nat.le_refl _)).mono ?_; rintro e w4 ⟨rfl, k4, r4, l4⟩
  have B4 := Lib.hid (k4.below (Nat.le_refl w3.heap.size) (fun _ g => g.elim))
  have R4 := Lib.hid r4
  clear k4 r4 l4
  rw [show max (0 : Int) 4096 = 4096 by decide] at R4
  go_wp2_with fail
  obtain ⟨B0, hB0⟩ : ∃ B0, w3.heap.size = B0 := ⟨_, rfl⟩
  rw [hB0] at B4 R4 ⊢
  go_loopw [14, 15] (fun v iv wr => ∃ k c : Nat, ∃ xs : Nat → Nat, ∃ S : Nat → Prop, k ≤ m ∧ c ≤ k ∧ iv = .int .i64 k ∧ Is B0 wr v c (fun i => (xs i : Int)) ∧ Wt wr B0 B0 S 4096 (bV l n xs c) (bL l xs c) ∧ (∀ g, v.ownBlock = some g → ¬ S g) ∧ (∀ j, j < c → xs j < n ∧ l (xs j) ≠ 0) ∧ Below B0 w3 wr) (fun _ iv _ => m - (intOf iv).toNat)
  case atStart => exact ⟨0, 0, fun _ => 0, _, Nat.zero_le _, Nat.zero_le _, rfl, Is.nil _ _ _, R4.out, fun g hg => by simp [Value.ownBlock] at hg, fun j hj => absurd hj (by omega), B4.out⟩
  case round =>
    clear B4 R4
    obtain ⟨k, cc, xs, S, hkm, hck, rfl, hIs, hWt, hAp, hXs, hb⟩ := hrel
    have HI := Lib.hid hIs
    have HT := Lib.hid hWt
    have HA := Lib.hid hAp
    have HX := Lib.hid hXs
    have HB := Lib.hid hb
    have hBs := hb.size
    clear hIs hWt hAp hXs hb
    by_cases hlt : k < m
    · obtain ⟨b0, o0, rfl, hbs, hc⟩ := HH.out (by omega)
      obtain ⟨b1, o1, rfl, hbs1, hcs⟩ := HSS.out (by omega)
      obtain ⟨b2, o2, rfl, hbs2, hcc⟩ := C3.out (by omega)
      have BB := Lib.hid (B3.out.trans (HB.out.mono (by rw [← hB0]; exact B3.out.size)))
      have g1 : wr.cell? ⟨b1, o1 + k, none⟩ = some (.int .u16 (sy k)) := (BB.out.cell hbs1).trans (hcs k hlt)
      have hs16 := HSY.out k
      obtain ⟨x, hx⟩ : ∃ x, sy k = x := ⟨_, rfl⟩
      rw [hx] at g1 hs16
      obtain ⟨s, hs⟩ : ∃ s, x % n = s := ⟨_, rfl⟩
      have hsn : s < n := by rw [← hs]; exact Nat.mod_lt _ (by omega)
      have r2 : ((x : Int).tmod (n : Int)) = (s : Int) := by rw [Int.tmod_eq_emod_of_nonneg (by omega), ← hs]; rfl
      have g2 : wr.cell? ⟨b0, o0 + s, none⟩ = some (.int .u8 (l s)) := (BB.out.cell hbs).trans (hc s hsn)
      have hbs2' : b2 < B0 := by rw [← hB0]; exact hbs2
      have g3 := (HB.out.cell (p := ⟨b2, o2 + s * 2, none⟩) hbs2').trans (hcc s hsn).1
      have g4 := (HB.out.cell (p := ⟨b2, o2 + s * 2 + 1, none⟩) hbs2').trans (hcc s hsn).2
      have h15 := HF.out.1.2 s hsn
      have hrs := rc_small (l := l) (n := n) (i := s) h15
      have hrl := rc_lt l n s
      have hbl : bL l xs cc ≤ 15 * cc := bL_le cc (fun i hi => HF.out.1.2 _ (HX.out i hi).1)
      have hkk : ((k : Int)).toNat = k := by omega
      have hss : ((s : Int)).toNat = s := by omega
      have hnz : ((n : Int) == 0) = false := hd3
      have HSX := Lib.hid hx
      have HSM := Lib.hid hs
      obtain ⟨N1, hN1⟩ : ∃ N1, rc l n s = N1 := ⟨_, rfl⟩
      obtain ⟨z, hz⟩ : ∃ z, l s = z := ⟨_, rfl⟩
      rw [hN1] at g3 hrs hrl
      rw [hz] at g2 g4 h15 hrl
      have hcode := code_any HT.out (N1 : Int) (z : Int) (by omega) (by omega) (by omega)
      rw [Int.toNat_natCast, bitsR_yes (by omega) hrl (by omega)] at hcode
      have HC := Lib.hid hcode
      clear hcode hc hcs hcc hx hs hrl
      by_cases h0 : z = 0
      · subst h0
        go_wp2_with fail
        exact ⟨⟨k + 1, cc, xs, S, by omega, by omega, by go_num, HI.out, HT.out, HA.out, HX.out, HB.out⟩, by simp [intOf]; omega⟩
      · have hz0 : ((z : Int) == 0) = false := by rw [beq_eq_false_iff_ne]; omega
        go_wp2_with fail
        refine HC.out.mono ?_; rintro e w6 ⟨rfl, S6, wt6, kp6, hS6⟩
        dsimp only at wt6 ⊢
        have lt14 := HI.out.lt'
        have AP6 := Lib.hid (show ∀ g, Value.ownBlock u14 = some g → ¬ S6 g from fun g hg q => by
          rcases hS6 g q with a | a
          · exact HA.out g hg a
          · have := (lt14 g hg).2; omega)
        have I6 := Lib.hid ((HI.out.at' (fun g hg => kp6.block g (lt14 g hg).2 (HA.out g hg))).alloc (.cells #[.int .i64 (s : Int)] 3))
        have T6 := Lib.hid (wt6.keep ((Kept.refl NoB w6).alloc (.cells #[.int .i64 (s : Int)] 3)) (fun _ _ g => g))
        have L6 := Lib.hid (show ∀ j, S6 j → j < w6.heap.size from fun j hj => (wt6.lt hj).2)
        have B6 := Lib.hid (HB.out.trans (kp6.below (by rw [← hB0]; exact hBs) (fun j hj => (HT.out.lt hj).1)))
        have hs6 := B6.out.size
        clear wt6 kp6 hS6 lt14
        go_wp2_with (first | (at_builtin; refine wpList_api rfl _ _ rfl B0 u14 cc (fun i => (xs i : Int)) rfl I6.out ⟨w6.heap.size, 0, none⟩ 1 1 (fun _ => (s : Int)) rfl (one_int w6 (s : Int)) (by omega) (by simp; omega) ?_; intro v8 w8 o8 g8 d8 k8))
        have hbL := bL_congr (l := l) (xs := fun i => if i = cc then s else xs i) (ys := xs) cc (fun i hi => if_neg (by omega))
        have hbV := bV_congr (l := l) (n := n) (xs := fun i => if i = cc then s else xs i) (ys := xs) cc (fun i hi => if_neg (by omega))
        have EL : bL l (fun i => if i = cc then s else xs i) (cc + 1) = bL l xs cc + z := by
          show bL l (fun i => if i = cc then s else xs i) cc + l (if cc = cc then s else xs cc) = _
          rw [hbL, if_pos rfl, hz]
        have EV : bV l n (fun i => if i = cc then s else xs i) (cc + 1) = bV l n xs cc + N1 * 2 ^ bL l xs cc := by
          show bV l n (fun i => if i = cc then s else xs i) cc + rc l n (if cc = cc then s else xs cc) * 2 ^ bL l (fun i => if i = cc then s else xs i) cc = _
          rw [hbV, hbL, if_pos rfl, hN1]
        refine ⟨⟨k + 1, cc + 1, fun i => if i = cc then s else xs i, S6, by omega, by omega, by go_num, o8.congr (fun i hi => ?_), ?_, fun g hg => ?_, fun j hj => ?_, (B6.out.alloc (by omega) _).trans d8⟩, by simp [intOf]; omega⟩
        · unfold catI
          dsimp only
          by_cases e : i < cc
          · rw [if_pos e, if_neg (by omega)]
          · rw [if_neg e, if_pos (by omega)]
        · rw [EL, EV]
          exact T6.out.keep (Kept.of_grown g8) (fun j hj q => AP6.out j q hj)
        · rcases k8 with q | q
          · rw [q] at hg; exact AP6.out g hg
          · rw [q] at hg
            injection hg with hg
            intro hq
            have := L6.out g hq
            simp at hg
            omega
        · by_cases e : j = cc
          · dsimp only
            rw [if_pos e, hz]
            exact ⟨hsn, h0⟩
          · dsimp only
            rw [if_neg e]
            exact HX.out j (by omega)
    · obtain rfl : k = m := by omega
      have hbl : bL l xs cc ≤ 15 * cc := bL_le cc (fun i hi => HF.out.1.2 _ (HX.out i hi).1)
      have hvl := bV_lt l n xs cc
      have hbh := bV_behind (l := l) (n := n) (k := cc) (xs := xs) (z := 8) (show y < 2 ^ 8 from hy)
      have hGN := Lib.hid (fun j (hj : j < cc) => gnext_code (V := bV l n xs cc + y * 2 ^ bL l xs cc) (L := bL l xs cc + 8) HF.out hj (HX.out j hj).1 (HX.out j hj).2 hbh.1 (by omega) (more_lt hvl hy))
      have hVL := more_lt (N := y) (s := 8) hvl hy
      have HM := Lib.hid (fun j (hj : j ≤ cc) => bL_mono l xs hj)
      have H0 := Lib.hid (show bL l xs 0 = 0 from rfl)
      obtain ⟨L, hL⟩ : ∃ L, bL l xs cc = L := ⟨_, rfl⟩
      obtain ⟨V, hV⟩ : ∃ V, bV l n xs cc = V := ⟨_, rfl⟩
      rw [hL, hV] at HT hbh hGN hVL
      rw [hL] at hbl hvl HM
      rw [hV] at hvl
      have HLc := Lib.hid hL
      have HBH := Lib.hid hbh
      have HVL := Lib.hid hVL
      obtain ⟨av, capv, rfl, hav⟩ := HI.out.shape
      clear hL hV hbh hvl hVL
      go_wp2_with fail
      refine (wlen_any HT.out (by omega)).mono ?_; rintro e w5 ⟨rfl, k5⟩
      have T5 := Lib.hid (HT.out.keep k5 (fun _ _ g => g))
      have I5 := Lib.hid (HI.out.at' (fun g hg => k5.block g (HI.out.lt' g hg).2 (fun q => q)))
      have B5 := Lib.hid (HB.out.trans (k5.below (by rw [← hB0]; exact hBs) (fun _ g => g.elim)))
      clear k5
      go_wp2_with fail
      have hbits := bits_any T5.out (y : Int) 8 (by omega) (by omega)
      rw [Int.toNat_natCast, show (8 : Int) = ((8 : Nat) : Int) from rfl, bitsR_yes (by omega) hy (by omega)] at hbits
      refine hbits.mono ?_; rintro e w6 ⟨rfl, S6, wt6, kp6, hS6⟩
      dsimp only at wt6 ⊢
      have T6 := Lib.hid wt6
      have I6 := Lib.hid (I5.out.at' (fun g hg => kp6.block g (I5.out.lt' g hg).2 (HA.out g hg)))
      have B6 := Lib.hid (B5.out.trans (kp6.below (by have := B5.out.size; omega) (fun j hj => (T5.out.lt hj).1)))
      clear wt6 kp6 hS6 hbits
      go_wp2_with fail
      refine (text_any T6.out (by omega)).mono ?_; rintro e w7 ⟨rfl, k7⟩
      have I7 := Lib.hid (I6.out.at' (fun g hg => k7.block g (I6.out.lt' g hg).2 (fun q => q)))
      have B7 := Lib.hid (B6.out.trans (k7.below (by have := B6.out.size; omega) (fun _ g => g.elim)))
      clear k7
      have hts := text_size (V + y * 2 ^ L) (L + 8)
      obtain ⟨tt, htt⟩ : ∃ tt, textR (V + y * 2 ^ L) (L + 8) = tt := ⟨_, rfl⟩
      rw [htt] at hts hGN ⊢
      have HTT := Lib.hid htt
      clear htt
      go_wp2_with fail
      refine (rnew_any tt _ (B := w7.heap.size) (Nat.le_refl _)).mono ?_; rintro e w8 ⟨rfl, k8, r8, l8⟩
      have R8 := Lib.hid r8
      have I8 := Lib.hid (I7.out.at' (fun g hg => k8.block g (I7.out.lt' g hg).2 (fun q => q)))
      have B8 := Lib.hid (B7.out.trans (k8.below (by have := B7.out.size; omega) (fun _ g => g.elim)))
      have lt8 : ∀ g, Value.ownBlock (.slice av cc capv) = some g → g < w7.heap.size := fun g hg => (I7.out.lt' g hg).2
      have LT8 := Lib.hid lt8
      have hq0 : B0 ≤ w7.heap.size := by have := B7.out.size; omega
      clear k8 r8 l8 lt8
      obtain ⟨q0, hq0n⟩ : ∃ q0, w7.heap.size = q0 := ⟨_, rfl⟩
      rw [hq0n] at R8 LT8 hq0 ⊢
      go_wp2_with fail
      go_loopw [19] (fun iv wr => ∃ j : Nat, j ≤ cc ∧ iv = .int .i64 j ∧ Rd wr q0 q0 tt (bL l xs j) ∧ Kept (fun i => i = q0) w8 wr) (fun iv _ => cc - (intOf iv).toNat)
      case atStart => exact ⟨0, Nat.zero_le _, rfl, R8.out, Kept.refl _ _⟩
      case round =>
        obtain ⟨j, hj, rfl, hr, hk⟩ := hrel
        have HR := Lib.hid hr
        have HK := Lib.hid hk
        clear hr hk
        have Bj := Lib.hid (B8.out.trans (HK.out.below (B := B0) (by have := B8.out.size; omega) (fun i hi => by omega)))
        by_cases hlt2 : j < cc
        · obtain ⟨g, rfl⟩ := hav (by omega)
          have hgq : g ≠ q0 := by have := LT8.out g rfl; omega
          have hnx := hnext_any T p mm N n f G D l w3 wr q0 q0 (bL l xs j) tt HF.out hf1 hf2 P3.out (by omega) (by rw [hB0]; exact Bj.out) HR.out (by omega)
          rw [hGN.out j hlt2] at hnx
          have hcl := I8.out.cell hlt2
          obtain ⟨x, hx⟩ : ∃ x, xs j = x := ⟨_, rfl⟩
          rw [hx] at hnx hcl
          have HNX := Lib.hid hnx
          have hjj : ((j : Int)).toNat = j := by omega
          clear hnx
          go_wp2_with fail
          refine HNX.out.mono ?_; rintro e w9 ⟨rfl, r9, k9⟩
          have R9 := Lib.hid r9
          have K9 := Lib.hid (HK.out.trans k9 (fun i hi => .inl hi))
          have hcl9 : w9.cell? ⟨g, j, none⟩ = some (.int .i64 x) := K9.out.cell hcl hgq
          clear r9 k9
          go_wp2_with fail
          go_roundw
          case rel => exact ⟨j + 1, by omega, by go_num, R9.out, K9.out⟩
          case measure => simp [intOf]; omega
        · obtain rfl : j = cc := by omega
          have hnb : nb tt (bL l xs j) 8 = y := by
            rw [← HTT.out, nb_text _ _ _ _ HVL.out, HLc.out]; exact HBH.out.2
          have hrb := rbits_yes HR.out (by omega) 8 (by decide) (by have := HLc.out; omega)
          rw [hnb, HLc.out] at hrb
          have HRB := Lib.hid hrb
          clear hrb hnb
          go_wp2_with fail
          refine HRB.out.mono ?_; rintro e w9 ⟨rfl, r9, k9⟩
          have R9 := Lib.hid r9
          have K9 := Lib.hid (HK.out.trans k9 (fun i hi => .inl hi))
          have B9 := Lib.hid (B8.out.trans (K9.out.below (B := B0) (by have := B8.out.size; omega) (fun i hi => by omega)))
          clear r9 k9
          go_wp2_with fail
          refine (at_any R9.out).mono ?_; rintro e w10 ⟨rfl, rfl⟩
          go_wp2_with fail
          refine (alive_any _).mono ?_; rintro e w10 ⟨rfl, b10⟩
          have B10 := Lib.hid (B9.out.trans (b10.mono (by have := B9.out.size; omega)))
          clear b10
          go_wp2_with fail
          go_ret
          exact ⟨rfl, B3.out.trans (B10.out.mono (by rw [← hB0]; exact B3.out.size))⟩

theorem HuffBack_walk (a0 : Option Addr) (len0 cap0 : Nat) (z0 : List Int) (a1 : Option Addr) (len1 cap1 : Nat) (z1 : List Int) (a2 a3 : Int) (w : World) (w0 : IsRow .u8 w a0 len0 cap0 z0) (w1 : IsRow .u16 w a1 len1 cap1 z1) (w2 : (Lit.int .u8 a2).wf = true) (w3 : (Lit.int .u8 a3).wf = true) :
    Calls Try.prog 4 #[.slice a0 len0 cap0, .slice a1 len1 cap1, .int .u8 a2, .int .u8 a3] w fun e w' => e = .returned (.bool true) ∧ Below w.heap.size w w' := by
  have h0 := w0.most
  have h1 := w1.most
  obtain ⟨q1, q2⟩ := w0.nat8
  obtain ⟨q3, q4⟩ := w1.nat16
  obtain ⟨o, rfl, ho⟩ := u8_nat w2
  obtain ⟨y, rfl, hy⟩ := u8_nat w3
  by_cases h : 320 < len0 ∨ 200 < len1 ∨ len0 = 0
  · exact back_far _ _ _ _ _ _ _ _ w (by omega) (by omega) h
  · by_cases he : nerr (nat8 z0) len0 ((o % 12 + 1 : Nat) : Int) = 0
    · exact back_some a0 a1 len0 len1 cap0 cap1 _ _ o _ y w (by omega) (by omega) (by omega) q1 q2 q3 q4 ho rfl hy (nerr_ok he).2
    · exact back_none a0 a1 len0 len1 cap0 cap1 _ o _ _ w (by omega) (by omega) (by omega) q1 q2 ho rfl he
end Go.Proofs.Ytnkkccieidlacaa
