/- PackMore returns true for any counts, any limit, however many times as great (written by gen/mor.py). Conditions: none. -/
import Derived.Test.YteicamfelamfhaaLwA
namespace Go.Proofs.Yteicamfelamfhaa
open Go.RowKit M
set_option linter.unusedVariables false

theorem more_far (A : Option Addr) (n c : Nat) (x t : Int) (W : World) (hn : n ≤ maxLen) (h : 100 < n) :
    Calls Try.prog 6 #[.slice A n c, .int .u8 x, .int .u8 t] W fun e w' => e = .returned (.bool true) ∧ Below W.heap.size W w' := by
  have hn' : n ≤ 9223372036854775807 := by unfold maxLen at hn; omega
  have d1 : decide (100 < (n : Int)) = true := decide_eq_true (by omega)
  clear h
  go_enter Try.func6, Try.ntmps6
  go_wp2_with fail
  refine (alive_any _).mono ?_; rintro e w2 ⟨rfl, b2⟩
  go_wp2_with fail
  go_ret
  exact ⟨rfl, b2⟩

set_option maxHeartbeats 8000000 in
set_option maxRecDepth 1000000 in
theorem more_ok (A : Option Addr) (n c x t : Nat) (y : Nat → Nat) (m : Nat) (e : Nat → Nat × Nat) (W : World) (hn : n ≤ 100) (hx : x < 256) (ht : t < 256) (hy : ∀ i, y i ≤ 65535) (H : Nums W .u16 A n (fun i => (y i : Int))) (hl : IsLv y n m e) (hb : nds m ≤ x % 14 + 1) :
    Calls Try.prog 6 #[.slice A n c, .int .u8 x, .int .u8 t] W fun e w' => e = .returned (.bool true) ∧ Below W.heap.size W w' := by
  have d1 : decide (100 < (n : Int)) = false := decide_eq_false (by omega)
  have HA := Lib.hid H
  have HY := Lib.hid hy
  have HL := Lib.hid hl
  have HB := Lib.hid hb
  obtain ⟨L, hL⟩ : ∃ L, x % 14 + 1 = L := ⟨_, rfl⟩
  obtain ⟨k, hk⟩ : ∃ k, t % 9 + 1 = k := ⟨_, rfl⟩
  rw [hL] at HB
  have v1 : (x : Int).tmod 14 = (L : Int) - 1 := by rw [Int.tmod_eq_emod_of_nonneg (by omega)]; omega
  have v2 : (x : Int) % 14 = (L : Int) - 1 := by omega
  have v3 : (t : Int).tmod 9 = (k : Int) - 1 := by rw [Int.tmod_eq_emod_of_nonneg (by omega)]; omega
  have v4 : (t : Int) % 9 = (k : Int) - 1 := by omega
  have L1 : 1 ≤ L := by omega
  have L2 : L ≤ 14 := by omega
  have k1 : 1 ≤ k := by omega
  have k2 : k ≤ 9 := by omega
  have hmk := fun w => madeInt w n (by omega)
  have R0 := Lib.hid ((Irow.made W n).alloc (.cells (madeCells #[.int .i64 0] n) 3)).drew
  have R1 := Lib.hid (show Irow ((W.alloc (.cells (madeCells #[.int .i64 0] n) 3)).alloc (.cells (madeCells #[.int .i64 0] n) 3)).drew (W.heap.size + 1) n (fun _ => 0) by
    have h := Irow.made (W.alloc (.cells (madeCells #[.int .i64 0] n) 3)) n
    rw [show (W.alloc (.cells (madeCells #[.int .i64 0] n) 3)).heap.size = W.heap.size + 1 by simp] at h
    exact h)
  have R2 := Lib.hid (show Below W.heap.size W ((W.alloc (.cells (madeCells #[.int .i64 0] n) 3)).alloc (.cells (madeCells #[.int .i64 0] n) 3)).drew from (((Below.refl _ _).alloc (Nat.le_refl _) _).alloc (by simp) _).drew)
  clear H hy hl hb hL hk hx ht
  go_enter Try.func6, Try.ntmps6
  go_wp2_with fail
  go_region
  · clear hmk
    go_wp2_with fail
    go_loopw [11] (fun i wr => ∃ j : Nat, j ≤ n ∧ i = .int .i64 j ∧ Irow wr W.heap.size n (fun i => if i < j then (y i : Int) else 0) ∧ Irow wr (W.heap.size + 1) n (fun i => if i < j then ((k * y i : Nat) : Int) else 0) ∧ Below W.heap.size W wr) (fun i _ => n - (intOf i).toNat)
    case atStart => exact ⟨0, Nat.zero_le _, rfl, R0.out.congr (fun i _ => by rw [if_neg (by omega)]), R1.out.congr (fun i _ => by rw [if_neg (by omega)]), R2.out⟩
    case round =>
      obtain ⟨j, hj, rfl, i1, i2, hb⟩ := hrel
      by_cases hlt : j < n
      · obtain ⟨b, o, rfl, hbs, hc⟩ := HA.out (by omega)
        have hcell := (hb.cell hbs).trans (hc j hlt)
        have h655 := HY.out j
        have c1 := i1.cell hlt
        have c2 := i2.cell hlt
        have f1 := i1.frozen j
        have f2 := i2.frozen j
        rw [if_neg (Nat.lt_irrefl _)] at c1 c2
        have hsz1 := i1.lt
        have hsz2 := i2.lt
        obtain ⟨v, hv⟩ : ∃ v, y j = v := ⟨_, rfl⟩
        simp only [hv] at hcell h655
        have hq0 : k * v ≤ 9 * 65535 := Nat.mul_le_mul k2 h655
        obtain ⟨q, hq⟩ : ∃ q, k * v = q := ⟨_, rfl⟩
        rw [hq] at hq0
        have w1 : (k : Int) * (v : Int) = (q : Int) := by rw [← hq]; push_cast; rfl
        have I1 := Lib.hid (((i1.set j (v : Int)).other (a := ⟨W.heap.size + 1, j, none⟩) (by simp) (.int .i64 (q : Int))).congr (y := fun i => if i < j + 1 then (y i : Int) else 0) (fun i _ => by
          by_cases r : i = j
          · rw [if_pos r, if_pos (by omega), r, hv]
          · rw [if_neg r]
            by_cases r2 : i < j
            · rw [if_pos r2, if_pos (by omega)]
            · rw [if_neg r2, if_neg (by omega)]))
        have I2 := Lib.hid (((i2.other (a := ⟨W.heap.size, j, none⟩) (by simp) (.int .i64 (v : Int))).set j (q : Int)).congr (y := fun i => if i < j + 1 then ((k * y i : Nat) : Int) else 0) (fun i _ => by
          by_cases r : i = j
          · rw [if_pos r, if_pos (by omega), r, hv, hq]
          · rw [if_neg r]
            by_cases r2 : i < j
            · rw [if_pos r2, if_pos (by omega)]
            · rw [if_neg r2, if_neg (by omega)]))
        have B3 := Lib.hid ((hb.setCell (p := ⟨W.heap.size, j, none⟩) (by simp) (.int .i64 (v : Int))).setCell (p := ⟨W.heap.size + 1, j, none⟩) (by simp) (.int .i64 (q : Int)))
        clear i1 i2 hb hv hq hc
        go_wp2_with fail
        go_roundw
        case rel => exact ⟨j + 1, by omega, by go_num, I1.out, I2.out, B3.out⟩
        case measure => simp [intOf]; omega
      · obtain rfl : j = n := by omega
        have I1 := Lib.hid (i1.congr (y := fun i => (y i : Int)) (fun i hi => by rw [if_pos hi]))
        have I2 := Lib.hid (i2.congr (y := fun i => ((k * y i : Nat) : Int)) (fun i hi => by rw [if_pos hi]))
        have B3 := Lib.hid hb
        have Y30 := Lib.hid (show ∀ i, y i ≤ 1073741824 from fun i => by have := HY.out i; omega)
        have K30 := Lib.hid (show ∀ i, k * y i ≤ 1073741824 from fun i => by
          have : k * y i ≤ 9 * 65535 := Nat.mul_le_mul k2 (HY.out i)
          omega)
        have LK := Lib.hid (lv_times k1 HL.out)
        clear i1 i2 hb
        go_wp2_with fail
        refine (lens_ok (some ⟨W.heap.size, 0, none⟩) j j L m y e _ (by omega) Y30.out I1.out.nums (by omega) (by omega) HL.out HB.out).mono ?_; rintro x1 wa ⟨g1, rfl, s1, r1, b1⟩
        have BN1 := Lib.hid b1
        have GR1 := Lib.hid r1
        have GS1 := Lib.hid s1
        clear b1 r1 s1
        have I1a := Lib.hid (I1.out.below BN1.out I1.out.lt)
        have I2a := Lib.hid (I2.out.below BN1.out I2.out.lt)
        have B4 := Lib.hid (B3.out.trans (BN1.out.mono B3.out.size))
        go_wp2_with fail
        refine (lens_ok (some ⟨W.heap.size, 0, none⟩) j j (L + 1) m y e _ (by omega) Y30.out I1a.out.nums (by omega) (by omega) HL.out (by have := HB.out; omega)).mono ?_; rintro x1 wb ⟨g2, rfl, s2, r2, b2⟩
        have BN2 := Lib.hid b2
        have GR2 := Lib.hid r2
        have GS2 := Lib.hid s2
        clear b2 r2 s2
        have I1b := Lib.hid (I1a.out.below BN2.out I1a.out.lt)
        have I2b := Lib.hid (I2a.out.below BN2.out I2a.out.lt)
        have B5 := Lib.hid (B4.out.trans (BN2.out.mono B4.out.size))
        have GA := Lib.hid (GR1.out.below BN2.out GR1.out.lt)
        go_wp2_with fail
        refine (lens_ok (some ⟨W.heap.size + 1, 0, none⟩) j j L m (fun i => k * y i) (te k id e) _ (by omega) K30.out I2b.out.nums (by omega) (by omega) LK.out HB.out).mono ?_; rintro x1 wc ⟨g3, rfl, s3, r3, b3⟩
        have BN3 := Lib.hid b3
        have GR3 := Lib.hid r3
        have GS3 := Lib.hid s3
        clear b3 r3 s3
        have I1c := Lib.hid (I1b.out.below BN3.out I1b.out.lt)
        have B6 := Lib.hid (B5.out.trans (BN3.out.mono B5.out.size))
        have GA2 := Lib.hid (GA.out.below BN3.out GA.out.lt)
        have GB2 := Lib.hid (GR2.out.below BN3.out GR2.out.lt)
        clear I2b I2a I2 I1a I1b
        have PL1 := Lib.hid (show ∀ s, pl m e L s ≤ 255 from fun s => by have := pl_le HL.out HB.out L1 s; omega)
        have PL2 := Lib.hid (show ∀ s, pl m e (L + 1) s ≤ 255 from fun s => by have := pl_le HL.out (show nds m ≤ L + 1 by have := HB.out; omega) (by omega) s; omega)
        obtain ⟨q1, hq1⟩ : ∃ q, wl y j m e L = q := ⟨_, rfl⟩
        obtain ⟨q2, hq2⟩ : ∃ q, wl y j m e (L + 1) = q := ⟨_, rfl⟩
        have hle : q2 ≤ q1 := by rw [← hq1, ← hq2]; exact wl_more HL.out HB.out L1 (by omega)
        have WG1 := Lib.hid (show wg (pl m e L) (fun i => (y i : Int)) (min j j) = (q1 : Int) by rw [Nat.min_self, (wg_sm PL1.out Y30.out j (by omega)).1, ← hq1]; rfl)
        have WG2 := Lib.hid (show wg (pl m e (L + 1)) (fun i => (y i : Int)) (min j j) = (q2 : Int) by rw [Nat.min_self, (wg_sm PL2.out Y30.out j (by omega)).1, ← hq2]; rfl)
        have dq : decide (q1 < q2) = false := decide_eq_false (by omega)
        have HML := Lib.hid (show j ≤ maxLen by unfold maxLen; omega)
        clear hq1 hq2 hle
        go_wp2_with fail
        refine (sameLens_any (some ⟨g1, 0, none⟩) (some ⟨g3, 0, none⟩) j j j _ _ _ HML.out GA2.out.nums GR3.out.nums (fun i _ => (pl_times k1 m e L i).symm)).mono ?_; rintro x1 wd ⟨rfl, q, rfl⟩
        go_wp2_with fail
        refine (weighs_any (some ⟨g2, 0, none⟩) (some ⟨W.heap.size, 0, none⟩) j j j j _ _ _ HML.out HML.out (GB2.out.drewN q).nums (I1c.out.drewN q).nums PL2.out).mono ?_; rintro x1 we ⟨rfl, b7⟩
        rw [WG2.out]
        have GA3 := Lib.hid ((GA2.out.drewN q).below b7 GA2.out.lt)
        have I1d := Lib.hid ((I1c.out.drewN q).below b7 I1c.out.lt)
        have B7 := Lib.hid ((below_drewN B6.out q).trans (b7.mono B6.out.size))
        clear b7
        go_wp2_with fail
        refine (weighs_any (some ⟨g1, 0, none⟩) (some ⟨W.heap.size, 0, none⟩) j j j j _ _ _ HML.out HML.out GA3.out.nums I1d.out.nums PL1.out).mono ?_; rintro x1 wf ⟨rfl, b8⟩
        rw [WG1.out]
        have B8 := Lib.hid (B7.out.trans (b8.mono B7.out.size))
        clear b8
        go_wp2_with fail
        refine (alive_any _).mono ?_; rintro x1 wg ⟨rfl, b9⟩
        go_wp2_with fail
        go_ret
        exact ⟨rfl, B8.out.trans (b9.mono B8.out.size)⟩
  · clear hmk
    go_wp2_with fail
    go_loopw [11] (fun i wr => ∃ j : Nat, j ≤ n ∧ i = .int .i64 j ∧ Irow wr (W.heap.size + 1) n (fun i => if i < j then (y i : Int) else 0) ∧ Irow wr W.heap.size n (fun i => if i < j then ((k * y i : Nat) : Int) else 0) ∧ Below W.heap.size W wr) (fun i _ => n - (intOf i).toNat)
    case atStart => exact ⟨0, Nat.zero_le _, rfl, R1.out.congr (fun i _ => by rw [if_neg (by omega)]), R0.out.congr (fun i _ => by rw [if_neg (by omega)]), R2.out⟩
    case round =>
      obtain ⟨j, hj, rfl, i1, i2, hb⟩ := hrel
      by_cases hlt : j < n
      · obtain ⟨b, o, rfl, hbs, hc⟩ := HA.out (by omega)
        have hcell := (hb.cell hbs).trans (hc j hlt)
        have h655 := HY.out j
        have c1 := i1.cell hlt
        have c2 := i2.cell hlt
        have f1 := i1.frozen j
        have f2 := i2.frozen j
        rw [if_neg (Nat.lt_irrefl _)] at c1 c2
        have hsz1 := i1.lt
        have hsz2 := i2.lt
        obtain ⟨v, hv⟩ : ∃ v, y j = v := ⟨_, rfl⟩
        simp only [hv] at hcell h655
        have hq0 : k * v ≤ 9 * 65535 := Nat.mul_le_mul k2 h655
        obtain ⟨q, hq⟩ : ∃ q, k * v = q := ⟨_, rfl⟩
        rw [hq] at hq0
        have w1 : (k : Int) * (v : Int) = (q : Int) := by rw [← hq]; push_cast; rfl
        have I1 := Lib.hid (((i1.set j (v : Int)).other (a := ⟨W.heap.size, j, none⟩) (by simp) (.int .i64 (q : Int))).congr (y := fun i => if i < j + 1 then (y i : Int) else 0) (fun i _ => by
          by_cases r : i = j
          · rw [if_pos r, if_pos (by omega), r, hv]
          · rw [if_neg r]
            by_cases r2 : i < j
            · rw [if_pos r2, if_pos (by omega)]
            · rw [if_neg r2, if_neg (by omega)]))
        have I2 := Lib.hid (((i2.other (a := ⟨W.heap.size + 1, j, none⟩) (by simp) (.int .i64 (v : Int))).set j (q : Int)).congr (y := fun i => if i < j + 1 then ((k * y i : Nat) : Int) else 0) (fun i _ => by
          by_cases r : i = j
          · rw [if_pos r, if_pos (by omega), r, hv, hq]
          · rw [if_neg r]
            by_cases r2 : i < j
            · rw [if_pos r2, if_pos (by omega)]
            · rw [if_neg r2, if_neg (by omega)]))
        have B3 := Lib.hid ((hb.setCell (p := ⟨W.heap.size + 1, j, none⟩) (by simp) (.int .i64 (v : Int))).setCell (p := ⟨W.heap.size, j, none⟩) (by simp) (.int .i64 (q : Int)))
        clear i1 i2 hb hv hq hc
        go_wp2_with fail
        go_roundw
        case rel => exact ⟨j + 1, by omega, by go_num, I1.out, I2.out, B3.out⟩
        case measure => simp [intOf]; omega
      · obtain rfl : j = n := by omega
        have I1 := Lib.hid (i1.congr (y := fun i => (y i : Int)) (fun i hi => by rw [if_pos hi]))
        have I2 := Lib.hid (i2.congr (y := fun i => ((k * y i : Nat) : Int)) (fun i hi => by rw [if_pos hi]))
        have B3 := Lib.hid hb
        have Y30 := Lib.hid (show ∀ i, y i ≤ 1073741824 from fun i => by have := HY.out i; omega)
        have K30 := Lib.hid (show ∀ i, k * y i ≤ 1073741824 from fun i => by
          have : k * y i ≤ 9 * 65535 := Nat.mul_le_mul k2 (HY.out i)
          omega)
        have LK := Lib.hid (lv_times k1 HL.out)
        clear i1 i2 hb
        go_wp2_with fail
        refine (lens_ok (some ⟨W.heap.size + 1, 0, none⟩) j j L m y e _ (by omega) Y30.out I1.out.nums (by omega) (by omega) HL.out HB.out).mono ?_; rintro x1 wa ⟨g1, rfl, s1, r1, b1⟩
        have BN1 := Lib.hid b1
        have GR1 := Lib.hid r1
        have GS1 := Lib.hid s1
        clear b1 r1 s1
        have I1a := Lib.hid (I1.out.below BN1.out I1.out.lt)
        have I2a := Lib.hid (I2.out.below BN1.out I2.out.lt)
        have B4 := Lib.hid (B3.out.trans (BN1.out.mono B3.out.size))
        go_wp2_with fail
        refine (lens_ok (some ⟨W.heap.size + 1, 0, none⟩) j j (L + 1) m y e _ (by omega) Y30.out I1a.out.nums (by omega) (by omega) HL.out (by have := HB.out; omega)).mono ?_; rintro x1 wb ⟨g2, rfl, s2, r2, b2⟩
        have BN2 := Lib.hid b2
        have GR2 := Lib.hid r2
        have GS2 := Lib.hid s2
        clear b2 r2 s2
        have I1b := Lib.hid (I1a.out.below BN2.out I1a.out.lt)
        have I2b := Lib.hid (I2a.out.below BN2.out I2a.out.lt)
        have B5 := Lib.hid (B4.out.trans (BN2.out.mono B4.out.size))
        have GA := Lib.hid (GR1.out.below BN2.out GR1.out.lt)
        go_wp2_with fail
        refine (lens_ok (some ⟨W.heap.size, 0, none⟩) j j L m (fun i => k * y i) (te k id e) _ (by omega) K30.out I2b.out.nums (by omega) (by omega) LK.out HB.out).mono ?_; rintro x1 wc ⟨g3, rfl, s3, r3, b3⟩
        have BN3 := Lib.hid b3
        have GR3 := Lib.hid r3
        have GS3 := Lib.hid s3
        clear b3 r3 s3
        have I1c := Lib.hid (I1b.out.below BN3.out I1b.out.lt)
        have B6 := Lib.hid (B5.out.trans (BN3.out.mono B5.out.size))
        have GA2 := Lib.hid (GA.out.below BN3.out GA.out.lt)
        have GB2 := Lib.hid (GR2.out.below BN3.out GR2.out.lt)
        clear I2b I2a I2 I1a I1b
        have PL1 := Lib.hid (show ∀ s, pl m e L s ≤ 255 from fun s => by have := pl_le HL.out HB.out L1 s; omega)
        have PL2 := Lib.hid (show ∀ s, pl m e (L + 1) s ≤ 255 from fun s => by have := pl_le HL.out (show nds m ≤ L + 1 by have := HB.out; omega) (by omega) s; omega)
        obtain ⟨q1, hq1⟩ : ∃ q, wl y j m e L = q := ⟨_, rfl⟩
        obtain ⟨q2, hq2⟩ : ∃ q, wl y j m e (L + 1) = q := ⟨_, rfl⟩
        have hle : q2 ≤ q1 := by rw [← hq1, ← hq2]; exact wl_more HL.out HB.out L1 (by omega)
        have WG1 := Lib.hid (show wg (pl m e L) (fun i => (y i : Int)) (min j j) = (q1 : Int) by rw [Nat.min_self, (wg_sm PL1.out Y30.out j (by omega)).1, ← hq1]; rfl)
        have WG2 := Lib.hid (show wg (pl m e (L + 1)) (fun i => (y i : Int)) (min j j) = (q2 : Int) by rw [Nat.min_self, (wg_sm PL2.out Y30.out j (by omega)).1, ← hq2]; rfl)
        have dq : decide (q1 < q2) = false := decide_eq_false (by omega)
        have HML := Lib.hid (show j ≤ maxLen by unfold maxLen; omega)
        clear hq1 hq2 hle
        go_wp2_with fail
        refine (sameLens_any (some ⟨g1, 0, none⟩) (some ⟨g3, 0, none⟩) j j j _ _ _ HML.out GA2.out.nums GR3.out.nums (fun i _ => (pl_times k1 m e L i).symm)).mono ?_; rintro x1 wd ⟨rfl, q, rfl⟩
        go_wp2_with fail
        refine (weighs_any (some ⟨g2, 0, none⟩) (some ⟨W.heap.size + 1, 0, none⟩) j j j j _ _ _ HML.out HML.out (GB2.out.drewN q).nums (I1c.out.drewN q).nums PL2.out).mono ?_; rintro x1 we ⟨rfl, b7⟩
        rw [WG2.out]
        have GA3 := Lib.hid ((GA2.out.drewN q).below b7 GA2.out.lt)
        have I1d := Lib.hid ((I1c.out.drewN q).below b7 I1c.out.lt)
        have B7 := Lib.hid ((below_drewN B6.out q).trans (b7.mono B6.out.size))
        clear b7
        go_wp2_with fail
        refine (weighs_any (some ⟨g1, 0, none⟩) (some ⟨W.heap.size + 1, 0, none⟩) j j j j _ _ _ HML.out HML.out GA3.out.nums I1d.out.nums PL1.out).mono ?_; rintro x1 wf ⟨rfl, b8⟩
        rw [WG1.out]
        have B8 := Lib.hid (B7.out.trans (b8.mono B7.out.size))
        clear b8
        go_wp2_with fail
        refine (alive_any _).mono ?_; rintro x1 wg ⟨rfl, b9⟩
        go_wp2_with fail
        go_ret
        exact ⟨rfl, B8.out.trans (b9.mono B8.out.size)⟩

set_option maxHeartbeats 8000000 in
set_option maxRecDepth 1000000 in
theorem more_one (A : Option Addr) (n c x t : Nat) (y : Nat → Nat) (m : Nat) (e : Nat → Nat × Nat) (W : World) (hn : n ≤ 100) (hx : x < 256) (ht : t < 256) (hy : ∀ i, y i ≤ 65535) (H : Nums W .u16 A n (fun i => (y i : Int))) (hl : IsLv y n m e) (hb : x % 14 + 1 < nds m) (hb2 : nds m ≤ x % 14 + 1 + 1) :
    Calls Try.prog 6 #[.slice A n c, .int .u8 x, .int .u8 t] W fun e w' => e = .returned (.bool true) ∧ Below W.heap.size W w' := by
  have d1 : decide (100 < (n : Int)) = false := decide_eq_false (by omega)
  have HA := Lib.hid H
  have HY := Lib.hid hy
  have HL := Lib.hid hl
  have HB := Lib.hid hb
  have HB2 := Lib.hid hb2
  obtain ⟨L, hL⟩ : ∃ L, x % 14 + 1 = L := ⟨_, rfl⟩
  obtain ⟨k, hk⟩ : ∃ k, t % 9 + 1 = k := ⟨_, rfl⟩
  rw [hL] at HB
  rw [hL] at HB2
  have v1 : (x : Int).tmod 14 = (L : Int) - 1 := by rw [Int.tmod_eq_emod_of_nonneg (by omega)]; omega
  have v2 : (x : Int) % 14 = (L : Int) - 1 := by omega
  have v3 : (t : Int).tmod 9 = (k : Int) - 1 := by rw [Int.tmod_eq_emod_of_nonneg (by omega)]; omega
  have v4 : (t : Int) % 9 = (k : Int) - 1 := by omega
  have L1 : 1 ≤ L := by omega
  have L2 : L ≤ 14 := by omega
  have k1 : 1 ≤ k := by omega
  have k2 : k ≤ 9 := by omega
  have hmk := fun w => madeInt w n (by omega)
  have R0 := Lib.hid ((Irow.made W n).alloc (.cells (madeCells #[.int .i64 0] n) 3)).drew
  have R1 := Lib.hid (show Irow ((W.alloc (.cells (madeCells #[.int .i64 0] n) 3)).alloc (.cells (madeCells #[.int .i64 0] n) 3)).drew (W.heap.size + 1) n (fun _ => 0) by
    have h := Irow.made (W.alloc (.cells (madeCells #[.int .i64 0] n) 3)) n
    rw [show (W.alloc (.cells (madeCells #[.int .i64 0] n) 3)).heap.size = W.heap.size + 1 by simp] at h
    exact h)
  have R2 := Lib.hid (show Below W.heap.size W ((W.alloc (.cells (madeCells #[.int .i64 0] n) 3)).alloc (.cells (madeCells #[.int .i64 0] n) 3)).drew from (((Below.refl _ _).alloc (Nat.le_refl _) _).alloc (by simp) _).drew)
  clear H hy hl hb hb2 hL hk hx ht
  go_enter Try.func6, Try.ntmps6
  go_wp2_with fail
  go_region
  · clear hmk
    go_wp2_with fail
    go_loopw [11] (fun i wr => ∃ j : Nat, j ≤ n ∧ i = .int .i64 j ∧ Irow wr W.heap.size n (fun i => if i < j then (y i : Int) else 0) ∧ Irow wr (W.heap.size + 1) n (fun i => if i < j then ((k * y i : Nat) : Int) else 0) ∧ Below W.heap.size W wr) (fun i _ => n - (intOf i).toNat)
    case atStart => exact ⟨0, Nat.zero_le _, rfl, R0.out.congr (fun i _ => by rw [if_neg (by omega)]), R1.out.congr (fun i _ => by rw [if_neg (by omega)]), R2.out⟩
    case round =>
      obtain ⟨j, hj, rfl, i1, i2, hb⟩ := hrel
      by_cases hlt : j < n
      · obtain ⟨b, o, rfl, hbs, hc⟩ := HA.out (by omega)
        have hcell := (hb.cell hbs).trans (hc j hlt)
        have h655 := HY.out j
        have c1 := i1.cell hlt
        have c2 := i2.cell hlt
        have f1 := i1.frozen j
        have f2 := i2.frozen j
        rw [if_neg (Nat.lt_irrefl _)] at c1 c2
        have hsz1 := i1.lt
        have hsz2 := i2.lt
        obtain ⟨v, hv⟩ : ∃ v, y j = v := ⟨_, rfl⟩
        simp only [hv] at hcell h655
        have hq0 : k * v ≤ 9 * 65535 := Nat.mul_le_mul k2 h655
        obtain ⟨q, hq⟩ : ∃ q, k * v = q := ⟨_, rfl⟩
        rw [hq] at hq0
        have w1 : (k : Int) * (v : Int) = (q : Int) := by rw [← hq]; push_cast; rfl
        have I1 := Lib.hid (((i1.set j (v : Int)).other (a := ⟨W.heap.size + 1, j, none⟩) (by simp) (.int .i64 (q : Int))).congr (y := fun i => if i < j + 1 then (y i : Int) else 0) (fun i _ => by
          by_cases r : i = j
          · rw [if_pos r, if_pos (by omega), r, hv]
          · rw [if_neg r]
            by_cases r2 : i < j
            · rw [if_pos r2, if_pos (by omega)]
            · rw [if_neg r2, if_neg (by omega)]))
        have I2 := Lib.hid (((i2.other (a := ⟨W.heap.size, j, none⟩) (by simp) (.int .i64 (v : Int))).set j (q : Int)).congr (y := fun i => if i < j + 1 then ((k * y i : Nat) : Int) else 0) (fun i _ => by
          by_cases r : i = j
          · rw [if_pos r, if_pos (by omega), r, hv, hq]
          · rw [if_neg r]
            by_cases r2 : i < j
            · rw [if_pos r2, if_pos (by omega)]
            · rw [if_neg r2, if_neg (by omega)]))
        have B3 := Lib.hid ((hb.setCell (p := ⟨W.heap.size, j, none⟩) (by simp) (.int .i64 (v : Int))).setCell (p := ⟨W.heap.size + 1, j, none⟩) (by simp) (.int .i64 (q : Int)))
        clear i1 i2 hb hv hq hc
        go_wp2_with fail
        go_roundw
        case rel => exact ⟨j + 1, by omega, by go_num, I1.out, I2.out, B3.out⟩
        case measure => simp [intOf]; omega
      · obtain rfl : j = n := by omega
        have I1 := Lib.hid (i1.congr (y := fun i => (y i : Int)) (fun i hi => by rw [if_pos hi]))
        have I2 := Lib.hid (i2.congr (y := fun i => ((k * y i : Nat) : Int)) (fun i hi => by rw [if_pos hi]))
        have B3 := Lib.hid hb
        have Y30 := Lib.hid (show ∀ i, y i ≤ 1073741824 from fun i => by have := HY.out i; omega)
        have K30 := Lib.hid (show ∀ i, k * y i ≤ 1073741824 from fun i => by
          have : k * y i ≤ 9 * 65535 := Nat.mul_le_mul k2 (HY.out i)
          omega)
        have LK := Lib.hid (lv_times k1 HL.out)
        clear i1 i2 hb
        go_wp2_with fail
        refine (lens_few (some ⟨W.heap.size, 0, none⟩) j j L m y e _ (by omega) Y30.out I1.out.nums (by omega) (by omega) HL.out HB.out).mono ?_; rintro x1 wa ⟨rfl, b1⟩
        have BN1 := Lib.hid b1
        clear b1
        have I1a := Lib.hid (I1.out.below BN1.out I1.out.lt)
        have I2a := Lib.hid (I2.out.below BN1.out I2.out.lt)
        have B4 := Lib.hid (B3.out.trans (BN1.out.mono B3.out.size))
        go_wp2_with fail
        refine (lens_ok (some ⟨W.heap.size, 0, none⟩) j j (L + 1) m y e _ (by omega) Y30.out I1a.out.nums (by omega) (by omega) HL.out HB2.out).mono ?_; rintro x1 wb ⟨g2, rfl, s2, r2, b2⟩
        have BN2 := Lib.hid b2
        have GR2 := Lib.hid r2
        have GS2 := Lib.hid s2
        clear b2 r2 s2
        have I1b := Lib.hid (I1a.out.below BN2.out I1a.out.lt)
        have I2b := Lib.hid (I2a.out.below BN2.out I2a.out.lt)
        have B5 := Lib.hid (B4.out.trans (BN2.out.mono B4.out.size))
        go_wp2_with fail
        refine (lens_few (some ⟨W.heap.size + 1, 0, none⟩) j j L m (fun i => k * y i) (te k id e) _ (by omega) K30.out I2b.out.nums (by omega) (by omega) LK.out HB.out).mono ?_; rintro x1 wc ⟨rfl, b3⟩
        have BN3 := Lib.hid b3
        clear b3
        have I1c := Lib.hid (I1b.out.below BN3.out I1b.out.lt)
        have B6 := Lib.hid (B5.out.trans (BN3.out.mono B5.out.size))
        go_wp2_with fail
        refine (alive_any _).mono ?_; rintro x1 wg ⟨rfl, b9⟩
        go_wp2_with fail
        go_ret
        exact ⟨rfl, B6.out.trans (b9.mono B6.out.size)⟩
  · clear hmk
    go_wp2_with fail
    go_loopw [11] (fun i wr => ∃ j : Nat, j ≤ n ∧ i = .int .i64 j ∧ Irow wr (W.heap.size + 1) n (fun i => if i < j then (y i : Int) else 0) ∧ Irow wr W.heap.size n (fun i => if i < j then ((k * y i : Nat) : Int) else 0) ∧ Below W.heap.size W wr) (fun i _ => n - (intOf i).toNat)
    case atStart => exact ⟨0, Nat.zero_le _, rfl, R1.out.congr (fun i _ => by rw [if_neg (by omega)]), R0.out.congr (fun i _ => by rw [if_neg (by omega)]), R2.out⟩
    case round =>
      obtain ⟨j, hj, rfl, i1, i2, hb⟩ := hrel
      by_cases hlt : j < n
      · obtain ⟨b, o, rfl, hbs, hc⟩ := HA.out (by omega)
        have hcell := (hb.cell hbs).trans (hc j hlt)
        have h655 := HY.out j
        have c1 := i1.cell hlt
        have c2 := i2.cell hlt
        have f1 := i1.frozen j
        have f2 := i2.frozen j
        rw [if_neg (Nat.lt_irrefl _)] at c1 c2
        have hsz1 := i1.lt
        have hsz2 := i2.lt
        obtain ⟨v, hv⟩ : ∃ v, y j = v := ⟨_, rfl⟩
        simp only [hv] at hcell h655
        have hq0 : k * v ≤ 9 * 65535 := Nat.mul_le_mul k2 h655
        obtain ⟨q, hq⟩ : ∃ q, k * v = q := ⟨_, rfl⟩
        rw [hq] at hq0
        have w1 : (k : Int) * (v : Int) = (q : Int) := by rw [← hq]; push_cast; rfl
        have I1 := Lib.hid (((i1.set j (v : Int)).other (a := ⟨W.heap.size, j, none⟩) (by simp) (.int .i64 (q : Int))).congr (y := fun i => if i < j + 1 then (y i : Int) else 0) (fun i _ => by
          by_cases r : i = j
          · rw [if_pos r, if_pos (by omega), r, hv]
          · rw [if_neg r]
            by_cases r2 : i < j
            · rw [if_pos r2, if_pos (by omega)]
            · rw [if_neg r2, if_neg (by omega)]))
        have I2 := Lib.hid (((i2.other (a := ⟨W.heap.size + 1, j, none⟩) (by simp) (.int .i64 (v : Int))).set j (q : Int)).congr (y := fun i => if i < j + 1 then ((k * y i : Nat) : Int) else 0) (fun i _ => by
          by_cases r : i = j
          · rw [if_pos r, if_pos (by omega), r, hv, hq]
          · rw [if_neg r]
            by_cases r2 : i < j
            · rw [if_pos r2, if_pos (by omega)]
            · rw [if_neg r2, if_neg (by omega)]))
        have B3 := Lib.hid ((hb.setCell (p := ⟨W.heap.size + 1, j, none⟩) (by simp) (.int .i64 (v : Int))).setCell (p := ⟨W.heap.size, j, none⟩) (by simp) (.int .i64 (q : Int)))
        clear i1 i2 hb hv hq hc
        go_wp2_with fail
        go_roundw
        case rel => exact ⟨j + 1, by omega, by go_num, I1.out, I2.out, B3.out⟩
        case measure => simp [intOf]; omega
      · obtain rfl : j = n := by omega
        have I1 := Lib.hid (i1.congr (y := fun i => (y i : Int)) (fun i hi => by rw [if_pos hi]))
        have I2 := Lib.hid (i2.congr (y := fun i => ((k * y i : Nat) : Int)) (fun i hi => by rw [if_pos hi]))
        have B3 := Lib.hid hb
        have Y30 := Lib.hid (show ∀ i, y i ≤ 1073741824 from fun i => by have := HY.out i; omega)
        have K30 := Lib.hid (show ∀ i, k * y i ≤ 1073741824 from fun i => by
          have : k * y i ≤ 9 * 65535 := Nat.mul_le_mul k2 (HY.out i)
          omega)
        have LK := Lib.hid (lv_times k1 HL.out)
        clear i1 i2 hb
        go_wp2_with fail
        refine (lens_few (some ⟨W.heap.size + 1, 0, none⟩) j j L m y e _ (by omega) Y30.out I1.out.nums (by omega) (by omega) HL.out HB.out).mono ?_; rintro x1 wa ⟨rfl, b1⟩
        have BN1 := Lib.hid b1
        clear b1
        have I1a := Lib.hid (I1.out.below BN1.out I1.out.lt)
        have I2a := Lib.hid (I2.out.below BN1.out I2.out.lt)
        have B4 := Lib.hid (B3.out.trans (BN1.out.mono B3.out.size))
        go_wp2_with fail
        refine (lens_ok (some ⟨W.heap.size + 1, 0, none⟩) j j (L + 1) m y e _ (by omega) Y30.out I1a.out.nums (by omega) (by omega) HL.out HB2.out).mono ?_; rintro x1 wb ⟨g2, rfl, s2, r2, b2⟩
        have BN2 := Lib.hid b2
        have GR2 := Lib.hid r2
        have GS2 := Lib.hid s2
        clear b2 r2 s2
        have I1b := Lib.hid (I1a.out.below BN2.out I1a.out.lt)
        have I2b := Lib.hid (I2a.out.below BN2.out I2a.out.lt)
        have B5 := Lib.hid (B4.out.trans (BN2.out.mono B4.out.size))
        go_wp2_with fail
        refine (lens_few (some ⟨W.heap.size, 0, none⟩) j j L m (fun i => k * y i) (te k id e) _ (by omega) K30.out I2b.out.nums (by omega) (by omega) LK.out HB.out).mono ?_; rintro x1 wc ⟨rfl, b3⟩
        have BN3 := Lib.hid b3
        clear b3
        have I1c := Lib.hid (I1b.out.below BN3.out I1b.out.lt)
        have B6 := Lib.hid (B5.out.trans (BN3.out.mono B5.out.size))
        go_wp2_with fail
        refine (alive_any _).mono ?_; rintro x1 wg ⟨rfl, b9⟩
        go_wp2_with fail
        go_ret
        exact ⟨rfl, B6.out.trans (b9.mono B6.out.size)⟩

set_option maxHeartbeats 8000000 in
set_option maxRecDepth 1000000 in
theorem more_two (A : Option Addr) (n c x t : Nat) (y : Nat → Nat) (m : Nat) (e : Nat → Nat × Nat) (W : World) (hn : n ≤ 100) (hx : x < 256) (ht : t < 256) (hy : ∀ i, y i ≤ 65535) (H : Nums W .u16 A n (fun i => (y i : Int))) (hl : IsLv y n m e) (hb : x % 14 + 1 < nds m) (hb2 : x % 14 + 1 + 1 < nds m) :
    Calls Try.prog 6 #[.slice A n c, .int .u8 x, .int .u8 t] W fun e w' => e = .returned (.bool true) ∧ Below W.heap.size W w' := by
  have d1 : decide (100 < (n : Int)) = false := decide_eq_false (by omega)
  have HA := Lib.hid H
  have HY := Lib.hid hy
  have HL := Lib.hid hl
  have HB := Lib.hid hb
  have HB2 := Lib.hid hb2
  obtain ⟨L, hL⟩ : ∃ L, x % 14 + 1 = L := ⟨_, rfl⟩
  obtain ⟨k, hk⟩ : ∃ k, t % 9 + 1 = k := ⟨_, rfl⟩
  rw [hL] at HB
  rw [hL] at HB2
  have v1 : (x : Int).tmod 14 = (L : Int) - 1 := by rw [Int.tmod_eq_emod_of_nonneg (by omega)]; omega
  have v2 : (x : Int) % 14 = (L : Int) - 1 := by omega
  have v3 : (t : Int).tmod 9 = (k : Int) - 1 := by rw [Int.tmod_eq_emod_of_nonneg (by omega)]; omega
  have v4 : (t : Int) % 9 = (k : Int) - 1 := by omega
  have L1 : 1 ≤ L := by omega
  have L2 : L ≤ 14 := by omega
  have k1 : 1 ≤ k := by omega
  have k2 : k ≤ 9 := by omega
  have hmk := fun w => madeInt w n (by omega)
  have R0 := Lib.hid ((Irow.made W n).alloc (.cells (madeCells #[.int .i64 0] n) 3)).drew
  have R1 := Lib.hid (show Irow ((W.alloc (.cells (madeCells #[.int .i64 0] n) 3)).alloc (.cells (madeCells #[.int .i64 0] n) 3)).drew (W.heap.size + 1) n (fun _ => 0) by
    have h := Irow.made (W.alloc (.cells (madeCells #[.int .i64 0] n) 3)) n
    rw [show (W.alloc (.cells (madeCells #[.int .i64 0] n) 3)).heap.size = W.heap.size + 1 by simp] at h
    exact h)
  have R2 := Lib.hid (show Below W.heap.size W ((W.alloc (.cells (madeCells #[.int .i64 0] n) 3)).alloc (.cells (madeCells #[.int .i64 0] n) 3)).drew from (((Below.refl _ _).alloc (Nat.le_refl _) _).alloc (by simp) _).drew)
  clear H hy hl hb hb2 hL hk hx ht
  go_enter Try.func6, Try.ntmps6
  go_wp2_with fail
  go_region
  · clear hmk
    go_wp2_with fail
    go_loopw [11] (fun i wr => ∃ j : Nat, j ≤ n ∧ i = .int .i64 j ∧ Irow wr W.heap.size n (fun i => if i < j then (y i : Int) else 0) ∧ Irow wr (W.heap.size + 1) n (fun i => if i < j then ((k * y i : Nat) : Int) else 0) ∧ Below W.heap.size W wr) (fun i _ => n - (intOf i).toNat)
    case atStart => exact ⟨0, Nat.zero_le _, rfl, R0.out.congr (fun i _ => by rw [if_neg (by omega)]), R1.out.congr (fun i _ => by rw [if_neg (by omega)]), R2.out⟩
    case round =>
      obtain ⟨j, hj, rfl, i1, i2, hb⟩ := hrel
      by_cases hlt : j < n
      · obtain ⟨b, o, rfl, hbs, hc⟩ := HA.out (by omega)
        have hcell := (hb.cell hbs).trans (hc j hlt)
        have h655 := HY.out j
        have c1 := i1.cell hlt
        have c2 := i2.cell hlt
        have f1 := i1.frozen j
        have f2 := i2.frozen j
        rw [if_neg (Nat.lt_irrefl _)] at c1 c2
        have hsz1 := i1.lt
        have hsz2 := i2.lt
        obtain ⟨v, hv⟩ : ∃ v, y j = v := ⟨_, rfl⟩
        simp only [hv] at hcell h655
        have hq0 : k * v ≤ 9 * 65535 := Nat.mul_le_mul k2 h655
        obtain ⟨q, hq⟩ : ∃ q, k * v = q := ⟨_, rfl⟩
        rw [hq] at hq0
        have w1 : (k : Int) * (v : Int) = (q : Int) := by rw [← hq]; push_cast; rfl
        have I1 := Lib.hid (((i1.set j (v : Int)).other (a := ⟨W.heap.size + 1, j, none⟩) (by simp) (.int .i64 (q : Int))).congr (y := fun i => if i < j + 1 then (y i : Int) else 0) (fun i _ => by
          by_cases r : i = j
          · rw [if_pos r, if_pos (by omega), r, hv]
          · rw [if_neg r]
            by_cases r2 : i < j
            · rw [if_pos r2, if_pos (by omega)]
            · rw [if_neg r2, if_neg (by omega)]))
        have I2 := Lib.hid (((i2.other (a := ⟨W.heap.size, j, none⟩) (by simp) (.int .i64 (v : Int))).set j (q : Int)).congr (y := fun i => if i < j + 1 then ((k * y i : Nat) : Int) else 0) (fun i _ => by
          by_cases r : i = j
          · rw [if_pos r, if_pos (by omega), r, hv, hq]
          · rw [if_neg r]
            by_cases r2 : i < j
            · rw [if_pos r2, if_pos (by omega)]
            · rw [if_neg r2, if_neg (by omega)]))
        have B3 := Lib.hid ((hb.setCell (p := ⟨W.heap.size, j, none⟩) (by simp) (.int .i64 (v : Int))).setCell (p := ⟨W.heap.size + 1, j, none⟩) (by simp) (.int .i64 (q : Int)))
        clear i1 i2 hb hv hq hc
        go_wp2_with fail
        go_roundw
        case rel => exact ⟨j + 1, by omega, by go_num, I1.out, I2.out, B3.out⟩
        case measure => simp [intOf]; omega
      · obtain rfl : j = n := by omega
        have I1 := Lib.hid (i1.congr (y := fun i => (y i : Int)) (fun i hi => by rw [if_pos hi]))
        have I2 := Lib.hid (i2.congr (y := fun i => ((k * y i : Nat) : Int)) (fun i hi => by rw [if_pos hi]))
        have B3 := Lib.hid hb
        have Y30 := Lib.hid (show ∀ i, y i ≤ 1073741824 from fun i => by have := HY.out i; omega)
        have K30 := Lib.hid (show ∀ i, k * y i ≤ 1073741824 from fun i => by
          have : k * y i ≤ 9 * 65535 := Nat.mul_le_mul k2 (HY.out i)
          omega)
        have LK := Lib.hid (lv_times k1 HL.out)
        clear i1 i2 hb
        go_wp2_with fail
        refine (lens_few (some ⟨W.heap.size, 0, none⟩) j j L m y e _ (by omega) Y30.out I1.out.nums (by omega) (by omega) HL.out HB.out).mono ?_; rintro x1 wa ⟨rfl, b1⟩
        have BN1 := Lib.hid b1
        clear b1
        have I1a := Lib.hid (I1.out.below BN1.out I1.out.lt)
        have I2a := Lib.hid (I2.out.below BN1.out I2.out.lt)
        have B4 := Lib.hid (B3.out.trans (BN1.out.mono B3.out.size))
        go_wp2_with fail
        refine (lens_few (some ⟨W.heap.size, 0, none⟩) j j (L + 1) m y e _ (by omega) Y30.out I1a.out.nums (by omega) (by omega) HL.out HB2.out).mono ?_; rintro x1 wb ⟨rfl, b2⟩
        have BN2 := Lib.hid b2
        clear b2
        have I1b := Lib.hid (I1a.out.below BN2.out I1a.out.lt)
        have I2b := Lib.hid (I2a.out.below BN2.out I2a.out.lt)
        have B5 := Lib.hid (B4.out.trans (BN2.out.mono B4.out.size))
        go_wp2_with fail
        refine (lens_few (some ⟨W.heap.size + 1, 0, none⟩) j j L m (fun i => k * y i) (te k id e) _ (by omega) K30.out I2b.out.nums (by omega) (by omega) LK.out HB.out).mono ?_; rintro x1 wc ⟨rfl, b3⟩
        have BN3 := Lib.hid b3
        clear b3
        have I1c := Lib.hid (I1b.out.below BN3.out I1b.out.lt)
        have B6 := Lib.hid (B5.out.trans (BN3.out.mono B5.out.size))
        go_wp2_with fail
        refine (alive_any _).mono ?_; rintro x1 wg ⟨rfl, b9⟩
        go_wp2_with fail
        go_ret
        exact ⟨rfl, B6.out.trans (b9.mono B6.out.size)⟩
  · clear hmk
    go_wp2_with fail
    go_loopw [11] (fun i wr => ∃ j : Nat, j ≤ n ∧ i = .int .i64 j ∧ Irow wr (W.heap.size + 1) n (fun i => if i < j then (y i : Int) else 0) ∧ Irow wr W.heap.size n (fun i => if i < j then ((k * y i : Nat) : Int) else 0) ∧ Below W.heap.size W wr) (fun i _ => n - (intOf i).toNat)
    case atStart => exact ⟨0, Nat.zero_le _, rfl, R1.out.congr (fun i _ => by rw [if_neg (by omega)]), R0.out.congr (fun i _ => by rw [if_neg (by omega)]), R2.out⟩
    case round =>
      obtain ⟨j, hj, rfl, i1, i2, hb⟩ := hrel
      by_cases hlt : j < n
      · obtain ⟨b, o, rfl, hbs, hc⟩ := HA.out (by omega)
        have hcell := (hb.cell hbs).trans (hc j hlt)
        have h655 := HY.out j
        have c1 := i1.cell hlt
        have c2 := i2.cell hlt
        have f1 := i1.frozen j
        have f2 := i2.frozen j
        rw [if_neg (Nat.lt_irrefl _)] at c1 c2
        have hsz1 := i1.lt
        have hsz2 := i2.lt
        obtain ⟨v, hv⟩ : ∃ v, y j = v := ⟨_, rfl⟩
        simp only [hv] at hcell h655
        have hq0 : k * v ≤ 9 * 65535 := Nat.mul_le_mul k2 h655
        obtain ⟨q, hq⟩ : ∃ q, k * v = q := ⟨_, rfl⟩
        rw [hq] at hq0
        have w1 : (k : Int) * (v : Int) = (q : Int) := by rw [← hq]; push_cast; rfl
        have I1 := Lib.hid (((i1.set j (v : Int)).other (a := ⟨W.heap.size, j, none⟩) (by simp) (.int .i64 (q : Int))).congr (y := fun i => if i < j + 1 then (y i : Int) else 0) (fun i _ => by
          by_cases r : i = j
          · rw [if_pos r, if_pos (by omega), r, hv]
          · rw [if_neg r]
            by_cases r2 : i < j
            · rw [if_pos r2, if_pos (by omega)]
            · rw [if_neg r2, if_neg (by omega)]))
        have I2 := Lib.hid (((i2.other (a := ⟨W.heap.size + 1, j, none⟩) (by simp) (.int .i64 (v : Int))).set j (q : Int)).congr (y := fun i => if i < j + 1 then ((k * y i : Nat) : Int) else 0) (fun i _ => by
          by_cases r : i = j
          · rw [if_pos r, if_pos (by omega), r, hv, hq]
          · rw [if_neg r]
            by_cases r2 : i < j
            · rw [if_pos r2, if_pos (by omega)]
            · rw [if_neg r2, if_neg (by omega)]))
        have B3 := Lib.hid ((hb.setCell (p := ⟨W.heap.size + 1, j, none⟩) (by simp) (.int .i64 (v : Int))).setCell (p := ⟨W.heap.size, j, none⟩) (by simp) (.int .i64 (q : Int)))
        clear i1 i2 hb hv hq hc
        go_wp2_with fail
        go_roundw
        case rel => exact ⟨j + 1, by omega, by go_num, I1.out, I2.out, B3.out⟩
        case measure => simp [intOf]; omega
      · obtain rfl : j = n := by omega
        have I1 := Lib.hid (i1.congr (y := fun i => (y i : Int)) (fun i hi => by rw [if_pos hi]))
        have I2 := Lib.hid (i2.congr (y := fun i => ((k * y i : Nat) : Int)) (fun i hi => by rw [if_pos hi]))
        have B3 := Lib.hid hb
        have Y30 := Lib.hid (show ∀ i, y i ≤ 1073741824 from fun i => by have := HY.out i; omega)
        have K30 := Lib.hid (show ∀ i, k * y i ≤ 1073741824 from fun i => by
          have : k * y i ≤ 9 * 65535 := Nat.mul_le_mul k2 (HY.out i)
          omega)
        have LK := Lib.hid (lv_times k1 HL.out)
        clear i1 i2 hb
        go_wp2_with fail
        refine (lens_few (some ⟨W.heap.size + 1, 0, none⟩) j j L m y e _ (by omega) Y30.out I1.out.nums (by omega) (by omega) HL.out HB.out).mono ?_; rintro x1 wa ⟨rfl, b1⟩
        have BN1 := Lib.hid b1
        clear b1
        have I1a := Lib.hid (I1.out.below BN1.out I1.out.lt)
        have I2a := Lib.hid (I2.out.below BN1.out I2.out.lt)
        have B4 := Lib.hid (B3.out.trans (BN1.out.mono B3.out.size))
        go_wp2_with fail
        refine (lens_few (some ⟨W.heap.size + 1, 0, none⟩) j j (L + 1) m y e _ (by omega) Y30.out I1a.out.nums (by omega) (by omega) HL.out HB2.out).mono ?_; rintro x1 wb ⟨rfl, b2⟩
        have BN2 := Lib.hid b2
        clear b2
        have I1b := Lib.hid (I1a.out.below BN2.out I1a.out.lt)
        have I2b := Lib.hid (I2a.out.below BN2.out I2a.out.lt)
        have B5 := Lib.hid (B4.out.trans (BN2.out.mono B4.out.size))
        go_wp2_with fail
        refine (lens_few (some ⟨W.heap.size, 0, none⟩) j j L m (fun i => k * y i) (te k id e) _ (by omega) K30.out I2b.out.nums (by omega) (by omega) LK.out HB.out).mono ?_; rintro x1 wc ⟨rfl, b3⟩
        have BN3 := Lib.hid b3
        clear b3
        have I1c := Lib.hid (I1b.out.below BN3.out I1b.out.lt)
        have B6 := Lib.hid (B5.out.trans (BN3.out.mono B5.out.size))
        go_wp2_with fail
        refine (alive_any _).mono ?_; rintro x1 wg ⟨rfl, b9⟩
        go_wp2_with fail
        go_ret
        exact ⟨rfl, B6.out.trans (b9.mono B6.out.size)⟩

theorem PackMore_walk (a0 : Option Addr) (len0 cap0 : Nat) (z0 : List Int) (a1 a2 : Int) (w : World) (w0 : IsRow .u16 w a0 len0 cap0 z0) (w1 : (Lit.int .u8 a1).wf = true) (w2 : (Lit.int .u8 a2).wf = true) :
    Calls Try.prog 6 #[.slice a0 len0 cap0, .int .u8 a1, .int .u8 a2] w fun e w' => e = .returned (.bool true) ∧ Below w.heap.size w w' := by
  obtain ⟨hy, H⟩ := w0.nat16
  obtain ⟨x, rfl, hx⟩ := u8_nat w1
  obtain ⟨t, rfl, ht⟩ := u8_nat w2
  have hm := w0.most
  by_cases h : 100 < len0
  · exact more_far a0 len0 cap0 x t w (by omega) h
  · obtain ⟨m, e, hl⟩ := lv_ex (nat8 z0) len0
    by_cases hb : nds m ≤ x % 14 + 1
    · exact more_ok a0 len0 cap0 x t _ m e w (by omega) hx ht hy H hl hb
    · by_cases hb2 : nds m ≤ x % 14 + 1 + 1
      · exact more_one a0 len0 cap0 x t _ m e w (by omega) hx ht hy H hl (by omega) hb2
      · exact more_two a0 len0 cap0 x t _ m e w (by omega) hx ht hy H hl (by omega) (by omega)
end Go.Proofs.Yteicamfelamfhaa
