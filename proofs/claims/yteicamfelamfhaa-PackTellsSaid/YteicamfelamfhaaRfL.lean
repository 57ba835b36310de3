/- What the document's Lens of layer 6 answers. Conditions: as each theorem names them. -/
import Derived.Test.YteicamfelamfhaaRfM
import Derived.BigRegion
namespace Go.Proofs.Yteicamfelamfhaa
open Go.RowKit M
set_option linter.unusedVariables false

/-- so many times the symbol is in the things, k of whose leaves of the next one are counted too -/
def tel (T : List Th) (y : Nat → Nat) (i k s : Nat) : Nat := (ct s (T.take i) + if ∃ j, j < k ∧ y j = s then (T.getD i (.lf 0 0)).cn s else 0) % 256
theorem tel_zero (T : List Th) (y : Nat → Nat) (i s : Nat) : tel T y i 0 s = ct s (T.take i) % 256 := by
  unfold tel
  rw [if_neg (fun ⟨j, h, _⟩ => by omega), Nat.add_zero]
theorem tel_step {T : List Th} {y : Nat → Nat} {m : Nat} (inj : ∀ i j, i < m → j < m → y i = y j → i = j) (i : Nat) {k : Nat} (hk : k < m) (s : Nat) :
    (if s = y k then (tel T y i k (y k) + (T.getD i (.lf 0 0)).cn (y k) % 256) % 256 else tel T y i k s) = tel T y i (k + 1) s := by
  unfold tel
  by_cases h : s = y k
  · subst h
    rw [if_pos rfl, if_neg (fun ⟨j, h1, h2⟩ => by have := inj j k (by omega) hk h2; omega), if_pos ⟨k, Nat.lt_succ_self _, rfl⟩]
    omega
  · rw [if_neg h]
    by_cases g : ∃ j, j < k ∧ y j = s
    · obtain ⟨j, g1, g2⟩ := g
      rw [if_pos ⟨j, g1, g2⟩, if_pos ⟨j, by omega, g2⟩]
    · rw [if_neg g, if_neg (fun ⟨j, g1, g2⟩ => by
        by_cases e : j = k
        · subst e; exact h g2.symm
        · exact g ⟨j, by omega, g2⟩)]
theorem tel_end {T : List Th} {y : Nat → Nat} {m i : Nat} (hi : i < T.length) (h0 : ∀ s, (∀ j, j < m → y j ≠ s) → (T.getD i (.lf 0 0)).cn s = 0) (s : Nat) : tel T y i m s = ct s (T.take (i + 1)) % 256 := by
  unfold tel
  have e : (T.getD i (.lf 0 0)).cn s = ct s [T.getD i (.lf 0 0)] := by simp [ct]
  have et : T.take (i + 1) = T.take i ++ [T.getD i (.lf 0 0)] := by
    rw [List.take_add_one, List.getD, List.getElem?_eq_getElem hi]; rfl
  rw [et, ct_append, ← e]
  by_cases g : ∃ j, j < m ∧ y j = s
  · rw [if_pos g]
  · rw [if_neg g, h0 s (fun j h1 h2 => g ⟨j, h1, h2⟩)]
theorem row_cn0 {w y : Nat → Nat} {m s : Nat} (hs : ∀ j, j < m → y j ≠ s) (k i : Nat) (hi : i < (row (lvs w y m) k).length) : ((row (lvs w y m) k).getD i (.lf 0 0)).cn s = 0 := by
  have h1 := ct_row0 (w := w) hs k (i + 1) hi
  rw [List.take_add_one, List.getElem?_eq_getElem hi] at h1
  rw [List.getD, List.getElem?_eq_getElem hi]
  rw [ct_append] at h1
  simp [ct] at h1 ⊢
  omega

set_option maxHeartbeats 2000000 in
set_option maxRecDepth 1000000 in
theorem rlens_ok (A : Option Addr) (n c' L m : Nat) (c : Nat → Nat) (e : Nat → Nat × Nat) (W : World) (hn : n ≤ 320) (hc : ∀ i, c i ≤ 1073741824) (H : Nums W .i64 A n (fun i => (c i : Int))) (h1 : 1 ≤ L) (h2 : L ≤ 15) (hl : IsLv c n m e) (hb : nds m ≤ L) :
    Calls Try.prog 10 #[.slice A n c', .int .i64 L] W (GotLens W n m L e) := by
  have HA := Lib.hid H
  have HC := Lib.hid hc
  have HL := Lib.hid hl
  have HB := Lib.hid hb
  have hm := hl.le
  obtain ⟨q, hq⟩ : ∃ q, nds m = q := ⟨_, rfl⟩
  rw [hq] at hb
  have HQ := Lib.hid hq
  have NC := Lib.hid (fun w => rneeds_any (m : Int) w (by omega) (by omega))
  have hmk := fun w => madeByte w n (by omega)
  clear H hc hl hq
  go_enter Try.func10, Try.ntmps10
  go_wp2_with fail
  go_loop [6] (fun i => ∃ k : Nat, k ≤ n ∧ i = .int .i64 k) (fun i => n - (intOf i).toNat)
  case atStart => exact ⟨0, Nat.zero_le _, rfl⟩
  case round =>
    obtain ⟨k, hk, rfl⟩ := hrel
    by_cases hlt : k < n
    · clear hmk
      obtain ⟨b, o, rfl, hb', hcl⟩ := HA.out (by omega)
      have hcell : W.cell? ⟨b, o + k, none⟩ = some (.int .i64 (c k)) := hcl k hlt
      have x30 := HC.out k
      clear hcl
      obtain ⟨x, hx⟩ : ∃ x, c k = x := ⟨_, rfl⟩
      rw [hx] at hcell x30
      clear hx
      go_wp2_with fail
      go_round
      case rel => exact ⟨k + 1, by omega, by go_num⟩
      case measure => simp [intOf]; omega
    · obtain rfl : k = n := by omega
      go_wp2_with fail
      refine (rsym_any A k c' c _ hn HC.out HA.out).mono ?_; rintro x w1 ⟨v1, m1, e1, rfl, l1, s1, b1⟩
      obtain ⟨rfl, he⟩ := lv_one HL.out l1
      obtain ⟨A1, cap1, rfl, f1, a1⟩ := (s1.congr (G := fun i => (ly e i : Int)) (fun i hi => by unfold ly; rw [he i hi])).sl
      have F1 := Lib.hid f1
      have B1 := Lib.hid b1
      clear l1 s1 b1 he f1 a1
      go_wp2_with fail
      refine (NC.out _).mono ?_; rintro e0 w' ⟨rfl, rfl⟩
      rw [show ((m : Int)).toNat = m by omega, HQ.out]
      clear NC
      by_cases c0 : m = 0
      · subst c0
        go_wp2_with fail
        go_ret2
        exact ⟨_, rfl, B1.out.size, (Br.made' w1 k).congr (f' := pl 0 e L) (fun i _ => by unfold pl; rw [if_pos rfl]), B1.out.alloc B1.out.size _⟩
      by_cases c1 : m = 1
      · subst c1
        obtain ⟨b, o, rfl, hb1, hcl⟩ := F1.out (by omega)
        have y0 : w1.cell? ⟨b, o, none⟩ = some (.int .i64 (ly e 0 : Int)) := by have := hcl 0 (by omega); rwa [Nat.add_zero] at this
        have hs := ((HL.out).is_ 0 (by omega)).1
        have hsk : ly e 0 < k := hs
        clear hcl hs
        have HMD := Lib.hid (Br.made1 w1 k (ly e 0) hsk)
        have HPL : Hid (∀ s, (if s = ly e 0 then 1 else 0) = pl 1 e L s) := Lib.hid (fun s => by simp [pl])
        obtain ⟨s0, hs0⟩ : ∃ s, ly e 0 = s := ⟨_, rfl⟩
        rw [hs0] at y0 hsk HMD HPL
        clear hs0
        have mg : (madeCells #[Value.int .u8 0] k)[s0]? = some (.int .u8 0) := by simp [madeCells, hsk, Nat.mod_one]
        have y0' := (((Below.refl w1.heap.size w1).alloc (Nat.le_refl _) (.cells (madeCells #[.int .u8 0] k) 5)).cell hb1).trans y0
        go_wp2_with fail
        go_ret2
        exact ⟨_, rfl, B1.out.size, HMD.out.congr (fun s _ => HPL.out s), B1.out.alloc B1.out.size _⟩
      have m2 : 2 ≤ m := by omega
      have R0 := Lib.hid (Br.made' w1 k)
      have BA := Lib.hid ((Below.refl w1.heap.size w1).alloc (Nat.le_refl _) (.cells (madeCells #[.int .u8 0] k) 5))
      have S2 := Lib.hid (show (w1.alloc (.cells (madeCells #[.int .u8 0] k) 5)).heap.size = w1.heap.size + 1 by simp)
      have dm1 : ((m : Int) == 1) = false := by rw [beq_eq_false_iff_ne]; omega
      have dm2 : decide ((m : Int) < 2) = false := decide_eq_false (by omega)
      have dm3 : decide (m < 2) = false := decide_eq_false (by omega)
      have dq1 : decide ((L : Int) < (q : Int)) = false := decide_eq_false (by omega)
      have dq2 : decide (L < q) = false := decide_eq_false (by omega)
      go_wp2_with fail
      clear hmk dm1 dm2 dm3 dq1 dq2 hb c0 c1
      obtain ⟨w2, hw2⟩ : ∃ w, w = w1.alloc (.cells (madeCells #[.int .u8 0] k) 5) := ⟨_, rfl⟩
      rw [← hw2] at R0 BA S2 ⊢
      clear hw2
      have B2 := Lib.hid (B1.out.trans (BA.out.mono B1.out.size))
      have F2 := Lib.hid (F1.out.below BA.out)
      have A2 := Lib.hid (HA.out.below B2.out)
      have LVN := Lib.hid (fun i j => lv_inj HL.out i j)
      go_loopw [10, 11] (fun v i wr => ∃ (i0 : Nat) (X : List Tp), i = .int .i64 i0 ∧ i0 ≤ m ∧ Hid (X.map (·.1) = lvs (lw e) (ly e) i0 ∧ X.length = i0 ∧ Ow2 w2.heap.size wr v m X ∧ (∀ x ∈ X, Says wr w2.heap.size m (ly e) x) ∧ Below w2.heap.size w2 wr)) (fun _ i _ => m - (intOf i).toNat)
      case atStart => exact ⟨0, [], rfl, Nat.zero_le _, Lib.hid ⟨rfl, rfl, Ow2.nil _ _ _, fun x hx => (by cases hx), Below.refl _ _⟩⟩
      case round =>
        obtain ⟨i, X, rfl, hi, HX⟩ := hrel
        by_cases hlt2 : i < m
        · obtain ⟨b, o, rfl, hb1, hcl⟩ := F2.out (by omega)
          have hlk : ly e i < k := ((HL.out).is_ i hlt2).1
          obtain ⟨b2, o2, rfl, hb2, hcl2⟩ := A2.out (by omega)
          have y0 : wr.cell? ⟨b, o + i, none⟩ = some (.int .i64 (ly e i : Int)) := (HX.out.2.2.2.2.cell hb1).trans (hcl i hlt2)
          have z0 : wr.cell? ⟨b2, o2 + ly e i, none⟩ = some (.int .i64 (c (ly e i))) := (HX.out.2.2.2.2.cell hb2).trans (hcl2 _ hlk)
          have x30 := HC.out (ly e i)
          have hlw : c (ly e i) = lw e i := ((HL.out).is_ i hlt2).2.2.symm
          rw [hlw] at z0 x30
          obtain ⟨s0, hs0⟩ : ∃ s, ly e i = s := ⟨_, rfl⟩
          obtain ⟨x0, hx0⟩ : ∃ x, lw e i = x := ⟨_, rfl⟩
          rw [hs0] at y0 z0 hlk
          rw [hx0] at z0 x30
          have HS0 := Lib.hid (And.intro hs0 hx0)
          clear hcl hcl2 hs0 hx0 hlw
          go_wp2_with fail
          refine (rleaf_any x0 i m _ (by omega) hlt2).mono ?_; rintro e0 w3 ⟨g3, rfl, q1, q2, q3⟩
          have bal := (Below.refl w3.heap.size w3).alloc (Nat.le_refl _) (.cells #[.int .i64 (x0 : Int), .slice (some ⟨g3, 0, none⟩) m m] 56)
          have HO := Lib.hid ((HX.out.2.2.1.below q3).alloc (.cells #[.int .i64 (x0 : Int), .slice (some ⟨g3, 0, none⟩) m m] 56))
          have HT := Lib.hid (one_trs2 w3 m (Th.lf x0 s0, some ⟨g3, 0, none⟩) (x0 : Int) rfl)
          have hs3 := HX.out.2.2.2.2.size
          have hs4 := q3.size
          have HS := Lib.hid (show w2.heap.size ≤ (w3.alloc (.cells #[.int .i64 (x0 : Int), .slice (some ⟨g3, 0, none⟩) m m] 56)).heap.size by simp; omega)
          have HM := Lib.hid (show X.length + 1 ≤ 2000 by rw [HX.out.2.1]; omega)
          have SA : Hid (∀ x ∈ X ++ [(Th.lf x0 s0, some ⟨g3, 0, none⟩)], Says (w3.alloc (.cells #[.int .i64 (x0 : Int), .slice (some ⟨g3, 0, none⟩) m m] 56)) w2.heap.size m (ly e) x) := Lib.hid (fun x hx => by
            rcases List.mem_append.1 hx with hx | hx
            · exact ((HX.out.2.2.2.1 x hx).below q3).below bal
            · obtain rfl : x = (Th.lf x0 s0, some ⟨g3, 0, none⟩) := List.mem_singleton.1 hx
              have s1 : Says w3 w2.heap.size m (ly e) (Th.lf x0 s0, some ⟨g3, 0, none⟩) := ⟨g3, rfl, ⟨by omega, q2.lt⟩, q2.congr (fun j hj => by
                show (if j = i then 1 else 0) = (if s0 = ly e j then 1 else 0) % 256
                by_cases g : j = i
                · subst g; rw [if_pos rfl, if_pos HS0.out.1.symm]
                · rw [if_neg g, if_neg (fun h => g (LVN.out j i hj hlt2 (by rw [← h, HS0.out.1])))])⟩
              exact s1.below bal)
          have BW3 := Lib.hid ((HX.out.2.2.2.2.trans (q3.mono hs3)).trans (bal.mono (Nat.le_trans hs3 hs4)))
          clear q1 q2 q3 bal hs3 hs4
          go_wp2_with (at_builtin; refine wpList_ap2 rfl _ _ rfl w2.heap.size m _ X [(Th.lf x0 s0, some ⟨g3, 0, none⟩)] rfl HO.out w3.heap.size 0 1 1 rfl rfl HT.out HM.out HS.out ?_; intro v4 w4 o4 g4 b4 k4; have O4 := Lib.hid o4; have G4 := Lib.hid (And.intro g4 b4); clear o4 g4 b4 k4)
          go_roundw
          case rel => exact ⟨i + 1, X ++ [(Th.lf x0 s0, some ⟨g3, 0, none⟩)], by go_num, by omega, Lib.hid ⟨by rw [List.map_append, HX.out.1, lvs_succ, HS0.out.1, HS0.out.2]; rfl, by rw [List.length_append, HX.out.2.1]; rfl, O4.out, fun x hx => (SA.out x hx).grown HO.out G4.out.1 G4.out.2.size, BW3.out.trans G4.out.2⟩⟩
          case measure => simp [intOf]; omega
        · obtain rfl : i = m := by omega
          obtain ⟨A3, c3, hu3, hp3⟩ := HX.out.2.2.1.parts
          subst hu3
          have T3 := Lib.hid (show Th2 wr A3 w2.heap.size i (ly e) X from ⟨hp3, HX.out.2.2.2.1⟩)
          have B3 := Lib.hid HX.out.2.2.2.2
          have XM := Lib.hid HX.out.1
          have XL := Lib.hid HX.out.2.1
          rw [HX.out.2.1]
          clear hp3 HX
          have XW := Lib.hid (show ∀ x ∈ X, x.1.wt ≤ 1073741824 from fun x hx => by
            have h3 : x.1 ∈ lvs (lw e) (ly e) i := by rw [← XM.out]; exact List.mem_map_of_mem hx
            unfold lvs at h3
            obtain ⟨j, hj, hj2⟩ := List.mem_map.1 h3
            rw [← hj2]
            show lw e j ≤ 1073741824
            have := ((HL.out).is_ j (List.mem_range.1 hj)).2.2
            unfold lw; rw [this]; exact HC.out _)
          obtain ⟨w3, hw3⟩ : ∃ w, w = wr := ⟨_, rfl⟩
          rw [← hw3] at T3 B3 ⊢
          clear hw3
          go_wp2_with fail
          go_loopw [12, 13] (fun v k0 wr => ∃ (kk : Nat) (A' : Option Addr) (n' cap : Nat) (Y : List Tp), k0 = .int .i64 kk ∧ v = .slice A' n' cap ∧ 2 ≤ kk ∧ kk ≤ L + 1 ∧ n' ≤ 640 ∧ Hid (Y.length = n' ∧ Y.map (·.1) = row (lvs (lw e) (ly e) i) (kk - 1) ∧ Th2 wr A' w2.heap.size i (ly e) Y ∧ Below w3.heap.size w3 wr)) (fun _ k0 _ => 17 - (intOf k0).toNat)
          case atStart => exact ⟨2, A3, i, c3, X, rfl, rfl, by omega, by omega, by omega, Lib.hid ⟨XL.out, by rw [XM.out, row_one], T3.out, Below.refl _ _⟩⟩
          case round =>
            obtain ⟨kk, A4, n4, c4, Y, rfl, rfl, k2, k3, n640, HY⟩ := hrel
            by_cases hk2 : kk ≤ L
            · have YW := Lib.hid (show ∀ x ∈ Y, x.1.wt ≤ 1125899906842624 from fun x hx => by
                have h3 : x.1 ∈ row (lvs (lw e) (ly e) i) (kk - 2 + 1) := by
                  rw [show kk - 2 + 1 = kk - 1 by omega, ← HY.out.2.1]; exact List.mem_map_of_mem hx
                have h4 := row_wt (M := 1073741824) (fun t ht => by
                  rw [← XM.out] at ht
                  obtain ⟨y, hy, rfl⟩ := List.mem_map.1 ht
                  exact XW.out y hy) (kk - 2) _ h3
                have h5 : 1073741824 * 2 ^ (kk - 2) ≤ 1073741824 * 2 ^ 14 := Nat.mul_le_mul_left _ (Nat.pow_le_pow_right (by omega) (by omega))
                omega)
              go_wp2_with fail
              refine (rnext_any A3 A4 c3 c4 w2.heap.size i i n4 (ly e) X Y _ (Nat.le_trans B3.out.size HY.out.2.2.2.size) (by omega) XL.out HY.out.1 (by omega) n640 (fun x hx => by have := XW.out x hx; omega) YW.out (T3.out.below HY.out.2.2.2) HY.out.2.2.1).mono ?_; rintro e0 w5 ⟨A5, n5, c5, Z, rfl, z1, z2, z3, z4⟩
              have HZ := Lib.hid (And.intro z1 (And.intro z2 (And.intro z3 z4)))
              have n5b : n5 ≤ 640 := by
                have h3 : Z.map (·.1) = row (lvs (lw e) (ly e) i) (kk - 1 + 1) := by rw [z2, XM.out, HY.out.2.1]; rfl
                have h4 := congrArg List.length h3
                have h5 := row_most (lvs (lw e) (ly e) i) (kk - 1 + 1)
                rw [lvs_length] at h5
                rw [List.length_map] at h4
                omega
              clear z1 z2 z3 z4
              go_wp2_with fail
              go_roundw
              case rel => exact ⟨kk + 1, A5, n5, c5, Z, by go_num, rfl, by omega, by omega, n5b, Lib.hid ⟨HZ.out.1, by rw [HZ.out.2.1, XM.out, HY.out.2.1, show kk + 1 - 1 = kk - 1 + 1 by omega]; rfl, HZ.out.2.2.1, HY.out.2.2.2.trans (HZ.out.2.2.2.mono HY.out.2.2.2.size)⟩⟩
              case measure => simp [intOf]; omega
            · obtain rfl : kk = L + 1 := by omega
              have HY1 : Hid (Y.map (·.1) = row (lvs (lw e) (ly e) i) L) := Lib.hid (by have := HY.out.2.1; rwa [Nat.add_sub_cancel] at this)
              have HEN : Hid (2 * i - 2 ≤ n4) := Lib.hid (by
                have h3 := row_enough (lvs (lw e) (ly e) i) L (by rw [lvs_length]; exact (nds_le h1).1 HB.out)
                rw [lvs_length, ← HY1.out, List.length_map, HY.out.1] at h3
                exact h3)
              have T4 := Lib.hid HY.out.2.2.1
              have YL := Lib.hid HY.out.1
              have B4 := Lib.hid (B3.out.trans (HY.out.2.2.2.mono B3.out.size))
              clear HY k2 k3
              obtain ⟨w4, hw4⟩ : ∃ w, w = wr := ⟨_, rfl⟩
              rw [← hw4] at T4 B4 ⊢
              clear hw4
              obtain ⟨g0, hg0⟩ : ∃ g, g = w1.heap.size := ⟨_, rfl⟩
              have G0 := Lib.hid hg0
              have R4 := Lib.hid (R0.out.below B4.out (by rw [S2.out]; omega))
              have LC : Hid (∃ b o, A1 = some ⟨b, o, none⟩ ∧ b < g0 ∧ ∀ j, j < i → w4.cell? ⟨b, o + j, none⟩ = some (.int .i64 (ly e j : Int))) := Lib.hid (by
                obtain ⟨b, o, q1, q2, q3⟩ := F1.out (by omega)
                exact ⟨b, o, q1, by rw [hg0]; exact q2, fun j hj => (B4.out.cell (show b < w2.heap.size by rw [S2.out]; omega)).trans ((BA.out.cell q2).trans (q3 j hj))⟩)
              rw [← hg0] at R4 ⊢
              obtain ⟨b1, o1, rfl, hb1, hc1⟩ := LC.out
              obtain ⟨b6, o6, rfl, hb6, ht6⟩ := T4.out.1 (by have := HEN.out; have := YL.out; omega)
              have HC1 := Lib.hid hc1
              have HT6 := Lib.hid ht6
              have g62 : g0 < b6 := by have := S2.out; omega
              obtain ⟨T, hT⟩ : ∃ T, row (lvs (lw e) (ly e) i) L = T := ⟨_, rfl⟩
              rw [hT] at HY1
              have HTT := Lib.hid hT
              have hen := HEN.out
              clear hc1 ht6 hT LC hg0
              go_wp2_with fail
              go_loopw [14] (fun v wr => ∃ p : Nat, v = .int .i64 p ∧ p ≤ 2 * i - 2 ∧ Hid (Br wr g0 k (tel T (ly e) p 0) ∧ Kept (One g0) w4 wr)) (fun v _ => 2 * i - (intOf v).toNat)
              case atStart => exact ⟨0, rfl, Nat.zero_le _, Lib.hid ⟨R4.out.congr (fun s _ => by rw [tel_zero]; rfl), Kept.refl _ _⟩⟩
              case round =>
                obtain ⟨p, rfl, hp, HP⟩ := hrel
                by_cases hp2 : p < 2 * i - 2
                · have hpn : p < n4 := by omega
                  have hpi : (p : Int) < 2 * (i : Int) - 2 := by omega
                  have lY : p < Y.length := by rw [YL.out]; exact hpn
                  obtain ⟨x1, x2⟩ := HT6.out p _ (List.getElem?_eq_getElem lY)
                  obtain ⟨g6, e6, g6b, r6⟩ := T4.out.2 _ (List.getElem_mem lY)
                  have HTP : Hid (T.getD p (.lf 0 0) = Y[p].1) := Lib.hid (by rw [← HY1.out, getD_map, List.getD, List.getElem?_eq_getElem lY]; rfl)
                  rw [e6] at x2
                  rw [← HTP.out] at r6
                  have R6 := Lib.hid r6
                  have g60 : g0 < g6 := by have := S2.out; have := G0.out; omega
                  have X2 := Lib.hid x2
                  have HTE := Lib.hid (fun s => tel_end (T := T) (y := ly e) (m := i) (i := p) (by rw [← HY1.out, List.length_map]; exact lY) (fun s hs => by
                    rw [← HTT.out]
                    exact row_cn0 hs L p (by rw [HTT.out, ← HY1.out, List.length_map]; exact lY)) s)
                  clear x1 x2 r6 e6 HTP
                  go_wp2_with fail
                  go_loopw [15] (fun v wr => ∃ q : Nat, v = .int .i64 q ∧ q ≤ i ∧ Hid (Br wr g0 k (tel T (ly e) p q) ∧ Kept (One g0) w4 wr)) (fun v _ => i - (intOf v).toNat)
                  case atStart => exact ⟨0, rfl, Nat.zero_le _, HP⟩
                  case round =>
                    obtain ⟨q, rfl, hq, HQ2⟩ := hrel
                    by_cases hq2 : q < i
                    · have hlk : ly e q < k := ((HL.out).is_ q hq2).1
                      have y0 : wr.cell? ⟨b1, o1 + q, none⟩ = some (.int .i64 (ly e q : Int)) := HQ2.out.2.cell (HC1.out q hq2) (fun h => by have h' : b1 = g0 := h; omega)
                      have y1 := HQ2.out.1.cell hlk
                      have y2 := HQ2.out.1.frozen (ly e q)
                      have y3 := HQ2.out.2.cell X2.out (fun h => by have h' : b6 = g0 := h; omega)
                      have y4 := HQ2.out.2.cell (R6.out.cell hq2) (fun h => by have h' : g6 = g0 := h; omega)
                      have hst := fun s => tel_step (T := T) (y := ly e) (m := i) LVN.out p hq2 s
                      have HBr := HQ2.out.1.set (ly e q) ((tel T (ly e) p q (ly e q) + (T.getD p (.lf 0 0)).cn (ly e q) % 256) % 256)
                      have HB2 := HBr.congr (f' := tel T (ly e) p (q + 1)) (fun s _ => hst s)
                      have HK2 := HQ2.out.2.setCell ⟨g0, ly e q, none⟩ (.inl rfl) (.int .u8 (((tel T (ly e) p q (ly e q) + (T.getD p (.lf 0 0)).cn (ly e q) % 256) % 256 : Nat) : Int))
                      obtain ⟨u, hu⟩ : ∃ u, tel T (ly e) p q (ly e q) = u := ⟨_, rfl⟩
                      obtain ⟨v, hv⟩ : ∃ v, (T.getD p (.lf 0 0)).cn (ly e q) % 256 = v := ⟨_, rfl⟩
                      obtain ⟨s0, hs0⟩ : ∃ s, ly e q = s := ⟨_, rfl⟩
                      have ub : u < 256 := by rw [← hu]; exact Nat.mod_lt _ (by decide)
                      have vb : v < 256 := by rw [← hv]; exact Nat.mod_lt _ (by decide)
                      rw [hu] at y1 HB2 HK2
                      rw [hv] at y4 HB2 HK2
                      rw [hs0] at y0 y1 y2 hlk HB2 HK2
                      have e8 : (((u + v) % 256 : Nat) : Int) = ((u : Int) + (v : Int)) % 256 := by omega
                      rw [e8] at HB2 HK2
                      have HBB := Lib.hid HB2
                      have HKK := Lib.hid HK2
                      clear HBr HB2 HK2 hst hu hv hs0 e8
                      go_wp2_with fail
                      go_region
                      go_wp2_with fail
                      go_roundw
                      case rel => exact ⟨q + 1, by go_num, by omega, Lib.hid ⟨HBB.out.drew, HKK.out.drew⟩⟩
                      case measure => simp [intOf]; omega
                    · obtain rfl : q = i := by omega
                      go_wp2_with fail
                      go_roundw
                      case rel => exact ⟨p + 1, by go_num, by omega, Lib.hid ⟨HQ2.out.1.congr (fun s _ => by rw [HTE.out s, tel_zero]), HQ2.out.2⟩⟩
                      case measure => simp [intOf]; omega
                · obtain rfl : p = 2 * i - 2 := by omega
                  have hpi : ¬ (((2 * i - 2 : Nat) : Int) < 2 * (i : Int) - 2) := by omega
                  have HFIN : Hid (∀ s, tel T (ly e) (2 * i - 2) 0 s = pl i e L s) := Lib.hid (fun s => by
                    have h3 := pl_le HL.out HB.out h1 s
                    rw [tel_zero, ← HTT.out]
                    have h4 : pl i e L s = ct s ((row (lvs (lw e) (ly e) i) L).take (2 * i - 2)) := by unfold pl; rw [if_neg (by omega), if_neg (by omega)]
                    rw [← h4]
                    exact Nat.mod_eq_of_lt (by omega))
                  have HBW : Hid (Below W.heap.size W wr) := Lib.hid ((B2.out.trans (B4.out.mono B2.out.size)).trans (HP.out.2.below (Nat.le_trans B2.out.size B4.out.size) (fun j hj => by have h' : j = g0 := hj; rw [h', G0.out]; exact B1.out.size)))
                  have HBR := Lib.hid (HP.out.1.congr (f' := pl i e L) (fun s _ => HFIN.out s))
                  clear HP
                  go_wp2_with fail
                  go_ret2
                  exact ⟨_, rfl, by rw [G0.out]; exact B1.out.size, HBR.out, HBW.out⟩
end Go.Proofs.Yteicamfelamfhaa
