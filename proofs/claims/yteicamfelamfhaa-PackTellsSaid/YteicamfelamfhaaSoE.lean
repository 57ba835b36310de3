/- symMerge of package slices, over leaves: where the first part is no longer than the other one; and all cases (written by gen/sym.py). Conditions: as each theorem names them. -/
import Derived.Test.YteicamfelamfhaaSoD
namespace Go.Proofs.Yteicamfelamfhaa
open Go.RowKit M
set_option linter.unusedVariables false

set_option maxHeartbeats 8000000 in
set_option maxRecDepth 1000000 in
theorem sym_low (b n c a m d : Nat) (e : Nat → Nat × Nat) (W : World) (hn : n ≤ 400) (ham : a < m) (hmd : m < d) (hd : d ≤ n) (ol : Ord e a m) (or : Ord e m d) (hr : Rel e a m d) (H : Lfs W b n e) (h1 : m ≠ a + 1) (h2 : d ≠ m + 1) (mid : Nat) (hmid : (a + d) / 2 = mid) (hc : m ≤ mid)
    (IH : ∀ (a' m' d' : Nat) (e' : Nat → Nat × Nat) (W' : World), d' - a' < d - a → a' < m' → m' < d' → d' ≤ n → Ord e' a' m' → Ord e' m' d' → Rel e' a' m' d' → Lfs W' b n e' → Calls Try.prog 40 #[.slice (some ⟨b, 0, none⟩) n c, .int .i64 a', .int .i64 m', .int .i64 d', .func (.func 29) #[] #[]] W' fun x w' => x = .returned (.tuple #[]) ∧ ∃ e2, Lfs w' b n e2 ∧ Ord e2 a' d' ∧ Same e' e2 a' d' ∧ Kept (One b) W' w') :
    Calls Try.prog 40 #[.slice (some ⟨b, 0, none⟩) n c, .int .i64 a, .int .i64 m, .int .i64 d, .func (.func 29) #[] #[]] W fun x w' => x = .returned (.tuple #[]) ∧ ∃ e', Lfs w' b n e' ∧ Ord e' a d ∧ Same e e' a d ∧ Kept (One b) W w' := by
  have d1 : ((m : Int) - (a : Int) == 1) = false := by rw [beq_eq_false_iff_ne]; omega
  have d2 : ((d : Int) - (m : Int) == 1) = false := by rw [beq_eq_false_iff_ne]; omega
  obtain ⟨s, hs⟩ : ∃ s, a + d = s := ⟨_, rfl⟩
  rw [hs] at hmid
  obtain ⟨e1, e2⟩ := mid_int a d s mid hs hmid (by omega)
  obtain ⟨nn, hnn⟩ : ∃ s, mid + m = s := ⟨_, rfl⟩
  have e3 : (mid : Int) + (m : Int) = (nn : Int) := by omega
  obtain ⟨p, hp⟩ : ∃ s, nn - 1 = s := ⟨_, rfl⟩
  have e4 : (nn : Int) - 1 = (p : Int) := by omega
  have dq : decide (mid < m) = false := decide_eq_false (by omega)
  have HW := Lib.hid H
  have OL := Lib.hid ol
  have OR := Lib.hid or
  have HR := Lib.hid hr
  have HN := Lib.hid hn
  have HI0 := Lib.hid IH
  have b0 : s ≤ 1000 := by omega
  have b1 : nn ≤ 1000 := by omega
  have b2 : p < nn := by omega
  have b3 : a ≤ mid := by omega
  have b4 : mid < d := by omega
  have b5 : nn ≤ d + mid := by omega
  have HMID := Lib.hid hmid
  have HSS := Lib.hid hs
  have HNN := Lib.hid hnn
  have HP := Lib.hid hp
  clear H ol or hr h1 h2 IH hmid hs hnn hp
  go_enter Try.func40, Try.ntmps40
  go_wp2_with fail
  go_loopw [20, 21] (fun x y wr => ∃ (i j : Nat), x = .int .i64 i ∧ y = .int .i64 j ∧ a ≤ i ∧ i ≤ j ∧ j ≤ m ∧ Hid ((i = a ∨ ¬ (e (p - (i - 1))).1 < (e (i - 1)).1) ∧ (j = m ∨ (e (p - j)).1 < (e j).1)) ∧ Lfs wr b n e ∧ Kept (One b) W wr) (fun x y _ => (intOf y).toNat - (intOf x).toNat)
  case atStart => exact ⟨a, m, rfl, rfl, Nat.le_refl _, by omega, Nat.le_refl _, Lib.hid ⟨.inl rfl, .inl rfl⟩, HW.out, Kept.refl _ _⟩
  case round =>
    obtain ⟨i, j, rfl, rfl, q1, q2, q3, HI, hl, hk⟩ := hrel
    by_cases c1 : i < j
    · obtain ⟨z, hz⟩ : ∃ s, i + j = s := ⟨_, rfl⟩
      obtain ⟨h, hh⟩ : ∃ h, z / 2 = h := ⟨_, rfl⟩
      obtain ⟨e6, e7⟩ := mid_int i j z h hz hh (by omega)
      obtain ⟨u, hu⟩ : ∃ u, p - h = u := ⟨_, rfl⟩
      have hnn := HNN.out
      have hp := HP.out
      have g1 : i ≤ h := by omega
      have g2 : h < j := by omega
      have e8 : IntKind.i64.wrap ((p : Int) - (h : Int)) = (u : Int) := by rw [IntWalk.i64_in _ (by omega)]; omega
      have e9 : (p : Int) - (h : Int) = (u : Int) := by omega
      have e10 : IntKind.i64.wrap (h : Int) = (h : Int) := IntWalk.i64_in _ (by omega)
      have e11 : IntKind.i64.wrap (u : Int) = (u : Int) := IntWalk.i64_in _ (by omega)
      have e12 : ((h : Int)).toNat = h := by omega
      have e13 : ((u : Int)).toNat = u := by omega
      have b8 : z ≤ 1000 := by omega
      have hun : u < n := by omega
      have hhn : h < n := by omega
      have HU' := Lib.hid hu
      clear hz hh hnn hp hu
      obtain ⟨x1, x2, x3⟩ := (hl).cells (show u < n by omega)
      obtain ⟨y1, y2, y3⟩ := (hl).cells (show h < n by omega)
      obtain ⟨u1, hu1⟩ : ∃ x0, (e u).1 = x0 := ⟨_, rfl⟩
      obtain ⟨u2, hu2⟩ : ∃ x0, (e u).2 = x0 := ⟨_, rfl⟩
      obtain ⟨v1, hw1⟩ : ∃ x0, (e h).1 = x0 := ⟨_, rfl⟩
      obtain ⟨v2, hw2⟩ : ∃ x0, (e h).2 = x0 := ⟨_, rfl⟩
      rw [hu1] at x1
      rw [hu2] at x2
      rw [hw1] at y1
      rw [hw2] at y2
      have HU := Lib.hid (And.intro hu1 (And.intro hu2 (And.intro hw1 hw2)))
      have HLL := Lib.hid hl
      have HKK := Lib.hid hk
      obtain ⟨t, ht⟩ : ∃ t, cmv u1 v1 = t := ⟨_, rfl⟩
      have cc := fun w => less_any u1 u2 v1 v2 w
      rw [ht] at cc
      have CC := Lib.hid cc
      have hpn : u < n := by omega
      have hqn : h < n := by omega
      clear cc hu1 hu2 hw1 hw2 hl hk
      by_cases c3 : u1 < v1
      · have hd3 := cmv_neg c3
        rw [ht] at hd3
        clear ht
        go_wp2_with fail
        go_region_held3 (fun w' => w'.cell? ⟨b, u * 3, none⟩ = some (.int .u64 u1) ∧ w'.cell? ⟨b, u * 3 + 1, none⟩ = some (.int .i64 u2) ∧ w'.cell? ⟨b, u * 3 + 2, none⟩ = some (.pointer none) ∧ w'.cell? ⟨b, h * 3, none⟩ = some (.int .u64 v1) ∧ w'.cell? ⟨b, h * 3 + 1, none⟩ = some (.int .i64 v2) ∧ w'.cell? ⟨b, h * 3 + 2, none⟩ = some (.pointer none)) (first | exact ⟨k1, k2, k3, k4, k5, k6⟩ | exact ⟨x1, x2, x3, y1, y2, y3⟩) (first
          | ((with_reducible refine (CC.out _).mono ?_); rintro x w3 ⟨rfl, b3⟩; have k1 := (b3.cell (World.block_lt_of_cell? _ _ x1)).trans x1; have k2 := (b3.cell (World.block_lt_of_cell? _ _ x2)).trans x2; have k3 := (b3.cell (World.block_lt_of_cell? _ _ x3)).trans x3; have k4 := (b3.cell (World.block_lt_of_cell? _ _ y1)).trans y1; have k5 := (b3.cell (World.block_lt_of_cell? _ _ y2)).trans y2; have k6 := (b3.cell (World.block_lt_of_cell? _ _ y3)).trans y3; have B3 := Lib.hid b3; clear b3))
        have L3 := Lib.hid (HLL.out.drew.below B3.out HLL.out.lt)
        have K3 : Hid (Kept (One b) W w3) := Lib.hid ((HKK.out.drew).trans (Kept.of_below B3.out) (fun _ g => g.elim))
        clear x1 x2 x3 y1 y2 y3 k1 k2 k3 k4 k5 k6 B3
        have C3 := Lib.hid (show (e u).1 < (e h).1 by rw [HU.out.1, HU.out.2.2.1]; exact c3)
        clear c3
        go_wp2_with fail
        go_roundw
        case rel => exact ⟨i, h, rfl, rfl, by omega, by omega, by omega, Lib.hid ⟨HI.out.1, .inr (by rw [HU'.out]; exact C3.out)⟩, L3.out, K3.out⟩
        case measure => simp [intOf]; omega
      · have hd3 := cmv_not c3
        rw [ht] at hd3
        clear ht
        go_wp2_with fail
        go_region_held3 (fun w' => w'.cell? ⟨b, u * 3, none⟩ = some (.int .u64 u1) ∧ w'.cell? ⟨b, u * 3 + 1, none⟩ = some (.int .i64 u2) ∧ w'.cell? ⟨b, u * 3 + 2, none⟩ = some (.pointer none) ∧ w'.cell? ⟨b, h * 3, none⟩ = some (.int .u64 v1) ∧ w'.cell? ⟨b, h * 3 + 1, none⟩ = some (.int .i64 v2) ∧ w'.cell? ⟨b, h * 3 + 2, none⟩ = some (.pointer none)) (first | exact ⟨k1, k2, k3, k4, k5, k6⟩ | exact ⟨x1, x2, x3, y1, y2, y3⟩) (first
          | ((with_reducible refine (CC.out _).mono ?_); rintro x w3 ⟨rfl, b3⟩; have k1 := (b3.cell (World.block_lt_of_cell? _ _ x1)).trans x1; have k2 := (b3.cell (World.block_lt_of_cell? _ _ x2)).trans x2; have k3 := (b3.cell (World.block_lt_of_cell? _ _ x3)).trans x3; have k4 := (b3.cell (World.block_lt_of_cell? _ _ y1)).trans y1; have k5 := (b3.cell (World.block_lt_of_cell? _ _ y2)).trans y2; have k6 := (b3.cell (World.block_lt_of_cell? _ _ y3)).trans y3; have B3 := Lib.hid b3; clear b3))
        have L3 := Lib.hid (HLL.out.drew.below B3.out HLL.out.lt)
        have K3 : Hid (Kept (One b) W w3) := Lib.hid ((HKK.out.drew).trans (Kept.of_below B3.out) (fun _ g => g.elim))
        clear x1 x2 x3 y1 y2 y3 k1 k2 k3 k4 k5 k6 B3
        have C3 := Lib.hid (show ¬ (e u).1 < (e h).1 by rw [HU.out.1, HU.out.2.2.1]; exact c3)
        clear c3
        go_wp2_with fail
        go_roundw
        case rel => exact ⟨h + 1, j, by go_num, rfl, by omega, by omega, q3, Lib.hid ⟨.inr (by rw [Nat.add_sub_cancel, HU'.out]; exact C3.out), HI.out.2⟩, L3.out, K3.out⟩
        case measure => simp [intOf]; omega
    · obtain rfl : i = j := by omega
      have HL := Lib.hid hl
      have HK := Lib.hid hk
      clear hl hk
      obtain ⟨f, hf⟩ : ∃ f, nn - i = f := ⟨_, rfl⟩
      have hnn := HNN.out
      have hp := HP.out
      have w1 : (nn : Int) - (i : Int) = (f : Int) := by omega
      have b9 : i ≤ m := by omega
      have b10 : i ≤ mid := by omega
      have b11 : m ≤ f := by omega
      have b12 : f ≤ d := by omega
      have b13 : mid ≤ f := by omega
      have b14 : a ≤ i := by omega
      have CU := Lib.hid (cut_ord (s := i) (f := f) (d := mid) OL.out OR.out HR.out (by omega) b9 b11 b12 (by omega)
        (by
          rcases HI.out.1 with g | g
          · exact .inl g
          · by_cases q : i = a
            · exact .inl q
            · refine .inr (.inr ?_)
              rw [show p - (i - 1) = f by omega] at g; omega)
        (by
          rcases HI.out.2 with g | g
          · exact .inr (.inl g)
          · refine .inr (.inr ?_)
            rw [show p - i = f - 1 by omega] at g; exact g))
      have SR := Lib.hid (rot_same e b9 b11)
      have HE1 := Lib.hid (show i = m ∨ m = f → ∀ t, e t = rot e i m f t from fun q t => (rot_none e b9 b11 q t).symm)
      clear hf hnn hp
      obtain ⟨E1, hE1⟩ : ∃ E1, rot e i m f = E1 := ⟨_, rfl⟩
      have CU1 := Lib.hid (show Ord E1 a i ∧ Ord E1 i mid ∧ Rel E1 a i mid by rw [← hE1]; exact CU.out.1)
      have CU2 := Lib.hid (show Ord E1 mid f ∧ Ord E1 f d ∧ Rel E1 mid f d by rw [← hE1]; exact CU.out.2.1)
      have CX := Lib.hid (show ∀ x y, a ≤ x → x < mid → mid ≤ y → y < d → lx (E1 x) (E1 y) by rw [← hE1]; exact CU.out.2.2)
      rw [hE1] at SR HE1
      by_cases c5 : i < m ∧ m < f
      · obtain ⟨g1, g2⟩ := c5
        go_wp2_with fail
        refine (rot_any b n c i m f _ e _ HN.out g1 g2 (by omega) HL.out).mono ?_; rintro x w4 ⟨rfl, l4, k4⟩
        rw [hE1] at l4
        have L4 := Lib.hid l4
        have K4 := Lib.hid (HK.out.trans k4 (fun _ h => .inl h))
        clear l4 k4 hE1
        by_cases c6 : a < i ∧ i < mid
        · obtain ⟨g3, g4⟩ := c6
          go_wp2_with fail
          refine (HI0.out a i mid _ _ (by omega) g3 g4 (by omega) CU1.out.1 CU1.out.2.1 CU1.out.2.2 L4.out).mono ?_; rintro x w5 ⟨rfl, e5, l5, o5, s5, k5⟩
          have L5 := Lib.hid l5
          have K5 := Lib.hid (K4.out.trans k5 (fun _ h => .inl h))
          have S2 := Lib.hid s5
          have O2 := Lib.hid o5
          have G2 := Lib.hid (show Ord e5 mid f ∧ Ord e5 f d ∧ Rel e5 mid f d from ⟨CU2.out.1.congr (fun t q r => s5.out t (by omega)), CU2.out.2.1.congr (fun t q r => s5.out t (by omega)), fun x y r1 r2 r3 r4 => by rw [s5.out x (by omega), s5.out y (by omega)]; exact CU2.out.2.2 x y r1 r2 r3 r4⟩)
          clear l5 o5 s5 k5
          by_cases c7 : mid < f ∧ f < d
          · obtain ⟨g5, g6⟩ := c7
            go_wp2_with fail
            refine (HI0.out mid f d _ _ (by omega) g5 g6 hd (G2.out.1) (G2.out.2.1) (G2.out.2.2) L5.out).mono ?_; rintro x w6 ⟨rfl, e6, l6, o6, s6, k6⟩
            have L6 := Lib.hid l6
            have K6 := Lib.hid (K5.out.trans k6 (fun _ h => .inl h))
            have F6 := Lib.hid (show Ord e6 a d ∧ Same e e6 a d from ⟨join_ord CX.out S2.out s6 O2.out o6, ((SR.out.wide b14 b12).trans (S2.out.wide (Nat.le_refl _) (by omega))).trans (s6.wide (by omega) (Nat.le_refl _))⟩)
            clear l6 o6 s6 k6
            go_wp2_with fail
            go_end0
            exact ⟨rfl, _, L6.out, F6.out.1, F6.out.2, K6.out⟩
          · have F6 : Hid (Ord e5 a d ∧ Same e e5 a d) := Lib.hid ⟨join_ord CX.out S2.out (Same.refl _ mid d) O2.out (by
              by_cases q : f = d
              · have := G2.out.1; rw [q] at this; exact this
              · have h2 := G2.out.2.1; rw [show f = mid by omega] at h2; exact h2), (SR.out.wide b14 b12).trans (S2.out.wide (Nat.le_refl _) (by omega))⟩
            by_cases c8 : mid < f
            · have c9 : ¬ f < d := by omega
              clear c7
              go_wp2_with fail
              go_end0
              exact ⟨rfl, _, L5.out, F6.out.1, F6.out.2, K5.out⟩
            · clear c7
              go_wp2_with fail
              go_end0
              exact ⟨rfl, _, L5.out, F6.out.1, F6.out.2, K5.out⟩
        · have S2 := Lib.hid (Same.refl E1 a mid)
          have O2 : Hid (Ord E1 a mid) := Lib.hid (by
            by_cases q : i = a
            · have := CU1.out.2.1; rw [q] at this; exact this
            · have h2 := CU1.out.1; rw [show i = mid by omega] at h2; exact h2)
          have G2 := Lib.hid CU2.out
          by_cases c10 : a < i
          · have c11 : ¬ i < mid := by omega
            clear c6
            by_cases c7 : mid < f ∧ f < d
            · obtain ⟨g5, g6⟩ := c7
              go_wp2_with fail
              refine (HI0.out mid f d _ _ (by omega) g5 g6 hd (G2.out.1) (G2.out.2.1) (G2.out.2.2) L4.out).mono ?_; rintro x w6 ⟨rfl, e6, l6, o6, s6, k6⟩
              have L6 := Lib.hid l6
              have K6 := Lib.hid (K4.out.trans k6 (fun _ h => .inl h))
              have F6 := Lib.hid (show Ord e6 a d ∧ Same e e6 a d from ⟨join_ord CX.out S2.out s6 O2.out o6, ((SR.out.wide b14 b12).trans (S2.out.wide (Nat.le_refl _) (by omega))).trans (s6.wide (by omega) (Nat.le_refl _))⟩)
              clear l6 o6 s6 k6
              go_wp2_with fail
              go_end0
              exact ⟨rfl, _, L6.out, F6.out.1, F6.out.2, K6.out⟩
            · have F6 : Hid (Ord E1 a d ∧ Same e E1 a d) := Lib.hid ⟨join_ord CX.out S2.out (Same.refl _ mid d) O2.out (by
                by_cases q : f = d
                · have := G2.out.1; rw [q] at this; exact this
                · have h2 := G2.out.2.1; rw [show f = mid by omega] at h2; exact h2), (SR.out.wide b14 b12).trans (S2.out.wide (Nat.le_refl _) (by omega))⟩
              by_cases c8 : mid < f
              · have c9 : ¬ f < d := by omega
                clear c7
                go_wp2_with fail
                go_end0
                exact ⟨rfl, _, L4.out, F6.out.1, F6.out.2, K4.out⟩
              · clear c7
                go_wp2_with fail
                go_end0
                exact ⟨rfl, _, L4.out, F6.out.1, F6.out.2, K4.out⟩
          · clear c6
            by_cases c7 : mid < f ∧ f < d
            · obtain ⟨g5, g6⟩ := c7
              go_wp2_with fail
              refine (HI0.out mid f d _ _ (by omega) g5 g6 hd (G2.out.1) (G2.out.2.1) (G2.out.2.2) L4.out).mono ?_; rintro x w6 ⟨rfl, e6, l6, o6, s6, k6⟩
              have L6 := Lib.hid l6
              have K6 := Lib.hid (K4.out.trans k6 (fun _ h => .inl h))
              have F6 := Lib.hid (show Ord e6 a d ∧ Same e e6 a d from ⟨join_ord CX.out S2.out s6 O2.out o6, ((SR.out.wide b14 b12).trans (S2.out.wide (Nat.le_refl _) (by omega))).trans (s6.wide (by omega) (Nat.le_refl _))⟩)
              clear l6 o6 s6 k6
              go_wp2_with fail
              go_end0
              exact ⟨rfl, _, L6.out, F6.out.1, F6.out.2, K6.out⟩
            · have F6 : Hid (Ord E1 a d ∧ Same e E1 a d) := Lib.hid ⟨join_ord CX.out S2.out (Same.refl _ mid d) O2.out (by
                by_cases q : f = d
                · have := G2.out.1; rw [q] at this; exact this
                · have h2 := G2.out.2.1; rw [show f = mid by omega] at h2; exact h2), (SR.out.wide b14 b12).trans (S2.out.wide (Nat.le_refl _) (by omega))⟩
              by_cases c8 : mid < f
              · have c9 : ¬ f < d := by omega
                clear c7
                go_wp2_with fail
                go_end0
                exact ⟨rfl, _, L4.out, F6.out.1, F6.out.2, K4.out⟩
              · clear c7
                go_wp2_with fail
                go_end0
                exact ⟨rfl, _, L4.out, F6.out.1, F6.out.2, K4.out⟩
      · have L4 := Lib.hid (HL.out.congr (fun t _ => HE1.out (by omega) t))
        have K4 := Lib.hid HK.out
        clear hE1
        by_cases c12 : i < m
        · have c13 : ¬ m < f := by omega
          clear c5
          by_cases c6 : a < i ∧ i < mid
          · obtain ⟨g3, g4⟩ := c6
            go_wp2_with fail
            refine (HI0.out a i mid _ _ (by omega) g3 g4 (by omega) CU1.out.1 CU1.out.2.1 CU1.out.2.2 L4.out).mono ?_; rintro x w5 ⟨rfl, e5, l5, o5, s5, k5⟩
            have L5 := Lib.hid l5
            have K5 := Lib.hid (K4.out.trans k5 (fun _ h => .inl h))
            have S2 := Lib.hid s5
            have O2 := Lib.hid o5
            have G2 := Lib.hid (show Ord e5 mid f ∧ Ord e5 f d ∧ Rel e5 mid f d from ⟨CU2.out.1.congr (fun t q r => s5.out t (by omega)), CU2.out.2.1.congr (fun t q r => s5.out t (by omega)), fun x y r1 r2 r3 r4 => by rw [s5.out x (by omega), s5.out y (by omega)]; exact CU2.out.2.2 x y r1 r2 r3 r4⟩)
            clear l5 o5 s5 k5
            by_cases c7 : mid < f ∧ f < d
            · obtain ⟨g5, g6⟩ := c7
              go_wp2_with fail
              refine (HI0.out mid f d _ _ (by omega) g5 g6 hd (G2.out.1) (G2.out.2.1) (G2.out.2.2) L5.out).mono ?_; rintro x w6 ⟨rfl, e6, l6, o6, s6, k6⟩
              have L6 := Lib.hid l6
              have K6 := Lib.hid (K5.out.trans k6 (fun _ h => .inl h))
              have F6 := Lib.hid (show Ord e6 a d ∧ Same e e6 a d from ⟨join_ord CX.out S2.out s6 O2.out o6, ((SR.out.wide b14 b12).trans (S2.out.wide (Nat.le_refl _) (by omega))).trans (s6.wide (by omega) (Nat.le_refl _))⟩)
              clear l6 o6 s6 k6
              go_wp2_with fail
              go_end0
              exact ⟨rfl, _, L6.out, F6.out.1, F6.out.2, K6.out⟩
            · have F6 : Hid (Ord e5 a d ∧ Same e e5 a d) := Lib.hid ⟨join_ord CX.out S2.out (Same.refl _ mid d) O2.out (by
                by_cases q : f = d
                · have := G2.out.1; rw [q] at this; exact this
                · have h2 := G2.out.2.1; rw [show f = mid by omega] at h2; exact h2), (SR.out.wide b14 b12).trans (S2.out.wide (Nat.le_refl _) (by omega))⟩
              by_cases c8 : mid < f
              · have c9 : ¬ f < d := by omega
                clear c7
                go_wp2_with fail
                go_end0
                exact ⟨rfl, _, L5.out, F6.out.1, F6.out.2, K5.out⟩
              · clear c7
                go_wp2_with fail
                go_end0
                exact ⟨rfl, _, L5.out, F6.out.1, F6.out.2, K5.out⟩
          · have S2 := Lib.hid (Same.refl E1 a mid)
            have O2 : Hid (Ord E1 a mid) := Lib.hid (by
              by_cases q : i = a
              · have := CU1.out.2.1; rw [q] at this; exact this
              · have h2 := CU1.out.1; rw [show i = mid by omega] at h2; exact h2)
            have G2 := Lib.hid CU2.out
            by_cases c10 : a < i
            · have c11 : ¬ i < mid := by omega
              clear c6
              by_cases c7 : mid < f ∧ f < d
              · obtain ⟨g5, g6⟩ := c7
                go_wp2_with fail
                refine (HI0.out mid f d _ _ (by omega) g5 g6 hd (G2.out.1) (G2.out.2.1) (G2.out.2.2) L4.out).mono ?_; rintro x w6 ⟨rfl, e6, l6, o6, s6, k6⟩
                have L6 := Lib.hid l6
                have K6 := Lib.hid (K4.out.trans k6 (fun _ h => .inl h))
                have F6 := Lib.hid (show Ord e6 a d ∧ Same e e6 a d from ⟨join_ord CX.out S2.out s6 O2.out o6, ((SR.out.wide b14 b12).trans (S2.out.wide (Nat.le_refl _) (by omega))).trans (s6.wide (by omega) (Nat.le_refl _))⟩)
                clear l6 o6 s6 k6
                go_wp2_with fail
                go_end0
                exact ⟨rfl, _, L6.out, F6.out.1, F6.out.2, K6.out⟩
              · have F6 : Hid (Ord E1 a d ∧ Same e E1 a d) := Lib.hid ⟨join_ord CX.out S2.out (Same.refl _ mid d) O2.out (by
                  by_cases q : f = d
                  · have := G2.out.1; rw [q] at this; exact this
                  · have h2 := G2.out.2.1; rw [show f = mid by omega] at h2; exact h2), (SR.out.wide b14 b12).trans (S2.out.wide (Nat.le_refl _) (by omega))⟩
                by_cases c8 : mid < f
                · have c9 : ¬ f < d := by omega
                  clear c7
                  go_wp2_with fail
                  go_end0
                  exact ⟨rfl, _, L4.out, F6.out.1, F6.out.2, K4.out⟩
                · clear c7
                  go_wp2_with fail
                  go_end0
                  exact ⟨rfl, _, L4.out, F6.out.1, F6.out.2, K4.out⟩
            · clear c6
              by_cases c7 : mid < f ∧ f < d
              · obtain ⟨g5, g6⟩ := c7
                go_wp2_with fail
                refine (HI0.out mid f d _ _ (by omega) g5 g6 hd (G2.out.1) (G2.out.2.1) (G2.out.2.2) L4.out).mono ?_; rintro x w6 ⟨rfl, e6, l6, o6, s6, k6⟩
                have L6 := Lib.hid l6
                have K6 := Lib.hid (K4.out.trans k6 (fun _ h => .inl h))
                have F6 := Lib.hid (show Ord e6 a d ∧ Same e e6 a d from ⟨join_ord CX.out S2.out s6 O2.out o6, ((SR.out.wide b14 b12).trans (S2.out.wide (Nat.le_refl _) (by omega))).trans (s6.wide (by omega) (Nat.le_refl _))⟩)
                clear l6 o6 s6 k6
                go_wp2_with fail
                go_end0
                exact ⟨rfl, _, L6.out, F6.out.1, F6.out.2, K6.out⟩
              · have F6 : Hid (Ord E1 a d ∧ Same e E1 a d) := Lib.hid ⟨join_ord CX.out S2.out (Same.refl _ mid d) O2.out (by
                  by_cases q : f = d
                  · have := G2.out.1; rw [q] at this; exact this
                  · have h2 := G2.out.2.1; rw [show f = mid by omega] at h2; exact h2), (SR.out.wide b14 b12).trans (S2.out.wide (Nat.le_refl _) (by omega))⟩
                by_cases c8 : mid < f
                · have c9 : ¬ f < d := by omega
                  clear c7
                  go_wp2_with fail
                  go_end0
                  exact ⟨rfl, _, L4.out, F6.out.1, F6.out.2, K4.out⟩
                · clear c7
                  go_wp2_with fail
                  go_end0
                  exact ⟨rfl, _, L4.out, F6.out.1, F6.out.2, K4.out⟩
        · clear c5
          by_cases c6 : a < i ∧ i < mid
          · obtain ⟨g3, g4⟩ := c6
            go_wp2_with fail
            refine (HI0.out a i mid _ _ (by omega) g3 g4 (by omega) CU1.out.1 CU1.out.2.1 CU1.out.2.2 L4.out).mono ?_; rintro x w5 ⟨rfl, e5, l5, o5, s5, k5⟩
            have L5 := Lib.hid l5
            have K5 := Lib.hid (K4.out.trans k5 (fun _ h => .inl h))
            have S2 := Lib.hid s5
            have O2 := Lib.hid o5
            have G2 := Lib.hid (show Ord e5 mid f ∧ Ord e5 f d ∧ Rel e5 mid f d from ⟨CU2.out.1.congr (fun t q r => s5.out t (by omega)), CU2.out.2.1.congr (fun t q r => s5.out t (by omega)), fun x y r1 r2 r3 r4 => by rw [s5.out x (by omega), s5.out y (by omega)]; exact CU2.out.2.2 x y r1 r2 r3 r4⟩)
            clear l5 o5 s5 k5
            by_cases c7 : mid < f ∧ f < d
            · obtain ⟨g5, g6⟩ := c7
              go_wp2_with fail
              refine (HI0.out mid f d _ _ (by omega) g5 g6 hd (G2.out.1) (G2.out.2.1) (G2.out.2.2) L5.out).mono ?_; rintro x w6 ⟨rfl, e6, l6, o6, s6, k6⟩
              have L6 := Lib.hid l6
              have K6 := Lib.hid (K5.out.trans k6 (fun _ h => .inl h))
              have F6 := Lib.hid (show Ord e6 a d ∧ Same e e6 a d from ⟨join_ord CX.out S2.out s6 O2.out o6, ((SR.out.wide b14 b12).trans (S2.out.wide (Nat.le_refl _) (by omega))).trans (s6.wide (by omega) (Nat.le_refl _))⟩)
              clear l6 o6 s6 k6
              go_wp2_with fail
              go_end0
              exact ⟨rfl, _, L6.out, F6.out.1, F6.out.2, K6.out⟩
            · have F6 : Hid (Ord e5 a d ∧ Same e e5 a d) := Lib.hid ⟨join_ord CX.out S2.out (Same.refl _ mid d) O2.out (by
                by_cases q : f = d
                · have := G2.out.1; rw [q] at this; exact this
                · have h2 := G2.out.2.1; rw [show f = mid by omega] at h2; exact h2), (SR.out.wide b14 b12).trans (S2.out.wide (Nat.le_refl _) (by omega))⟩
              by_cases c8 : mid < f
              · have c9 : ¬ f < d := by omega
                clear c7
                go_wp2_with fail
                go_end0
                exact ⟨rfl, _, L5.out, F6.out.1, F6.out.2, K5.out⟩
              · clear c7
                go_wp2_with fail
                go_end0
                exact ⟨rfl, _, L5.out, F6.out.1, F6.out.2, K5.out⟩
          · have S2 := Lib.hid (Same.refl E1 a mid)
            have O2 : Hid (Ord E1 a mid) := Lib.hid (by
              by_cases q : i = a
              · have := CU1.out.2.1; rw [q] at this; exact this
              · have h2 := CU1.out.1; rw [show i = mid by omega] at h2; exact h2)
            have G2 := Lib.hid CU2.out
            by_cases c10 : a < i
            · have c11 : ¬ i < mid := by omega
              clear c6
              by_cases c7 : mid < f ∧ f < d
              · obtain ⟨g5, g6⟩ := c7
                go_wp2_with fail
                refine (HI0.out mid f d _ _ (by omega) g5 g6 hd (G2.out.1) (G2.out.2.1) (G2.out.2.2) L4.out).mono ?_; rintro x w6 ⟨rfl, e6, l6, o6, s6, k6⟩
                have L6 := Lib.hid l6
                have K6 := Lib.hid (K4.out.trans k6 (fun _ h => .inl h))
                have F6 := Lib.hid (show Ord e6 a d ∧ Same e e6 a d from ⟨join_ord CX.out S2.out s6 O2.out o6, ((SR.out.wide b14 b12).trans (S2.out.wide (Nat.le_refl _) (by omega))).trans (s6.wide (by omega) (Nat.le_refl _))⟩)
                clear l6 o6 s6 k6
                go_wp2_with fail
                go_end0
                exact ⟨rfl, _, L6.out, F6.out.1, F6.out.2, K6.out⟩
              · have F6 : Hid (Ord E1 a d ∧ Same e E1 a d) := Lib.hid ⟨join_ord CX.out S2.out (Same.refl _ mid d) O2.out (by
                  by_cases q : f = d
                  · have := G2.out.1; rw [q] at this; exact this
                  · have h2 := G2.out.2.1; rw [show f = mid by omega] at h2; exact h2), (SR.out.wide b14 b12).trans (S2.out.wide (Nat.le_refl _) (by omega))⟩
                by_cases c8 : mid < f
                · have c9 : ¬ f < d := by omega
                  clear c7
                  go_wp2_with fail
                  go_end0
                  exact ⟨rfl, _, L4.out, F6.out.1, F6.out.2, K4.out⟩
                · clear c7
                  go_wp2_with fail
                  go_end0
                  exact ⟨rfl, _, L4.out, F6.out.1, F6.out.2, K4.out⟩
            · clear c6
              by_cases c7 : mid < f ∧ f < d
              · obtain ⟨g5, g6⟩ := c7
                go_wp2_with fail
                refine (HI0.out mid f d _ _ (by omega) g5 g6 hd (G2.out.1) (G2.out.2.1) (G2.out.2.2) L4.out).mono ?_; rintro x w6 ⟨rfl, e6, l6, o6, s6, k6⟩
                have L6 := Lib.hid l6
                have K6 := Lib.hid (K4.out.trans k6 (fun _ h => .inl h))
                have F6 := Lib.hid (show Ord e6 a d ∧ Same e e6 a d from ⟨join_ord CX.out S2.out s6 O2.out o6, ((SR.out.wide b14 b12).trans (S2.out.wide (Nat.le_refl _) (by omega))).trans (s6.wide (by omega) (Nat.le_refl _))⟩)
                clear l6 o6 s6 k6
                go_wp2_with fail
                go_end0
                exact ⟨rfl, _, L6.out, F6.out.1, F6.out.2, K6.out⟩
              · have F6 : Hid (Ord E1 a d ∧ Same e E1 a d) := Lib.hid ⟨join_ord CX.out S2.out (Same.refl _ mid d) O2.out (by
                  by_cases q : f = d
                  · have := G2.out.1; rw [q] at this; exact this
                  · have h2 := G2.out.2.1; rw [show f = mid by omega] at h2; exact h2), (SR.out.wide b14 b12).trans (S2.out.wide (Nat.le_refl _) (by omega))⟩
                by_cases c8 : mid < f
                · have c9 : ¬ f < d := by omega
                  clear c7
                  go_wp2_with fail
                  go_end0
                  exact ⟨rfl, _, L4.out, F6.out.1, F6.out.2, K4.out⟩
                · clear c7
                  go_wp2_with fail
                  go_end0
                  exact ⟨rfl, _, L4.out, F6.out.1, F6.out.2, K4.out⟩

theorem sym_all : ∀ (k b n c a m d : Nat) (e : Nat → Nat × Nat) (W : World), d - a ≤ k → n ≤ 400 → a < m → m < d → d ≤ n → Ord e a m → Ord e m d → Rel e a m d → Lfs W b n e →
    Calls Try.prog 40 #[.slice (some ⟨b, 0, none⟩) n c, .int .i64 a, .int .i64 m, .int .i64 d, .func (.func 29) #[] #[]] W fun x w' => x = .returned (.tuple #[]) ∧ ∃ e', Lfs w' b n e' ∧ Ord e' a d ∧ Same e e' a d ∧ Kept (One b) W w'
  | 0, b, n, c, a, m, d, e, W, hk, hn, h1, h2, h3, ol, or, hr, H => absurd hk (by omega)
  | k + 1, b, n, c, a, m, d, e, W, hk, hn, h1, h2, h3, ol, or, hr, H => by
    have IH := fun (a' m' d' : Nat) (e' : Nat → Nat × Nat) (W' : World) (q : d' - a' < d - a) => sym_all k b n c a' m' d' e' W' (by omega) hn
    by_cases c1 : m = a + 1
    · exact sym_one b n c a m d e W hn h1 h2 h3 ol or hr H c1
    by_cases c2 : d = m + 1
    · exact sym_two b n c a m d e W hn h1 h2 h3 ol or hr H c1 c2
    by_cases c3 : (a + d) / 2 < m
    · exact sym_big b n c a m d e W hn h1 h2 h3 ol or hr H c1 c2 _ rfl c3 IH
    · exact sym_low b n c a m d e W hn h1 h2 h3 ol or hr H c1 c2 _ rfl (by omega) IH
theorem sym_any (b n c a m d : Nat) (e : Nat → Nat × Nat) (W : World) (hn : n ≤ 400) (h1 : a < m) (h2 : m < d) (h3 : d ≤ n) (ol : Ord e a m) (or : Ord e m d) (hr : Rel e a m d) (H : Lfs W b n e) :
    Calls Try.prog 40 #[.slice (some ⟨b, 0, none⟩) n c, .int .i64 a, .int .i64 m, .int .i64 d, .func (.func 29) #[] #[]] W fun x w' => x = .returned (.tuple #[]) ∧ ∃ e', Lfs w' b n e' ∧ Ord e' a d ∧ Same e e' a d ∧ Kept (One b) W w' :=
  sym_all (d - a) b n c a m d e W (Nat.le_refl _) hn h1 h2 h3 ol or hr H
end Go.Proofs.Yteicamfelamfhaa
