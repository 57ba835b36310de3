/- PackWhole returns true for any counts, any limit. Conditions: none. -/
import Derived.Test.YteicamfelamfhaaLwA
import Derived.BigQuiet
import Derived.Deep.QuietTactic
namespace Go.Proofs.Yteicamfelamfhaa
open Go.RowKit M
set_option linter.unusedVariables false

theorem nat32 {w : World} {a : Option Addr} {len cap : Nat} {zs : List Int} (h : IsRow .u32 w a len cap zs) : (∀ i, nat8 zs i ≤ 4294967295) ∧ Nums w .u32 a len (fun i => (nat8 zs i : Int)) := by
  have hb : ∀ i, 0 ≤ zs.getD i 0 ∧ zs.getD i 0 ≤ 4294967295 := fun i => by
    have := h.wf (by decide) i
    simpa [Lit.wf, IntKind.min, IntKind.max, IntKind.signed, IntKind.bits] using this
  refine ⟨fun i => ?_, h.nums.congr fun i hi => ?_⟩
  · have := hb i
    unfold nat8; omega
  · have := hb i
    unfold nat8; omega
/-- how many count -/
def nzc (y : Nat → Nat) (n : Nat) : Nat := sm (fun s => if 0 < y s then 1 else 0) n
theorem nzc_le (y : Nat → Nat) (n : Nat) : nzc y n ≤ n := by
  have := sm_le (f := fun s => if 0 < y s then 1 else 0) (g := fun _ => 1) n (fun i _ => by show (if 0 < y i then 1 else 0) ≤ 1; split <;> omega)
  rw [sm_const, Nat.mul_one] at this
  exact this
theorem nzc_lv {c : Nat → Nat} {n m : Nat} {e : Nat → Nat × Nat} (h : IsLv c n m e) : nzc c n = m := by
  unfold nzc
  rw [reidx h _ (fun s _ g => by rw [g]; rfl), sm_congr m (g := fun _ => 1) (fun i hi => if_pos (by have := (h.is_ i hi).2.1; exact this)), sm_const, Nat.mul_one]

theorem whole_far (A : Option Addr) (n c : Nat) (x : Int) (W : World) (hn : n ≤ maxLen) (h : 320 < n) :
    Calls Try.prog 4 #[.slice A n c, .int .u8 x] W fun e w' => e = .returned (.bool true) ∧ Below W.heap.size W w' := by
  have hn' : n ≤ 9223372036854775807 := by unfold maxLen at hn; omega
  have d1 : decide (320 < (n : Int)) = true := decide_eq_true (by omega)
  clear h
  go_enter Try.func4, Try.ntmps4
  go_wp2_with fail
  refine (alive_any _).mono ?_; rintro e w2 ⟨rfl, b2⟩
  go_wp2_with fail
  go_ret
  exact ⟨rfl, b2⟩

set_option maxHeartbeats 8000000 in
set_option maxRecDepth 1000000 in
theorem whole_any (A : Option Addr) (n c x : Nat) (u : Nat → Nat) (m : Nat) (e : Nat → Nat × Nat) (W : World) (hn : n ≤ 320) (hx : x < 256) (hu : ∀ i, u i ≤ 4294967295) (H : Nums W .u32 A n (fun i => (u i : Int))) (hl : IsLv (fun i => u i % 1073741824) n m e) :
    Calls Try.prog 4 #[.slice A n c, .int .u8 x] W fun e w' => e = .returned (.bool true) ∧ Below W.heap.size W w' := by
  have d1 : decide (320 < (n : Int)) = false := decide_eq_false (by omega)
  obtain ⟨y, hy⟩ : ∃ y : Nat → Nat, (fun i => u i % 1073741824) = y := ⟨_, rfl⟩
  have hyu : ∀ i, y i = u i % 1073741824 := fun i => by rw [← hy]
  rw [hy] at hl
  have HA := Lib.hid H
  have HU := Lib.hid hu
  have HY := Lib.hid hyu
  have HL := Lib.hid hl
  have Y30 := Lib.hid (show ∀ i, y i ≤ 1073741824 from fun i => by rw [hyu i]; omega)
  obtain ⟨L, hL⟩ : ∃ L, x % 15 + 1 = L := ⟨_, rfl⟩
  have v1 : (x : Int).tmod 15 = (L : Int) - 1 := by rw [Int.tmod_eq_emod_of_nonneg (by omega)]; omega
  have v2 : (x : Int) % 15 = (L : Int) - 1 := by omega
  have L1 : 1 ≤ L := by omega
  have L2 : L ≤ 15 := by omega
  have hmk := fun w => madeInt w n (by omega)
  have R0 := Lib.hid (Irow.made W n)
  have R2 := Lib.hid ((Below.refl W.heap.size W).alloc (Nat.le_refl _) (.cells (madeCells #[.int .i64 0] n) 3))
  clear H hu hl hL hx hy hyu
  go_enter Try.func4, Try.ntmps4
  go_wp2_with fail
  clear hmk
  go_loopw [7, 8] (fun q i wr => ∃ j : Nat, j ≤ n ∧ i = .int .i64 j ∧ q = .int .i64 (nzc y j) ∧ Irow wr W.heap.size n (fun i => if i < j then (y i : Int) else 0) ∧ Below W.heap.size W wr) (fun _ i _ => n - (intOf i).toNat)
  case atStart => exact ⟨0, Nat.zero_le _, rfl, rfl, R0.out.congr (fun i _ => by rw [if_neg (by omega)]), R2.out⟩
  case round =>
    obtain ⟨j, hj, rfl, rfl, i1, hb⟩ := hrel
    have hnz := nzc_le y j
    by_cases hlt : j < n
    · obtain ⟨b, o, rfl, hbs, hc⟩ := HA.out (by omega)
      have hcell := (hb.cell hbs).trans (hc j hlt)
      have c1 := i1.cell hlt
      have f1 := i1.frozen j
      rw [if_neg (Nat.lt_irrefl _)] at c1
      have hsz1 := i1.lt
      have hv32 := HU.out j
      have hyj := HY.out j
      obtain ⟨v, hv⟩ : ∃ v, u j = v := ⟨_, rfl⟩
      obtain ⟨r, hr⟩ : ∃ r, y j = r := ⟨_, rfl⟩
      obtain ⟨q, hq⟩ : ∃ q, nzc y j = q := ⟨_, rfl⟩
      simp only [hv] at hcell hv32
      rw [hv, hr] at hyj
      rw [hq] at hnz ⊢
      have w1 : (v : Int).tmod 1073741824 = (r : Int) := by rw [Int.tmod_eq_emod_of_nonneg (by omega)]; omega
      have w2 : (v : Int) % 1073741824 = (r : Int) := by omega
      have hr30 : r ≤ 1073741823 := by omega
      have I1 := Lib.hid ((i1.set j (r : Int)).congr (y := fun i => if i < j + 1 then (y i : Int) else 0) (fun i _ => by
        by_cases s : i = j
        · rw [if_pos s, if_pos (by omega), s, hr]
        · rw [if_neg s]
          by_cases r2 : i < j
          · rw [if_pos r2, if_pos (by omega)]
          · rw [if_neg r2, if_neg (by omega)]))
      have B3 := Lib.hid (hb.setCell (p := ⟨W.heap.size, j, none⟩) (by simp) (.int .i64 (r : Int)))
      have NZ : nzc y (j + 1) = q + if 0 < r then 1 else 0 := by
        unfold nzc at hq ⊢
        simp only [sm]
        rw [hq, hr]
      have NZH := Lib.hid NZ
      clear i1 hb hv hq hc hyj hr NZ
      by_cases h0 : 0 < r
      · go_wp2_with fail
        go_roundw
        case rel => exact ⟨j + 1, by omega, by go_num, by rw [NZH.out, if_pos h0]; rfl, I1.out, B3.out⟩
        case measure => simp [intOf]; omega
      · obtain rfl : r = 0 := by omega
        go_wp2_with fail
        go_roundw
        case rel => exact ⟨j + 1, by omega, by go_num, by rw [NZH.out]; rfl, I1.out, B3.out⟩
        case measure => simp [intOf]; omega
    · obtain rfl : j = n := by omega
      have I1 := Lib.hid (i1.congr (y := fun i => (y i : Int)) (fun i hi => by rw [if_pos hi]))
      have B3 := Lib.hid hb
      rw [nzc_lv HL.out] at hnz ⊢
      clear i1 hb
      have NC := Lib.hid (fun w => needs_any (m : Int) w (by omega) (by omega))
      have mt : ((m : Int)).toNat = m := by omega
      by_cases hbn : nds m ≤ L
      · have HB := Lib.hid hbn
        obtain ⟨q, hq⟩ : ∃ q, nds m = q := ⟨_, rfl⟩
        have HQ := Lib.hid hq
        rw [hq] at hbn
        have dq : decide (L < q) = false := decide_eq_false (by omega)
        clear hq
        go_wp2_with fail
        refine (lens_ok (some ⟨W.heap.size, 0, none⟩) j j L m y e _ hn Y30.out I1.out.nums L1 L2 HL.out HB.out).mono ?_; rintro x1 wa ⟨g, rfl, s1, r1, b1⟩
        have I1a := Lib.hid (I1.out.below b1 I1.out.lt)
        have B4 := Lib.hid (B3.out.trans (b1.mono B3.out.size))
        have GR := Lib.hid r1
        clear b1 r1 s1
        go_wp2_with fail
        refine (NC.out _).mono ?_; rintro x1 wb ⟨rfl, rfl⟩
        rw [mt, HQ.out]
        go_wp2_with fail
        go_loopw [11] (fun i wr => ∃ a : Nat, a ≤ j ∧ i = .int .i64 a ∧ Irow wr W.heap.size j (fun i => (y i : Int)) ∧ Br wr g j (pl m e L) ∧ Below W.heap.size W wr) (fun i _ => j - (intOf i).toNat)
        case atStart => exact ⟨0, Nat.zero_le _, rfl, I1a.out, GR.out, B4.out⟩
        case round =>
          obtain ⟨a, ha, rfl, i1, g1, hb⟩ := hrel
          by_cases hlt2 : a < j
          · have c1 := i1.cell hlt2
            have c2 := g1.cell hlt2
            have hz := pl_zero HL.out HB.out L1 hlt2
            have hle := pl_le HL.out HB.out L1 a
            have h30 := Y30.out a
            obtain ⟨p, hp⟩ : ∃ p, pl m e L a = p := ⟨_, rfl⟩
            obtain ⟨v, hv⟩ : ∃ v, y a = v := ⟨_, rfl⟩
            rw [hp] at c2 hz hle
            simp only [hv] at c1 hz h30
            have HPV := Lib.hid (And.intro hp hv)
            have I2 := Lib.hid i1
            have G2 := Lib.hid g1
            have B5 := Lib.hid hb
            have w3 : IntKind.i64.wrap (p : Int) = (p : Int) := IntWalk.i64_in _ (by omega)
            have dp : decide (L < p) = false := decide_eq_false (by omega)
            have at1 : ((a : Int)).toNat = a := by omega
            clear i1 g1 hb hp hv
            have key : decide (0 < p) = decide (0 < v) := by
              by_cases h0 : v = 0
              · rw [h0, hz.2 h0]
              · rw [decide_eq_true (Nat.pos_of_ne_zero h0), decide_eq_true (Nat.pos_of_ne_zero (fun h => h0 (hz.1 h)))]
            obtain ⟨t, ht⟩ : ∃ t, decide (0 < v) = t := ⟨_, rfl⟩
            rw [ht] at key
            have dz : (t != t) = false := by cases t <;> rfl
            clear hz
            go_wp2_with fail
            go_quiet (fail)
            go_wp2_with fail
            go_loopw [12] (fun i wr => ∃ b : Nat, b ≤ j ∧ i = .int .i64 b ∧ Irow wr W.heap.size j (fun i => (y i : Int)) ∧ Br wr g j (pl m e L) ∧ Below W.heap.size W wr) (fun i _ => j - (intOf i).toNat)
            case atStart => exact ⟨0, Nat.zero_le _, rfl, I2.out.drewN nq, G2.out.drewN nq, below_drewN B5.out nq⟩
            case round =>
              obtain ⟨b, hb2, rfl, i1, g1, hb⟩ := hrel
              by_cases hlt3 : b < j
              · have a1 := i1.cell hlt2
                have a2 := g1.cell hlt2
                have a3 := i1.cell hlt3
                have a4 := g1.cell hlt3
                have hv1 := pl_heavy HL.out HB.out L1 hlt2 hlt3
                have h31 := Y30.out b
                obtain ⟨p2, hp2⟩ : ∃ p, pl m e L b = p := ⟨_, rfl⟩
                obtain ⟨v2, hv2⟩ : ∃ v, y b = v := ⟨_, rfl⟩
                rw [HPV.out.1] at a2 hv1
                simp only [HPV.out.2] at a1 hv1
                rw [hp2] at a4 hv1
                simp only [hv2] at a3 hv1 h31
                have I3 := Lib.hid i1
                have G3 := Lib.hid g1
                have B6 := Lib.hid hb
                have at2 : ((b : Int)).toNat = b := by omega
                clear i1 g1 hb hp2 hv2
                by_cases q1 : v2 < v
                · by_cases q2 : 0 < v2
                  · have dh : decide (p2 < p) = false := decide_eq_false (by have := hv1 q1 q2; omega)
                    clear hv1
                    go_wp2_with fail
                    go_quiet (fail)
                    go_wp2_with fail
                    go_roundw
                    case rel => exact ⟨b + 1, by omega, by go_num, I3.out.drewN _, G3.out.drewN _, below_drewN B6.out _⟩
                    case measure => simp [intOf]; omega
                  · have q3 : decide (0 < v2) = false := decide_eq_false q2
                    clear hv1
                    go_wp2_with fail
                    go_quiet (fail)
                    go_wp2_with fail
                    go_roundw
                    case rel => exact ⟨b + 1, by omega, by go_num, I3.out.drewN _, G3.out.drewN _, below_drewN B6.out _⟩
                    case measure => simp [intOf]; omega
                · have q3 : decide (v2 < v) = false := decide_eq_false q1
                  clear hv1
                  go_wp2_with fail
                  go_quiet (fail)
                  go_wp2_with fail
                  go_roundw
                  case rel => exact ⟨b + 1, by omega, by go_num, I3.out.drewN _, G3.out.drewN _, below_drewN B6.out _⟩
                  case measure => simp [intOf]; omega
              · obtain rfl : b = j := by omega
                have I3 := Lib.hid i1
                have G3 := Lib.hid g1
                have B6 := Lib.hid hb
                clear i1 g1 hb
                go_wp2_with fail
                go_roundw
                case rel => exact ⟨a + 1, by omega, by go_num, I3.out, G3.out, B6.out⟩
                case measure => simp [intOf]; omega
          · obtain rfl : a = j := by omega
            have I2 := Lib.hid i1
            have G2 := Lib.hid g1
            have B5 := Lib.hid hb
            have PL1 := Lib.hid (show ∀ s, pl m e L s ≤ 255 from fun s => by have := pl_le HL.out HB.out L1 s; omega)
            have HK := Lib.hid (pl_kind HL.out hn HB.out L1 L2)
            have HML := Lib.hid (show a ≤ maxLen by unfold maxLen; omega)
            clear i1 g1 hb
            go_wp2_with fail
            refine (kind_any (some ⟨g, 0, none⟩) a a (pl m e L) _ HML.out PL1.out G2.out.nums).mono ?_; rintro x1 wd ⟨rfl, b7⟩
            rw [HK.out]
            have B7 := Lib.hid (B5.out.trans (b7.mono B5.out.size))
            clear b7
            by_cases m0 : m = 0
            · subst m0
              rw [if_pos rfl]
              go_wp2_with fail
              refine (alive_any _).mono ?_; rintro x1 wg ⟨rfl, b9⟩
              go_wp2_with fail
              go_ret
              exact ⟨rfl, B7.out.trans (b9.mono B7.out.size)⟩
            by_cases m1 : m = 1
            · subst m1
              rw [if_neg m0, if_pos rfl]
              clear m0
              go_wp2_with fail
              refine (alive_any _).mono ?_; rintro x1 wg ⟨rfl, b9⟩
              go_wp2_with fail
              go_ret
              exact ⟨rfl, B7.out.trans (b9.mono B7.out.size)⟩
            · rw [if_neg m0, if_neg m1]
              have z0 : ((m : Int) == 0) = false := by rw [beq_eq_false_iff_ne]; omega
              have z1 : ((m : Int) == 1) = false := by rw [beq_eq_false_iff_ne]; omega
              have z2 : decide ((1 : Int) < (m : Int)) = true := decide_eq_true (by omega)
              clear m0 m1
              go_wp2_with fail
              refine (alive_any _).mono ?_; rintro x1 wg ⟨rfl, b9⟩
              go_wp2_with fail
              go_ret
              exact ⟨rfl, B7.out.trans (b9.mono B7.out.size)⟩
      · have HB := Lib.hid (show L < nds m by omega)
        obtain ⟨q, hq⟩ : ∃ q, nds m = q := ⟨_, rfl⟩
        have HQ := Lib.hid hq
        rw [hq] at hbn
        have dq : decide (L < q) = true := decide_eq_true (by omega)
        clear hq
        go_wp2_with fail
        refine (lens_few (some ⟨W.heap.size, 0, none⟩) j j L m y e _ hn Y30.out I1.out.nums L1 L2 HL.out HB.out).mono ?_; rintro x1 wa ⟨rfl, b1⟩
        have B4 := Lib.hid (B3.out.trans (b1.mono B3.out.size))
        clear b1
        go_wp2_with fail
        refine (NC.out _).mono ?_; rintro x1 wb ⟨rfl, rfl⟩
        rw [mt, HQ.out]
        go_wp2_with fail
        refine (alive_any _).mono ?_; rintro x1 wg ⟨rfl, b9⟩
        go_wp2_with fail
        go_ret
        exact ⟨rfl, B4.out.trans (b9.mono B4.out.size)⟩
theorem PackWhole_walk (a0 : Option Addr) (len0 cap0 : Nat) (z0 : List Int) (a1 : Int) (w : World) (w0 : IsRow .u32 w a0 len0 cap0 z0) (w1 : (Lit.int .u8 a1).wf = true) :
    Calls Try.prog 4 #[.slice a0 len0 cap0, .int .u8 a1] w fun e w' => e = .returned (.bool true) ∧ Below w.heap.size w w' := by
  obtain ⟨hy, H⟩ := nat32 w0
  obtain ⟨x, rfl, hx⟩ := u8_nat w1
  have hm := w0.most
  by_cases h : 320 < len0
  · exact whole_far a0 len0 cap0 x w (by omega) h
  · obtain ⟨m, e, hl⟩ := lv_ex (fun i => nat8 z0 i % 1073741824) len0
    exact whole_any a0 len0 cap0 x _ m e w (by omega) hx hy H hl
end Go.Proofs.Yteicamfelamfhaa
