/- What the document's Best answers (written by gen/bes.py). Conditions: as each theorem names them. -/
import Derived.Test.YteicamfelamfhaaMathB
import Derived.Test.YteicamfelamfhaaLwA
namespace Go.Proofs.Yteicamfelamfhaa
open Go.RowKit M
set_option linter.unusedVariables false

theorem bmin_none (x : Option Nat) : bmin x none = x := by cases x <;> rfl
set_option maxHeartbeats 1000000 in
set_option maxRecDepth 1000000 in
theorem best_any (A : Option Addr) (N c L : Nat) (f : Nat → Nat) (W : World) (hN : N ≤ 10) (hL : L ≤ 10) (hf : ∀ i, f i ≤ 65536) (H : Nums W .i64 A N (fun i => (f i : Int))) : ∀ d, d ≤ L → ∀ fr co s : Nat, s = L + 1 - d → fr ≤ N → co ≤ 1000 →
    Calls Try.prog 15 #[.slice A N c, .int .i64 fr, .int .i64 s, .int .i64 co, .int .i64 L] W fun e w' => e = .returned (.int .i64 (enc (B f N L d fr co))) ∧ W = w' := by
  intro d
  induction d with
  | zero =>
    intro hd fr co s hs0 hfr hco
    have HSS := Lib.hid hs0
    have hsl : L + 1 = s + 0 := by omega
    obtain ⟨k, hk⟩ : ∃ k, N - fr = k := ⟨_, rfl⟩
    have z0 : (N : Int) - (fr : Int) = (k : Int) := by omega
    by_cases k0 : k = 0
    · by_cases c0 : co = 0
      · have HV := Lib.hid (show B f N L 0 fr co = some 0 by simp only [B]; rw [if_pos ⟨by omega, c0⟩])
        subst k0 c0
        clear hf H hs0 hsl
        go_enter Try.func15, Try.ntmps15
        go_wp2_with fail
        go_ret
        exact ⟨by rw [HV.out]; rfl, rfl⟩
      · have HV := Lib.hid (show B f N L 0 fr co = none by simp only [B]; rw [if_neg (by omega)])
        have d1 : ((co : Int) == 0) = false := by rw [beq_eq_false_iff_ne]; omega
        have d2 : decide ((0 : Int) < (co : Int)) = true := decide_eq_true (by omega)
        have d3 : 0 < co := by omega
        subst k0
        clear hf H c0 hs0 hsl
        go_enter Try.func15, Try.ntmps15
        go_wp2_with fail
        go_ret
        exact ⟨by rw [HV.out]; rfl, rfl⟩
    · have HV := Lib.hid (show B f N L 0 fr co = none by simp only [B]; rw [if_neg (by omega)])
      have d1 : ((k : Int) == 0) = false := by rw [beq_eq_false_iff_ne]; omega
      by_cases c1 : k < co
      · have d2 : decide (k < co) = true := decide_eq_true c1
        clear hf H hs0 hsl
        go_enter Try.func15, Try.ntmps15
        go_wp2_with fail
        go_ret
        exact ⟨by rw [HV.out]; rfl, rfl⟩
      · have d2 : decide (k < co) = false := decide_eq_false c1
        by_cases c0 : co = 0
        · subst c0
          clear hf H hs0 hsl
          go_enter Try.func15, Try.ntmps15
          go_wp2_with fail
          go_ret
          exact ⟨by rw [HV.out]; rfl, rfl⟩
        · have d3 : ((co : Int) == 0) = false := by rw [beq_eq_false_iff_ne]; omega
          have d4 : decide (L < s) = true := decide_eq_true (by omega)
          clear hf H hs0 hsl
          go_enter Try.func15, Try.ntmps15
          go_wp2_with fail
          go_ret
          exact ⟨by rw [HV.out]; rfl, rfl⟩
  | succ d ih =>
    intro hd fr co s hs0 hfr hco
    have HSS := Lib.hid hs0
    have hsl : L = s + d := by omega
    obtain ⟨k, hk⟩ : ∃ k, N - fr = k := ⟨_, rfl⟩
    have z0 : (N : Int) - (fr : Int) = (k : Int) := by omega
    by_cases k0 : k = 0
    · by_cases c0 : co = 0
      · have HV := Lib.hid (show B f N L (d + 1) fr co = some 0 by simp only [B]; rw [if_pos ⟨by omega, c0⟩])
        subst k0 c0
        clear hf H ih hs0 hsl
        go_enter Try.func15, Try.ntmps15
        go_wp2_with fail
        go_ret
        exact ⟨by rw [HV.out]; rfl, rfl⟩
      · have HV := Lib.hid (show B f N L (d + 1) fr co = none by simp only [B]; rw [if_neg (by omega), if_pos (by omega)])
        have d1 : ((co : Int) == 0) = false := by rw [beq_eq_false_iff_ne]; omega
        have d2 : decide ((0 : Int) < (co : Int)) = true := decide_eq_true (by omega)
        have d3 : 0 < co := by omega
        subst k0
        clear hf H ih c0 hs0 hsl
        go_enter Try.func15, Try.ntmps15
        go_wp2_with fail
        go_ret
        exact ⟨by rw [HV.out]; rfl, rfl⟩
    · have d1 : ((k : Int) == 0) = false := by rw [beq_eq_false_iff_ne]; omega
      by_cases c1 : k < co
      · have HV := Lib.hid (show B f N L (d + 1) fr co = none by simp only [B]; rw [if_neg (by omega), if_pos (by omega)])
        have d2 : decide (k < co) = true := decide_eq_true c1
        clear hf H ih hs0 hsl
        go_enter Try.func15, Try.ntmps15
        go_wp2_with fail
        go_ret
        exact ⟨by rw [HV.out]; rfl, rfl⟩
      · have d2 : decide (k < co) = false := decide_eq_false c1
        by_cases c0 : co = 0
        · have HV := Lib.hid (show B f N L (d + 1) fr co = none by simp only [B]; rw [if_neg (by omega), if_pos (by omega)])
          subst c0
          clear hf H ih hs0 hsl
          go_enter Try.func15, Try.ntmps15
          go_wp2_with fail
          go_ret
          exact ⟨by rw [HV.out]; rfl, rfl⟩
        · have d3 : ((co : Int) == 0) = false := by rw [beq_eq_false_iff_ne]; omega
          have d4 : decide (L < s) = false := decide_eq_false (by omega)
          obtain ⟨g, hg⟩ : ∃ g : Nat → Option Nat, (fun j => (B f N L d (fr + j) (2 * (co - j))).map (· + (L - d) * pre f N fr j)) = g := ⟨_, rfl⟩
          have HV := Lib.hid (show B f N L (d + 1) fr co = lp g (co + 1) by simp only [B]; rw [if_neg (by omega), if_neg (by omega), hg])
          have hsd : L - d = s := by omega
          have HG := Lib.hid (show ∀ j, g j = (B f N L d (fr + j) (2 * (co - j))).map (· + s * pre f N fr j) from fun j => by rw [← hg, ← hsd])
          have hs10 : s ≤ 10 := by omega
          have HX := Lib.hid (show ∀ j x, j ≤ co → B f N L d (fr + j) (2 * (co - j)) = some x → x ≤ 6553600 from fun j x hj h => by
            have := B_le hf (by omega) (by omega) h
            have h2 : N * (L * 65536) ≤ 10 * (10 * 65536) := Nat.mul_le_mul hN (Nat.mul_le_mul hL (Nat.le_refl _))
            omega)
          have HP := Lib.hid (show ∀ j, j ≤ co + 1 → s * pre f N fr j ≤ 7208960 from fun j hj => by
            have h1 := pre_le (N := N) hf fr j
            have h2 : j * 65536 ≤ 11 * 65536 := Nat.mul_le_mul_right _ (by omega)
            exact Nat.le_trans (Nat.mul_le_mul hs10 (show pre f N fr j ≤ 720896 by omega)) (by decide))
          have HB := Lib.hid (show ∀ j x, j ≤ co + 1 → lp g j = some x → x ≤ 20000000 from fun j x hj h => by
            obtain ⟨i, hi, hgi⟩ := lp_some h
            rw [HG.out i] at hgi
            cases hb : B f N L d (fr + i) (2 * (co - i)) with
            | none => rw [hb] at hgi; cases hgi
            | some y =>
              rw [hb] at hgi
              have h3 : y + s * pre f N fr i = x := by simpa using hgi
              have := HX.out i y (by omega) hb
              have := HP.out i (by omega)
              omega)
          have HF := Lib.hid hf
          have HH := Lib.hid H
          have IH := Lib.hid ih
          have HC := Lib.hid (show ∀ i, i < N → ∃ b o, A = some ⟨b, o, none⟩ ∧ W.cell? ⟨b, o + i, none⟩ = some (.int .i64 (f i)) from fun i hi => by
            obtain ⟨b, o, h1, _, h3⟩ := H (by omega)
            exact ⟨b, o, h1, h3 i hi⟩)
          obtain ⟨bA, oA, rfl, _, hcc⟩ := H (by omega)
          have HC := Lib.hid hcc
          clear hf H ih hg hcc hsd hsl hs0
          go_enter Try.func15, Try.ntmps15
          go_wp2_with fail
          go_loop [12, 13, 14] (fun x y z => ∃ (j p : Nat), z = .int .i64 j ∧ y = .int .i64 p ∧ x = .int .i64 (enc (lp g j)) ∧ j ≤ co + 1 ∧ p = s * pre f N fr j) (fun _ _ z => co + 1 - (intOf z).toNat)
          case atStart => exact ⟨0, 0, rfl, rfl, rfl, by omega, by unfold pre; simp [sm]⟩
          case round =>
            obtain ⟨j, p, rfl, rfl, rfl, q1, hp0⟩ := hrel
            have HPE := Lib.hid hp0.symm
            clear hp0
            have hpb : p ≤ 7208960 := by rw [← HPE.out]; exact HP.out j q1
            by_cases c2 : j ≤ co
            · obtain ⟨o, ho⟩ : ∃ o, B f N L d (fr + j) (2 * (co - j)) = o := ⟨_, rfl⟩
              have hox := HX.out j
              have hgj := HG.out j
              rw [ho] at hgj hox
              rw [HPE.out] at hgj
              obtain ⟨t, ht⟩ : ∃ t, fr + j = t := ⟨_, rfl⟩
              obtain ⟨r, hr⟩ : ∃ r, 2 * (co - j) = r := ⟨_, rfl⟩
              have y1 : (fr : Int) + (j : Int) = (t : Int) := by omega
              have y2 : 2 * ((co : Int) - (j : Int)) = (r : Int) := by omega
              have y3 : (s : Int) + 1 = ((s + 1 : Nat) : Int) := by omega
              obtain ⟨s1, hs1⟩ : ∃ s1, s + 1 = s1 := ⟨_, rfl⟩
              rw [hs1] at y3
              have CALL := Lib.hid (IH.out (by omega) t r s1 (by have := HSS.out; omega) (by omega) (by omega))
              rw [← ht, ← hr, ho] at CALL
              rw [ht, hr] at CALL
              have y4 : (co : Int) - (j : Int) = ((co - j : Nat) : Int) := by omega
              obtain ⟨cj, hcj⟩ : ∃ cj, co - j = cj := ⟨_, rfl⟩
              rw [hcj] at y4
              have y5 : 2 * (cj : Int) = (r : Int) := by omega
              have LP : Hid (lp g (j + 1) = bmin (lp g j) (g j)) := Lib.hid rfl
              obtain ⟨b, hb⟩ : ∃ b, lp g j = b := ⟨_, rfl⟩
              have hbx := HB.out j
              rw [hb] at LP hbx ⊢
              rw [hgj] at LP
              have HT := Lib.hid ht
              have HR := Lib.hid hr
              clear ho hb hgj ht hr hs1 y2 hcj
              cases o with
              | none =>
                rw [show Option.map (fun x => x + p) (none : Option Nat) = none from rfl, bmin_none] at LP
                simp only [enc] at CALL
                clear hox
                cases b with
                | none =>
                  simp only [enc]
                  go_wp2_with fail
                  refine CALL.out.mono ?_; rintro x1 w1 ⟨rfl, rfl⟩
                  have y1 := y1
                  by_cases c9 : t < N
                  · have hcell := HC.out t c9
                    obtain ⟨y, hy⟩ : ∃ y, f t = y := ⟨_, rfl⟩
                    have hy65 : y ≤ 65536 := by rw [← hy]; exact HF.out _
                    simp only [hy] at hcell
                    obtain ⟨q, hq⟩ : ∃ q, s * y = q := ⟨_, rfl⟩
                    have hq1 : q ≤ 655360 := by rw [← hq]; exact Nat.le_trans (Nat.mul_le_mul hs10 hy65) (by decide)
                    have z2 : (s : Int) * (y : Int) = (q : Int) := by rw [← hq]; push_cast; rfl
                    have PS := Lib.hid (show s * pre f N fr (j + 1) = p + q by
                      have hp := HPE.out
                      unfold pre at hp ⊢
                      simp only [sm]
                      rw [Nat.mul_add, hp, HT.out, if_pos c9, hy, hq])
                    clear hy hq
                    go_wp2_with fail
                    go_round
                    case rel => exact ⟨j + 1, p + q, by go_num, by go_num, (by rw [LP.out] <;> rfl), by omega, PS.out.symm⟩
                    case measure => simp [intOf]; omega
                  · have PS := Lib.hid (show s * pre f N fr (j + 1) = p by
                      have hp := HPE.out
                      unfold pre at hp ⊢
                      simp only [sm]
                      rw [HT.out, if_neg c9, Nat.add_zero]; exact hp)
                    go_wp2_with fail
                    go_round
                    case rel => exact ⟨j + 1, p, by go_num, rfl, (by rw [LP.out] <;> rfl), by omega, PS.out.symm⟩
                    case measure => simp [intOf]; omega
                | some bv =>
                  have hb20 := hbx bv q1 rfl
                  clear hbx
                  simp only [enc]
                  go_wp2_with fail
                  refine CALL.out.mono ?_; rintro x1 w1 ⟨rfl, rfl⟩
                  have y1 := y1
                  by_cases c9 : t < N
                  · have hcell := HC.out t c9
                    obtain ⟨y, hy⟩ : ∃ y, f t = y := ⟨_, rfl⟩
                    have hy65 : y ≤ 65536 := by rw [← hy]; exact HF.out _
                    simp only [hy] at hcell
                    obtain ⟨q, hq⟩ : ∃ q, s * y = q := ⟨_, rfl⟩
                    have hq1 : q ≤ 655360 := by rw [← hq]; exact Nat.le_trans (Nat.mul_le_mul hs10 hy65) (by decide)
                    have z2 : (s : Int) * (y : Int) = (q : Int) := by rw [← hq]; push_cast; rfl
                    have PS := Lib.hid (show s * pre f N fr (j + 1) = p + q by
                      have hp := HPE.out
                      unfold pre at hp ⊢
                      simp only [sm]
                      rw [Nat.mul_add, hp, HT.out, if_pos c9, hy, hq])
                    clear hy hq
                    go_wp2_with fail
                    go_round
                    case rel => exact ⟨j + 1, p + q, by go_num, by go_num, (by rw [LP.out] <;> rfl), by omega, PS.out.symm⟩
                    case measure => simp [intOf]; omega
                  · have PS := Lib.hid (show s * pre f N fr (j + 1) = p by
                      have hp := HPE.out
                      unfold pre at hp ⊢
                      simp only [sm]
                      rw [HT.out, if_neg c9, Nat.add_zero]; exact hp)
                    go_wp2_with fail
                    go_round
                    case rel => exact ⟨j + 1, p, by go_num, rfl, (by rw [LP.out] <;> rfl), by omega, PS.out.symm⟩
                    case measure => simp [intOf]; omega
              | some xv =>
                have hx65 := hox xv c2 rfl
                rw [show Option.map (fun x => x + p) (some xv) = some (xv + p) from rfl] at LP
                simp only [enc] at CALL
                have u1 : (xv : Int) + (p : Int) = ((xv + p : Nat) : Int) := by omega
                obtain ⟨a, ha⟩ : ∃ a, xv + p = a := ⟨_, rfl⟩
                rw [ha] at u1 LP
                have ha1 : a ≤ 20000000 := by omega
                clear hox
                cases b with
                | none =>
                  have LP2 : Hid (lp g (j + 1) = some a) := Lib.hid LP.out
                  clear ha
                  simp only [enc]
                  go_wp2_with fail
                  refine CALL.out.mono ?_; rintro x1 w1 ⟨rfl, rfl⟩
                  have y1 := y1
                  by_cases c9 : t < N
                  · have hcell := HC.out t c9
                    obtain ⟨y, hy⟩ : ∃ y, f t = y := ⟨_, rfl⟩
                    have hy65 : y ≤ 65536 := by rw [← hy]; exact HF.out _
                    simp only [hy] at hcell
                    obtain ⟨q, hq⟩ : ∃ q, s * y = q := ⟨_, rfl⟩
                    have hq1 : q ≤ 655360 := by rw [← hq]; exact Nat.le_trans (Nat.mul_le_mul hs10 hy65) (by decide)
                    have z2 : (s : Int) * (y : Int) = (q : Int) := by rw [← hq]; push_cast; rfl
                    have PS := Lib.hid (show s * pre f N fr (j + 1) = p + q by
                      have hp := HPE.out
                      unfold pre at hp ⊢
                      simp only [sm]
                      rw [Nat.mul_add, hp, HT.out, if_pos c9, hy, hq])
                    clear hy hq
                    go_wp2_with fail
                    go_round
                    case rel => exact ⟨j + 1, p + q, by go_num, by go_num, (by rw [LP2.out] <;> rfl), by omega, PS.out.symm⟩
                    case measure => simp [intOf]; omega
                  · have PS := Lib.hid (show s * pre f N fr (j + 1) = p by
                      have hp := HPE.out
                      unfold pre at hp ⊢
                      simp only [sm]
                      rw [HT.out, if_neg c9, Nat.add_zero]; exact hp)
                    go_wp2_with fail
                    go_round
                    case rel => exact ⟨j + 1, p, by go_num, rfl, (by rw [LP2.out] <;> rfl), by omega, PS.out.symm⟩
                    case measure => simp [intOf]; omega
                | some bv =>
                  have hb20 := hbx bv q1 rfl
                  clear hbx ha
                  simp only [enc]
                  by_cases c5 : a < bv
                  · have LP2 : Hid (lp g (j + 1) = some a) := Lib.hid (by rw [LP.out]; simp only [bmin]; rw [if_pos c5])
                    have d9 : decide (a < bv) = true := decide_eq_true c5
                    go_wp2_with fail
                    refine CALL.out.mono ?_; rintro x1 w1 ⟨rfl, rfl⟩
                    have y1 := y1
                    by_cases c9 : t < N
                    · have hcell := HC.out t c9
                      obtain ⟨y, hy⟩ : ∃ y, f t = y := ⟨_, rfl⟩
                      have hy65 : y ≤ 65536 := by rw [← hy]; exact HF.out _
                      simp only [hy] at hcell
                      obtain ⟨q, hq⟩ : ∃ q, s * y = q := ⟨_, rfl⟩
                      have hq1 : q ≤ 655360 := by rw [← hq]; exact Nat.le_trans (Nat.mul_le_mul hs10 hy65) (by decide)
                      have z2 : (s : Int) * (y : Int) = (q : Int) := by rw [← hq]; push_cast; rfl
                      have PS := Lib.hid (show s * pre f N fr (j + 1) = p + q by
                        have hp := HPE.out
                        unfold pre at hp ⊢
                        simp only [sm]
                        rw [Nat.mul_add, hp, HT.out, if_pos c9, hy, hq])
                      clear hy hq
                      go_wp2_with fail
                      go_round
                      case rel => exact ⟨j + 1, p + q, by go_num, by go_num, (by rw [LP2.out] <;> rfl), by omega, PS.out.symm⟩
                      case measure => simp [intOf]; omega
                    · have PS := Lib.hid (show s * pre f N fr (j + 1) = p by
                        have hp := HPE.out
                        unfold pre at hp ⊢
                        simp only [sm]
                        rw [HT.out, if_neg c9, Nat.add_zero]; exact hp)
                      go_wp2_with fail
                      go_round
                      case rel => exact ⟨j + 1, p, by go_num, rfl, (by rw [LP2.out] <;> rfl), by omega, PS.out.symm⟩
                      case measure => simp [intOf]; omega
                  · have LP2 : Hid (lp g (j + 1) = some bv) := Lib.hid (by rw [LP.out]; simp only [bmin]; rw [if_neg c5])
                    have d9 : decide (a < bv) = false := decide_eq_false c5
                    go_wp2_with fail
                    refine CALL.out.mono ?_; rintro x1 w1 ⟨rfl, rfl⟩
                    have y1 := y1
                    by_cases c9 : t < N
                    · have hcell := HC.out t c9
                      obtain ⟨y, hy⟩ : ∃ y, f t = y := ⟨_, rfl⟩
                      have hy65 : y ≤ 65536 := by rw [← hy]; exact HF.out _
                      simp only [hy] at hcell
                      obtain ⟨q, hq⟩ : ∃ q, s * y = q := ⟨_, rfl⟩
                      have hq1 : q ≤ 655360 := by rw [← hq]; exact Nat.le_trans (Nat.mul_le_mul hs10 hy65) (by decide)
                      have z2 : (s : Int) * (y : Int) = (q : Int) := by rw [← hq]; push_cast; rfl
                      have PS := Lib.hid (show s * pre f N fr (j + 1) = p + q by
                        have hp := HPE.out
                        unfold pre at hp ⊢
                        simp only [sm]
                        rw [Nat.mul_add, hp, HT.out, if_pos c9, hy, hq])
                      clear hy hq
                      go_wp2_with fail
                      go_round
                      case rel => exact ⟨j + 1, p + q, by go_num, by go_num, (by rw [LP2.out] <;> rfl), by omega, PS.out.symm⟩
                      case measure => simp [intOf]; omega
                    · have PS := Lib.hid (show s * pre f N fr (j + 1) = p by
                        have hp := HPE.out
                        unfold pre at hp ⊢
                        simp only [sm]
                        rw [HT.out, if_neg c9, Nat.add_zero]; exact hp)
                      go_wp2_with fail
                      go_round
                      case rel => exact ⟨j + 1, p, by go_num, rfl, (by rw [LP2.out] <;> rfl), by omega, PS.out.symm⟩
                      case measure => simp [intOf]; omega
            · obtain rfl : j = co + 1 := by omega
              have d5 : decide ((co : Int) + 1 ≤ (co : Int)) = false := decide_eq_false (by omega)
              go_wp2_with fail
              go_ret
              exact ⟨by rw [HV.out]; rfl, rfl⟩
end Go.Proofs.Yteicamfelamfhaa
