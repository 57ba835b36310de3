/- The law that all lengths, and all distances, are just what all symbols tell: the walk. Conditions: as each theorem names them. -/
import Derived.Test.YtobcgieblidjcaaDoorSyF
import Derived.Test.YtobcgieblidjcaaDoorTyD
import Derived.Deep.CutRange
namespace Go.Proofs.YtobcgieblidjcaaDoor
open Go Go.RowKit M
set_option linter.unusedVariables false
set_option linter.unusedSimpArgs false

/-- how many lengths the symbols below s tell -/
def cl (s : Nat) : Nat := if s ≤ 257 then 0 else if s ≤ 285 then ll (s - 257) - 3 else 256
/-- how many distances -/
def cd (s : Nat) : Nat := if s ≤ 29 then dl s - 1 else 32768
theorem cl_at {i : Nat} (hi : i ≤ 28) : cl (257 + i) + 3 = ll i := by
  have h3 : ∀ i, i ≤ 28 → cl (257 + i) + 3 = ll i := by decide
  exact h3 i hi
theorem cl_next {i : Nat} (hi : i ≤ 28) : cl (257 + i + 1) = cl (257 + i) + ls i := by
  have h3 : ∀ i, i ≤ 28 → cl (257 + i + 1) = cl (257 + i) + ls i := by decide
  exact h3 i hi
theorem cl_same {s : Nat} (h : s < 257 ∨ 285 < s) : cl (s + 1) = cl s := by
  unfold cl
  rcases h with h | h
  · rw [if_pos (by omega), if_pos (by omega)]
  · rw [if_neg (by omega), if_neg (by omega), if_neg (by omega), if_neg (by omega)]
theorem cl_le (s : Nat) : cl s ≤ 256 := by
  unfold cl
  split
  · omega
  · split
    · have := ll_le (s - 257) (by omega); omega
    · omega
theorem cd_at {s : Nat} (hs : s ≤ 29) : cd s + 1 = dl s := by
  have h3 : ∀ i, i ≤ 29 → cd i + 1 = dl i := by decide
  exact h3 s hs
theorem cd_next {s : Nat} (hs : s ≤ 29) : cd (s + 1) = cd s + 2 ^ db s := by
  have h3 : ∀ i, i ≤ 29 → cd (i + 1) = cd i + 2 ^ db i := by decide
  exact h3 s hs
theorem cd_le (s : Nat) : cd s ≤ 32768 := by
  unfold cd
  split
  · have := dl_le s (by omega); omega
  · omega
/-- a power, as the shift leaves it -/
theorem pw32 {b : Nat} (hb : b ≤ 13) : ((2 : Int) ^ b % 4294967296 = ((2 ^ b : Nat) : Int) ∧ ∀ r : Nat, r < 1000 → ((2 : Int) ^ b + (r : Int)) % 4294967296 = ((2 ^ b : Nat) : Int) + (r : Int)) ∧ 1 ≤ 2 ^ b ∧ 2 ^ b ≤ 8192 := by
  have h1 : ((2 : Int) ^ b) = ((2 ^ b : Nat) : Int) := by rw [Int.natCast_pow]; rfl
  have h2 : 2 ^ b ≤ 8192 := Nat.le_trans (Nat.pow_le_pow_right (by decide) hb) (by decide)
  have h3 : 1 ≤ 2 ^ b := Nat.two_pow_pos b
  refine ⟨?_, h3, h2⟩
  obtain ⟨y, hy⟩ : ∃ y, 2 ^ b = y := ⟨_, rfl⟩
  rw [h1, hy]
  rw [hy] at h2
  exact ⟨by omega, fun r hr => by omega⟩

set_option maxRecDepth 1000000 in
set_option maxHeartbeats 4000000 in
theorem SymbolAll_walk (a0 : Int) (W : World) (w0 : (Lit.int .u32 a0).wf = true) (H : Tab W) :
    Calls Tryd.prog 5 #[.int .u32 a0] W fun y w' => y = .returned (.bool true) ∧ Below W.heap.size W w' := by
  obtain ⟨q, rfl, hq⟩ := u32_nat w0
  have HW := Lib.hid works_any
  have HT := Lib.hid H
  have hq1 : (q : Int) % 1000 = ((q % 1000 : Nat) : Int) := by omega
  have hq2 : q % 1000 < 1000 := by omega
  obtain ⟨r, hr⟩ : ∃ r, q % 1000 = r := ⟨_, rfl⟩
  rw [hr] at hq1 hq2
  clear H w0 hr
  go_enter Tryd.func5, Tryd.ntmps5
  go_wp2_with fail
  go_loopw [3, 4] (fun v i wr => ∃ s : Nat, s ≤ 400 ∧ i = .int .i64 s ∧ v = .int .i64 (cl s : Nat) ∧ Below W.heap.size W wr) (fun _ i _ => 400 - (intOf i).toNat)
  case atStart => exact ⟨0, by omega, rfl, rfl, Below.refl _ _⟩
  case round =>
    obtain ⟨s, hs, rfl, rfl, hb⟩ := hrel
    have HB := Lib.hid hb
    clear hb
    by_cases hlt : s < 400
    · have hlt' : decide ((s : Int) < 400) = true := decide_eq_true (by omega)
      by_cases hsy : s < 257 ∨ 285 < s
      · have HC := Lib.hid (cl_same hsy)
        have HQ := Lib.hid (fun w (h : Tab w) => lbits_no s w h (by omega))
        clear hsy
        go_wp2_with (go_at_call 12; (with_reducible refine (HQ.out _ (HT.out.below HB.out (Nat.le_refl _))).mono ?_); rintro y w1 ⟨rfl, b1⟩; have B1 := Lib.hid (HB.out.trans (b1.mono HB.out.size)); clear b1)
        exact ⟨⟨s + 1, by omega, by go_num, by rw [HC.out], B1.out⟩, by simp [intOf]; omega⟩
      · have hi : s - 257 ≤ 28 := by omega
        obtain ⟨i, hse⟩ : ∃ i, s = 257 + i := ⟨s - 257, by omega⟩
        obtain rfl := hse
        rw [Nat.add_sub_cancel_left] at hi
        have hcl := cl_at hi
        have hls := ls_le hi
        have hcle := cl_le (257 + i)
        have HCN := Lib.hid (cl_next hi)
        have hb5 := lb_le i hi
        have HQ := Lib.hid (fun w (h : Tab w) => lbits_yes i (257 + (i : Int)) w h hi rfl)
        have HO := Lib.hid (fun (e : Nat) w (h : Tab w) => lengthOf_yes i e (257 + (i : Int)) w h hi rfl)
        have HV := Lib.hid (fun (e : Nat) => (show (e < ls i → lof i e = ll i + e) ∧ (¬ e < ls i → lof i e = 0) from ⟨fun g => by unfold lof; rw [if_pos ⟨hi, g⟩], fun g => by unfold lof; rw [if_neg (fun z => g z.2)]⟩))
        obtain ⟨hw, hp1, hp2⟩ := pw32 (b := lb i) (by omega)
        have hp32 : 2 ^ lb i ≤ 32 := Nat.le_trans (Nat.pow_le_pow_right (by decide) hb5) (by decide)
        obtain ⟨p, hp⟩ : ∃ p, 2 ^ lb i = p := ⟨_, rfl⟩
        obtain ⟨b, hbe⟩ : ∃ b, lb i = b := ⟨_, rfl⟩
        obtain ⟨m, hme⟩ : ∃ m, ls i = m := ⟨_, rfl⟩
        obtain ⟨c, hce⟩ : ∃ c, cl (257 + i) = c := ⟨_, rfl⟩
        obtain ⟨u, hue⟩ : ∃ u, ll i = u := ⟨_, rfl⟩
        rw [hp] at hw hp1 hls hp32
        rw [hbe] at hw HQ hb5
        rw [hme] at hls HCN HV
        rw [hce] at hcl HCN hcle ⊢
        rw [hue] at hcl HV
        have HWP := Lib.hid hw
        clear hsy hp2 hp hbe hme hce hue hw
        go_wp2_with (go_at_call 12; (with_reducible refine (HQ.out _ (HT.out.below HB.out (Nat.le_refl _))).mono ?_); rintro y w1 ⟨rfl, b1⟩; have B1 := Lib.hid (HB.out.trans (b1.mono HB.out.size)); clear b1)
        go_loopw [3, 7] (fun v x wr => ∃ e : Nat, e ≤ p ∧ x = .int .u32 e ∧ v = .int .i64 (c + min e m : Nat) ∧ Below W.heap.size W wr) (fun _ x _ => p - (intOf x).toNat)
        case atStart => exact ⟨0, by omega, rfl, by simp, B1.out⟩
        case round =>
          obtain ⟨e, he, rfl, rfl, hb⟩ := hrel
          have HE := Lib.hid hb
          clear hb
          by_cases hep : e < p
          · have hd1 : decide ((e : Int) < (2 : Int) ^ b % 4294967296) = true := decide_eq_true (by rw [HWP.out.1]; omega)
            by_cases hem : e < m
            · have hv := (HV.out e).1 hem
              have HOE := Lib.hid (HO.out e wr (HT.out.below HE.out (Nat.le_refl _)))
              rw [hv, decide_eq_true (show 0 < u + e by omega)] at HOE
              have hmin : c + min e m = c + e := by rw [Nat.min_eq_left (Nat.le_of_lt hem)]
              rw [hmin]
              have HM := Lib.hid (show c + min (e + 1) m = c + e + 1 by rw [Nat.min_eq_left hem]; rfl)
              have HDE := Lib.hid hd1
              have hue : (u : Int) + e = (c : Int) + e + 3 := by omega
              have hu600 : u ≤ 600 := by omega
              clear hv hmin
              go_wp2_with (go_at_call 14; (with_reducible refine HOE.out.mono ?_); rintro y w2 ⟨rfl, b1⟩; have B2 := Lib.hid (HE.out.trans (b1.mono HE.out.size)); clear b1)
              exact ⟨⟨e + 1, by omega, by go_num, by rw [HM.out]; go_num, B2.out⟩, by simp [intOf]; omega⟩
            · have hv := (HV.out e).2 hem
              have HOE := Lib.hid (HO.out e wr (HT.out.below HE.out (Nat.le_refl _)))
              rw [hv, show decide (0 < 0) = false from rfl] at HOE
              have HM := Lib.hid (show c + min (e + 1) m = c + min e m by rw [Nat.min_eq_right (by omega), Nat.min_eq_right (by omega)])
              clear hv
              go_wp2_with (go_at_call 14; (with_reducible refine HOE.out.mono ?_); rintro y w2 ⟨rfl, b1⟩; have B2 := Lib.hid (HE.out.trans (b1.mono HE.out.size)); clear b1)
              exact ⟨⟨e + 1, by omega, by go_num, by rw [HM.out]; go_num, B2.out⟩, by simp [intOf]; omega⟩
          · obtain rfl : e = p := by omega
            have hd1 : decide ((e : Int) < (2 : Int) ^ b % 4294967296) = false := decide_eq_false (by rw [HWP.out.1]; omega)
            have hv := (HV.out (e + r)).2 (by omega)
            have HOE := Lib.hid (HO.out (e + r) wr (HT.out.below HE.out (Nat.le_refl _)))
            rw [hv, show decide (0 < 0) = false from rfl, Int.natCast_add, ← HWP.out.2 r hq2] at HOE
            clear hv
            go_wp2_with (go_at_call 14; (with_reducible refine HOE.out.mono ?_); rintro y w2 ⟨rfl, b1⟩; have B2 := Lib.hid (HE.out.trans (b1.mono HE.out.size)); clear b1)
            have hmm : c + min e m = c + m := by rw [Nat.min_eq_right hls]
            exact ⟨⟨257 + i + 1, by omega, by go_num, by rw [HCN.out]; go_num, B2.out⟩, by simp [intOf]; omega⟩
    · obtain rfl : s = 400 := by omega
      have h400 : cl 400 = 256 := rfl
      rw [h400]
      clear hs hlt
      go_wp2_with fail
      go_loopw [12, 13] (fun v i wr => ∃ s : Nat, s ≤ 40 ∧ i = .int .i64 s ∧ v = .int .i64 (cd s : Nat) ∧ Below W.heap.size W wr) (fun _ i _ => 40 - (intOf i).toNat)
      case atStart => exact ⟨0, by omega, rfl, rfl, HB.out⟩
      case round =>
        obtain ⟨s, hs, rfl, rfl, hb⟩ := hrel
        have HD := Lib.hid hb
        clear hb HB
        by_cases hlt : s < 40
        · by_cases hsy : 29 < s
          · have HC := Lib.hid (show cd (s + 1) = cd s by unfold cd; rw [if_neg (by omega), if_neg (by omega)])
            have HQ := Lib.hid (fun w (h : Tab w) => dbits_no s w h (.inr (by omega)))
            clear hsy
            go_wp2_with (go_at_call 13; (with_reducible refine (HQ.out _ (HT.out.below HD.out (Nat.le_refl _))).mono ?_); rintro y w1 ⟨rfl, b1⟩; have B1 := Lib.hid (HD.out.trans (b1.mono HD.out.size)); clear b1)
            go_roundw
            case rel => (repeat apply Exists.intro); exact ⟨⟨s + 1, by omega, by go_num, by rw [HC.out], B1.out⟩, rfl⟩
            case measure => simp [intOf]; omega
          · have hi : s ≤ 29 := by omega
            have hcd := cd_at hi
            have hcde := cd_le s
            have HCN := Lib.hid (cd_next hi)
            have hb13 := db_le s hi
            have HQ := Lib.hid (fun w (h : Tab w) => dbits_yes s (s : Int) w h hi rfl)
            have HO := Lib.hid (fun (e : Nat) w (h : Tab w) => distOf_yes s e (s : Int) w h hi rfl)
            have HV := Lib.hid (fun (e : Nat) => (show e < 2 ^ db s → dof s e = dl s + e from fun g => by unfold dof; rw [if_pos ⟨hi, g⟩]))
            obtain ⟨hw, hp1, hp2⟩ := pw32 (b := db s) hb13
            obtain ⟨p, hp⟩ : ∃ p, 2 ^ db s = p := ⟨_, rfl⟩
            rw [hp] at hw hp1 hp2 HCN HV
            obtain ⟨b, hbe⟩ : ∃ b, db s = b := ⟨_, rfl⟩
            obtain ⟨c, hce⟩ : ∃ c, cd s = c := ⟨_, rfl⟩
            obtain ⟨u, hue⟩ : ∃ u, dl s = u := ⟨_, rfl⟩
            rw [hbe] at hw HQ hb13
            rw [hce] at hcd HCN hcde ⊢
            rw [hue] at hcd HV
            have HWP := Lib.hid hw
            clear hsy hp hbe hce hue hw
            go_wp2_with (go_at_call 13; (with_reducible refine (HQ.out _ (HT.out.below HD.out (Nat.le_refl _))).mono ?_); rintro y w1 ⟨rfl, b1⟩; have B1 := Lib.hid (HD.out.trans (b1.mono HD.out.size)); clear b1)
            go_loopw [12, 16] (fun v x wr => ∃ e : Nat, e ≤ p ∧ x = .int .u32 e ∧ v = .int .i64 (c + e : Nat) ∧ Below W.heap.size W wr) (fun _ x _ => p - (intOf x).toNat)
            case atStart => exact ⟨0, by omega, rfl, by simp, B1.out⟩
            case round =>
              obtain ⟨e, he, rfl, rfl, hb⟩ := hrel
              have HE := Lib.hid hb
              clear hb
              by_cases hep : e < p
              · have hd1 : decide ((e : Int) < (2 : Int) ^ b % 4294967296) = true := decide_eq_true (by rw [HWP.out.1]; omega)
                have hv := HV.out e hep
                have HOE := Lib.hid (HO.out e wr (HT.out.below HE.out (Nat.le_refl _)))
                rw [hv, decide_eq_true (show 0 < u + e by omega)] at HOE
                have hue : (u : Int) + e = (c : Int) + e + 1 := by omega
                have hu600 : u ≤ 40000 := by omega
                clear hv
                go_wp2_with (go_at_call 15; (with_reducible refine HOE.out.mono ?_); rintro y w2 ⟨rfl, b1⟩; have B2 := Lib.hid (HE.out.trans (b1.mono HE.out.size)); clear b1)
                exact ⟨⟨e + 1, by omega, by go_num, by go_num, B2.out⟩, by simp [intOf]; omega⟩
              · obtain rfl : e = p := by omega
                have hd1 : decide ((e : Int) < (2 : Int) ^ b % 4294967296) = false := decide_eq_false (by rw [HWP.out.1]; omega)
                go_wp2_with fail
                go_roundw
                case rel => (repeat apply Exists.intro); exact ⟨⟨s + 1, by omega, by go_num, by rw [HCN.out], HE.out⟩, rfl⟩
                case measure => simp [intOf]; omega
        · obtain rfl : s = 40 := by omega
          have h40 : cd 40 = 32768 := rfl
          rw [h40]
          go_wp2_with (go_at_call 18; (with_reducible refine (HW.out _ (HT.out.below HD.out (Nat.le_refl _))).mono ?_); rintro y w1 ⟨rfl, b1⟩; have B1 := Lib.hid (HD.out.trans (b1.mono HD.out.size)); clear b1)
          go_ret
          exact ⟨by simp, B1.out⟩
end Go.Proofs.YtobcgieblidjcaaDoor
