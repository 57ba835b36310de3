/- Texts of one place, one behind the other: CnA, CnB. -/
import Derived.Test.YtolcaknhjjejeaaDoorCArs
import Derived.Test.YtolcaknhjjejeaaDoorCLay
import Derived.RegionTactic
import Derived.BigRegion
namespace Go.Proofs.YtolcaknhjjejeaaDoor
open Go.RowKit M
set_option linter.unusedVariables false
def mayB (l : Nat → Nat) (n : Nat) : Bool := decide (May l n)
theorem mayB_true {l : Nat → Nat} {n : Nat} (h : May l n) : mayB l n = true := decide_eq_true h
theorem mayB_false {l : Nat → Nat} {n : Nat} (h : ¬ May l n) : mayB l n = false := decide_eq_false h
theorem may_any (A : Option Addr) (n c : Nat) (l : Nat → Nat) (w : World) (hn : n ≤ maxLen) (hl : ∀ i, l i ≤ 255) (H : Nums w .u8 A n (fun i => (l i : Int))) :
    Calls Tryd.prog 60 #[.slice A n c] w fun e w' => e = .returned (.bool (mayB l n)) ∧ w = w' := by
  have hn' : n ≤ 9223372036854775807 := by unfold maxLen at hn; omega
  clear hn
  have HL := Lib.hid hl
  clear hl
  by_cases h3 : n ≤ 320
  · go_enter Tryd.func60, Tryd.ntmps60
    go_wp2
    go_loop [10] (fun i => ∃ k : Nat, k ≤ n ∧ i = .int .i64 k ∧ Hid (∀ j, j < k → l j ≤ 15)) (fun i => n - (intOf i).toNat)
    case atStart => exact ⟨0, Nat.zero_le _, rfl, Lib.hid (fun j hj => by omega)⟩
    case round =>
      obtain ⟨k, hk, rfl, hsm⟩ := hrel
      by_cases hlt : k < n
      · obtain ⟨b, o, rfl, hb, hc⟩ := H (by omega)
        have hcell := hc k hlt
        have h255 := HL.out k
        have HH := Lib.hid hc
        clear hc
        by_cases h15 : l k ≤ 15
        · go_wp2
          go_round
          case rel => exact ⟨k + 1, by omega, by go_num, Lib.hid (fun j hj => by
            by_cases e : j = k
            · rw [e]; exact h15
            · exact hsm.out j (by omega))⟩
          case measure => simp [intOf]; omega
        · have hv := Lib.hid (mayB_false (l := l) (n := n) (fun g => h15 (g.2 k hlt)))
          go_wp2
          go_ret
          exact ⟨by rw [hv.out]; rfl, rfl⟩
      · obtain rfl : k = n := by omega
        have hv := Lib.hid (mayB_true (l := l) (n := k) ⟨h3, hsm.out⟩)
        go_wp2
        go_ret
        exact ⟨by rw [hv.out]; rfl, rfl⟩
  · have hv := Lib.hid (mayB_false (l := l) (n := n) (fun g => h3 g.1))
    go_enter Tryd.func60, Tryd.ntmps60
    go_wp2
    go_ret
    exact ⟨by rw [hv.out]; rfl, rfl⟩
set_option maxHeartbeats 1000000 in
theorem count_any (A : Option Addr) (n c : Nat) (l : Nat → Nat) (W : World) (hm : May l n) (H : Nums W .u8 A n (fun i => (l i : Int))) :
    Calls Tryd.prog 61 #[.slice A n c] W fun e w' => e = .returned (.agg (TV (c0 l n))) ∧ Below W.heap.size W w' := by
  have hz := arrZero
  have hn' : n ≤ 320 := hm.1
  have HL := Lib.hid hm.2
  clear hm
  go_enter Tryd.func61, Tryd.ntmps61
  go_wp2_with fail
  clear hz
  go_loopw [8] (fun i wr => ∃ k : Nat, k ≤ n ∧ i = .int .i64 k ∧ Tb wr W.heap.size (fun _ => 0) ∧ Tb wr (W.heap.size + 1) (fun s => cnt l s k) ∧ Below W.heap.size W wr) (fun i _ => n - (intOf i).toNat)
  case atStart =>
    refine ⟨0, Nat.zero_le _, rfl, (Tb.made W _).alloc _, ?_, ((Below.refl _ _).alloc (Nat.le_refl _) _).alloc (by simp) _⟩
    have h := Tb.made (W.alloc (.cells (TV fun x => 0) 97)) (fun x => 0)
    rw [show (W.alloc (.cells (TV fun x => 0) 97)).heap.size = W.heap.size + 1 by simp] at h
    exact h.congr (fun i hi => rfl)
  case round =>
    obtain ⟨k, hk, rfl, ht0, ht1, hb⟩ := hrel
    by_cases hlt : k < n
    · obtain ⟨b, o, rfl, hbs, hc⟩ := H (by omega)
      have h15 := HL.out k hlt
      have hcell : wr.cell? ⟨b, o + k, none⟩ = some (.int .u8 (l k)) := (hb.cell hbs).trans (hc k hlt)
      obtain ⟨x, hx⟩ : ∃ x, l k = x := ⟨_, rfl⟩
      rw [hx] at h15 hcell
      have hcx := ht1.cell (show x < 16 by omega)
      have hf := ht1.frozen x
      have hle := cnt_le l x k
      have HX := Lib.hid hx
      have HT0 := Lib.hid ht0
      have HT1 := Lib.hid ht1
      have HB := Lib.hid hb
      have HC := Lib.hid hc
      clear ht0 ht1 hb hx hc
      go_wp2_with fail
      go_roundw
      case rel =>
        refine ⟨k + 1, by omega, by go_num, HT0.out.other (by simp) _, (HT1.out.set x (cnt l x k + 1)).congr ?_, HB.out.setCell (by simp) _⟩
        intro i hi
        simp only [cnt, HX.out]
        by_cases e : i = x
        · subst e; simp
        · rw [if_neg e, if_neg (fun g => e g.symm)]; rfl
      case measure => simp [intOf]; omega
    · obtain rfl : k = n := by omega
      have hcx := ht1.cell (show 0 < 16 by omega)
      have hf := ht1.frozen 0
      have ht2 := (ht1.set 0 0).congr (g := c0 l k) (fun i hi => by unfold c0; rfl)
      have ht3 := ht0.other (a := ⟨W.heap.size + 1, 0, none⟩) (by simp) (.int .u32 (0 : Nat))
      have hb2 := hb.setCell (p := ⟨W.heap.size + 1, 0, none⟩) (by simp) (.int .u32 (0 : Nat))
      have HT1 := Lib.hid ht2
      have HT0 := Lib.hid ht3
      have HB := Lib.hid hb2
      clear ht0 ht1 ht2 ht3 hb hb2
      go_wp2_with (first | (refine step_load _ rfl rfl _ rfl (c0 l k) HT1.out ?_) | (refine step_store_row rfl _ _ rfl _ _ (c0 l k) rfl rfl HT0.out ?_))
      have hr := HT0.out.setRow (c0 l k)
      refine bodyPost_ret (v := .agg (TV (c0 l k))) (results_cell_row rfl _ _ _ _ _ _ _ rfl hr.row Tryd.underlying97 rfl (arrSizeV (c0 l k))) rfl ⟨rfl, below_setRow HB.out _ _ (Nat.le_refl _)⟩
set_option maxHeartbeats 1000000 in
theorem weigh_any (c : Nat → Nat) (W : World) (hc : ∀ s, s < 16 → c s ≤ 320) :
    Calls Tryd.prog 62 #[.agg (TV c)] W fun e w' => e = .returned (.int .u32 (aw c 16)) ∧ Below W.heap.size W w' := by
  have HM := Lib.hid (Tb.made W c)
  have HB := Lib.hid ((Below.refl W.heap.size W).alloc (Nat.le_refl _) (.cells (TV c) 97))
  have HC := Lib.hid hc
  clear hc
  go_enter Tryd.func62, Tryd.ntmps62
  go_wp2_with (refine step_load _ rfl rfl _ rfl c HM.out ?_)
  go_loop [3, 7] (fun x i => ∃ k : Nat, k ≤ 16 ∧ i = .int .i64 k ∧ x = .int .u32 (aw c k)) (fun _ i => 16 - (intOf i).toNat)
  case atStart => exact ⟨0, Nat.zero_le _, rfl, rfl⟩
  case round =>
    obtain ⟨k, hk, rfl, rfl⟩ := hrel
    by_cases hlt : k < 16
    · have h320 := HC.out k hlt
      have hs := aw_small HC.out k hk
      have hv := Lib.hid (show aw c (k + 1) = aw c k + c k * 2 ^ (15 - k) from rfl)
      have hd : decide ((k : Int) < 16) = true := by simp; omega
      have hidx := fun w => idxA w c k hlt
      have hq : c k * 2 ^ (15 - k) ≤ 320 * 2 ^ 15 := Nat.mul_le_mul h320 (Nat.pow_le_pow_right (by omega) (by omega))
      obtain ⟨d, hdd⟩ : ∃ d, 15 - k = d := ⟨_, rfl⟩
      rw [hdd] at hq hv
      have HQ : Hid ((((aw c k : Nat) : Int) + (c k : Int) * 2 ^ d % 4294967296) % 4294967296 = ((aw c (k + 1) : Nat) : Int)) := Lib.hid (by
        rw [hv.out]
        have e : (c k : Int) * 2 ^ d = ((c k * 2 ^ d : Nat) : Int) := by push_cast; rfl
        rw [e]; omega)
      clear hq
      go_wp2_with fail
      go_round
      case rel => exact ⟨k + 1, by omega, by go_num, congrArg (Value.int .u32) HQ.out⟩
      case measure => simp [intOf]; omega
    · obtain rfl : k = 16 := by omega
      have hd : decide ((16 : Int) < 16) = false := by decide
      go_wp2_with fail
      go_ret
      exact ⟨rfl, HB.out⟩
set_option maxHeartbeats 1000000 in
theorem firsts_any (c : Nat → Nat) (W : World) (hc : ∀ s, s < 16 → c s ≤ 320) :
    Calls Tryd.prog 81 #[.agg (TV c)] W fun e w' => e = .returned (.agg (TV (fs c))) ∧ Below W.heap.size W w' := by
  have hz := arrZero
  have HC := Lib.hid hc
  clear hc
  go_enter Tryd.func81, Tryd.ntmps81
  go_wp2_with fail
  clear hz
  go_loopw [4] (fun i wr => ∃ k : Nat, k ≤ 15 ∧ i = .int .i64 ((k : Int) + 1) ∧ Tb wr W.heap.size c ∧ Tb wr (W.heap.size + 1) (fun _ => 0) ∧ Tb wr (W.heap.size + 2) (fun s => if s ≤ k then fs c s else 0) ∧ Below W.heap.size W wr) (fun i _ => 16 - (intOf i).toNat)
  case atStart =>
    refine ⟨0, Nat.zero_le _, rfl, ((Tb.made W _).alloc _).alloc _, ?_, ?_, (((Below.refl _ _).alloc (Nat.le_refl _) _).alloc (by simp) _).alloc (by simp; omega) _⟩
    · have h := Tb.made (W.alloc (.cells (TV c) 97)) (fun x => 0)
      rw [show (W.alloc (.cells (TV c) 97)).heap.size = W.heap.size + 1 by simp] at h
      exact h.alloc _
    · have h := Tb.made ((W.alloc (.cells (TV c) 97)).alloc (.cells (TV fun x => 0) 97)) (fun x => 0)
      rw [show ((W.alloc (.cells (TV c) 97)).alloc (.cells (TV fun x => 0) 97)).heap.size = W.heap.size + 2 by simp] at h
      refine h.congr (fun i hi => ?_)
      split
      · obtain rfl : i = 0 := by omega
        rfl
      · rfl
  case round =>
    obtain ⟨k, hk, rfl, ht0, ht1, ht2, hb⟩ := hrel
    by_cases hlt : k < 15
    · have g1 := ht0.cell (show k < 16 by omega)
      have g2 := ht2.cell (show k < 16 by omega)
      simp only [if_pos (Nat.le_refl k)] at g2
      have g3 := ht2.frozen (k + 1)
      have g4 := ht2.cell (show k + 1 < 16 by omega)
      have q1 := HC.out k (by omega)
      have q2 := fs_small HC.out k (by omega)
      have q3 : 2 ^ k ≤ 2 ^ 15 := Nat.pow_le_pow_right (by omega) (by omega)
      obtain ⟨x, hx⟩ : ∃ x, fs c k = x := ⟨_, rfl⟩
      obtain ⟨y, hy⟩ : ∃ y, c k = y := ⟨_, rfl⟩
      obtain ⟨z, hz⟩ : ∃ z, (if k + 1 ≤ k then fs c (k + 1) else 0) = z := ⟨_, rfl⟩
      rw [hx] at g2 q2
      rw [hy] at g1 q1
      rw [hz] at g4
      have w1 : IntKind.i64.wrap ((k : Int) + 1 - 1) = (k : Int) := by rw [IntWalk.i64_in _ (by omega)]; omega
      have w2 : IntKind.u32.wrap ((x : Int) + (y : Int)) = ((x + y : Nat) : Int) := by rw [IntKind.wrap_u32]; omega
      have w3 : IntKind.u32.wrap (((x + y : Nat) : Int) * 2 ^ 1) = (((x + y) * 2 : Nat) : Int) := by rw [IntKind.wrap_u32]; omega
      have w4 : ((k : Int)).toNat = k := by omega
      have w5 : ((k : Int) + 1).toNat = k + 1 := by omega
      have HT0 := Lib.hid ht0
      have HT1 := Lib.hid ht1
      have HT2 := Lib.hid ht2
      have HB := Lib.hid hb
      have HX := Lib.hid hx
      have HY := Lib.hid hy
      have HV : Hid (((x : Int) + (y : Int)) * 2 % 4294967296 = ((fs c (k + 1) : Nat) : Int)) := Lib.hid (by
        simp only [fs]; rw [hx, hy]; omega)
      clear ht0 ht1 ht2 hb hx hy hz q2 q3
      go_wp2_with fail
      go_region
      go_wp2_with fail
      go_roundw
      case rel =>
        refine ⟨k + 1, by omega, by go_num, (HT0.out.other (by simp <;> omega) _), (HT1.out.other (by simp <;> omega) _), ?_, (HB.out.setCell (by simp; omega) _).drew⟩
        have h := (HT2.out.set (k + 1) (fs c (k + 1))).congr (g := fun s => if s ≤ k + 1 then fs c s else 0) (fun i hi => by
          by_cases e : i = k + 1
          · subst e; simp
          · rw [if_neg e]
            by_cases e2 : i ≤ k
            · rw [if_pos e2, if_pos (by omega)]
            · rw [if_neg e2, if_neg (by omega)])
        rw [HV.out]
        exact h
      case measure => simp [intOf]; omega
    · obtain rfl : k = 15 := by omega
      have ht : Tb wr (W.heap.size + 2) (fs c) := ht2.congr (fun i hi => by rw [if_pos (by omega)])
      have HT1 := Lib.hid ht1
      have HT := Lib.hid ht
      have HB := Lib.hid hb
      clear ht0 ht1 ht2 ht hb
      go_wp2_with (first | (refine step_load _ rfl rfl _ rfl (fs c) HT.out ?_) | (refine step_store_row rfl _ _ rfl _ _ (fs c) rfl rfl HT1.out ?_))
      have hr := HT1.out.setRow (fs c)
      refine bodyPost_ret (v := .agg (TV (fs c))) (results_cell_row rfl _ _ _ _ _ _ _ rfl hr.row Tryd.underlying97 rfl (arrSizeV (fs c))) rfl ⟨rfl, below_setRow HB.out _ _ (by omega)⟩
end Go.Proofs.YtolcaknhjjejeaaDoor

namespace Go.Proofs.YtolcaknhjjejeaaDoor
open Go.RowKit M
set_option linter.unusedVariables false
set_option maxRecDepth 1000000
theorem kind_bad_any (A : Option Addr) (n c : Nat) (l : Nat → Nat) (W : World) (hn : n ≤ maxLen) (hl : ∀ i, l i ≤ 255) (H : Nums W .u8 A n (fun i => (l i : Int))) (hm : ¬ May l n) :
    Calls Tryd.prog 48 #[.slice A n c] W fun e w' => e = .returned (.int .u8 (kind l n)) ∧ Below W.heap.size W w' := by
  have hv := Lib.hid (kind_bad hm)
  have hb := Lib.hid (mayB_false hm)
  have HL := Lib.hid hl
  clear hm hl
  go_enter Tryd.func48, Tryd.ntmps48
  go_wp2_with fail
  refine (may_any A n c l _ hn HL.out H).mono ?_; rintro e w' ⟨rfl, rfl⟩
  rw [hb.out]
  go_wp2_with fail
  go_ret
  exact ⟨by rw [hv.out]; rfl, Below.refl _ _⟩
set_option maxHeartbeats 1000000 in
theorem kind_none_any (A : Option Addr) (n c : Nat) (l : Nat → Nat) (W : World) (hl : ∀ i, l i ≤ 255) (H : Nums W .u8 A n (fun i => (l i : Int))) (hm : May l n) (g x : Nat) (hg : g = weight l n) (hx : x = c0 l n 1) (e0 : g = 0) :
    Calls Tryd.prog 48 #[.slice A n c] W fun e w' => e = .returned (.int .u8 0) ∧ Below W.heap.size W w' := by
  have hz := arrZero
  have HL := Lib.hid hl
  have HM := Lib.hid hm
  have HN := Lib.hid (show n ≤ maxLen by have := hm.1; unfold maxLen; omega)
  have HX := Lib.hid hx
  have HG := Lib.hid (show aw (c0 l n) 16 = g by rw [hg]; exact aw_weight l n hm.2)
  have HC := Lib.hid (show ∀ s, s < 16 → c0 l n s ≤ 320 from fun s _ => Nat.le_trans (c0_le l n s) hm.1)
  have hb := Lib.hid (mayB_true hm)
  have d0 : ((g : Int) == 0) = true := by rw [beq_iff_eq]; omega
  clear hm hl hx hg e0
  go_enter Tryd.func48, Tryd.ntmps48
  go_wp2_with fail
  refine (may_any A n c l _ HN.out HL.out H).mono ?_; rintro e w' ⟨rfl, rfl⟩
  rw [hb.out]
  go_wp2_with fail
  refine (count_any A n c l _ HM.out H).mono ?_; rintro e w1 ⟨rfl, b1⟩
  have B1 := Lib.hid b1
  clear b1
  have T1 := Lib.hid (Tb.made w1 (c0 l n))
  go_wp2_with (first | (refine step_store rfl _ _ rfl _ (c0 l n) rfl rfl ?_) | (refine step_load _ rfl rfl _ rfl (c0 l n) T1.out ?_))
  clear hz
  refine (weigh_any (c0 l n) _ HC.out).mono ?_; rintro e w2 ⟨rfl, b2⟩
  rw [HG.out]
  have B2 := Lib.hid b2
  have T2 := Lib.hid (T1.out.below b2 (by simp))
  have hc1 := T2.out.cell (show 1 < 16 by decide)
  rw [← HX.out] at hc1
  clear b2
  go_wp2_with fail
  go_ret
  exact ⟨rfl, (B1.out.alloc B1.out.size _).trans (B2.out.mono (Nat.le_trans B1.out.size (by simp)))⟩
set_option maxHeartbeats 1000000 in
theorem kind_over_any (A : Option Addr) (n c : Nat) (l : Nat → Nat) (W : World) (hl : ∀ i, l i ≤ 255) (H : Nums W .u8 A n (fun i => (l i : Int))) (hm : May l n) (g x : Nat) (hg : g = weight l n) (hx : x = c0 l n 1) (e1 : 32768 < g) :
    Calls Tryd.prog 48 #[.slice A n c] W fun e w' => e = .returned (.int .u8 4) ∧ Below W.heap.size W w' := by
  have hz := arrZero
  have HL := Lib.hid hl
  have HM := Lib.hid hm
  have HN := Lib.hid (show n ≤ maxLen by have := hm.1; unfold maxLen; omega)
  have HX := Lib.hid hx
  have HG := Lib.hid (show aw (c0 l n) 16 = g by rw [hg]; exact aw_weight l n hm.2)
  have HC := Lib.hid (show ∀ s, s < 16 → c0 l n s ≤ 320 from fun s _ => Nat.le_trans (c0_le l n s) hm.1)
  have hb := Lib.hid (mayB_true hm)
  have d0 : ((g : Int) == 0) = false := by rw [beq_eq_false_iff_ne]; omega
  clear hm hl hx hg
  go_enter Tryd.func48, Tryd.ntmps48
  go_wp2_with fail
  refine (may_any A n c l _ HN.out HL.out H).mono ?_; rintro e w' ⟨rfl, rfl⟩
  rw [hb.out]
  go_wp2_with fail
  refine (count_any A n c l _ HM.out H).mono ?_; rintro e w1 ⟨rfl, b1⟩
  have B1 := Lib.hid b1
  clear b1
  have T1 := Lib.hid (Tb.made w1 (c0 l n))
  go_wp2_with (first | (refine step_store rfl _ _ rfl _ (c0 l n) rfl rfl ?_) | (refine step_load _ rfl rfl _ rfl (c0 l n) T1.out ?_))
  clear hz
  refine (weigh_any (c0 l n) _ HC.out).mono ?_; rintro e w2 ⟨rfl, b2⟩
  rw [HG.out]
  have B2 := Lib.hid b2
  have T2 := Lib.hid (T1.out.below b2 (by simp))
  have hc1 := T2.out.cell (show 1 < 16 by decide)
  rw [← HX.out] at hc1
  clear b2
  go_wp2_with fail
  go_ret
  exact ⟨rfl, (B1.out.alloc B1.out.size _).trans (B2.out.mono (Nat.le_trans B1.out.size (by simp)))⟩
set_option maxHeartbeats 1000000 in
theorem kind_whole_any (A : Option Addr) (n c : Nat) (l : Nat → Nat) (W : World) (hl : ∀ i, l i ≤ 255) (H : Nums W .u8 A n (fun i => (l i : Int))) (hm : May l n) (g x : Nat) (hg : g = weight l n) (hx : x = c0 l n 1) (e2 : g = 32768) :
    Calls Tryd.prog 48 #[.slice A n c] W fun e w' => e = .returned (.int .u8 2) ∧ Below W.heap.size W w' := by
  have hz := arrZero
  have HL := Lib.hid hl
  have HM := Lib.hid hm
  have HN := Lib.hid (show n ≤ maxLen by have := hm.1; unfold maxLen; omega)
  have HX := Lib.hid hx
  have HG := Lib.hid (show aw (c0 l n) 16 = g by rw [hg]; exact aw_weight l n hm.2)
  have HC := Lib.hid (show ∀ s, s < 16 → c0 l n s ≤ 320 from fun s _ => Nat.le_trans (c0_le l n s) hm.1)
  have hb := Lib.hid (mayB_true hm)
  have d0 : ((g : Int) == 0) = false := by rw [beq_eq_false_iff_ne]; omega
  have d1 : decide (32768 < (g : Int)) = false := decide_eq_false (by omega)
  have d2 : ((g : Int) == 32768) = true := by rw [beq_iff_eq]; omega
  clear hm hl hx hg e2
  go_enter Tryd.func48, Tryd.ntmps48
  go_wp2_with fail
  refine (may_any A n c l _ HN.out HL.out H).mono ?_; rintro e w' ⟨rfl, rfl⟩
  rw [hb.out]
  go_wp2_with fail
  refine (count_any A n c l _ HM.out H).mono ?_; rintro e w1 ⟨rfl, b1⟩
  have B1 := Lib.hid b1
  clear b1
  have T1 := Lib.hid (Tb.made w1 (c0 l n))
  go_wp2_with (first | (refine step_store rfl _ _ rfl _ (c0 l n) rfl rfl ?_) | (refine step_load _ rfl rfl _ rfl (c0 l n) T1.out ?_))
  clear hz
  refine (weigh_any (c0 l n) _ HC.out).mono ?_; rintro e w2 ⟨rfl, b2⟩
  rw [HG.out]
  have B2 := Lib.hid b2
  have T2 := Lib.hid (T1.out.below b2 (by simp))
  have hc1 := T2.out.cell (show 1 < 16 by decide)
  rw [← HX.out] at hc1
  clear b2
  go_wp2_with fail
  go_ret
  exact ⟨rfl, (B1.out.alloc B1.out.size _).trans (B2.out.mono (Nat.le_trans B1.out.size (by simp)))⟩
set_option maxHeartbeats 1000000 in
theorem kind_one_any (A : Option Addr) (n c : Nat) (l : Nat → Nat) (W : World) (hl : ∀ i, l i ≤ 255) (H : Nums W .u8 A n (fun i => (l i : Int))) (hm : May l n) (g x : Nat) (hg : g = weight l n) (hx : x = c0 l n 1) (e3 : g = 16384) (e4 : x = 1) :
    Calls Tryd.prog 48 #[.slice A n c] W fun e w' => e = .returned (.int .u8 1) ∧ Below W.heap.size W w' := by
  have hz := arrZero
  have HL := Lib.hid hl
  have HM := Lib.hid hm
  have HN := Lib.hid (show n ≤ maxLen by have := hm.1; unfold maxLen; omega)
  have HX := Lib.hid hx
  have HG := Lib.hid (show aw (c0 l n) 16 = g by rw [hg]; exact aw_weight l n hm.2)
  have HC := Lib.hid (show ∀ s, s < 16 → c0 l n s ≤ 320 from fun s _ => Nat.le_trans (c0_le l n s) hm.1)
  have hb := Lib.hid (mayB_true hm)
  have d0 : ((g : Int) == 0) = false := by rw [beq_eq_false_iff_ne]; omega
  have d1 : decide (32768 < (g : Int)) = false := decide_eq_false (by omega)
  have d2 : ((g : Int) == 32768) = false := by rw [beq_eq_false_iff_ne]; omega
  have d3 : ((x : Int) == 1) = true := by rw [beq_iff_eq]; omega
  have d4 : ((g : Int) == 16384) = true := by rw [beq_iff_eq]; omega
  clear hm hl hx hg e3 e4
  go_enter Tryd.func48, Tryd.ntmps48
  go_wp2_with fail
  refine (may_any A n c l _ HN.out HL.out H).mono ?_; rintro e w' ⟨rfl, rfl⟩
  rw [hb.out]
  go_wp2_with fail
  refine (count_any A n c l _ HM.out H).mono ?_; rintro e w1 ⟨rfl, b1⟩
  have B1 := Lib.hid b1
  clear b1
  have T1 := Lib.hid (Tb.made w1 (c0 l n))
  go_wp2_with (first | (refine step_store rfl _ _ rfl _ (c0 l n) rfl rfl ?_) | (refine step_load _ rfl rfl _ rfl (c0 l n) T1.out ?_))
  clear hz
  refine (weigh_any (c0 l n) _ HC.out).mono ?_; rintro e w2 ⟨rfl, b2⟩
  rw [HG.out]
  have B2 := Lib.hid b2
  have T2 := Lib.hid (T1.out.below b2 (by simp))
  have hc1 := T2.out.cell (show 1 < 16 by decide)
  rw [← HX.out] at hc1
  clear b2
  go_wp2_with fail
  go_ret
  exact ⟨rfl, (B1.out.alloc B1.out.size _).trans (B2.out.mono (Nat.le_trans B1.out.size (by simp)))⟩
set_option maxHeartbeats 1000000 in
theorem kind_less1_any (A : Option Addr) (n c : Nat) (l : Nat → Nat) (W : World) (hl : ∀ i, l i ≤ 255) (H : Nums W .u8 A n (fun i => (l i : Int))) (hm : May l n) (g x : Nat) (hg : g = weight l n) (hx : x = c0 l n 1) (e5 : g ≠ 0) (e6 : g < 32768) (e4 : x ≠ 1) :
    Calls Tryd.prog 48 #[.slice A n c] W fun e w' => e = .returned (.int .u8 3) ∧ Below W.heap.size W w' := by
  have hz := arrZero
  have HL := Lib.hid hl
  have HM := Lib.hid hm
  have HN := Lib.hid (show n ≤ maxLen by have := hm.1; unfold maxLen; omega)
  have HX := Lib.hid hx
  have HG := Lib.hid (show aw (c0 l n) 16 = g by rw [hg]; exact aw_weight l n hm.2)
  have HC := Lib.hid (show ∀ s, s < 16 → c0 l n s ≤ 320 from fun s _ => Nat.le_trans (c0_le l n s) hm.1)
  have hb := Lib.hid (mayB_true hm)
  have d0 : ((g : Int) == 0) = false := by rw [beq_eq_false_iff_ne]; omega
  have d1 : decide (32768 < (g : Int)) = false := decide_eq_false (by omega)
  have d2 : ((g : Int) == 32768) = false := by rw [beq_eq_false_iff_ne]; omega
  have d3 : ((x : Int) == 1) = false := by rw [beq_eq_false_iff_ne]; omega
  clear hm hl hx hg e5 e4
  go_enter Tryd.func48, Tryd.ntmps48
  go_wp2_with fail
  refine (may_any A n c l _ HN.out HL.out H).mono ?_; rintro e w' ⟨rfl, rfl⟩
  rw [hb.out]
  go_wp2_with fail
  refine (count_any A n c l _ HM.out H).mono ?_; rintro e w1 ⟨rfl, b1⟩
  have B1 := Lib.hid b1
  clear b1
  have T1 := Lib.hid (Tb.made w1 (c0 l n))
  go_wp2_with (first | (refine step_store rfl _ _ rfl _ (c0 l n) rfl rfl ?_) | (refine step_load _ rfl rfl _ rfl (c0 l n) T1.out ?_))
  clear hz
  refine (weigh_any (c0 l n) _ HC.out).mono ?_; rintro e w2 ⟨rfl, b2⟩
  rw [HG.out]
  have B2 := Lib.hid b2
  have T2 := Lib.hid (T1.out.below b2 (by simp))
  have hc1 := T2.out.cell (show 1 < 16 by decide)
  rw [← HX.out] at hc1
  clear b2
  go_wp2_with fail
  go_ret
  exact ⟨rfl, (B1.out.alloc B1.out.size _).trans (B2.out.mono (Nat.le_trans B1.out.size (by simp)))⟩
set_option maxHeartbeats 1000000 in
theorem kind_less2_any (A : Option Addr) (n c : Nat) (l : Nat → Nat) (W : World) (hl : ∀ i, l i ≤ 255) (H : Nums W .u8 A n (fun i => (l i : Int))) (hm : May l n) (g x : Nat) (hg : g = weight l n) (hx : x = c0 l n 1) (e5 : g ≠ 0) (e6 : g < 32768) (e4 : x = 1) (e3 : g ≠ 16384) :
    Calls Tryd.prog 48 #[.slice A n c] W fun e w' => e = .returned (.int .u8 3) ∧ Below W.heap.size W w' := by
  have hz := arrZero
  have HL := Lib.hid hl
  have HM := Lib.hid hm
  have HN := Lib.hid (show n ≤ maxLen by have := hm.1; unfold maxLen; omega)
  have HX := Lib.hid hx
  have HG := Lib.hid (show aw (c0 l n) 16 = g by rw [hg]; exact aw_weight l n hm.2)
  have HC := Lib.hid (show ∀ s, s < 16 → c0 l n s ≤ 320 from fun s _ => Nat.le_trans (c0_le l n s) hm.1)
  have hb := Lib.hid (mayB_true hm)
  have d0 : ((g : Int) == 0) = false := by rw [beq_eq_false_iff_ne]; omega
  have d1 : decide (32768 < (g : Int)) = false := decide_eq_false (by omega)
  have d2 : ((g : Int) == 32768) = false := by rw [beq_eq_false_iff_ne]; omega
  have d3 : ((x : Int) == 1) = true := by rw [beq_iff_eq]; omega
  have d4 : ((g : Int) == 16384) = false := by rw [beq_eq_false_iff_ne]; omega
  clear hm hl hx hg e5 e4 e3
  go_enter Tryd.func48, Tryd.ntmps48
  go_wp2_with fail
  refine (may_any A n c l _ HN.out HL.out H).mono ?_; rintro e w' ⟨rfl, rfl⟩
  rw [hb.out]
  go_wp2_with fail
  refine (count_any A n c l _ HM.out H).mono ?_; rintro e w1 ⟨rfl, b1⟩
  have B1 := Lib.hid b1
  clear b1
  have T1 := Lib.hid (Tb.made w1 (c0 l n))
  go_wp2_with (first | (refine step_store rfl _ _ rfl _ (c0 l n) rfl rfl ?_) | (refine step_load _ rfl rfl _ rfl (c0 l n) T1.out ?_))
  clear hz
  refine (weigh_any (c0 l n) _ HC.out).mono ?_; rintro e w2 ⟨rfl, b2⟩
  rw [HG.out]
  have B2 := Lib.hid b2
  have T2 := Lib.hid (T1.out.below b2 (by simp))
  have hc1 := T2.out.cell (show 1 < 16 by decide)
  rw [← HX.out] at hc1
  clear b2
  go_wp2_with fail
  go_ret
  exact ⟨rfl, (B1.out.alloc B1.out.size _).trans (B2.out.mono (Nat.le_trans B1.out.size (by simp)))⟩
theorem kind_any (A : Option Addr) (n c : Nat) (l : Nat → Nat) (W : World) (hn : n ≤ maxLen) (hl : ∀ i, l i ≤ 255) (H : Nums W .u8 A n (fun i => (l i : Int))) :
    Calls Tryd.prog 48 #[.slice A n c] W fun e w' => e = .returned (.int .u8 (kind l n)) ∧ Below W.heap.size W w' := by
  by_cases hm : May l n
  · have hk := kind_of hm
    obtain ⟨g, hg⟩ : ∃ g, g = weight l n := ⟨_, rfl⟩
    obtain ⟨x, hx⟩ : ∃ x, x = c0 l n 1 := ⟨_, rfl⟩
    rw [← hg, ← hx] at hk
    by_cases e0 : g = 0
    · rw [hk, if_pos e0]; exact kind_none_any A n c l W hl H hm g x hg hx e0
    rw [if_neg e0] at hk
    by_cases e1 : 32768 < g
    · rw [hk, if_pos e1]; exact kind_over_any A n c l W hl H hm g x hg hx e1
    rw [if_neg e1] at hk
    by_cases e2 : g = 32768
    · rw [hk, if_pos e2]; exact kind_whole_any A n c l W hl H hm g x hg hx e2
    rw [if_neg e2] at hk
    by_cases e4 : x = 1
    · by_cases e3 : g = 16384
      · rw [hk, if_pos ⟨e4, e3⟩]; exact kind_one_any A n c l W hl H hm g x hg hx e3 e4
      · rw [hk, if_neg (fun q => e3 q.2)]; exact kind_less2_any A n c l W hl H hm g x hg hx e0 (by omega) e4 e3
    · rw [hk, if_neg (fun q => e4 q.1)]; exact kind_less1_any A n c l W hl H hm g x hg hx e0 (by omega) e4
  · exact kind_bad_any A n c l W hn hl H hm
end Go.Proofs.YtolcaknhjjejeaaDoor
