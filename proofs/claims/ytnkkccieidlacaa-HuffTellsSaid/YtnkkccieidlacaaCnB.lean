/- What Kind of package canon answers. Conditions: as each theorem names them. -/
import Derived.Test.YtnkkccieidlacaaCnA
namespace Go.Proofs.Ytnkkccieidlacaa
open Go.RowKit M
set_option linter.unusedVariables false

theorem kind_bad_any (A : Option Addr) (n c : Nat) (l : Nat → Nat) (W : World) (hn : n ≤ maxLen) (hl : ∀ i, l i ≤ 255) (H : Nums W .u8 A n (fun i => (l i : Int))) (hm : ¬ May l n) :
    Calls Try.prog 29 #[.slice A n c] W fun e w' => e = .returned (.int .u8 (kind l n)) ∧ Below W.heap.size W w' := by
  have hv := Lib.hid (kind_bad hm)
  have hb := Lib.hid (mayB_false hm)
  have HL := Lib.hid hl
  clear hm hl
  go_enter Try.func29, Try.ntmps29
  go_wp2_with fail
  refine (may_any A n c l _ hn HL.out H).mono ?_; rintro e w' ⟨rfl, rfl⟩
  rw [hb.out]
  go_wp2_with fail
  go_ret
  exact ⟨by rw [hv.out]; rfl, Below.refl _ _⟩

/-- the kind of lengths that may be, by what they weigh -/
def kindOf (g c1 : Nat) : Nat := if g = 0 then 0 else if 32768 < g then 4 else if g = 32768 then 2 else if c1 = 1 ∧ g = 16384 then 1 else 3
theorem kind_kindOf {l : Nat → Nat} {n : Nat} (h : May l n) : kind l n = kindOf (weight l n) (c0 l n 1) := kind_of h

set_option maxRecDepth 1000000 in
set_option maxHeartbeats 1000000 in
theorem kind_none_any (A : Option Addr) (n c : Nat) (l : Nat → Nat) (W : World) (hl : ∀ i, l i ≤ 255) (H : Nums W .u8 A n (fun i => (l i : Int))) (hm : May l n) (g x : Nat) (hg : g = weight l n) (hx : x = c0 l n 1) (e0 : g = 0) :
    Calls Try.prog 29 #[.slice A n c] W fun e w' => e = .returned (.int .u8 0) ∧ Below W.heap.size W w' := by
  have hz := arrZero
  have HL := Lib.hid hl
  have HM := Lib.hid hm
  have HN := Lib.hid (show n ≤ maxLen by have := hm.1; unfold maxLen; omega)
  have HX := Lib.hid hx
  have HG := Lib.hid (show aw (c0 l n) 16 = g by rw [hg]; exact aw_weight l n hm.2)
  have HC := Lib.hid (show ∀ s, s < 16 → c0 l n s ≤ 320 from fun s _ => Nat.le_trans (c0_le l n s) hm.1)
  have hb := Lib.hid (mayB_true hm)
  have d0 : ((g : Int) == 0) = true := by rw [beq_iff_eq]; omega
  clear hm hl hx hg e0
  go_enter Try.func29, Try.ntmps29
  go_wp2_with fail
  refine (may_any A n c l _ HN.out HL.out H).mono ?_; rintro e w' ⟨rfl, rfl⟩
  rw [hb.out]
  go_wp2_with fail
  refine (count_any A n c l _ HM.out H).mono ?_; rintro e w1 ⟨rfl, b1⟩
  have B1 := Lib.hid b1
  clear b1
  have T1 := Lib.hid (Tb.made w1 (c0 l n))
  go_wp2_with (first | (refine step_store rfl _ _ rfl _ (c0 l n) rfl rfl ?_) | (refine step_load _ rfl rfl _ rfl (c0 l n) T1.out ?_))
  clear hz
  refine (weigh_any (c0 l n) _ HC.out).mono ?_; rintro e w2 ⟨rfl, b2⟩
  rw [HG.out]
  have B2 := Lib.hid b2
  have T2 := Lib.hid (T1.out.below b2 (by simp))
  have hc1 := T2.out.cell (show 1 < 16 by decide)
  rw [← HX.out] at hc1
  clear b2
  go_wp2_with fail
  go_ret
  exact ⟨rfl, (B1.out.alloc B1.out.size _).trans (B2.out.mono (Nat.le_trans B1.out.size (by simp)))⟩

set_option maxRecDepth 1000000 in
set_option maxHeartbeats 1000000 in
theorem kind_over_any (A : Option Addr) (n c : Nat) (l : Nat → Nat) (W : World) (hl : ∀ i, l i ≤ 255) (H : Nums W .u8 A n (fun i => (l i : Int))) (hm : May l n) (g x : Nat) (hg : g = weight l n) (hx : x = c0 l n 1) (e1 : 32768 < g) :
    Calls Try.prog 29 #[.slice A n c] W fun e w' => e = .returned (.int .u8 4) ∧ Below W.heap.size W w' := by
  have hz := arrZero
  have HL := Lib.hid hl
  have HM := Lib.hid hm
  have HN := Lib.hid (show n ≤ maxLen by have := hm.1; unfold maxLen; omega)
  have HX := Lib.hid hx
  have HG := Lib.hid (show aw (c0 l n) 16 = g by rw [hg]; exact aw_weight l n hm.2)
  have HC := Lib.hid (show ∀ s, s < 16 → c0 l n s ≤ 320 from fun s _ => Nat.le_trans (c0_le l n s) hm.1)
  have hb := Lib.hid (mayB_true hm)
  have d0 : ((g : Int) == 0) = false := by rw [beq_eq_false_iff_ne]; omega
  clear hm hl hx hg
  go_enter Try.func29, Try.ntmps29
  go_wp2_with fail
  refine (may_any A n c l _ HN.out HL.out H).mono ?_; rintro e w' ⟨rfl, rfl⟩
  rw [hb.out]
  go_wp2_with fail
  refine (count_any A n c l _ HM.out H).mono ?_; rintro e w1 ⟨rfl, b1⟩
  have B1 := Lib.hid b1
  clear b1
  have T1 := Lib.hid (Tb.made w1 (c0 l n))
  go_wp2_with (first | (refine step_store rfl _ _ rfl _ (c0 l n) rfl rfl ?_) | (refine step_load _ rfl rfl _ rfl (c0 l n) T1.out ?_))
  clear hz
  refine (weigh_any (c0 l n) _ HC.out).mono ?_; rintro e w2 ⟨rfl, b2⟩
  rw [HG.out]
  have B2 := Lib.hid b2
  have T2 := Lib.hid (T1.out.below b2 (by simp))
  have hc1 := T2.out.cell (show 1 < 16 by decide)
  rw [← HX.out] at hc1
  clear b2
  go_wp2_with fail
  go_ret
  exact ⟨rfl, (B1.out.alloc B1.out.size _).trans (B2.out.mono (Nat.le_trans B1.out.size (by simp)))⟩

set_option maxRecDepth 1000000 in
set_option maxHeartbeats 1000000 in
theorem kind_whole_any (A : Option Addr) (n c : Nat) (l : Nat → Nat) (W : World) (hl : ∀ i, l i ≤ 255) (H : Nums W .u8 A n (fun i => (l i : Int))) (hm : May l n) (g x : Nat) (hg : g = weight l n) (hx : x = c0 l n 1) (e2 : g = 32768) :
    Calls Try.prog 29 #[.slice A n c] W fun e w' => e = .returned (.int .u8 2) ∧ Below W.heap.size W w' := by
  have hz := arrZero
  have HL := Lib.hid hl
  have HM := Lib.hid hm
  have HN := Lib.hid (show n ≤ maxLen by have := hm.1; unfold maxLen; omega)
  have HX := Lib.hid hx
  have HG := Lib.hid (show aw (c0 l n) 16 = g by rw [hg]; exact aw_weight l n hm.2)
  have HC := Lib.hid (show ∀ s, s < 16 → c0 l n s ≤ 320 from fun s _ => Nat.le_trans (c0_le l n s) hm.1)
  have hb := Lib.hid (mayB_true hm)
  have d0 : ((g : Int) == 0) = false := by rw [beq_eq_false_iff_ne]; omega
  have d1 : decide (32768 < (g : Int)) = false := decide_eq_false (by omega)
  have d2 : ((g : Int) == 32768) = true := by rw [beq_iff_eq]; omega
  clear hm hl hx hg e2
  go_enter Try.func29, Try.ntmps29
  go_wp2_with fail
  refine (may_any A n c l _ HN.out HL.out H).mono ?_; rintro e w' ⟨rfl, rfl⟩
  rw [hb.out]
  go_wp2_with fail
  refine (count_any A n c l _ HM.out H).mono ?_; rintro e w1 ⟨rfl, b1⟩
  have B1 := Lib.hid b1
  clear b1
  have T1 := Lib.hid (Tb.made w1 (c0 l n))
  go_wp2_with (first | (refine step_store rfl _ _ rfl _ (c0 l n) rfl rfl ?_) | (refine step_load _ rfl rfl _ rfl (c0 l n) T1.out ?_))
  clear hz
  refine (weigh_any (c0 l n) _ HC.out).mono ?_; rintro e w2 ⟨rfl, b2⟩
  rw [HG.out]
  have B2 := Lib.hid b2
  have T2 := Lib.hid (T1.out.below b2 (by simp))
  have hc1 := T2.out.cell (show 1 < 16 by decide)
  rw [← HX.out] at hc1
  clear b2
  go_wp2_with fail
  go_ret
  exact ⟨rfl, (B1.out.alloc B1.out.size _).trans (B2.out.mono (Nat.le_trans B1.out.size (by simp)))⟩

set_option maxRecDepth 1000000 in
set_option maxHeartbeats 1000000 in
theorem kind_one_any (A : Option Addr) (n c : Nat) (l : Nat → Nat) (W : World) (hl : ∀ i, l i ≤ 255) (H : Nums W .u8 A n (fun i => (l i : Int))) (hm : May l n) (g x : Nat) (hg : g = weight l n) (hx : x = c0 l n 1) (e3 : g = 16384) (e4 : x = 1) :
    Calls Try.prog 29 #[.slice A n c] W fun e w' => e = .returned (.int .u8 1) ∧ Below W.heap.size W w' := by
  have hz := arrZero
  have HL := Lib.hid hl
  have HM := Lib.hid hm
  have HN := Lib.hid (show n ≤ maxLen by have := hm.1; unfold maxLen; omega)
  have HX := Lib.hid hx
  have HG := Lib.hid (show aw (c0 l n) 16 = g by rw [hg]; exact aw_weight l n hm.2)
  have HC := Lib.hid (show ∀ s, s < 16 → c0 l n s ≤ 320 from fun s _ => Nat.le_trans (c0_le l n s) hm.1)
  have hb := Lib.hid (mayB_true hm)
  have d0 : ((g : Int) == 0) = false := by rw [beq_eq_false_iff_ne]; omega
  have d1 : decide (32768 < (g : Int)) = false := decide_eq_false (by omega)
  have d2 : ((g : Int) == 32768) = false := by rw [beq_eq_false_iff_ne]; omega
  have d3 : ((x : Int) == 1) = true := by rw [beq_iff_eq]; omega
  have d4 : ((g : Int) == 16384) = true := by rw [beq_iff_eq]; omega
  clear hm hl hx hg e3 e4
  go_enter Try.func29, Try.ntmps29
  go_wp2_with fail
  refine (may_any A n c l _ HN.out HL.out H).mono ?_; rintro e w' ⟨rfl, rfl⟩
  rw [hb.out]
  go_wp2_with fail
  refine (count_any A n c l _ HM.out H).mono ?_; rintro e w1 ⟨rfl, b1⟩
  have B1 := Lib.hid b1
  clear b1
  have T1 := Lib.hid (Tb.made w1 (c0 l n))
  go_wp2_with (first | (refine step_store rfl _ _ rfl _ (c0 l n) rfl rfl ?_) | (refine step_load _ rfl rfl _ rfl (c0 l n) T1.out ?_))
  clear hz
  refine (weigh_any (c0 l n) _ HC.out).mono ?_; rintro e w2 ⟨rfl, b2⟩
  rw [HG.out]
  have B2 := Lib.hid b2
  have T2 := Lib.hid (T1.out.below b2 (by simp))
  have hc1 := T2.out.cell (show 1 < 16 by decide)
  rw [← HX.out] at hc1
  clear b2
  go_wp2_with fail
  go_ret
  exact ⟨rfl, (B1.out.alloc B1.out.size _).trans (B2.out.mono (Nat.le_trans B1.out.size (by simp)))⟩

set_option maxRecDepth 1000000 in
set_option maxHeartbeats 1000000 in
theorem kind_less1_any (A : Option Addr) (n c : Nat) (l : Nat → Nat) (W : World) (hl : ∀ i, l i ≤ 255) (H : Nums W .u8 A n (fun i => (l i : Int))) (hm : May l n) (g x : Nat) (hg : g = weight l n) (hx : x = c0 l n 1) (e5 : g ≠ 0) (e6 : g < 32768) (e4 : x ≠ 1) :
    Calls Try.prog 29 #[.slice A n c] W fun e w' => e = .returned (.int .u8 3) ∧ Below W.heap.size W w' := by
  have hz := arrZero
  have HL := Lib.hid hl
  have HM := Lib.hid hm
  have HN := Lib.hid (show n ≤ maxLen by have := hm.1; unfold maxLen; omega)
  have HX := Lib.hid hx
  have HG := Lib.hid (show aw (c0 l n) 16 = g by rw [hg]; exact aw_weight l n hm.2)
  have HC := Lib.hid (show ∀ s, s < 16 → c0 l n s ≤ 320 from fun s _ => Nat.le_trans (c0_le l n s) hm.1)
  have hb := Lib.hid (mayB_true hm)
  have d0 : ((g : Int) == 0) = false := by rw [beq_eq_false_iff_ne]; omega
  have d1 : decide (32768 < (g : Int)) = false := decide_eq_false (by omega)
  have d2 : ((g : Int) == 32768) = false := by rw [beq_eq_false_iff_ne]; omega
  have d3 : ((x : Int) == 1) = false := by rw [beq_eq_false_iff_ne]; omega
  clear hm hl hx hg e5 e4
  go_enter Try.func29, Try.ntmps29
  go_wp2_with fail
  refine (may_any A n c l _ HN.out HL.out H).mono ?_; rintro e w' ⟨rfl, rfl⟩
  rw [hb.out]
  go_wp2_with fail
  refine (count_any A n c l _ HM.out H).mono ?_; rintro e w1 ⟨rfl, b1⟩
  have B1 := Lib.hid b1
  clear b1
  have T1 := Lib.hid (Tb.made w1 (c0 l n))
  go_wp2_with (first | (refine step_store rfl _ _ rfl _ (c0 l n) rfl rfl ?_) | (refine step_load _ rfl rfl _ rfl (c0 l n) T1.out ?_))
  clear hz
  refine (weigh_any (c0 l n) _ HC.out).mono ?_; rintro e w2 ⟨rfl, b2⟩
  rw [HG.out]
  have B2 := Lib.hid b2
  have T2 := Lib.hid (T1.out.below b2 (by simp))
  have hc1 := T2.out.cell (show 1 < 16 by decide)
  rw [← HX.out] at hc1
  clear b2
  go_wp2_with fail
  go_ret
  exact ⟨rfl, (B1.out.alloc B1.out.size _).trans (B2.out.mono (Nat.le_trans B1.out.size (by simp)))⟩

set_option maxRecDepth 1000000 in
set_option maxHeartbeats 1000000 in
theorem kind_less2_any (A : Option Addr) (n c : Nat) (l : Nat → Nat) (W : World) (hl : ∀ i, l i ≤ 255) (H : Nums W .u8 A n (fun i => (l i : Int))) (hm : May l n) (g x : Nat) (hg : g = weight l n) (hx : x = c0 l n 1) (e5 : g ≠ 0) (e6 : g < 32768) (e4 : x = 1) (e3 : g ≠ 16384) :
    Calls Try.prog 29 #[.slice A n c] W fun e w' => e = .returned (.int .u8 3) ∧ Below W.heap.size W w' := by
  have hz := arrZero
  have HL := Lib.hid hl
  have HM := Lib.hid hm
  have HN := Lib.hid (show n ≤ maxLen by have := hm.1; unfold maxLen; omega)
  have HX := Lib.hid hx
  have HG := Lib.hid (show aw (c0 l n) 16 = g by rw [hg]; exact aw_weight l n hm.2)
  have HC := Lib.hid (show ∀ s, s < 16 → c0 l n s ≤ 320 from fun s _ => Nat.le_trans (c0_le l n s) hm.1)
  have hb := Lib.hid (mayB_true hm)
  have d0 : ((g : Int) == 0) = false := by rw [beq_eq_false_iff_ne]; omega
  have d1 : decide (32768 < (g : Int)) = false := decide_eq_false (by omega)
  have d2 : ((g : Int) == 32768) = false := by rw [beq_eq_false_iff_ne]; omega
  have d3 : ((x : Int) == 1) = true := by rw [beq_iff_eq]; omega
  have d4 : ((g : Int) == 16384) = false := by rw [beq_eq_false_iff_ne]; omega
  clear hm hl hx hg e5 e4 e3
  go_enter Try.func29, Try.ntmps29
  go_wp2_with fail
  refine (may_any A n c l _ HN.out HL.out H).mono ?_; rintro e w' ⟨rfl, rfl⟩
  rw [hb.out]
  go_wp2_with fail
  refine (count_any A n c l _ HM.out H).mono ?_; rintro e w1 ⟨rfl, b1⟩
  have B1 := Lib.hid b1
  clear b1
  have T1 := Lib.hid (Tb.made w1 (c0 l n))
  go_wp2_with (first | (refine step_store rfl _ _ rfl _ (c0 l n) rfl rfl ?_) | (refine step_load _ rfl rfl _ rfl (c0 l n) T1.out ?_))
  clear hz
  refine (weigh_any (c0 l n) _ HC.out).mono ?_; rintro e w2 ⟨rfl, b2⟩
  rw [HG.out]
  have B2 := Lib.hid b2
  have T2 := Lib.hid (T1.out.below b2 (by simp))
  have hc1 := T2.out.cell (show 1 < 16 by decide)
  rw [← HX.out] at hc1
  clear b2
  go_wp2_with fail
  go_ret
  exact ⟨rfl, (B1.out.alloc B1.out.size _).trans (B2.out.mono (Nat.le_trans B1.out.size (by simp)))⟩

theorem kind_any (A : Option Addr) (n c : Nat) (l : Nat → Nat) (W : World) (hn : n ≤ maxLen) (hl : ∀ i, l i ≤ 255) (H : Nums W .u8 A n (fun i => (l i : Int))) :
    Calls Try.prog 29 #[.slice A n c] W fun e w' => e = .returned (.int .u8 (kind l n)) ∧ Below W.heap.size W w' := by
  by_cases hm : May l n
  · have hk := kind_of hm
    obtain ⟨g, hg⟩ : ∃ g, g = weight l n := ⟨_, rfl⟩
    obtain ⟨x, hx⟩ : ∃ x, x = c0 l n 1 := ⟨_, rfl⟩
    rw [← hg, ← hx] at hk
    by_cases e0 : g = 0
    · rw [hk, if_pos e0]; exact kind_none_any A n c l W hl H hm g x hg hx e0
    rw [if_neg e0] at hk
    by_cases e1 : 32768 < g
    · rw [hk, if_pos e1]; exact kind_over_any A n c l W hl H hm g x hg hx e1
    rw [if_neg e1] at hk
    by_cases e2 : g = 32768
    · rw [hk, if_pos e2]; exact kind_whole_any A n c l W hl H hm g x hg hx e2
    rw [if_neg e2] at hk
    by_cases e4 : x = 1
    · by_cases e3 : g = 16384
      · rw [hk, if_pos ⟨e4, e3⟩]; exact kind_one_any A n c l W hl H hm g x hg hx e3 e4
      · rw [hk, if_neg (fun q => e3 q.2)]; exact kind_less2_any A n c l W hl H hm g x hg hx e0 (by omega) e4 e3
    · rw [hk, if_neg (fun q => e4 q.1)]; exact kind_less1_any A n c l W hl H hm g x hg hx e0 (by omega) e4
  · exact kind_bad_any A n c l W hn hl H hm

end Go.Proofs.Ytnkkccieidlacaa
