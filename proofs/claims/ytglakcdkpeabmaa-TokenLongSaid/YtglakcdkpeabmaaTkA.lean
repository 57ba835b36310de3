/- What May, isByte, isMatch and sizeOf of package token answer, and the document's May. Conditions: none. -/
import Derived.Test.YtglakcdkpeabmaaTok
import Derived.Lib.Hide
import Derived.Outline
import Derived.Deep.RegionLaw
import Derived.RegionTactic
import Derived.BigRegion
import Derived.BigQuiet
import Derived.Deep.QuietTactic
import Derived.ChangeAlike
import Derived.Laws.Cells
import Derived.WalkSpells
import Derived.WalkMore
import Derived.IntWalk
namespace Go.Proofs.Ytglakcdkpeabmaa
open Go Go.RowKit M
open Go.ChangeShapes (lits)
set_option linter.unusedVariables false
set_option linter.unusedSimpArgs false

/-- a token as a value -/
abbrev tkv (l n d : Int) : Value := .agg #[.int .u8 l, .int .i64 n, .int .i64 d]

theorem isByte_any (l n d : Int) (w : World) :
    Calls Try.prog 16 #[.agg #[.int .u8 l, .int .i64 n, .int .i64 d]] w fun e w' => e = .returned (.bool (isB ⟨l, n, d⟩)) ∧ Below w.heap.size w w' := by
  by_cases h1 : n = 0
  · by_cases h2 : d = 0
    · have hv : isB ⟨l, n, d⟩ = true := isB_iff.2 ⟨h1, h2⟩
      rw [hv]
      have e1 : (n == 0) = true := by rw [beq_iff_eq]; exact h1
      have e2 : (d == 0) = true := by rw [beq_iff_eq]; exact h2
      clear h1 h2 hv
      go_enter Try.func16, Try.ntmps16
      go_wp2
      go_ret
      exact ⟨rfl, (Below.refl _ _).alloc (Nat.le_refl _) _⟩
    · have hv : isB ⟨l, n, d⟩ = false := by cases q : isB ⟨l, n, d⟩ with | false => rfl | true => exact absurd (isB_iff.1 q).2 h2
      rw [hv]
      have e1 : (n == 0) = true := by rw [beq_iff_eq]; exact h1
      have e2 : (d == 0) = false := by rw [beq_eq_false_iff_ne]; exact h2
      clear h1 h2 hv
      go_enter Try.func16, Try.ntmps16
      go_wp2
      go_ret
      exact ⟨rfl, (Below.refl _ _).alloc (Nat.le_refl _) _⟩
  · have hv : isB ⟨l, n, d⟩ = false := by cases q : isB ⟨l, n, d⟩ with | false => rfl | true => exact absurd (isB_iff.1 q).1 h1
    rw [hv]
    have e1 : (n == 0) = false := by rw [beq_eq_false_iff_ne]; exact h1
    clear h1 hv
    go_enter Try.func16, Try.ntmps16
    go_wp2
    go_ret
    exact ⟨rfl, (Below.refl _ _).alloc (Nat.le_refl _) _⟩

theorem isMatch_any (l n d : Int) (w : World) :
    Calls Try.prog 17 #[.agg #[.int .u8 l, .int .i64 n, .int .i64 d]] w fun e w' => e = .returned (.bool (isM ⟨l, n, d⟩)) ∧ Below w.heap.size w w' := by
  have hv : ∀ b, (decide (l = 0) && (decide (3 ≤ n) && (decide (n ≤ 258) && (decide (1 ≤ d) && decide (d ≤ 32768))))) = b → isM ⟨l, n, d⟩ = b := fun b h => h
  by_cases h1 : l = 0
  · have e1 : (l == 0) = true := by rw [beq_iff_eq]; exact h1
    by_cases h2 : 3 ≤ n
    · have d2 : decide (3 ≤ n) = true := decide_eq_true h2
      by_cases h3 : n ≤ 258
      · have d3 : decide (n ≤ 258) = true := decide_eq_true h3
        by_cases h4 : 1 ≤ d
        · have d4 : decide (1 ≤ d) = true := decide_eq_true h4
          by_cases h5 : d ≤ 32768
          · have d5 : decide (d ≤ 32768) = true := decide_eq_true h5
            rw [hv true (by rw [d2, d3, d4, d5]; simp [h1])]
            clear h1 h2 h3 h4 h5 hv
            go_enter Try.func17, Try.ntmps17
            go_wp2
            go_ret
            exact ⟨rfl, (Below.refl _ _).alloc (Nat.le_refl _) _⟩
          · have d5 : decide (d ≤ 32768) = false := decide_eq_false h5
            rw [hv false (by rw [d2, d3, d4, d5]; simp)]
            clear h1 h2 h3 h4 h5 hv
            go_enter Try.func17, Try.ntmps17
            go_wp2
            go_ret
            exact ⟨rfl, (Below.refl _ _).alloc (Nat.le_refl _) _⟩
        · have d4 : decide (1 ≤ d) = false := decide_eq_false h4
          rw [hv false (by rw [d2, d3, d4]; simp)]
          clear h1 h2 h3 h4 hv
          go_enter Try.func17, Try.ntmps17
          go_wp2
          go_ret
          exact ⟨rfl, (Below.refl _ _).alloc (Nat.le_refl _) _⟩
      · have d3 : decide (n ≤ 258) = false := decide_eq_false h3
        rw [hv false (by rw [d2, d3]; simp)]
        clear h1 h2 h3 hv
        go_enter Try.func17, Try.ntmps17
        go_wp2
        go_ret
        exact ⟨rfl, (Below.refl _ _).alloc (Nat.le_refl _) _⟩
    · have d2 : decide (3 ≤ n) = false := decide_eq_false h2
      rw [hv false (by rw [d2]; simp)]
      clear h1 h2 hv
      go_enter Try.func17, Try.ntmps17
      go_wp2
      go_ret
      exact ⟨rfl, (Below.refl _ _).alloc (Nat.le_refl _) _⟩
  · have e1 : (l == 0) = false := by rw [beq_eq_false_iff_ne]; exact h1
    rw [hv false (by simp [h1])]
    clear h1 hv
    go_enter Try.func17, Try.ntmps17
    go_wp2
    go_ret
    exact ⟨rfl, (Below.refl _ _).alloc (Nat.le_refl _) _⟩

theorem may_any (l n d : Int) (w : World) :
    Calls Try.prog 8 #[.agg #[.int .u8 l, .int .i64 n, .int .i64 d]] w fun e w' => e = .returned (.bool (may ⟨l, n, d⟩)) ∧ Below w.heap.size w w' := by
  have hB := isByte_any l n d
  have hM := isMatch_any l n d
  have hR := R3.new w 27 (.int .u8 l) (.int .i64 n) (.int .i64 d)
  have hlt := hR.lt
  have hb0 : Below w.heap.size w (w.alloc (.cells #[.int .u8 l, .int .i64 n, .int .i64 d] 27)) := (Below.refl _ _).alloc (Nat.le_refl _) _
  have HR := Lib.hid hR
  have HB0 := Lib.hid hb0
  clear hR hb0
  by_cases h1 : isB ⟨l, n, d⟩ = true
  · have hv : may ⟨l, n, d⟩ = true := by unfold may; rw [h1]; rfl
    rw [hv]
    rw [h1] at hB
    clear hv h1
    have HB := Lib.hid hB
    clear hB hM
    go_enter Try.func8, Try.ntmps8
    go_wp2_with (go_at_call 16; refine (HB.out _).mono ?_; rintro e w1 ⟨rfl, b1⟩; have B1 := Lib.hid (HB0.out.trans (b1.mono (by simp))); clear b1)
    go_ret
    exact ⟨rfl, B1.out⟩
  · have h1' : isB ⟨l, n, d⟩ = false := by simpa using h1
    have hv : may ⟨l, n, d⟩ = isM ⟨l, n, d⟩ := by unfold may; rw [h1']; rfl
    rw [hv]
    rw [h1'] at hB
    clear hv h1 h1'
    obtain ⟨z, hz⟩ : ∃ z, isM ⟨l, n, d⟩ = z := ⟨_, rfl⟩
    rw [hz] at hM ⊢
    have HB := Lib.hid hB
    have HM := Lib.hid hM
    clear hB hM hz
    go_enter Try.func8, Try.ntmps8
    go_wp2_with (go_at_call 16; refine (HB.out _).mono ?_; rintro e w1 ⟨rfl, b1⟩; have hR1 := HR.out.below b1 hlt; have c0 := hR1.at0; have c1 := hR1.at1; have c2 := hR1.at2; have B1 := Lib.hid (HB0.out.trans (b1.mono (by simp))); clear b1 hR1)
    go_wp2_with (go_at_call 17; refine (HM.out _).mono ?_; rintro e w2 ⟨rfl, b2⟩; have B2 := Lib.hid (B1.out.trans (b2.mono B1.out.size)); clear b2)
    go_ret
    exact ⟨rfl, B2.out⟩

theorem sizeOf_any (l n d : Int) (w : World) :
    Calls Try.prog 19 #[.agg #[.int .u8 l, .int .i64 n, .int .i64 d]] w fun e w' => e = .returned (.int .i64 (szo ⟨l, n, d⟩ : Nat)) ∧ Below w.heap.size w w' := by
  have hB := isByte_any l n d
  have hM := isMatch_any l n d
  have hR := R3.new w 27 (.int .u8 l) (.int .i64 n) (.int .i64 d)
  have hlt := hR.lt
  have hb0 : Below w.heap.size w (w.alloc (.cells #[.int .u8 l, .int .i64 n, .int .i64 d] 27)) := (Below.refl _ _).alloc (Nat.le_refl _) _
  have HR := Lib.hid hR
  have HB0 := Lib.hid hb0
  clear hR hb0
  by_cases h1 : isB ⟨l, n, d⟩ = true
  · rw [szo_byte h1]
    rw [h1] at hB
    clear h1
    have HB := Lib.hid hB
    clear hB hM
    go_enter Try.func19, Try.ntmps19
    go_wp2_with (go_at_call 16; refine (HB.out _).mono ?_; rintro e w1 ⟨rfl, b1⟩; have B1 := Lib.hid (HB0.out.trans (b1.mono (by simp))); clear b1)
    go_ret
    exact ⟨rfl, B1.out⟩
  · have h1' : isB ⟨l, n, d⟩ = false := by simpa using h1
    rw [h1'] at hB
    by_cases h2 : isM ⟨l, n, d⟩ = true
    · rw [szo_match h2]
      have hn : ((n.toNat : Nat) : Int) = n := by have := isM_iff.1 h2; simp only at this; omega
      show Calls _ _ _ _ fun e w' => e = .returned (.int .i64 ((n.toNat : Nat) : Int)) ∧ _
      rw [hn]
      rw [h2] at hM
      have HB := Lib.hid hB
      have HM := Lib.hid hM
      clear hB hM hn h1 h1' h2
      go_enter Try.func19, Try.ntmps19
      go_wp2_with (go_at_call 16; refine (HB.out _).mono ?_; rintro e w1 ⟨rfl, b1⟩; have hR1 := HR.out.below b1 hlt; have c0 := hR1.at0; have c1 := hR1.at1; have c2 := hR1.at2; have HR1 := Lib.hid hR1; have hlt1 := hR1.lt; have B1 := Lib.hid (HB0.out.trans (b1.mono (by simp))); clear b1 hR1)
      go_wp2_with (go_at_call 17; refine (HM.out _).mono ?_; rintro e w2 ⟨rfl, b2⟩; have hR2 := HR1.out.below b2 hlt1; have c0' := hR2.at0; have c1' := hR2.at1; have B2 := Lib.hid (B1.out.trans (b2.mono B1.out.size)); clear b2 hR2)
      go_ret
      exact ⟨rfl, B2.out⟩
    · have h2' : isM ⟨l, n, d⟩ = false := by simpa using h2
      have hv : szo ⟨l, n, d⟩ = 0 := by unfold szo; rw [if_neg h1, if_neg h2]
      rw [hv]
      rw [h2'] at hM
      have HB := Lib.hid hB
      have HM := Lib.hid hM
      clear hB hM h1 h1' h2 h2' hv
      go_enter Try.func19, Try.ntmps19
      go_wp2_with (go_at_call 16; refine (HB.out _).mono ?_; rintro e w1 ⟨rfl, b1⟩; have hR1 := HR.out.below b1 hlt; have c0 := hR1.at0; have c1 := hR1.at1; have c2 := hR1.at2; have B1 := Lib.hid (HB0.out.trans (b1.mono (by simp))); clear b1 hR1)
      go_wp2_with (go_at_call 17; refine (HM.out _).mono ?_; rintro e w2 ⟨rfl, b2⟩; have B2 := Lib.hid (B1.out.trans (b2.mono B1.out.size)); clear b2)
      go_ret
      exact ⟨rfl, B2.out⟩
end Go.Proofs.Ytglakcdkpeabmaa
