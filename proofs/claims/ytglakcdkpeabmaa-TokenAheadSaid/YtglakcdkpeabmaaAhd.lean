/- TokenAhead returns true for any arguments that their kinds hold. Conditions: none. -/
import Derived.Test.YtglakcdkpeabmaaTtx
import Derived.SizedLaws
import Derived.Carry
namespace Go.Proofs.Ytglakcdkpeabmaa
open Go Go.RowKit M
set_option linter.unusedVariables false
set_option linter.unusedSimpArgs false

theorem app_list (a b : ByteArray) : (a ++ b).data.toList = a.data.toList ++ b.data.toList := by rw [ByteArray.data_append, Array.toList_append]
theorem app_size (a b : ByteArray) : (a ++ b).size = a.size + b.size := ByteArray.size_append

set_option maxRecDepth 1000000 in
set_option maxHeartbeats 2000000 in
theorem TokenAhead_walk (a0 a1 : ByteArray) (a2 : Option Addr) (n cap2 : Nat) (z : List Tk) (W : World) (w0 : a0.size ≤ reachBytes) (w1 : a1.size ≤ reachBytes) (w2 : IsTks W a2 n z) :
    Calls Try.prog 5 #[.string a0, .string a1, .slice a2 n cap2] W fun e w' => e = .returned (.bool true) ∧ Below W.heap.size W w' := by
  have hsz := app_size a0 a1
  have s1 : a0.size + a1.size ≤ 9223372036854775807 := by unfold reachBytes at w0 w1; omega
  have s2 : ¬ 9223372036854775807 < a0.size + a1.size := by omega
  have s3 : ¬ (9223372036854775807 : Int) < (a0.size : Int) + (a1.size : Int) := by omega
  have hh := heavy_any (a0 ++ a1) a2 n cap2 W (by rw [hsz]; unfold reachBytes at w0 w1; unfold maxLen; omega) w2.most
  by_cases hv : 8192 < (a0 ++ a1).size ∨ 1000 < n
  · rw [decide_eq_true hv] at hh
    have HH := Lib.hid hh
    clear hh hv w0 w1 w2 hsz
    go_enter Try.func5, Try.ntmps5
    go_wp2_with (first
      | (go_at_call 6; (with_reducible refine HH.out.mono ?_); rintro e w3 ⟨rfl, rfl⟩)
      | (go_at_call 7; (with_reducible refine (works_any _).mono ?_); rintro e w4 ⟨rfl, b4⟩; have B4 := Lib.hid b4; clear b4))
    go_ret
    exact ⟨rfl, B4.out⟩
  · rw [decide_eq_false hv] at hh
    have HH := Lib.hid hh
    have hn : n ≤ 1000000 := by omega
    obtain ⟨X, Y, hXY⟩ : ∃ X Y, txt a1.data.toList z = (X, Y) := ⟨_, _, rfl⟩
    obtain ⟨X', Y', hXY'⟩ : ∃ X Y, txt (a0 ++ a1).data.toList z = (X, Y) := ⟨_, _, rfl⟩
    have hp := txt_pre a0.data.toList a1.data.toList z
    have hp2 := txt_pre_no a0.data.toList a1.data.toList z
    rw [← app_list, hXY, hXY'] at hp hp2
    simp only [Prod.mk.injEq] at hp hp2
    obtain ⟨S, hS⟩ : ∃ S : ByteArray, (⟨X.toArray⟩ : ByteArray) = S := ⟨_, rfl⟩
    obtain ⟨S', hS'⟩ : ∃ S : ByteArray, (⟨X'.toArray⟩ : ByteArray) = S := ⟨_, rfl⟩
    have hT := fun w (h : IsTks w a2 n z) => text_any a1 a2 n cap2 z w h hn (by omega)
    have hT' := fun w (h : IsTks w a2 n z) => text_any (a0 ++ a1) a2 n cap2 z w h hn (by omega)
    rw [hXY] at hT
    rw [hXY'] at hT'
    simp only [hS] at hT
    simp only [hS'] at hT'
    have HI := Lib.hid (show ∀ w, Below W.heap.size W w → IsTks w a2 n z from fun w h => w2.below h)
    clear hh hv w0 w1 w2 hsz hXY hXY'
    by_cases hY : Y = 0
    · obtain ⟨rfl, rfl⟩ := hp hY
      rw [hS] at hS'
      obtain rfl : S = S' := hS'
      subst hY
      have HT := Lib.hid hT
      have HT' := Lib.hid hT'
      clear hp hp2 hT hT' hS
      go_enter Try.func5, Try.ntmps5
      go_wp2_with (go_at_call 6; (with_reducible refine HH.out.mono ?_); rintro e w3 ⟨rfl, rfl⟩)
      go_wp2_with (go_at_call 10; (with_reducible refine (HT.out _ (HI.out _ (Below.refl _ _))).mono ?_); rintro e w4 ⟨rfl, b4⟩; have B4 := Lib.hid b4; clear b4 HT)
      go_wp2_with (first
        | (go_at_call 10; (with_reducible refine (HT'.out _ (HI.out _ B4.out)).mono ?_); rintro e w5 ⟨rfl, b5⟩; have B5 := Lib.hid (B4.out.trans (b5.mono B4.out.size)); clear b5)
        | (go_at_call 7; (with_reducible refine (works_any _).mono ?_); rintro e w6 ⟨rfl, b6⟩; have B6 := Lib.hid (B5.out.trans (b6.mono B5.out.size)); clear b6))
      go_ret
      exact ⟨rfl, B6.out⟩
    · obtain ⟨h7, rfl⟩ := hp2 hY
      obtain rfl : S = ⟨#[]⟩ := hS.symm
      have e0 : (Y == 0) = false := by rw [beq_eq_false_iff_ne]; exact hY
      by_cases h77 : Y = 7
      · subst h77
        have HT := Lib.hid hT
        have HT' := Lib.hid hT'
        clear hp hp2 hT hT' hS hS' h7 e0 hY
        go_enter Try.func5, Try.ntmps5
        go_wp2_with (go_at_call 6; (with_reducible refine HH.out.mono ?_); rintro e w3 ⟨rfl, rfl⟩)
        go_wp2_with (go_at_call 10; (with_reducible refine (HT.out _ (HI.out _ (Below.refl _ _))).mono ?_); rintro e w4 ⟨rfl, b4⟩; have B4 := Lib.hid b4; clear b4 HT)
        go_wp2_with (first
          | (go_at_call 10; (with_reducible refine (HT'.out _ (HI.out _ B4.out)).mono ?_); rintro e w5 ⟨rfl, b5⟩; have B5 := Lib.hid (B4.out.trans (b5.mono B4.out.size)); clear b5)
          | (go_at_call 7; (with_reducible refine (works_any _).mono ?_); rintro e w6 ⟨rfl, b6⟩; have B6 := Lib.hid (B5.out.trans (b6.mono B5.out.size)); clear b6))
        go_ret
        exact ⟨rfl, B6.out⟩
      · obtain rfl : Y = Y' := h7.resolve_left h77
        have e7 : (Y == 7) = false := by rw [beq_eq_false_iff_ne]; exact h77
        have HT := Lib.hid hT
        have HT' := Lib.hid hT'
        clear hp hp2 hT hT' hS hS' h7 hY h77
        go_enter Try.func5, Try.ntmps5
        go_wp2_with (go_at_call 6; (with_reducible refine HH.out.mono ?_); rintro e w3 ⟨rfl, rfl⟩)
        go_wp2_with (go_at_call 10; (with_reducible refine (HT.out _ (HI.out _ (Below.refl _ _))).mono ?_); rintro e w4 ⟨rfl, b4⟩; have B4 := Lib.hid b4; clear b4 HT)
        go_wp2_with (first
          | (go_at_call 10; (with_reducible refine (HT'.out _ (HI.out _ B4.out)).mono ?_); rintro e w5 ⟨rfl, b5⟩; have B5 := Lib.hid (B4.out.trans (b5.mono B4.out.size)); clear b5)
          | (go_at_call 7; (with_reducible refine (works_any _).mono ?_); rintro e w6 ⟨rfl, b6⟩; have B6 := Lib.hid (B5.out.trans (b6.mono B5.out.size)); clear b6))
        go_ret
        exact ⟨rfl, B6.out⟩
end Go.Proofs.Ytglakcdkpeabmaa
