/- What BinarySearch, Clone and Reverse of package slices answer of ints. Conditions: as each theorem names them. -/
import Derived.Test.YthemndeljjampaaDoorOwI
import Derived.Lib.LazyBuf
namespace Go.Proofs.YthemndeljjampaaDoor
open Go Go.RowKit M
set_option linter.unusedVariables false
set_option linter.unusedSimpArgs false

theorem nan1_any (a : Int) (w : World) : Calls Tryd.prog 37 #[.int .i64 a] w fun e w' => e = .returned (.bool false) ∧ w = w' := by
  go_enter Tryd.func37, Tryd.ntmps37
  go_wp2
  go_ret
  exact ⟨rfl, rfl⟩
theorem nan2_any (a : Int) (w : World) : Calls Tryd.prog 38 #[.int .i64 a] w fun e w' => e = .returned (.bool false) ∧ w = w' := by
  go_enter Tryd.func38, Tryd.ntmps38
  go_wp2
  go_ret
  exact ⟨rfl, rfl⟩
theorem less_any (a c : Int) (w : World) : Calls Tryd.prog 36 #[.int .i64 a, .int .i64 c] w fun e w' => e = .returned (.bool (decide (a < c))) ∧ w = w' := by
  go_enter Tryd.func36, Tryd.ntmps36
  go_wp2_with (go_at_call 38; refine (nan2_any _ _).mono ?_; rintro e w' ⟨rfl, rfl⟩)
  go_ret
  exact ⟨rfl, rfl⟩

/-- where x stands, or would stand -/
structure Bs (f : Nat → Int) (n : Nat) (x : Int) (i : Nat) : Prop where
  le : i ≤ n
  lo : i = 0 ∨ f (i - 1) < x
  hi : i = n ∨ x ≤ f i
def BinPost (f : Nat → Int) (n : Nat) (x : Int) (W : World) (e : Ending) (w' : World) : Prop := ∃ (i : Nat) (bb : Bool), e = .returned (.tuple #[.int .i64 i, .bool bb]) ∧ Bs f n x i ∧ W = w'
set_option maxRecDepth 1000000 in
set_option maxHeartbeats 1000000 in
theorem bin_any (A : Option Addr) (n c : Nat) (f : Nat → Int) (x : Int) (W : World) (hn : n ≤ 1048576) (H : Nums W .i64 A n f) :
    Calls Tryd.prog 35 #[.slice A n c, .int .i64 x] W (BinPost f n x W) := by
  have HH := Lib.hid H
  clear H
  go_enter Tryd.func35, Tryd.ntmps35
  go_wp2_with fail
  go_loop [7, 8] (fun i j => ∃ a d : Nat, i = .int .i64 a ∧ j = .int .i64 d ∧ a ≤ d ∧ d ≤ n ∧ (a = 0 ∨ f (a - 1) < x) ∧ (d = n ∨ x ≤ f d)) (fun i j => ((intOf j) - (intOf i)).toNat)
  case atStart => exact ⟨0, n, rfl, rfl, by omega, Nat.le_refl _, .inl rfl, .inl rfl⟩
  case round =>
    obtain ⟨a, d, rfl, rfl, h1, h2, h3, h4⟩ := hrel
    have H3 := Lib.hid h3
    have H4 := Lib.hid h4
    clear h3 h4
    by_cases hlt : a < d
    · obtain ⟨h, hh⟩ : ∃ h, (a + d) / 2 = h := ⟨_, rfl⟩
      have hh1 : a ≤ h := by omega
      have hh2 : h < d := by omega
      have hh3 : h < n := by omega
      have e1 : ((a : Int) + (d : Int)) / 2 = (h : Int) := by omega
      obtain ⟨b, o, rfl, _, hcs⟩ := HH.out (by omega)
      have hc := hcs h hh3
      clear hh hcs
      obtain ⟨y, hy⟩ : ∃ y, f h = y := ⟨_, rfl⟩
      rw [hy] at hc
      have HY := Lib.hid hy
      clear hy
      go_wp2_with (go_at_call 36; refine (less_any _ _ _).mono ?_; rintro e w' ⟨rfl, rfl⟩)
      · have q : y < x := by assumption
        go_round
        case rel => exact ⟨h + 1, d, by go_num, rfl, by omega, by omega, .inr (by rw [Nat.add_sub_cancel, HY.out]; exact q), H4.out⟩
        case measure => simp [intOf]; omega
      · have q : x ≤ y := by assumption
        go_round
        case rel => exact ⟨a, h, rfl, rfl, by omega, by omega, H3.out, .inr (by rw [HY.out]; exact q)⟩
        case measure => simp [intOf]; omega
    · obtain rfl : a = d := by omega
      by_cases g : a < n
      · obtain ⟨b, o, rfl, _, hcs⟩ := HH.out (by omega)
        have hc := hcs a g
        obtain ⟨y, hy⟩ : ∃ y, f a = y := ⟨_, rfl⟩
        rw [hy] at hc
        clear hy hcs
        go_wp2_with (go_at_call 37; refine (nan1_any _ _).mono ?_; rintro e w' ⟨rfl, rfl⟩)
        all_goals
          go_ret2
          exact ⟨a, _, rfl, ⟨h2, H3.out, H4.out⟩, rfl⟩
      · go_wp2_with fail
        go_ret2
        exact ⟨a, _, rfl, ⟨h2, H3.out, H4.out⟩, rfl⟩

theorem iadd_at (b o j : Nat) : (⟨b, o, none⟩ : Addr).add j = ⟨b, o + j, none⟩ := by
  unfold Addr.add
  split
  · rename_i h; subst h; rfl
  · rfl
end Go.Proofs.YthemndeljjampaaDoor
