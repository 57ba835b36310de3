/- What Weigh of package canon, and the document's SameLens, answer. Conditions: as each theorem names them. -/
import Derived.Test.YteicamfelamfhaaCnB
import Derived.Deep.QuietTactic
import Derived.BigQuiet
namespace Go.Proofs.Yteicamfelamfhaa
open Go.RowKit M
set_option linter.unusedVariables false

/-- what the first k lengths weigh with their counts, as an int holds it -/
def wg (l : Nat → Nat) (z : Nat → Int) : Nat → Int
  | 0 => 0
  | k + 1 => if 0 < z k then wrap64 (wg l z k + wrap64 ((l k : Int) * z k)) else wg l z k
theorem wg_in (l : Nat → Nat) (z : Nat → Int) : ∀ k, -9223372036854775808 ≤ wg l z k ∧ wg l z k ≤ 9223372036854775807
  | 0 => by simp [wg]
  | k + 1 => by
    simp only [wg]
    split
    · unfold wrap64; omega
    · exact wg_in l z k

set_option maxHeartbeats 1000000 in
theorem weighs_less (A B : Option Addr) (n m c d : Nat) (l : Nat → Nat) (z : Nat → Int) (W : World) (hn : n ≤ maxLen) (hm : m ≤ maxLen) (H : Nums W .u8 A n (fun i => (l i : Int))) (HZ : Nums W .i64 B m z) (hl : ∀ i, l i ≤ 255) (hc : m < n) :
    Calls Try.prog 16 #[.slice A n c, .slice B m d] W fun e w' => e = .returned (.int .i64 (wg l z m)) ∧ Below W.heap.size W w' := by
  have hn' : n ≤ 9223372036854775807 := by unfold maxLen at hn; omega
  have hm' : m ≤ 9223372036854775807 := by unfold maxLen at hm; omega
  have HA := Lib.hid H
  have HH := Lib.hid HZ
  have HL := Lib.hid hl
  clear H HZ hn hm hl
  go_enter Try.func16, Try.ntmps16
  go_wp2_with fail
  go_loopw [5, 12] (fun x i wr => ∃ k : Nat, k ≤ m ∧ i = .int .i64 k ∧ x = .int .i64 (wg l z k) ∧ Below W.heap.size W wr) (fun _ i _ => m - (intOf i).toNat)
  case atStart => exact ⟨0, Nat.zero_le _, rfl, rfl, Below.refl _ _⟩
  case round =>
    obtain ⟨k, hkn, rfl, rfl, hb⟩ := hrel
    by_cases hlt : k < m
    · obtain ⟨b, o, rfl, hbs, hc1⟩ := HA.out (by omega)
      obtain ⟨b2, o2, rfl, hbs2, hc2⟩ := HH.out (by omega)
      have g1 : wr.cell? ⟨b, o + k, none⟩ = some (.int .u8 (l k)) := (hb.cell hbs).trans (hc1 k (by omega))
      have g2 : wr.cell? ⟨b2, o2 + k, none⟩ = some (.int .i64 (z k)) := (hb.cell hbs2).trans (hc2 k (by omega))
      have hstep := Lib.hid (show wg l z (k + 1) = if 0 < z k then wrap64 (wg l z k + wrap64 ((l k : Int) * z k)) else wg l z k from rfl)
      have hin := wg_in l z k
      have h255 := HL.out k
      obtain ⟨y, hy⟩ : ∃ y, z k = y := ⟨_, rfl⟩
      obtain ⟨v, hv⟩ : ∃ v, wg l z k = v := ⟨_, rfl⟩
      obtain ⟨x, hx⟩ : ∃ x, l k = x := ⟨_, rfl⟩
      rw [hy] at g2
      rw [hx] at g1 h255
      rw [hv] at hin ⊢
      have HY := Lib.hid hy
      have HV := Lib.hid hv
      have HX := Lib.hid hx
      have HB := Lib.hid hb
      have hkk : ((k : Int)).toNat = k := by omega
      have hxx : IntKind.i64.wrap (x : Int) = (x : Int) := IntWalk.i64_in _ (by omega)
      have hvv : wrap64 v = v := IntWalk.wrap64_in _ hin
      clear hc1 hc2 hy hv hx hb
      by_cases hpos : 0 < y
      · have hps : (if y < 0 then 0 else y) = y := if_neg (by omega)
        have hnn : ¬ y < 0 := by omega
        go_wp2_with fail
        go_region
        go_wp2_with fail
        go_roundw
        case rel => exact ⟨k + 1, by omega, by go_num, congrArg (Value.int .i64) (by rw [hstep.out, HY.out, HX.out, HV.out, if_pos hpos]), HB.out.drew⟩
        case measure => simp [intOf]; omega
      · have hnn : y ≤ 0 := by omega
        go_wp2_with fail
        go_region
        all_goals (
          go_wp2_with fail
          go_roundw
          case rel => exact ⟨k + 1, by omega, by go_num, congrArg (Value.int .i64) (by rw [hstep.out, HY.out, HX.out, HV.out, if_neg (show ¬ (0 < y) by omega)]), HB.out.drew⟩
          case measure => simp [intOf]; omega)
    · obtain rfl : k = m := by omega
      have HB := Lib.hid hb
      clear hb
      go_wp2_with fail
      go_ret
      exact ⟨rfl, HB.out⟩

set_option maxHeartbeats 1000000 in
theorem weighs_more (A B : Option Addr) (n m c d : Nat) (l : Nat → Nat) (z : Nat → Int) (W : World) (hn : n ≤ maxLen) (hm : m ≤ maxLen) (H : Nums W .u8 A n (fun i => (l i : Int))) (HZ : Nums W .i64 B m z) (hl : ∀ i, l i ≤ 255) (hc : n ≤ m) :
    Calls Try.prog 16 #[.slice A n c, .slice B m d] W fun e w' => e = .returned (.int .i64 (wg l z n)) ∧ Below W.heap.size W w' := by
  have hn' : n ≤ 9223372036854775807 := by unfold maxLen at hn; omega
  have hm' : m ≤ 9223372036854775807 := by unfold maxLen at hm; omega
  have HA := Lib.hid H
  have HH := Lib.hid HZ
  have HL := Lib.hid hl
  clear H HZ hn hm hl
  go_enter Try.func16, Try.ntmps16
  go_wp2_with fail
  go_loopw [5, 12] (fun x i wr => ∃ k : Nat, k ≤ n ∧ i = .int .i64 k ∧ x = .int .i64 (wg l z k) ∧ Below W.heap.size W wr) (fun _ i _ => n - (intOf i).toNat)
  case atStart => exact ⟨0, Nat.zero_le _, rfl, rfl, Below.refl _ _⟩
  case round =>
    obtain ⟨k, hkn, rfl, rfl, hb⟩ := hrel
    by_cases hlt : k < n
    · obtain ⟨b, o, rfl, hbs, hc1⟩ := HA.out (by omega)
      obtain ⟨b2, o2, rfl, hbs2, hc2⟩ := HH.out (by omega)
      have g1 : wr.cell? ⟨b, o + k, none⟩ = some (.int .u8 (l k)) := (hb.cell hbs).trans (hc1 k (by omega))
      have g2 : wr.cell? ⟨b2, o2 + k, none⟩ = some (.int .i64 (z k)) := (hb.cell hbs2).trans (hc2 k (by omega))
      have hstep := Lib.hid (show wg l z (k + 1) = if 0 < z k then wrap64 (wg l z k + wrap64 ((l k : Int) * z k)) else wg l z k from rfl)
      have hin := wg_in l z k
      have h255 := HL.out k
      obtain ⟨y, hy⟩ : ∃ y, z k = y := ⟨_, rfl⟩
      obtain ⟨v, hv⟩ : ∃ v, wg l z k = v := ⟨_, rfl⟩
      obtain ⟨x, hx⟩ : ∃ x, l k = x := ⟨_, rfl⟩
      rw [hy] at g2
      rw [hx] at g1 h255
      rw [hv] at hin ⊢
      have HY := Lib.hid hy
      have HV := Lib.hid hv
      have HX := Lib.hid hx
      have HB := Lib.hid hb
      have hkk : ((k : Int)).toNat = k := by omega
      have hxx : IntKind.i64.wrap (x : Int) = (x : Int) := IntWalk.i64_in _ (by omega)
      have hvv : wrap64 v = v := IntWalk.wrap64_in _ hin
      clear hc1 hc2 hy hv hx hb
      by_cases hpos : 0 < y
      · have hps : (if y < 0 then 0 else y) = y := if_neg (by omega)
        have hnn : ¬ y < 0 := by omega
        go_wp2_with fail
        go_region
        go_wp2_with fail
        go_roundw
        case rel => exact ⟨k + 1, by omega, by go_num, congrArg (Value.int .i64) (by rw [hstep.out, HY.out, HX.out, HV.out, if_pos hpos]), HB.out.drew⟩
        case measure => simp [intOf]; omega
      · have hnn : y ≤ 0 := by omega
        go_wp2_with fail
        go_region
        all_goals (
          go_wp2_with fail
          go_roundw
          case rel => exact ⟨k + 1, by omega, by go_num, congrArg (Value.int .i64) (by rw [hstep.out, HY.out, HX.out, HV.out, if_neg (show ¬ (0 < y) by omega)]), HB.out.drew⟩
          case measure => simp [intOf]; omega)
    · obtain rfl : k = n := by omega
      have HB := Lib.hid hb
      clear hb
      go_wp2_with fail
      go_ret
      exact ⟨rfl, HB.out⟩

theorem weighs_any (A B : Option Addr) (n m c d : Nat) (l : Nat → Nat) (z : Nat → Int) (W : World) (hn : n ≤ maxLen) (hm : m ≤ maxLen) (H : Nums W .u8 A n (fun i => (l i : Int))) (HZ : Nums W .i64 B m z) (hl : ∀ i, l i ≤ 255) :
    Calls Try.prog 16 #[.slice A n c, .slice B m d] W fun e w' => e = .returned (.int .i64 (wg l z (min n m))) ∧ Below W.heap.size W w' := by
  rcases Nat.lt_or_ge m n with h | h
  · rw [Nat.min_eq_right (by omega)]; exact weighs_less A B n m c d l z W hn hm H HZ hl h
  · rw [Nat.min_eq_left h]; exact weighs_more A B n m c d l z W hn hm H HZ hl h

set_option maxHeartbeats 1000000 in
theorem sameLens_any (A B : Option Addr) (n c d : Nat) (f g : Nat → Nat) (W : World) (hn : n ≤ maxLen) (H : Nums W .u8 A n (fun i => (f i : Int))) (HZ : Nums W .u8 B n (fun i => (g i : Int))) (e1 : ∀ i, i < n → f i = g i) :
    Calls Try.prog 11 #[.slice A n c, .slice B n d] W fun e w' => e = .returned (.bool true) ∧ ∃ q, w' = W.drewN q := by
  have hn' : n ≤ 9223372036854775807 := by unfold maxLen at hn; omega
  have HA := Lib.hid H
  have HH := Lib.hid HZ
  have E1 := Lib.hid e1
  clear H HZ hn e1
  go_enter Try.func11, Try.ntmps11
  go_wp2_with fail
  go_loopw [5] (fun i wr => ∃ k : Nat, k ≤ n ∧ i = .int .i64 k ∧ ∃ q, wr = W.drewN q) (fun i _ => n - (intOf i).toNat)
  case atStart => exact ⟨0, Nat.zero_le _, rfl, 0, rfl⟩
  case round =>
    obtain ⟨k, hkn, rfl, q, rfl⟩ := hrel
    by_cases hlt : k < n
    · obtain ⟨b, o, rfl, hbs, hc1⟩ := HA.out (by omega)
      obtain ⟨b2, o2, rfl, hbs2, hc2⟩ := HH.out (by omega)
      have g1 : W.cell? ⟨b, o + k, none⟩ = some (.int .u8 (f k)) := hc1 k hlt
      have g3 : W.cell? ⟨b2, o2 + k, none⟩ = some (.int .u8 (g k)) := hc2 k hlt
      rw [← E1.out k hlt] at g3
      have hkk : ((k : Int)).toNat = k := by omega
      clear hc1 hc2
      go_wp2_with fail
      go_quiet (fail)
      go_wp2_with fail
      go_roundw
      case rel => exact ⟨k + 1, by omega, by go_num, _, rfl⟩
      case measure => simp [intOf]; omega
    · obtain rfl : k = n := by omega
      go_wp2_with fail
      go_ret
      exact ⟨rfl, _, rfl⟩

end Go.Proofs.Yteicamfelamfhaa
