/- What the laws of layer 12 ask of the program's functions; heavy, lens and works of these laws. Conditions: as each theorem names them. -/
import Derived.Test.YtogbohompffcbaaDoorRuA
import Derived.Test.YtogbohompffcbaaDoorRuT
import Derived.Test.YtogbohompffcbaaDoorRuC
import Derived.Test.YtogbohompffcbaaDoorRuD
import Derived.BigRegion
import Derived.Deep.CutRange
namespace Go.Proofs.YtogbohompffcbaaDoor.U
open Go Go.RowKit M
set_option linter.unusedVariables false
set_option linter.unusedSimpArgs false

/-- a refusal: no list, and why -/
def Refuses (W : World) (X : Int) (e : Ending) (w' : World) : Prop := ∃ A c, e = .returned (.tuple #[.slice A 0 c, .int .i64 X]) ∧ Below W.heap.size W w'
/-- what the program's functions answer wherever T holds (its variables, if it has any) -/
structure Cts (T : World → Prop) : Prop where
  keep : ∀ {w w' : World}, T w → Below w.heap.size w w' → T w'
  pack : ∀ (A : Option Addr) (n c : Nat) (l : List Nat) (w : World), T w → IsBys w A n l → n ≤ c → n ≤ 2000 → (∀ i, i < n → l.getD i 0 ≤ 15) → Calls Tryd.prog 8 #[.slice A n c] w (RnP w (pk l))
  packNo : ∀ (A : Option Addr) (n c : Nat) (l : List Nat) (w : World), T w → IsBys w A n l → n ≤ 2000 → (∃ i, i < n ∧ 15 < l.getD i 0) → Calls Tryd.prog 8 #[.slice A n c] w (Refuses w 2)
  unpack : ∀ (A : Option Addr) (m c : Nat) (L : List Rn) (n : Nat) (w : World), T w → IsRns w A m L → m ≤ 4000 → n ≤ 9223372036854775807 → Calls Tryd.prog 10 #[.slice A m c, .int .i64 n] w (UnP w (unp n [] L).1 (unp n [] L).2)
  unpackNo : ∀ (A : Option Addr) (m c : Nat) (x : Int) (w : World), T w → x < 0 → Calls Tryd.prog 10 #[.slice A m c, .int .i64 x] w (Refuses w 2)
  times : ∀ (s e : Nat) (w : World), T w → s ≤ 255 → e ≤ 255 → Calls Tryd.prog 13 #[.agg #[.int .u8 s, .int .u8 e]] w fun x w' => x = .returned (.tuple #[.int .i64 (tms ⟨s, e⟩ : Nat), .bool (decide (0 < tms ⟨s, e⟩))]) ∧ Below w.heap.size w w'
  bits : ∀ (s : Nat) (w : World), T w → s ≤ 255 → Calls Tryd.prog 14 #[.int .u8 s] w fun x w' => x = .returned (.tuple #[.int .i64 (max (rbs s) 0), .bool (decide (0 ≤ rbs s))]) ∧ Below w.heap.size w w'

theorem heavy_any (A B : Option Addr) (n c m d : Nat) (w : World) (hn : n ≤ maxLen) (hm : m ≤ maxLen) : Calls Tryd.prog 6 #[.slice A n c, .slice B m d] w fun e w' => e = .returned (.bool (decide (2000 < n ∨ 500 < m))) ∧ w = w' := by
  unfold maxLen at hn hm
  by_cases h1 : 2000 < n
  · have d1 : decide ((2000 : Int) < (n : Int)) = true := decide_eq_true (by omega)
    have d1' : decide (2000 < n) = true := decide_eq_true h1
    rw [decide_eq_true (Or.inl h1)]
    clear h1
    go_enter Tryd.func6, Tryd.ntmps6
    go_wp2_with fail
    go_ret
    exact ⟨by simp, rfl⟩
  · have d1 : decide ((2000 : Int) < (n : Int)) = false := decide_eq_false (by omega)
    have d1' : decide (2000 < n) = false := decide_eq_false h1
    by_cases h2 : 500 < m
    · have d2 : decide ((500 : Int) < (m : Int)) = true := decide_eq_true (by omega)
      have d2' : decide (500 < m) = true := decide_eq_true h2
      rw [decide_eq_true (Or.inr h2)]
      clear h1 h2
      go_enter Tryd.func6, Tryd.ntmps6
      go_wp2_with fail
      go_ret
      exact ⟨by simp, rfl⟩
    · have d2 : decide ((500 : Int) < (m : Int)) = false := decide_eq_false (by omega)
      have d2' : decide (500 < m) = false := decide_eq_false h2
      rw [decide_eq_false (fun g => g.elim h1 h2)]
      clear h1 h2
      go_enter Tryd.func6, Tryd.ntmps6
      go_wp2_with fail
      go_ret
      exact ⟨by simp, rfl⟩

set_option maxRecDepth 1000000 in
theorem lens_same (A B : Option Addr) (n c d : Nat) (l : List Nat) (w : World) (hA : IsBys w A n l) (hB : IsBys w B n l) (hn : n ≤ 1000000) : Calls Tryd.prog 12 #[.slice A n c, .slice B n d] w fun e w' => e = .returned (.bool true) ∧ ∃ q, w' = w.drewN q := by
  have HA := Lib.hid hA
  have HB := Lib.hid hB
  clear hA hB
  go_enter Tryd.func12, Tryd.ntmps12
  go_wp2_with fail
  go_loopw [5] (fun x wr => ∃ k q : Nat, k ≤ n ∧ x = .int .i64 k ∧ wr = w.drewN q) (fun x _ => n - (intOf x).toNat)
  case atStart => exact ⟨0, 0, Nat.zero_le _, rfl, rfl⟩
  case round =>
    obtain ⟨k, q, hk, rfl, rfl⟩ := hrel
    by_cases hlt : k < n
    · have d1 : decide ((k : Int) < (n : Int)) = true := decide_eq_true (by omega)
      have d1' : decide (k < n) = true := decide_eq_true hlt
      obtain ⟨b, o, rfl, _, hc⟩ := HA.out.at (by omega)
      obtain ⟨b', o', rfl, _, hc'⟩ := HB.out.at (by omega)
      have c0 := hc k hlt
      have c1 := hc' k hlt
      obtain ⟨x, hx⟩ : ∃ x, l.getD k 0 = x := ⟨_, rfl⟩
      rw [hx] at c0 c1
      clear hc hc' hx
      go_upto_region 6 with fail
      go_region
      go_wp2_with fail
      exact ⟨⟨k + 1, q + 1, by omega, by go_num, rfl⟩, by simp [intOf]; omega⟩
    · obtain rfl : k = n := by omega
      have d1 : decide ((k : Int) < (k : Int)) = false := decide_eq_false (by omega)
      have d1' : decide (k < k) = false := decide_eq_false (by omega)
      go_wp2_with fail
      go_ret
      exact ⟨rfl, q, rfl⟩
end Go.Proofs.YtogbohompffcbaaDoor.U
