/- What the document's Lens of layer 6 answers where it refuses. Conditions: as each theorem names them. -/
import Derived.Test.YteicamfelamfhaaRfN
import Derived.Test.YteicamfelamfhaaRfS
import Derived.Test.YteicamfelamfhaaRfU
namespace Go.Proofs.Yteicamfelamfhaa
open Go.RowKit M
set_option linter.unusedVariables false

theorem Is.sl {base : Nat} {w : World} {v : Value} {n : Nat} {F : Nat → Int} (h : Is base w v n F) : ∃ A cap, v = .slice A n cap ∧ Nums w .i64 A n F ∧ (0 < n → ∃ b o, A = some ⟨b, o, none⟩) := by
  rcases h.parts with ⟨rfl, rfl⟩ | ⟨g, cap, rfl⟩
  · exact ⟨none, 0, rfl, fun h => absurd h (by omega), fun h => absurd h (by omega)⟩
  · exact ⟨_, cap, rfl, h.nums, fun _ => ⟨g, 0, rfl⟩⟩

set_option maxHeartbeats 1000000 in
set_option maxRecDepth 1000000 in
theorem rlens_bad (A : Option Addr) (n c' : Nat) (z : Nat → Int) (L : Int) (W : World) (hn : n ≤ maxLen) (H : Nums W .i64 A n z) (hb : ¬ MayC z n ∨ L < 1 ∨ 15 < L) :
    Calls Try.prog 10 #[.slice A n c', .int .i64 L] W fun x w' => x = .returned (.tuple #[.slice none 0 0, .int .i64 2]) ∧ Below W.heap.size W w' := by
  have hn' : n ≤ 9223372036854775807 := by unfold maxLen at hn; omega
  clear hn
  by_cases h0 : 320 < n
  · have d1 : decide (320 < (n : Int)) = true := decide_eq_true (by omega)
    clear hb
    go_enter Try.func10, Try.ntmps10
    go_wp2_with fail
    go_ret2
    exact ⟨rfl, Below.refl _ _⟩
  by_cases h2 : L < 1
  · have d1 : decide (L < 1) = true := decide_eq_true h2
    clear hb
    go_enter Try.func10, Try.ntmps10
    go_wp2_with fail
    go_ret2
    exact ⟨rfl, Below.refl _ _⟩
  by_cases h3 : 15 < L
  · have d1 : decide (15 < L) = true := decide_eq_true h3
    clear hb
    go_enter Try.func10, Try.ntmps10
    go_wp2_with fail
    go_ret2
    exact ⟨rfl, Below.refl _ _⟩
  have HM : Hid (¬ MayC z n) := Lib.hid (by
    rcases hb with g | g | g
    · exact g
    · exact absurd g h2
    · exact absurd g h3)
  clear hb
  go_enter Try.func10, Try.ntmps10
  go_wp2_with fail
  go_loop [6] (fun i => ∃ k : Nat, k ≤ n ∧ i = .int .i64 k ∧ Hid (∀ j, j < k → 0 ≤ z j ∧ z j ≤ 1073741824)) (fun i => n - (intOf i).toNat)
  case atStart => exact ⟨0, Nat.zero_le _, rfl, Lib.hid (fun j hj => by omega)⟩
  case round =>
    obtain ⟨k, hk, rfl, hsm⟩ := hrel
    by_cases hlt : k < n
    · obtain ⟨b, o, rfl, hb, hc⟩ := H (by omega)
      have hcell := hc k hlt
      have HH := Lib.hid hc
      clear hc
      obtain ⟨x, hx⟩ : ∃ x, z k = x := ⟨_, rfl⟩
      rw [hx] at hcell
      have HX := Lib.hid hx
      clear hx
      by_cases h1 : x < 0
      · have d1 : decide (x < 0) = true := decide_eq_true h1
        go_wp2_with fail
        go_ret2
        exact ⟨rfl, Below.refl _ _⟩
      · have d1 : decide (x < 0) = false := decide_eq_false h1
        by_cases h4 : 1073741824 < x
        · have d2 : decide (1073741824 < x) = true := decide_eq_true h4
          go_wp2_with fail
          go_ret2
          exact ⟨rfl, Below.refl _ _⟩
        · have d2 : decide (1073741824 < x) = false := decide_eq_false h4
          go_wp2_with fail
          go_round
          case rel => exact ⟨k + 1, by omega, by go_num, Lib.hid (fun j hj => by
            by_cases e : j = k
            · rw [e, HX.out]; omega
            · exact hsm.out j (by omega))⟩
          case measure => simp [intOf]; omega
    · obtain rfl : k = n := by omega
      exact absurd (⟨by omega, hsm.out⟩ : MayC z k) HM.out

/-- ahead of the symbols: all counts are gone through -/
theorem cnt_fine {c : Nat → Nat} (hc : ∀ i, c i ≤ 1073741824) (k : Nat) : decide ((c k : Int) < 0) = false ∧ decide ((1073741824 : Int) < (c k : Int)) = false := ⟨decide_eq_false (by omega), decide_eq_false (by have := hc k; omega)⟩

set_option maxHeartbeats 1000000 in
set_option maxRecDepth 1000000 in
theorem rlens_few (A : Option Addr) (n c' L m : Nat) (c : Nat → Nat) (e : Nat → Nat × Nat) (W : World) (hn : n ≤ 320) (hc : ∀ i, c i ≤ 1073741824) (H : Nums W .i64 A n (fun i => (c i : Int))) (h1 : 1 ≤ L) (h2 : L ≤ 15) (hl : IsLv c n m e) (hb : L < nds m) :
    Calls Try.prog 10 #[.slice A n c', .int .i64 L] W fun x w' => x = .returned (.tuple #[.slice none 0 0, .int .i64 2]) ∧ Below W.heap.size W w' := by
  have HA := Lib.hid H
  have HC := Lib.hid hc
  have HL := Lib.hid hl
  have hm := hl.le
  obtain ⟨q, hq⟩ : ∃ q, nds m = q := ⟨_, rfl⟩
  rw [hq] at hb
  have HQ := Lib.hid hq
  have NC := Lib.hid (fun w => rneeds_any (m : Int) w (by omega) (by omega))
  clear H hc hl hq
  go_enter Try.func10, Try.ntmps10
  go_wp2_with fail
  go_loop [6] (fun i => ∃ k : Nat, k ≤ n ∧ i = .int .i64 k) (fun i => n - (intOf i).toNat)
  case atStart => exact ⟨0, Nat.zero_le _, rfl⟩
  case round =>
    obtain ⟨k, hk, rfl⟩ := hrel
    by_cases hlt : k < n
    · obtain ⟨b, o, rfl, hb', hcl⟩ := HA.out (by omega)
      have hcell : W.cell? ⟨b, o + k, none⟩ = some (.int .i64 (c k)) := hcl k hlt
      have x30 := HC.out k
      clear hcl
      obtain ⟨x, hx⟩ : ∃ x, c k = x := ⟨_, rfl⟩
      rw [hx] at hcell x30
      clear hx
      go_wp2_with fail
      go_round
      case rel => exact ⟨k + 1, by omega, by go_num⟩
      case measure => simp [intOf]; omega
    · obtain rfl : k = n := by omega
      go_wp2_with fail
      refine (rsym_any A k c' c _ hn HC.out HA.out).mono ?_; rintro x w1 ⟨v1, m1, e1, rfl, l1, s1, b1⟩
      obtain ⟨rfl, he⟩ := lv_one HL.out l1
      obtain ⟨A1, cap1, rfl, f1, _⟩ := s1.sl
      have B1 := Lib.hid b1
      clear l1 s1 b1 he f1
      go_wp2_with fail
      refine (NC.out _).mono ?_; rintro e0 w' ⟨rfl, rfl⟩
      rw [show ((m : Int)).toNat = m by omega, HQ.out]
      clear NC
      go_wp2_with fail
      go_ret2
      exact ⟨rfl, B1.out⟩
end Go.Proofs.Yteicamfelamfhaa
