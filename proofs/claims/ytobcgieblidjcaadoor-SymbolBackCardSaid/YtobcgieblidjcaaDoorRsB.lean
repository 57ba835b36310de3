/- The document's lengths and distances as symbols (layer 11): Length, Dist, LengthOf, DistOf. Conditions: as each theorem names them. -/
import Derived.Test.YtobcgieblidjcaaDoorRsA
import Derived.Test.YtobcgieblidjcaaDoorLay
namespace Go.Proofs.YtobcgieblidjcaaDoor
open Go Go.RowKit M
set_option linter.unusedVariables false
set_option linter.unusedSimpArgs false

theorem rlen_no (x : Int) (w : World) (hx : x < 3 ∨ 258 < x) : Calls Tryd.prog 7 #[.int .i64 x] w fun e w' => e = .returned (.tuple #[.int .i64 (-1), .int .i64 0]) ∧ w = w' := by
  by_cases h : x < 3
  · have d : decide (x < 3) = true := decide_eq_true h
    clear hx h
    go_enter Tryd.func7, Tryd.ntmps7
    go_wp2
    go_ret2
    exact ⟨rfl, rfl⟩
  · have d : decide (x < 3) = false := decide_eq_false h
    have d2 : decide (258 < x) = true := decide_eq_true (by omega)
    clear hx h
    go_enter Tryd.func7, Tryd.ntmps7
    go_wp2
    go_ret2
    exact ⟨rfl, rfl⟩
theorem fdn_step {l : Nat → Nat} {n j : Nat} (h : n < l (j + 1)) : fdn l n (j + 1) = fdn l n j := by
  rw [fdn, if_neg (by omega)]
theorem fdn_here {l : Nat → Nat} {n j : Nat} (h : l j ≤ n) : fdn l n j = j := by
  cases j with
  | zero => rfl
  | succ j => rw [fdn, if_pos h]

set_option maxRecDepth 1000000 in
set_option maxHeartbeats 1000000 in
theorem rlen_yes (n : Nat) (w : World) (hn : 3 ≤ n ∧ n ≤ 258) : Calls Tryd.prog 7 #[.int .i64 n] w fun e w' => e = .returned (.tuple #[.int .i64 (257 + (lsy n : Nat)), .int .i64 (lex n : Nat)]) ∧ Below w.heap.size w w' := by
  have d1 : decide ((n : Int) < 3) = false := decide_eq_false (by omega)
  have d1' : decide (n < 3) = false := decide_eq_false (by omega)
  have d2 : decide (258 < (n : Int)) = false := decide_eq_false (by omega)
  have d2' : decide (258 < n) = false := decide_eq_false (by omega)
  obtain ⟨S, hS⟩ : ∃ S, lsy n = S := ⟨_, rfl⟩
  obtain ⟨X, hX⟩ : ∃ X, lex n = X := ⟨_, rfl⟩
  rw [hS, hX]
  have HS := Lib.hid hS
  have HX := Lib.hid hX
  have HN := Lib.hid hn
  clear hS hX hn
  go_enter Tryd.func7, Tryd.ntmps7
  go_wp2_with (go_at_call 20; (with_reducible refine (rlengths_any _).mono ?_); rintro e w1 ⟨rfl, l1, b1⟩; have L1 := Lib.hid l1; have B1 := Lib.hid b1; clear l1 b1)
  go_loopw [5] (fun x wr => ∃ j : Nat, j ≤ 28 ∧ x = .int .i64 j ∧ fdn ll n 28 = fdn ll n j ∧ wr = w1) (fun x _ => (intOf x).toNat)
  case atStart => exact ⟨28, Nat.le_refl _, rfl, rfl, rfl⟩
  case round =>
    obtain ⟨j, hj, rfl, hf, rfl⟩ := hrel
    have c0 := L1.out.cell hj
    obtain ⟨v, hv⟩ : ∃ v, ll j = v := ⟨_, rfl⟩
    rw [hv] at c0
    have hvb : v ≤ 258 := by rw [← hv]; exact ll_le j hj
    by_cases h : v ≤ n
    · have d3 : decide ((v : Int) ≤ (n : Int)) = true := decide_eq_true (by omega)
      have d3' : decide (v ≤ n) = true := decide_eq_true h
      have hs : S = j := by rw [← HS.out]; unfold lsy; rw [hf]; exact fdn_here (by omega)
      have hx : (n : Int) - (v : Int) = (X : Int) := by
        have : X = n - ll S := by rw [← HX.out, ← HS.out]; rfl
        rw [hs, hv] at this; omega
      have HSj := Lib.hid hs
      have hXb : X ≤ 40000 := by have := HN.out; omega
      clear hf hv h hs hvb
      go_wp2_with fail
      go_quiet (fail)
      go_wp2_with fail
      go_ret2
      rw [HSj.out]
      exact ⟨rfl, below_drewN B1.out _⟩
    · have d3 : decide ((v : Int) ≤ (n : Int)) = false := decide_eq_false (by omega)
      have d3' : decide (v ≤ n) = false := decide_eq_false h
      obtain ⟨i, rfl⟩ : ∃ i, j = i + 1 := ⟨j - 1, by
        have : j ≠ 0 := fun e => by
          rw [e] at hv
          have : v = 3 := by rw [← hv]; rfl
          have := HN.out; omega
        omega⟩
      have HF := Lib.hid (hf.trans (fdn_step (by rw [hv]; omega)))
      clear hf hv h hvb
      go_wp2_with fail
      go_roundw
      case rel => exact ⟨i, by omega, by go_num, HF.out, trivial⟩
      case measure => (simp [intOf]; try omega)
theorem rdist_no (x : Int) (w : World) (hx : x < 1 ∨ 32768 < x) : Calls Tryd.prog 9 #[.int .i64 x] w fun e w' => e = .returned (.tuple #[.int .i64 (-1), .int .i64 0]) ∧ w = w' := by
  by_cases h : x < 1
  · have d : decide (x < 1) = true := decide_eq_true h
    clear hx h
    go_enter Tryd.func9, Tryd.ntmps9
    go_wp2
    go_ret2
    exact ⟨rfl, rfl⟩
  · have d : decide (x < 1) = false := decide_eq_false h
    have d2 : decide (32768 < x) = true := decide_eq_true (by omega)
    clear hx h
    go_enter Tryd.func9, Tryd.ntmps9
    go_wp2
    go_ret2
    exact ⟨rfl, rfl⟩

set_option maxRecDepth 1000000 in
set_option maxHeartbeats 1000000 in
theorem rdist_yes (n : Nat) (w : World) (hn : 1 ≤ n ∧ n ≤ 32768) : Calls Tryd.prog 9 #[.int .i64 n] w fun e w' => e = .returned (.tuple #[.int .i64 ((dsy n : Nat)), .int .i64 (dex n : Nat)]) ∧ Below w.heap.size w w' := by
  have d1 : decide ((n : Int) < 1) = false := decide_eq_false (by omega)
  have d1' : decide (n < 1) = false := decide_eq_false (by omega)
  have d2 : decide (32768 < (n : Int)) = false := decide_eq_false (by omega)
  have d2' : decide (32768 < n) = false := decide_eq_false (by omega)
  obtain ⟨S, hS⟩ : ∃ S, dsy n = S := ⟨_, rfl⟩
  obtain ⟨X, hX⟩ : ∃ X, dex n = X := ⟨_, rfl⟩
  rw [hS, hX]
  have HS := Lib.hid hS
  have HX := Lib.hid hX
  have HN := Lib.hid hn
  clear hS hX hn
  go_enter Tryd.func9, Tryd.ntmps9
  go_wp2_with (go_at_call 21; (with_reducible refine (rdists_any _).mono ?_); rintro e w1 ⟨rfl, l1, b1⟩; have L1 := Lib.hid l1; have B1 := Lib.hid b1; clear l1 b1)
  go_loopw [5] (fun x wr => ∃ j : Nat, j ≤ 29 ∧ x = .int .i64 j ∧ fdn dl n 29 = fdn dl n j ∧ wr = w1) (fun x _ => (intOf x).toNat)
  case atStart => exact ⟨29, Nat.le_refl _, rfl, rfl, rfl⟩
  case round =>
    obtain ⟨j, hj, rfl, hf, rfl⟩ := hrel
    have c0 := L1.out.cell hj
    obtain ⟨v, hv⟩ : ∃ v, dl j = v := ⟨_, rfl⟩
    rw [hv] at c0
    have hvb : v ≤ 24577 := by rw [← hv]; exact dl_le j hj
    by_cases h : v ≤ n
    · have d3 : decide ((v : Int) ≤ (n : Int)) = true := decide_eq_true (by omega)
      have d3' : decide (v ≤ n) = true := decide_eq_true h
      have hs : S = j := by rw [← HS.out]; unfold dsy; rw [hf]; exact fdn_here (by omega)
      have hx : (n : Int) - (v : Int) = (X : Int) := by
        have : X = n - dl S := by rw [← HX.out, ← HS.out]; rfl
        rw [hs, hv] at this; omega
      have HSj := Lib.hid hs
      have hXb : X ≤ 40000 := by have := HN.out; omega
      clear hf hv h hs hvb
      go_wp2_with fail
      go_quiet (fail)
      go_wp2_with fail
      go_ret2
      rw [HSj.out]
      exact ⟨rfl, below_drewN B1.out _⟩
    · have d3 : decide ((v : Int) ≤ (n : Int)) = false := decide_eq_false (by omega)
      have d3' : decide (v ≤ n) = false := decide_eq_false h
      obtain ⟨i, rfl⟩ : ∃ i, j = i + 1 := ⟨j - 1, by
        have : j ≠ 0 := fun e => by
          rw [e] at hv
          have : v = 1 := by rw [← hv]; rfl
          have := HN.out; omega
        omega⟩
      have HF := Lib.hid (hf.trans (fdn_step (by rw [hv]; omega)))
      clear hf hv h hvb
      go_wp2_with fail
      go_roundw
      case rel => exact ⟨i, by omega, by go_num, HF.out, trivial⟩
      case measure => (simp [intOf]; try omega)
end Go.Proofs.YtobcgieblidjcaaDoor
