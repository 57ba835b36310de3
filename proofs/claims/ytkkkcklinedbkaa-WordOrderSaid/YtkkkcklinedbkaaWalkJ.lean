/- The walk of WordParts: it returns true for any arguments that their kinds hold. Conditions: none. -/
import Derived.Test.YtkkkcklinedbkaaWalkI
namespace Go.Proofs.Ytkkkcklinedbkaa
open Go.RowKit M
set_option linter.unusedVariables false

theorem u8_bounds {a : Int} (h : (Lit.int .u8 a).wf = true) : 0 ≤ a ∧ a ≤ 255 := by simpa [Lit.wf, IntKind.min, IntKind.max, IntKind.signed, IntKind.bits] using h
theorem u16_bounds {a : Int} (h : (Lit.int .u16 a).wf = true) : 0 ≤ a ∧ a ≤ 65535 := by simpa [Lit.wf, IntKind.min, IntKind.max, IntKind.signed, IntKind.bits] using h

theorem WordParts_walk (a0 a1 a2 : Int) (w : World) (w0 : (Lit.int .u64 a0).wf = true) (w1 : (Lit.int .u8 a1).wf = true) (w2 : (Lit.int .u8 a2).wf = true) :
    Calls Try.prog 7 #[.int .u64 a0, .int .u8 a1, .int .u8 a2] w fun e w' => e = .returned (.bool true) ∧ Below w.heap.size w w' := by
  have hn := u64_bounds w0
  have h1 := u8_bounds w1
  have h2 := u8_bounds w2
  clear w0 w1 w2
  obtain ⟨N, rfl⟩ := Int.eq_ofNat_of_zero_le hn.1
  have hN := hn.2
  rw [Int.toNat_natCast] at hN
  clear hn
  obtain ⟨A, hA⟩ : ∃ A : Nat, 1 + a1 % 4 = A := ⟨(1 + a1 % 4).toNat, by omega⟩
  obtain ⟨B, hB⟩ : ∃ B : Nat, 1 + a2 % 4 = B := ⟨(1 + a2 % 4).toNat, by omega⟩
  have hA1 : 1 ≤ A ∧ A ≤ 4 := by omega
  have hB1 : 1 ≤ B ∧ B ≤ 4 := by omega
  obtain ⟨S, hS⟩ : ∃ S : Nat, (A : Int) + B = S := ⟨A + B, by omega⟩
  have hS1 : S = A + B := by omega
  obtain ⟨C, hC⟩ : ∃ C : Nat, 8 * (S : Int) = C := ⟨8 * S, by omega⟩
  obtain ⟨E, hE⟩ : ∃ E : Nat, 8 * (A : Int) = E := ⟨8 * A, by omega⟩
  have hC1 : C = 8 * S := by omega
  have hE1 : E = 8 * A := by omega
  obtain ⟨M, hM⟩ : ∃ M, M = N % 2 ^ C := ⟨_, rfl⟩
  have hMb : M < big := by rw [hM]; exact mod_big N _ hN
  have hMs : M < 256 ^ S := by rw [hM, hC1, ← pow256]; exact Nat.mod_lt _ (Nat.pow_pos (by decide))
  have ha1 : bits .and .u64 (N : Int) (mk C : Int) = (M : Int) := by rw [hM]; exact and_mask N C hN (by omega)
  clear hM
  obtain ⟨X, hX⟩ : ∃ X, X = M % 2 ^ E := ⟨_, rfl⟩
  have ha2 : bits .and .u64 (M : Int) (mk E : Int) = (X : Int) := by rw [hX]; exact and_mask M E hMb (by omega)
  have hXs : X < 256 ^ A := by rw [hX, hE1, ← pow256]; exact Nat.mod_lt _ (Nat.pow_pos (by decide))
  obtain ⟨Y, hY⟩ : ∃ Y, Y = M / 2 ^ E := ⟨_, rfl⟩
  have ha3 : (M : Int) / 2 ^ E = (Y : Int) := by rw [hY]; simp
  have hYs : Y < 256 ^ B := by
    rw [hY, hE1, ← pow256]
    apply Nat.div_lt_of_lt_mul
    rw [← Nat.pow_add, ← hS1]
    exact hMs
  have hcut : bstr (le X A) ++ bstr (le Y B) = bstr (le M S) := by
    rw [hS1, hX, hY, hE1, ← pow256]
    exact bstr_cut M A B
  have HC := Lib.hid hcut
  clear hcut hX hY hS1 hC1 hE1
  go_enter Try.func7, Try.ntmps7
  go_wp2_with fail
  refine (mask_nat C _ (by omega)).mono ?_; rintro e w' ⟨rfl, rfl⟩
  go_wp2_with fail
  refine (put_yes M S _ (by omega) (by omega) hMs).mono ?_; rintro e W1 ⟨rfl, hb1⟩
  generalize hz1 : bstr (le M S) = z1 at *
  have HZ1 := Lib.hid hz1
  clear hz1
  go_wp2_with fail
  refine (mask_nat E _ (by omega)).mono ?_; rintro e w' ⟨rfl, rfl⟩
  go_wp2_with fail
  refine (put_yes X A _ (by omega) (by omega) hXs).mono ?_; rintro e W2 ⟨rfl, hb2⟩
  generalize hz2 : bstr (le X A) = z2 at *
  have HZ2 := Lib.hid hz2
  clear hz2
  go_wp2_with fail
  refine (put_yes Y B _ (by omega) (by omega) hYs).mono ?_; rintro e W3 ⟨rfl, hb3⟩
  generalize hz3 : bstr (le Y B) = z3 at *
  have hs2 : z2.size ≤ 4 := by rw [← HZ2.out, bstr_le_size]; omega
  have hs3 : z3.size ≤ 4 := by rw [← hz3, bstr_le_size]; omega
  clear hz3
  have hcut := HC.out
  go_wp2_with fail
  refine (alive_any _).mono ?_; rintro e W4 ⟨rfl, hb4⟩
  go_wp2_with fail
  go_ret
  exact ⟨rfl, ((hb1.trans (hb2.mono hb1.size)).trans (hb3.mono (Nat.le_trans hb1.size hb2.size))).trans (hb4.mono (Nat.le_trans (Nat.le_trans hb1.size hb2.size) hb3.size))⟩
end Go.Proofs.Ytkkkcklinedbkaa
