/- ChainMatch returns true for any arguments that their kinds hold. Conditions: none. -/
import Derived.Test.YtehpjhdbhhnkhaaMat
namespace Go.Proofs.Ytehpjhdbhhnkhaa
open Go Go.RowKit M
set_option linter.unusedVariables false

theorem u8_nat {a : Int} (h : (Lit.int .u8 a).wf = true) : ∃ n : Nat, a = (n : Int) ∧ n ≤ 255 := by
  have hb : 0 ≤ a ∧ a ≤ 255 := by simpa [Lit.wf, IntKind.min, IntKind.max, IntKind.signed, IntKind.bits] using h
  exact ⟨a.toNat, by omega, by omega⟩
theorem u16_nat {a : Int} (h : (Lit.int .u16 a).wf = true) : ∃ n : Nat, a = (n : Int) ∧ n ≤ 65535 := by
  have hb : 0 ≤ a ∧ a ≤ 65535 := by simpa [Lit.wf, IntKind.min, IntKind.max, IntKind.signed, IntKind.bits] using h
  exact ⟨a.toNat, by omega, by omega⟩
theorem ChainMatch_walk (a0 : ByteArray) (a1 a2 a3 : Int) (W : World) (w0 : a0.size ≤ maxLen) (w1 : (Lit.int .u16 a1).wf = true) (w2 : (Lit.int .u8 a2).wf = true) (w3 : (Lit.int .u8 a3).wf = true) :
    Calls Try.prog 3 #[.string a0, .int .u16 a1, .int .u8 a2, .int .u8 a3] W fun e w' => e = .returned (.bool true) ∧ Below W.heap.size W w' := by
  by_cases c : 2048 < a0.size ∨ a0.size = 0
  · exact match_far a0 a1 a2 a3 W c w0
  · obtain ⟨A, rfl, hA⟩ := u16_nat w1
    obtain ⟨D, rfl, hD⟩ := u8_nat w2
    obtain ⟨C, rfl, hC⟩ := u8_nat w3
    exact match_near a0 A D C W (by omega) (by omega) hA hD hC
end Go.Proofs.Ytehpjhdbhhnkhaa
