/- ModsEither returns true for any argument that its kinds hold. Conditions: none. -/
import Derived.Test.YtbbfbijgclpjeaaOlI
namespace Go.Proofs.Ytbbfbijgclpjeaa
open Go Go.RowKit M O
set_option linter.unusedVariables false

theorem ModsEither_walk (a0 : ByteArray) (x1 : Int) (s1 : ByteArray) (x2 : Int) (s2 : ByteArray) (a3 : Int) (W : World) (w0 : a0.size ≤ maxLen) (g1 : Md.ok ⟨x1, s1⟩) (g2 : Md.ok ⟨x2, s2⟩) (w3 : (Lit.int .u8 a3).wf = true) :
    Calls Try.prog 7 #[.string a0, .agg #[.int .i64 x1, .string s1], .agg #[.int .i64 x2, .string s2], .int .u8 a3] W fun e w' => e = .returned (.bool true) ∧ Below W.heap.size W w' := by
  obtain ⟨y3, y4⟩ := u8_bounds w3
  obtain ⟨F, rfl⟩ := Int.eq_ofNat_of_zero_le y3
  have hF : F < 256 := by omega
  by_cases h : 1024 < a0.size ∨ 1024 < s1.size ∨ 1024 < s2.size
  · exact ModsEither_far a0 x1 x2 s1 s2 F W w0 g1 g2 h
  · by_cases hb : may 1024 ⟨x1, s1⟩ = true ∧ may 1024 ⟨x2, s2⟩ = true
    · obtain ⟨m1, m2⟩ := hb
      have k1 : 0 ≤ x1 := (may_iff.1 m1).2.1
      have k2 : 0 ≤ x2 := (may_iff.1 m2).2.1
      obtain ⟨P1, rfl⟩ := Int.eq_ofNat_of_zero_le k1
      obtain ⟨P2, rfl⟩ := Int.eq_ofNat_of_zero_le k2
      exact ModsEither_good a0 P1 P2 s1 s2 F W (by omega) (by omega) (by omega) hF g1 g2 m1 m2
    · exact ModsEither_bad a0 x1 x2 s1 s2 F W (by omega) (by omega) (by omega) hF g1 g2 hb
end Go.Proofs.Ytbbfbijgclpjeaa
