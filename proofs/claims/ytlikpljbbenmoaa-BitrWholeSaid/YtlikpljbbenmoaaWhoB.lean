/- BitrWhole returns true for any arguments that their kinds hold: small ones, and those that it lets go. Conditions: none. -/
import Derived.Test.YtlikpljbbenmoaaWho
namespace Go.Proofs.Ytlikpljbbenmoaa
open Go.RowKit M
set_option linter.unusedVariables false

theorem BitrWhole_walk (a0 : ByteArray) (a1 : Option Addr) (len1 cap1 : Nat) (z1 : List Ca) (w : World) (w0 : a0.size ≤ maxLen) (w1 : IsCas w a1 len1 z1) :
    Calls Try.prog 7 #[.string a0, .slice a1 len1 cap1] w fun e w' => e = .returned (.bool true) ∧ Below w.heap.size w w' := by
  by_cases hs : a0.size ≤ 512
  · by_cases hl : len1 ≤ 100
    · exact whole_yes a0 a1 len1 cap1 z1 w hs hl w1
    · have hl' : decide ((100 : Int) < (len1 : Int)) = true := by simp; omega
      clear hl w0 w1
      go_enter Try.func7, Try.ntmps7
      go_wp2_with fail
      refine (alive_any _).mono ?_; rintro e w9 ⟨rfl, b9⟩
      go_wp2_with fail
      go_ret
      exact ⟨rfl, b9⟩
  · have hs' : 512 < a0.size := by omega
    clear hs w0 w1
    go_enter Try.func7, Try.ntmps7
    go_wp2_with fail
    refine (alive_any _).mono ?_; rintro e w9 ⟨rfl, b9⟩
    go_wp2_with fail
    go_ret
    exact ⟨rfl, b9⟩
end Go.Proofs.Ytlikpljbbenmoaa
