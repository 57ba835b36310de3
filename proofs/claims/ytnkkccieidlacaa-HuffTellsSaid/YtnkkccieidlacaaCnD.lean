/- What the document's Same and Bit answer. Conditions: as each theorem names them. -/
import Derived.Test.YtnkkccieidlacaaCnC
import Derived.Deep.QuietTactic
import Derived.BigQuiet
namespace Go.Proofs.Ytnkkccieidlacaa
open Go.RowKit M
set_option linter.unusedVariables false

set_option maxHeartbeats 1000000 in
theorem same_any (A B : Option Addr) (n c d : Nat) (f g f' g' : Nat → Nat) (W : World) (hn : n ≤ maxLen) (H : Cods W A n f g) (HZ : Cods W B n f' g') (e1 : ∀ i, i < n → f i = f' i) (e2 : ∀ i, i < n → g i = g' i) :
    Calls Try.prog 13 #[.slice A n c, .slice B n d] W fun e w' => e = .returned (.bool true) ∧ ∃ q, w' = W.drewN q := by
  have hn' : n ≤ 9223372036854775807 := by unfold maxLen at hn; omega
  have HA := Lib.hid H
  have HH := Lib.hid HZ
  have E1 := Lib.hid e1
  have E2 := Lib.hid e2
  clear H HZ hn e1 e2
  go_enter Try.func13, Try.ntmps13
  go_wp2_with fail
  go_loopw [5] (fun i wr => ∃ k : Nat, k ≤ n ∧ i = .int .i64 k ∧ ∃ q, wr = W.drewN q) (fun i _ => n - (intOf i).toNat)
  case atStart => exact ⟨0, Nat.zero_le _, rfl, 0, rfl⟩
  case round =>
    obtain ⟨k, hkn, rfl, q, rfl⟩ := hrel
    by_cases hlt : k < n
    · obtain ⟨b, o, rfl, hbs, hc1⟩ := HA.out (by omega)
      obtain ⟨b2, o2, rfl, hbs2, hc2⟩ := HH.out (by omega)
      obtain ⟨g1, g2⟩ := hc1 k hlt
      obtain ⟨g3, g4⟩ := hc2 k hlt
      rw [← E1.out k hlt] at g3
      rw [← E2.out k hlt] at g4
      have hkk : ((k : Int)).toNat = k := by omega
      clear hc1 hc2
      go_wp2_with fail
      go_quiet (fail)
      go_wp2_with fail
      go_roundw
      case rel => exact ⟨k + 1, by omega, by go_num, _, rfl⟩
      case measure => simp [intOf]; omega
    · obtain rfl : k = n := by omega
      go_wp2_with fail
      go_ret
      exact ⟨rfl, _, rfl⟩

/-- A bit of a code, from its first on. -/
theorem bit_any (x z k : Nat) (W : World) (hx : x < 4294967296) (hz : z ≤ 15) (hk : k < z) :
    Calls Try.prog 36 #[.agg #[.int .u32 x, .int .u8 z], .int .i64 k] W fun e w' => e = .returned (.int .u32 ((x / 2 ^ (z - 1 - k) % 2 : Nat) : Int)) ∧ Below W.heap.size W w' := by
  obtain ⟨d, hd⟩ : ∃ d, z - 1 - k = d := ⟨_, rfl⟩
  have h1 : (z : Int) - 1 - (k : Int) = (d : Int) := by omega
  have h2 : (0 : Int) ≤ (d : Int) := by omega
  have hd4 : d ≤ 14 := by omega
  have hx' : x ≤ 4294967295 := by omega
  rw [hd]
  clear hx hd
  have HV : Hid (((x : Int) / 2 ^ min d 32).tmod 2 = ((x / 2 ^ d % 2 : Nat) : Int)) := Lib.hid (by
    rw [Nat.min_eq_left (by omega)]
    have e : (x : Int) / 2 ^ d = ((x / 2 ^ d : Nat) : Int) := by push_cast; rfl
    rw [e, Int.tmod_eq_emod_of_nonneg (Int.natCast_nonneg _)]; rfl)
  go_enter Try.func36, Try.ntmps36
  go_wp2_with fail
  go_ret
  exact ⟨congrArg (fun q => Ending.returned (.int .u32 q)) (by first | exact HV.out | (rw [← HV.out, Nat.min_eq_left (by omega)])), (Below.refl _ _).alloc (Nat.le_refl _) _⟩

end Go.Proofs.Ytnkkccieidlacaa
