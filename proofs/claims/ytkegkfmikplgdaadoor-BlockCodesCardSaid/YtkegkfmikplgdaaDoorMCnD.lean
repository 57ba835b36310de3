/- Texts of one place, one behind the other: CnD, SmL. -/
import Derived.Test.YtkegkfmikplgdaaDoorMCnA
import Derived.Deep.QuietTactic
import Derived.BigQuiet
/- What counts weigh by lengths: a sum (tpl6 XCnD without what a seat of layer 13 lacks). No program. -/
namespace Go.Proofs.YtkegkfmikplgdaaDoor
open Go.RowKit M
set_option linter.unusedVariables false

/-- what the first k lengths weigh with their counts, as an int holds it -/
def wg (l : Nat → Nat) (z : Nat → Int) : Nat → Int
  | 0 => 0
  | k + 1 => if 0 < z k then wrap64 (wg l z k + wrap64 ((l k : Int) * z k)) else wg l z k
theorem wg_in (l : Nat → Nat) (z : Nat → Int) : ∀ k, -9223372036854775808 ≤ wg l z k ∧ wg l z k ≤ 9223372036854775807
  | 0 => by simp [wg]
  | k + 1 => by
    simp only [wg]
    split
    · unfold wrap64; omega
    · exact wg_in l z k
end Go.Proofs.YtkegkfmikplgdaaDoor

/- What the document SameLens answers. Conditions: as each theorem names them. -/
namespace Go.Proofs.YtkegkfmikplgdaaDoor
open Go.RowKit M
set_option linter.unusedVariables false

set_option maxHeartbeats 1000000 in
theorem sameLens_any (A B : Option Addr) (n c d : Nat) (f g : Nat → Nat) (W : World) (hn : n ≤ maxLen) (H : Nums W .u8 A n (fun i => (f i : Int))) (HZ : Nums W .u8 B n (fun i => (g i : Int))) (e1 : ∀ i, i < n → f i = g i) :
    Calls Tryd.prog 12 #[.slice A n c, .slice B n d] W fun e w' => e = .returned (.bool true) ∧ ∃ q, w' = W.drewN q := by
  have hn' : n ≤ 9223372036854775807 := by unfold maxLen at hn; omega
  have HA := Lib.hid H
  have HH := Lib.hid HZ
  have E1 := Lib.hid e1
  clear H HZ hn e1
  go_enter Tryd.func12, Tryd.ntmps12
  go_wp2_with fail
  go_loopw [5] (fun i wr => ∃ k : Nat, k ≤ n ∧ i = .int .i64 k ∧ ∃ q, wr = W.drewN q) (fun i _ => n - (intOf i).toNat)
  case atStart => exact ⟨0, Nat.zero_le _, rfl, 0, rfl⟩
  case round =>
    obtain ⟨k, hkn, rfl, q, rfl⟩ := hrel
    by_cases hlt : k < n
    · obtain ⟨b, o, rfl, hbs, hc1⟩ := HA.out (by omega)
      obtain ⟨b2, o2, rfl, hbs2, hc2⟩ := HH.out (by omega)
      have g1 : W.cell? ⟨b, o + k, none⟩ = some (.int .u8 (f k)) := hc1 k hlt
      have g3 : W.cell? ⟨b2, o2 + k, none⟩ = some (.int .u8 (g k)) := hc2 k hlt
      rw [← E1.out k hlt] at g3
      have hkk : ((k : Int)).toNat = k := by omega
      clear hc1 hc2
      go_wp2_with fail
      go_quiet (fail)
      go_wp2_with fail
      go_roundw
      case rel => exact ⟨k + 1, by omega, by go_num, _, rfl⟩
      case measure => simp [intOf]; omega
    · obtain rfl : k = n := by omega
      go_wp2_with fail
      go_ret
      exact ⟨rfl, _, rfl⟩

end Go.Proofs.YtkegkfmikplgdaaDoor
