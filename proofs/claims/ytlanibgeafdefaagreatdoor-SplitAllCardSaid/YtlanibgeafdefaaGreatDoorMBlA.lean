/- Texts of one place, one behind the other: BlA, BlN. -/
import Derived.Test.YtlanibgeafdefaaGreatDoorMBwX
import Derived.Test.YtlanibgeafdefaaGreatDoorMBwK
import Derived.Test.YtlanibgeafdefaaGreatDoorQtC
import Derived.Laws.BytesString
import Derived.Laws.Cells
import Derived.WalkSpells
import Derived.Test.YtlanibgeafdefaaGreatDoorMRns
namespace Go.Proofs.YtlanibgeafdefaaGreatDoor.V
open Go Go.RowKit M U
set_option linter.unusedVariables false
set_option linter.unusedSimpArgs false
structure Bks (T : World → Prop) : Prop where
  keep : ∀ {w w' : World}, T w → Below w.heap.size w w' → T w'
  fixed : ∀ w, T w → Calls Tryz.prog 56 #[] w fun e w' => ∃ A1 c1 A2 c2, e = .returned (.agg #[.slice A1 288 c1, .slice A2 30 c2]) ∧ Nums w' .u8 A1 288 (fun i => (fxl i : Int)) ∧ Nums w' .u8 A2 30 (fun _ => ((5 : Nat) : Int)) ∧ Below w.heap.size w w'
  order : ∀ w, T w → Calls Tryz.prog 100 #[] w fun e w' => ∃ A c, e = .returned (.slice A 19 c) ∧ Nums w' .u8 A 19 (fun i => ((ord.getD i 0 : Nat) : Int)) ∧ Below w.heap.size w w'
  size : ∀ (k : Nat) (A : Option Addr) (n c : Nat) (L : List Tk) (raw : ByteArray) (p : Nat) (w : World), T w → IsTks w A n L → n ≤ 100000 → raw.size ≤ 1000000 → p ≤ 1000000 → k ≤ 2 → (k ≠ 0 → ∀ t ∈ L, may t = true) →
    Calls Tryz.prog 28 #[.int .u8 k, .slice A n c, .string raw, .int .i64 p] w fun e w' => e = .returned (.tuple #[.int .i64 ((bkm k L raw false (p % 8)).length : Nat), .int .i64 0]) ∧ Below w.heap.size w w'
  sizeNo : ∀ (k : Nat) (A : Option Addr) (n c : Nat) (L : List Tk) (raw : ByteArray) (p : Nat) (w : World), T w → IsTks w A n L → n ≤ 100000 → raw.size ≤ 1000000 → p ≤ 1000000 → k ≤ 255 → (2 < k ∨ (k ≠ 0 ∧ ∃ i, i < n ∧ may (L.getD i default) = false)) →
    Calls Tryz.prog 28 #[.int .u8 k, .slice A n c, .string raw, .int .i64 p] w fun e w' => e = .returned (.tuple #[.int .i64 0, .int .i64 2]) ∧ Below w.heap.size w w'
theorem IsTks.none (w : World) : IsTks w none 0 [] := ⟨rfl, Nat.zero_le _, fun c hc => absurd hc (by simp), .inl rfl⟩
end Go.Proofs.YtlanibgeafdefaaGreatDoor.V

namespace Go.Proofs.YtlanibgeafdefaaGreatDoor.V
open Go Go.RowKit M U
set_option linter.unusedVariables false
set_option linter.unusedSimpArgs false
theorem cdb_succ (c s : Nat) : cdb c (s + 1) = c / 2 ^ s % 2 :: cdb c s := by
  unfold cdb
  rw [List.range_succ_eq_map, List.map_cons, List.map_map]
  congr 1
  apply List.map_congr_left
  intro i _
  show c / 2 ^ (s + 1 - 1 - (i + 1)) % 2 = _
  congr 3
  omega
section
variable {w : World} {B p : Nat} {S : Nat → Prop} {most : Int} {V o : Nat} {X : List Nat}
end
end Go.Proofs.YtlanibgeafdefaaGreatDoor.V
