import Derived.Test.YtlanibgeafdefaaGreatDoorMMath
import Derived.Deep.OwnRows
import Derived.BigQuiet
import Derived.Deep.QuietTactic
namespace Go.Proofs.YtlanibgeafdefaaGreatDoor
open Go.RowKit M
set_option linter.unusedVariables false
set_option maxRecDepth 1000000
structure Wr (w : World) (B p : Nat) (most : Int) (ao : Option Addr) (c k V L : Nat) : Prop where
  c0 : w.cell? ⟨p, 0, none⟩ = some (.bool true)
  c1 : w.cell? ⟨p, 1, none⟩ = some (.int .i64 most)
  c2 : w.cell? ⟨p, 2, none⟩ = some (.slice ao k c)
  c3 : w.cell? ⟨p, 3, none⟩ = some (.int .u64 (V / 256 ^ k : Nat))
  c4 : w.cell? ⟨p, 4, none⟩ = some (.int .i64 (L - 8 * k : Nat))
  fz : ∀ i, w.frozen? ⟨p, i, none⟩ = false
  own : w.ownsRow B 5 1 (.slice ao k c) k ((bys V k).map (Value.int .u8))
  ap : ∀ a, ao = some a → a.block ≠ p
  base : B ≤ p
  val : V < 2 ^ L
  ge : 8 * k ≤ L
def foot (p : Nat) (ao : Option Addr) : Nat → Prop := fun j => j = p ∨ ∃ a, ao = some a ∧ j = a.block
def Wt (w : World) (B p : Nat) (S : Nat → Prop) (most : Int) (V L : Nat) : Prop := ∃ ao c, Wr w B p most ao c (L / 8) V L ∧ ∀ j, S j ↔ foot p ao j
variable {w w' : World} {B p k c V L : Nat} {ao : Option Addr} {most : Int} {S T : Nat → Prop}
theorem Wr.lt (h : Wr w B p most ao c k V L) : p < w.heap.size := World.block_lt_of_cell? w _ h.c0
theorem Wr.row (h : Wr w B p most ao c k V L) {a : Addr} (ha : ao = some a) : B ≤ a.block ∧ a.block < w.heap.size := h.own.lt a.block (by rw [ha]; rfl)
theorem Wr.foot_lt (h : Wr w B p most ao c k V L) {j : Nat} (hj : foot p ao j) : B ≤ j ∧ j < w.heap.size := by
  rcases hj with rfl | ⟨a, ha, rfl⟩
  · exact ⟨h.base, h.lt⟩
  · exact h.row ha
theorem Wr.keep (h : Wr w B p most ao c k V L) (hk : Kept T w w') (hT : ∀ j, foot p ao j → ¬ T j) : Wr w' B p most ao c k V L :=
  ⟨hk.cell h.c0 (hT p (.inl rfl)), hk.cell h.c1 (hT p (.inl rfl)), hk.cell h.c2 (hT p (.inl rfl)), hk.cell h.c3 (hT p (.inl rfl)), hk.cell h.c4 (hT p (.inl rfl)),
    fun i => (hk.frozen (a := ⟨p, i, none⟩) h.lt (hT p (.inl rfl))).trans (h.fz i),
    hk.own h.own fun g hg => hT g (.inr (by
      cases ao with
      | none => simp [Value.ownBlock] at hg
      | some a => exact ⟨a, rfl, by simpa [Value.ownBlock] using hg.symm⟩)), h.ap, h.base, h.val, h.ge⟩
theorem Wt.keep (h : Wt w B p S most V L) (hk : Kept T w w') (hT : ∀ j, S j → ¬ T j) : Wt w' B p S most V L := by
  obtain ⟨ao, c, h, hS⟩ := h
  exact ⟨ao, c, h.keep hk (fun j hj => hT j ((hS j).2 hj)), hS⟩
theorem Wt.lt (h : Wt w B p S most V L) {j : Nat} (hj : S j) : B ≤ j ∧ j < w.heap.size := by
  obtain ⟨ao, c, h, hS⟩ := h
  exact h.foot_lt ((hS j).1 hj)
theorem Wt.val (h : Wt w B p S most V L) : V < 2 ^ L := by
  obtain ⟨ao, c, h, hS⟩ := h
  exact h.val
end Go.Proofs.YtlanibgeafdefaaGreatDoor
