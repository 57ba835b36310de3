/- What of memory stays as it was: a set of blocks that a call may write, and new blocks. No program. -/
import Derived.Below
import Derived.Laws.OwnMore
import Derived.Deep.Draws
namespace Go.Proofs.Ytbbfbijgclpjeaa.M
open Go Go.RowKit
set_option linter.unusedVariables false

/-- Of the blocks that are there, those outside S are as they were. -/
structure Kept (S : Nat → Prop) (w w' : World) : Prop where
  os : w'.os = w.os
  tape : w'.tape = w.tape
  output : w'.output = w.output
  size : w.heap.size ≤ w'.heap.size
  block : ∀ k, k < w.heap.size → ¬ S k → w'.heap[k]? = w.heap[k]?

def NoB : Nat → Prop := fun _ => False

variable {S T U : Nat → Prop} {w w' w'' : World}

theorem Kept.refl (S : Nat → Prop) (w : World) : Kept S w w := ⟨rfl, rfl, rfl, Nat.le_refl _, fun _ _ _ => rfl⟩
theorem Kept.trans (h : Kept S w w') (k : Kept T w' w'') (hT : ∀ j, T j → S j ∨ w.heap.size ≤ j) : Kept S w w'' :=
  ⟨k.os.trans h.os, k.tape.trans h.tape, k.output.trans h.output, Nat.le_trans h.size k.size, fun j hj hS =>
    (k.block j (Nat.lt_of_lt_of_le hj h.size) (fun ht => by rcases hT j ht with g | g; exact hS g; omega)).trans (h.block j hj hS)⟩
theorem Kept.mono (h : Kept S w w') (hS : ∀ j, S j → T j) : Kept T w w' := ⟨h.os, h.tape, h.output, h.size, fun j hj hT => h.block j hj (fun g => hT (hS j g))⟩
theorem Kept.none (h : Kept NoB w w') (S : Nat → Prop) : Kept S w w' := h.mono fun _ g => g.elim
theorem Kept.drew (h : Kept S w w') : Kept S w w'.drew := ⟨h.os, h.tape, h.output, h.size, h.block⟩
theorem Kept.drewN (h : Kept S w w') (n : Nat) : Kept S w (w'.drewN n) := ⟨h.os, h.tape, h.output, h.size, h.block⟩
theorem Kept.alloc (h : Kept S w w') (o : Obj) : Kept S w (w'.alloc o) :=
  h.trans (T := NoB) ⟨rfl, rfl, rfl, by simp, fun k hk _ => Below.heap_alloc _ _ _ hk⟩ (fun _ g => g.elim)
theorem Kept.setCell (h : Kept S w w') (a : Addr) (ha : S a.block ∨ w.heap.size ≤ a.block) (u : Value) : Kept S w (w'.setCell a u) :=
  h.trans (T := fun j => j = a.block) ⟨rfl, rfl, rfl, by simp [World.setCell], fun k hk g => Below.heap_setCell _ _ _ _ g⟩ (fun _ g => by subst g; exact ha)
theorem Kept.grown (h : Kept S w w') {row : Option Nat} (hg : w'.grownBy w'' row) (hr : ∀ k, row = some k → S k ∨ w.heap.size ≤ k) : Kept S w w'' :=
  h.trans (T := fun j => row = some j) ⟨hg.os, hg.tape, hg.output, hg.size, fun k hk g => hg.block k hk (fun e => g e.symm)⟩ hr
theorem Kept.of_grown {row : Option Nat} (hg : w.grownBy w' row) : Kept (fun j => row = some j) w w' := (Kept.refl _ w).grown hg (fun k hk => .inl hk)
theorem Kept.below (h : Kept S w w') {B : Nat} (hB : B ≤ w.heap.size) (hS : ∀ j, S j → B ≤ j) : Below B w w' :=
  ⟨h.os, h.tape, h.output, h.size, fun k hk => h.block k (Nat.lt_of_lt_of_le hk hB) (fun g => by have := hS k g; omega)⟩
theorem Kept.of_below (h : Below w.heap.size w w') : Kept NoB w w' := ⟨h.os, h.tape, h.output, h.size, fun k hk _ => h.block k hk⟩

theorem Kept.at (h : Kept S w w') {k : Nat} (hk : k < w.heap.size) (hS : ¬ S k) : w'.heap[k]? = w.heap[k]? := h.block k hk hS
theorem Kept.cell (h : Kept S w w') {a : Addr} {v : Value} (hc : w.cell? a = some v) (hS : ¬ S a.block) : w'.cell? a = some v :=
  (World.cell?_of_block (h.block a.block (World.block_lt_of_cell? w a hc) hS)).trans hc
theorem Kept.frozen (h : Kept S w w') {a : Addr} (hk : a.block < w.heap.size) (hS : ¬ S a.block) : w'.frozen? a = w.frozen? a := World.frozen?_of_block (h.block a.block hk hS)

/-- An owned row stays, if its block is not written. -/
theorem ownsRow_at {B : Nat} {e : TypeId} {size n : Nat} {v : Value} {xs : List Value} (h : w.ownsRow B e size v n xs) (hb : ∀ g, v.ownBlock = some g → w'.heap[g]? = w.heap[g]?) : w'.ownsRow B e size v n xs := by
  obtain ⟨h1, h2⟩ := h
  refine ⟨h1, ?_⟩
  rcases h2 with h2 | ⟨g, cap, cur, rfl, hg, hh, r⟩
  · exact .inl h2
  · exact .inr ⟨g, cap, cur, rfl, hg, by rw [hb g rfl]; exact hh, r⟩
theorem Kept.own {B : Nat} {e : TypeId} {size n : Nat} {v : Value} {xs : List Value} (h : Kept S w w') (ho : w.ownsRow B e size v n xs) (hS : ∀ g, v.ownBlock = some g → ¬ S g) : w'.ownsRow B e size v n xs :=
  ownsRow_at ho fun g hg => h.block g (ho.lt g hg).2 (hS g hg)
end Go.Proofs.Ytbbfbijgclpjeaa.M
