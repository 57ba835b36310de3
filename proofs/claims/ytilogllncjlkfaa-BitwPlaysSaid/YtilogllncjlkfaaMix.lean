/- A writer and the document's, which lie apart, and blocks that neither of them writes. Conditions: as each theorem names them. -/
import Derived.Test.YtilogllncjlkfaaRfD
import Derived.Test.YtilogllncjlkfaaCls
namespace Go.Proofs.Ytilogllncjlkfaa
open Go.RowKit M
set_option linter.unusedVariables false
variable {w w' : World} {B pa px V L Va La Vx Lx : Nat} {m : Int} {Q : Nat → Prop}

/-- A writer at pa and the document's at px, which lie apart; Q: blocks that are neither's. -/
def Mix (w : World) (B pa px : Nat) (Q : Nat → Prop) (m : Int) (Va La Vx Lx : Nat) : Prop :=
  ∃ Sa Sx, Wt w B pa Sa m Va La ∧ Rt w B px Sx m Vx Lx ∧ (∀ j, Sa j → ¬ Sx j) ∧ ∀ q, Q q → q < w.heap.size ∧ ¬ Sa q ∧ ¬ Sx q
/-- What a call leaves: all below B, and the blocks Q. -/
def Fws (B : Nat) (Q : Nat → Prop) (w w' : World) : Prop := Below B w w' ∧ ∀ q, Q q → w'.heap[q]? = w.heap[q]?
theorem Fws.cell (h : Fws B Q w w') {q : Nat} (hq : Q q) (i : Nat) : w'.cell? ⟨q, i, none⟩ = w.cell? ⟨q, i, none⟩ := World.cell?_of_block (h.2 q hq)
theorem Fws.trans {w'' : World} (h : Fws B Q w w') (k : Fws B Q w' w'') : Fws B Q w w'' := ⟨h.1.trans k.1, fun q hq => (k.2 q hq).trans (h.2 q hq)⟩

theorem Mix.base (h : Mix w B pa px Q m Va La Vx Lx) : B ≤ w.heap.size := by
  obtain ⟨Sa, Sx, h1, _⟩ := h
  exact h1.base
theorem Mix.kept (h : Mix w B pa px Q m Va La Vx Lx) (hk : Kept NoB w w') : Mix w' B pa px Q m Va La Vx Lx ∧ Fws B Q w w' := by
  have hB := h.base
  obtain ⟨Sa, Sx, h1, h2, h3, h4⟩ := h
  exact ⟨⟨Sa, Sx, h1.keep hk (fun _ _ g => g), h2.keep hk (fun _ _ g => g), h3, fun q hq => ⟨Nat.lt_of_lt_of_le (h4 q hq).1 hk.size, (h4 q hq).2⟩⟩, hk.below hB (fun _ g => g.elim), fun q hq => hk.block q (h4 q hq).1 (fun g => g)⟩
theorem Mix.drew (h : Mix w B pa px Q m Va La Vx Lx) : Mix w.drew B pa px Q m Va La Vx Lx := (h.kept (Kept.refl NoB w).drew).1
theorem Mix.drewN (h : Mix w B pa px Q m Va La Vx Lx) (n : Nat) : Mix (w.drewN n) B pa px Q m Va La Vx Lx := (h.kept ((Kept.refl NoB w).drewN n)).1
/-- A block that is made now is neither's. -/
theorem Mix.more (h : Mix w B pa px Q m Va La Vx Lx) (o : Obj) : Mix (w.alloc o) B pa px (fun j => Q j ∨ j = w.heap.size) m Va La Vx Lx ∧ Fws B Q w (w.alloc o) := by
  have hk : Kept NoB w (w.alloc o) := (Kept.refl NoB w).alloc o
  have g := h.kept hk
  refine ⟨?_, g.2⟩
  obtain ⟨Sa, Sx, h1, h2, h3, h4⟩ := h
  refine ⟨Sa, Sx, h1.keep hk (fun _ _ g => g), h2.keep hk (fun _ _ g => g), h3, fun q hq => ?_⟩
  rcases hq with hq | rfl
  · exact ⟨Nat.lt_of_lt_of_le (h4 q hq).1 hk.size, (h4 q hq).2⟩
  · exact ⟨by simp, fun g => by have := (h1.lt g).2; omega, fun g => by have := (h2.lt g).2; omega⟩
theorem Mix.less {Q' : Nat → Prop} (h : Mix w B pa px Q m Va La Vx Lx) (hQ : ∀ j, Q' j → Q j) : Mix w B pa px Q' m Va La Vx Lx := by
  obtain ⟨Sa, Sx, h1, h2, h3, h4⟩ := h
  exact ⟨Sa, Sx, h1, h2, h3, fun q hq => h4 q (hQ q hq)⟩

theorem Mix.did_a {f : FuncId} {args : Array Value} {r : Int × Nat × Nat} (h : Mix w B pa px Q m Va La Vx Lx) (c : ∀ S, Wt w B pa S m Va La → Calls Try.prog f args w (Did w B pa S m r)) (a : Int) (V L : Nat) (hr : r = (a, V, L)) :
    Calls Try.prog f args w fun e w' => e = .returned (.int .i64 a) ∧ Mix w' B pa px Q m V L Vx Lx ∧ Fws B Q w w' := by
  subst hr
  have hB := h.base
  obtain ⟨Sa, Sx, h1, h2, h3, h4⟩ := h
  refine (c Sa h1).mono ?_
  rintro e w' ⟨he, S', k1, k2, k3⟩
  refine ⟨he, ⟨S', Sx, k1, h2.keep k2 (fun j hj g => h3 j g hj), fun j hj g => ?_, fun q hq => ⟨Nat.lt_of_lt_of_le (h4 q hq).1 k2.size, fun g => ?_, (h4 q hq).2.2⟩⟩, k2.below hB (fun j hj => (h1.lt hj).1), fun q hq => k2.block q (h4 q hq).1 (h4 q hq).2.1⟩
  · rcases k3 j hj with g1 | g1
    · exact h3 j g1 g
    · have := (h2.lt g).2; omega
  · rcases k3 q g with g1 | g1
    · exact (h4 q hq).2.1 g1
    · have := (h4 q hq).1; omega
theorem Mix.did_x {f : FuncId} {args : Array Value} {v : Value} {V L : Nat} (h : Mix w B pa px Q m Va La Vx Lx) (c : ∀ S, Rt w B px S m Vx Lx → Calls Try.prog f args w (fun e w' => e = .returned v ∧ ∃ S', Rt w' B px S' m V L ∧ Kept S w w' ∧ ∀ j, S' j → S j ∨ w.heap.size ≤ j)) :
    Calls Try.prog f args w fun e w' => e = .returned v ∧ Mix w' B pa px Q m Va La V L ∧ Fws B Q w w' := by
  have hB := h.base
  obtain ⟨Sa, Sx, h1, h2, h3, h4⟩ := h
  refine (c Sx h2).mono ?_
  rintro e w' ⟨he, S', k1, k2, k3⟩
  refine ⟨he, ⟨Sa, S', h1.keep k2 (fun j hj g => h3 j hj g), k1, fun j hj g => ?_, fun q hq => ⟨Nat.lt_of_lt_of_le (h4 q hq).1 k2.size, (h4 q hq).2.1, fun g => ?_⟩⟩, k2.below hB (fun j hj => (h2.lt hj).1), fun q hq => k2.block q (h4 q hq).1 (h4 q hq).2.2⟩
  · rcases k3 j g with g1 | g1
    · exact h3 j hj g1
    · have := (h1.lt hj).2; omega
  · rcases k3 q g with g1 | g1
    · exact (h4 q hq).2.2 g1
    · have := (h4 q hq).1; omega
theorem Mix.rid_x {f : FuncId} {args : Array Value} {r : Int × Nat × Nat} (h : Mix w B pa px Q m Va La Vx Lx) (c : ∀ S, Rt w B px S m Vx Lx → Calls Try.prog f args w (Rid w B px S m r)) (a : Int) (V L : Nat) (hr : r = (a, V, L)) :
    Calls Try.prog f args w fun e w' => e = .returned (.int .i64 a) ∧ Mix w' B pa px Q m Va La V L ∧ Fws B Q w w' := by
  subst hr
  exact h.did_x c
theorem Mix.same_a {f : FuncId} {args : Array Value} {v : Value} (h : Mix w B pa px Q m Va La Vx Lx) (c : ∀ S, Wt w B pa S m Va La → Calls Try.prog f args w fun e w' => e = .returned v ∧ Kept NoB w w') :
    Calls Try.prog f args w fun e w' => e = .returned v ∧ Mix w' B pa px Q m Va La Vx Lx ∧ Fws B Q w w' := by
  have h' := h
  obtain ⟨Sa, Sx, h1, h2, h3, h4⟩ := h
  refine (c Sa h1).mono ?_
  rintro e w' ⟨he, hk⟩
  exact ⟨he, h'.kept hk⟩
theorem Mix.same_x {f : FuncId} {args : Array Value} {v : Value} (h : Mix w B pa px Q m Va La Vx Lx) (c : ∀ S, Rt w B px S m Vx Lx → Calls Try.prog f args w fun e w' => e = .returned v ∧ Kept NoB w w') :
    Calls Try.prog f args w fun e w' => e = .returned v ∧ Mix w' B pa px Q m Va La Vx Lx ∧ Fws B Q w w' := by
  have h' := h
  obtain ⟨Sa, Sx, h1, h2, h3, h4⟩ := h
  refine (c Sx h2).mono ?_
  rintro e w' ⟨he, hk⟩
  exact ⟨he, h'.kept hk⟩
end Go.Proofs.Ytilogllncjlkfaa
