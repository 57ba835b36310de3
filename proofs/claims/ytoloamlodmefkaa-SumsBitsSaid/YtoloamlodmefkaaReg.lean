/- A table that a law holds, through calls and through regions that draw their order. Conditions: as each theorem names them. -/
import Derived.Test.YtoloamlodmefkaaSmD
import Derived.Deep.RegionHeld3
import Derived.ChangeAlike
namespace Go.Proofs.Ytoloamlodmefkaa
open Go.RowKit M
set_option linter.unusedVariables false

/-- Behind a call: a table that a law holds is as it was, and so is what lay below. -/
structure Ta (W : World) (B tb : Nat) (f : Nat → Nat) (w : World) : Prop where
  t : Tb w tb f
  b : Below B W w
  l : B ≤ tb
theorem Ta.next {W w w' : World} {B tb : Nat} {f : Nat → Nat} (h : Ta W B tb f w) (b : Below w.heap.size w w') : Ta W B tb f w' :=
  ⟨h.t.below b h.t.lt, h.b.trans (b.mono (Nat.le_trans h.l (Nat.le_of_lt h.t.lt))), h.l⟩
theorem Ta.drew {W w : World} {B tb : Nat} {f : Nat → Nat} (h : Ta W B tb f w) : Ta W B tb f w.drew := ⟨World.rowIs.drew h.t, h.b.drew, h.l⟩
theorem Ta.first {W w : World} (b : Below W.heap.size W w) (f : Nat → Nat) : Ta W W.heap.size w.heap.size f (w.alloc (.cells (TV f) 25)) :=
  ⟨Tb.made w f, b.alloc b.size _, b.size⟩

variable {ops : Array Oper} {Q : Exit → Act → World → Prop} {md : Region.Mode} {i fuel : Nat} {oi : Oper} {v : Value} {d : Option Tmp} {listed : Array Bool} {a : Act} {w W : World} {B tb : Nat} {f : Nat → Nat}

/-- An operation that looks at no world is taken first. -/
theorem tk_op (hi : ops[i]? = some oi) (hd : oi.dst = d) (hs : Region.noSelect ops = true) (hf : Region.free md ops listed i = true) (hr : (Region.ready md ops listed).contains i = true)
    (hQ : ∀ c a w, Q (.panic c) (a.put oi.dst v) w → Q (.panic c) a w) (hw : Region.wanted oi (yielded ops a.tmps) = true) (hy : ∀ w, Ta W B tb f w → (execOp a.eval oi).run Try.prog w = .ok (.value v) w)
    (hS : Ta W B tb f w) (h : wpAnyH Try.prog md ops Q (Ta W B tb f) fuel (listed.setIfInBounds i true) (a.put d v) w) : wpAnyH Try.prog md ops Q (Ta W B tb f) (fuel + 1) listed a w :=
  wpAnyH_take hi hs hf hr hQ (.inl ⟨hw, hy⟩) hS (by rw [hd]; exact h)
/-- The table is loaded whole, first. -/
theorem tk_load {x : Operand} (hi : ops[i]? = some oi) (hd : oi.dst = d) (hs : Region.noSelect ops = true) (hf : Region.free md ops listed i = true) (hr : (Region.ready md ops listed).contains i = true)
    (hQ : ∀ c a w, Q (.panic c) (a.put oi.dst (.agg (TV f))) w → Q (.panic c) a w) (hw : Region.wanted oi (yielded ops a.tmps) = true) (ho : oi.op = .load 25 x) (hx : a.eval x = .pointer (some ⟨tb, 0, none⟩))
    (hS : Ta W B tb f w) (h : wpAnyH Try.prog md ops Q (Ta W B tb f) fuel (listed.setIfInBounds i true) (a.put d (.agg (TV f))) w) : wpAnyH Try.prog md ops Q (Ta W B tb f) (fuel + 1) listed a w :=
  wpAnyH_take hi hs hf hr hQ (yieldsIf_load_mid hw 25 x ho tb 0 hx (TL f) _ (fun w h => h.t.range) Try.underlying25 rfl (arrSizeL f)) hS (by rw [hd]; exact h)
/-- The one operation that may come up. -/
theorem at_call (hr : Region.ready md ops listed = [i]) (hi : ops[i]? = some oi)
    (h : ∀ K : Act → World → Prop, Shut (∀ a w, Ta W B tb f w → (Ta W B tb f w → wpAnyH Try.prog md ops Q (Ta W B tb f) fuel (listed.setIfInBounds i true) a w) → K a w) → if Region.wanted oi (yielded ops a.tmps) = true then Oper.wp Try.prog oi a w K Q else K (a.put oi.dst undef) w) :
    wpAnyH Try.prog md ops Q (Ta W B tb f) (fuel + 1) listed a w :=
  wpAnyH_ready hr (by simp) (AllReadyH.cons hi h AllReadyH.nil)
theorem at_region {id : Nat} (hS : Ta W B tb f w) (h : Ta W B tb f w.drew → wpAnyH Try.prog .any ops Q (Ta W B tb f) ops.size (Array.replicate ops.size false) a w.drew) : (Code.region id ops true).wp Try.prog Q a w :=
  wp_region_held_drew (by kernel_rfl) hS.drew h
end Go.Proofs.Ytoloamlodmefkaa
