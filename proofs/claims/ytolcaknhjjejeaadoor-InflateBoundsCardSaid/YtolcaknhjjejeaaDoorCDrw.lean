import Derived.Test.YtolcaknhjjejeaaDoorCPkG
import Derived.Test.YtolcaknhjjejeaaDoorCMCnA
import Derived.Deep.QuietTactic
import Derived.BigQuiet
import Derived.Test.YtolcaknhjjejeaaDoorCLay
import Derived.ChangeSlices
import Derived.Deep.Slices
import Derived.Deep.RegionHeld3
import Derived.ChangeAlike
namespace Go.Proofs.YtolcaknhjjejeaaDoor
open Go.RowKit M
set_option linter.unusedVariables false
variable {ops : Array Oper} {Q : Exit → Act → World → Prop} {md : Region.Mode} {i fuel : Nat} {oi : Oper} {v : Value} {d : Option Tmp} {listed : Array Bool} {a : Act} {w : World} {S : World → Prop}
theorem take_op (hi : ops[i]? = some oi) (hd : oi.dst = d) (hs : Region.noSelect ops = true) (hf : Region.free md ops listed i = true) (hr : (Region.ready md ops listed).contains i = true)
    (hQ : ∀ c a w, Q (.panic c) (a.put oi.dst v) w → Q (.panic c) a w) (hw : Region.wanted oi (yielded ops a.tmps) = true) (hy : ∀ w, S w → (execOp a.eval oi).run Tryd.prog w = .ok (.value v) w)
    (hS : S w) (h : wpAnyH Tryd.prog md ops Q S fuel (listed.setIfInBounds i true) (a.put d v) w) : wpAnyH Tryd.prog md ops Q S (fuel + 1) listed a w :=
  wpAnyH_take hi hs hf hr hQ (.inl ⟨hw, hy⟩) hS (by rw [hd]; exact h)
theorem take_call (hr : Region.ready md ops listed = [i]) (hi : ops[i]? = some oi)
    (h : ∀ K : Act → World → Prop, Shut (∀ a w, S w → (S w → wpAnyH Tryd.prog md ops Q S fuel (listed.setIfInBounds i true) a w) → K a w) → if Region.wanted oi (yielded ops a.tmps) = true then Oper.wp Tryd.prog oi a w K Q else K (a.put oi.dst undef) w) :
    wpAnyH Tryd.prog md ops Q S (fuel + 1) listed a w :=
  wpAnyH_ready hr (by simp) (AllReadyH.cons hi h AllReadyH.nil)
theorem take_region {id : Nat} (S : World → Prop) (hS : S w.drew) (h : S w.drew → wpAnyH Tryd.prog .any ops Q S ops.size (Array.replicate ops.size false) a w.drew) : (Code.region id ops true).wp Tryd.prog Q a w :=
  wp_region_held_drew (by kernel_rfl) hS h
end Go.Proofs.YtolcaknhjjejeaaDoor
