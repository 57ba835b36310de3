/- append of a slice of runs that a call made, for the laws of layer 12. Conditions: as each theorem names them. -/
import Derived.Test.YtogbohompffcbaaDoorLwU
namespace Go.Proofs.YtogbohompffcbaaDoor.U
open Go Go.RowKit M
set_option linter.unusedVariables false
set_option linter.unusedSimpArgs false

theorem run_append_runs {w : World} (ty : TypeId) {B B' : Nat} {v u : Value} {L R : List Rn} (h : Owr B w v L) (hr : Owr B' w u R) (hL : L.length + R.length ≤ 3000000) (hB : B ≤ w.heap.size) :
    ∃ v' w', (Builtin.append_ #[23, 23] ty #[v, u]).run Tryd.prog w = .ok v' w' ∧ Owr B w' v' (L ++ R) ∧ Below B w w' := by
  obtain ⟨i, h1, h2, h3, h4⟩ := info_of runInfo
  rcases hr.2 with ⟨rfl, h0⟩ | ⟨g, cap, cur, rfl, hg, hh, _, _, _, ht⟩
  · have hR : R = [] := List.length_eq_zero_iff.1 h0
    subst hR
    rw [List.append_nil]
    rcases h.2 with ⟨rfl, q0⟩ | ⟨g, cap, cur, rfl, hg, hh, hcap, hm, hs, ht⟩
    · refine ⟨_, w, ?_, h, Below.refl _ _⟩
      simp [Builtin.append_, run_underlying Tryd.underlying23, sizeOf, typeInfo, h1, Builtin.lenOf, Builtin.firstCells]
    · refine ⟨_, w, ?_, h, Below.refl _ _⟩
      simp [Builtin.append_, run_underlying Tryd.underlying23, sizeOf, typeInfo, h1, Builtin.lenOf, Builtin.firstCells]
      rw [if_pos hcap]
      simp [storeCells]
  · obtain ⟨v', w', r1, r2, r3, _⟩ := run_append_own (P := Tryd.prog) w B 23 ty 33 i _ 2 2 Tryd.underlying23 h1 h2 h3 h4 rfl (by decide) v L.length (clr L) h ⟨g, 0, none⟩ R.length cap (clr R) (by rw [clr_length])
      (fun j u hu => by
        have k := hr.cells (g := g) rfl j u hu
        exact k) (clr_one _) (by unfold maxLen; omega) (by omega) hB
    refine ⟨v', w', r1, ?_, (Below.refl _ w).grown r3 hB (fun k hk => (World.ownsRow.lt h k hk).1)⟩
    unfold Owr
    rw [List.length_append, clr_append]
    exact r2
theorem wpList_runs {ops : Array Oper} {rest : List Oper} {o : Oper} {a : Act} {w : World} {Q : Exit → Act → World → Prop} (hgd : o.guard = none) (s x : Operand)
    (ho : o.op = .call { callee := .builtin .append, args := #[s, x], argTypes := #[23, 23] }) (B B' : Nat) (v u : Value) (L R : List Rn) (hs : a.eval s = v) (h : Owr B w v L)
    (hx : a.eval x = u) (hr : Owr B' w u R) (hL : L.length + R.length ≤ 3000000) (hB : B ≤ w.heap.size)
    (hK : ∀ v' w', Owr B w' v' (L ++ R) → Below B w w' → wpList Tryd.prog ops Q rest (a.put o.dst v') w') : wpList Tryd.prog ops Q (o :: rest) a w :=
  wpList_plain hgd fun K hK' => by
    obtain ⟨v', w', r1, r2, r3⟩ := run_append_runs o.type h hr hL hB
    unfold Oper.wp execOp
    simp only [ho, resolve, invoke, builtin, Sem.run_bind, Sem.run_pure, Result.andThen_ok, List.map_toArray, List.map_cons, List.map_nil, hs, hx, r1]
    exact hK' _ _ (hK v' w' r2 r3)
end Go.Proofs.YtogbohompffcbaaDoor.U
