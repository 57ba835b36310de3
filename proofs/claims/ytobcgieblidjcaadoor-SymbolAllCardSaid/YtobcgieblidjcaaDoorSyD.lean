/- The two rows, as the program's variables hold them; lengths as symbols. Conditions: as each theorem names them. -/
import Derived.Test.YtobcgieblidjcaaDoorSyB
import Derived.Test.YtobcgieblidjcaaDoorSyC
import Derived.Test.YtobcgieblidjcaaDoorRows
import Derived.OpenShut
import Derived.LaidMore
import Derived.Deep.DeepHandedRow
namespace Go.Proofs.YtobcgieblidjcaaDoor
open Go Go.RowKit M
set_option linter.unusedVariables false
set_option linter.unusedSimpArgs false

/-- the rows' variables, in memory -/
structure Tab (w : World) : Prop where
  l0 : w.cell? ⟨0, 0, none⟩ = some (.int .i64 257)
  l1 : w.cell? ⟨0, 1, none⟩ = some (.int .i64 28)
  l2 : w.cell? ⟨0, 2, none⟩ = some (.int .i64 3)
  l3 : w.cell? ⟨0, 3, none⟩ = some (.int .i64 257)
  l4 : w.cell? ⟨0, 4, none⟩ = some (.int .i64 2)
  d0 : w.cell? ⟨1, 0, none⟩ = some (.int .i64 0)
  d1 : w.cell? ⟨1, 1, none⟩ = some (.int .i64 30)
  d2 : w.cell? ⟨1, 2, none⟩ = some (.int .i64 1)
  d3 : w.cell? ⟨1, 3, none⟩ = some (.int .i64 32768)
  d4 : w.cell? ⟨1, 4, none⟩ = some (.int .i64 1)
theorem Tab.below {w w' : World} {n : Nat} (h : Tab w) (hb : Below n w w') (hn : w.heap.size ≤ n) : Tab w' := by
  have hl : ∀ {p v}, w.cell? p = some v → w'.cell? p = some v := fun {p v} h => (hb.cell (Nat.lt_of_lt_of_le (World.block_lt_of_cell? _ _ h) hn)).trans h
  exact ⟨hl h.l0, hl h.l1, hl h.l2, hl h.l3, hl h.l4, hl h.d0, hl h.d1, hl h.d2, hl h.d3, hl h.d4⟩

theorem gLens : Tryd.prog.globalNamed "platen/symbol.lengths" = some 0 := by kernel_rfl
theorem gDists : Tryd.prog.globalNamed "platen/symbol.distances" = some 1 := by kernel_rfl
theorem tLens : (Tryd.prog.globals[0]?).map (·.type) = some 40 := by kernel_rfl
theorem tDists : (Tryd.prog.globals[1]?).map (·.type) = some 40 := by kernel_rfl
theorem cellsRow : Tryd.prog.cellsOf 40 = 5 := by kernel_rfl
theorem cellsInt : Tryd.prog.cellsOf 3 = 1 := by kernel_rfl
theorem open_row {H : Type} {enc : TypeId × Value → H} {w : World} {base : Nat} {spare : Nat → Bool} {held : Bool} {m : Nat} {cs : List Value} {x : DataW H × List MemPlace} (h : DataW.trod enc Tryd.prog w base spare held m 40 cs = some x) {a b c d f : Int} (hx : x.1 = .agg [.lit (.int .i64 a), .lit (.int .i64 b), .lit (.int .i64 c), .lit (.int .i64 d), .lit (.int .i64 f)]) :
    cs = [.int .i64 a, .int .i64 b, .int .i64 c, .int .i64 d, .int .i64 f] := by
  obtain ⟨xs, k, _, rfl, hl, hxl, hf⟩ := DataW.trod_struct Tryd.underlying40 h
  rw [cellsRow] at hl
  match cs, hl with
  | [v0, v1, v2, v3, v4], _ =>
    match xs, hxl with
    | [y0, y1, y2, y3, y4], _ =>
      have e0 : DataW.trod enc Tryd.prog w base spare held k 3 (([v0, v1, v2, v3, v4].drop 0).take (Tryd.prog.cellsOf 3)) = some y0 := hf 0 _ rfl
      have e1 : DataW.trod enc Tryd.prog w base spare held k 3 (([v0, v1, v2, v3, v4].drop 1).take (Tryd.prog.cellsOf 3)) = some y1 := hf 1 _ rfl
      have e2 : DataW.trod enc Tryd.prog w base spare held k 3 (([v0, v1, v2, v3, v4].drop 2).take (Tryd.prog.cellsOf 3)) = some y2 := hf 2 _ rfl
      have e3 : DataW.trod enc Tryd.prog w base spare held k 3 (([v0, v1, v2, v3, v4].drop 3).take (Tryd.prog.cellsOf 3)) = some y3 := hf 3 _ rfl
      have e4 : DataW.trod enc Tryd.prog w base spare held k 3 (([v0, v1, v2, v3, v4].drop 4).take (Tryd.prog.cellsOf 3)) = some y4 := hf 4 _ rfl
      simp only [cellsInt, List.drop_zero, List.drop_succ_cons, List.take_succ_cons, List.take_zero] at e0 e1 e2 e3 e4
      obtain ⟨n0, h0, q0, _⟩ := DataW.trod_int Tryd.underlying3 e0
      obtain ⟨n1, h1, q1, _⟩ := DataW.trod_int Tryd.underlying3 e1
      obtain ⟨n2, h2, q2, _⟩ := DataW.trod_int Tryd.underlying3 e2
      obtain ⟨n3, h3, q3, _⟩ := DataW.trod_int Tryd.underlying3 e3
      obtain ⟨n4, h4, q4, _⟩ := DataW.trod_int Tryd.underlying3 e4
      simp only [List.cons.injEq, and_true] at h0 h1 h2 h3 h4
      simp only [List.map_cons, List.map_nil, DataW.agg.injEq, List.cons.injEq, and_true] at hx
      subst q0 q1 q2 q3 q4
      simp only [DataW.lit.injEq, Lit.int.injEq, true_and] at hx
      obtain ⟨rfl, rfl, rfl, rfl, rfl⟩ := hx
      rw [h0, h1, h2, h3, h4]

/-- what the row's list gives -/
theorem tab_of_laid {W : World} {laid : List (String × DataW Unit)} (hl : laid = [("platen/symbol.lengths", Rows.laid_platen_symbol_lengths), ("platen/symbol.distances", Rows.laid_platen_symbol_distances)]) (h : laidMet Tryd.prog laid W) : Tab W := by
  subst hl
  obtain ⟨ps, ⟨g0, t0, cs0, f0, p0, q0, hg0, ht0, hv0, hd0, ⟨g1, t1, cs1, f1, p1, q1, hg1, ht1, hv1, hd1, _, _⟩, _⟩, _⟩ := h
  obtain rfl := Option.some.inj (gLens.symm.trans hg0)
  obtain rfl := Option.some.inj (tLens.symm.trans ht0)
  obtain rfl := Option.some.inj (gDists.symm.trans hg1)
  obtain rfl := Option.some.inj (tDists.symm.trans ht1)
  have k0 := open_row hd0 rfl
  have k1 := open_row hd1 rfl
  have c0 := fun j => World.var?_cell hg0 hv0 j
  have c1 := fun j => World.var?_cell hg1 hv1 j
  have each0 : ∀ j, cs0[j]? = cs0.toList[j]? := fun j => (Array.getElem?_toList).symm
  have each1 : ∀ j, cs1[j]? = cs1.toList[j]? := fun j => (Array.getElem?_toList).symm
  have z0 := fun j => (c0 j).trans ((each0 j).trans (by rw [k0]))
  have z1 := fun j => (c1 j).trans ((each1 j).trans (by rw [k1]))
  exact ⟨z0 0, z0 1, z0 2, z0 3, z0 4, z1 0, z1 1, z1 2, z1 3, z1 4⟩
end Go.Proofs.YtobcgieblidjcaaDoor
