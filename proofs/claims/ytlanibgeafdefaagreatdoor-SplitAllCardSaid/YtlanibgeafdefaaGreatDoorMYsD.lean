/- Texts of one place, one behind the other: YsD, YsE. -/
import Derived.Test.YtlanibgeafdefaaGreatDoorYsB
import Derived.Test.YtlanibgeafdefaaGreatDoorRows
import Derived.OpenShut
import Derived.LaidMore
import Derived.Deep.DeepHandedRow
namespace Go.Proofs.YtlanibgeafdefaaGreatDoor.Y
open Go Go.RowKit M
set_option linter.unusedVariables false
set_option maxRecDepth 1000000
set_option linter.unusedSimpArgs false
structure Tab (w : World) : Prop where
  l0 : w.cell? ⟨1, 0, none⟩ = some (.int .i64 257)
  l1 : w.cell? ⟨1, 1, none⟩ = some (.int .i64 28)
  l2 : w.cell? ⟨1, 2, none⟩ = some (.int .i64 3)
  l3 : w.cell? ⟨1, 3, none⟩ = some (.int .i64 257)
  l4 : w.cell? ⟨1, 4, none⟩ = some (.int .i64 2)
  d0 : w.cell? ⟨2, 0, none⟩ = some (.int .i64 0)
  d1 : w.cell? ⟨2, 1, none⟩ = some (.int .i64 30)
  d2 : w.cell? ⟨2, 2, none⟩ = some (.int .i64 1)
  d3 : w.cell? ⟨2, 3, none⟩ = some (.int .i64 32768)
  d4 : w.cell? ⟨2, 4, none⟩ = some (.int .i64 1)
theorem Tab.below {w w' : World} {n : Nat} (h : Tab w) (hb : Below n w w') (hn : w.heap.size ≤ n) : Tab w' := by
  have hl : ∀ {p v}, w.cell? p = some v → w'.cell? p = some v := fun {p v} h => (hb.cell (Nat.lt_of_lt_of_le (World.block_lt_of_cell? _ _ h) hn)).trans h
  exact ⟨hl h.l0, hl h.l1, hl h.l2, hl h.l3, hl h.l4, hl h.d0, hl h.d1, hl h.d2, hl h.d3, hl h.d4⟩
theorem gLens : Tryz.prog.globalNamed "platen/symbol.lengths" = some 1 := by kernel_rfl
theorem gDists : Tryz.prog.globalNamed "platen/symbol.distances" = some 2 := by kernel_rfl
theorem tLens : (Tryz.prog.globals[1]?).map (·.type) = some 201 := by kernel_rfl
theorem tDists : (Tryz.prog.globals[2]?).map (·.type) = some 201 := by kernel_rfl
theorem cellsRow : Tryz.prog.cellsOf 201 = 5 := by kernel_rfl
theorem cellsInt : Tryz.prog.cellsOf 3 = 1 := by kernel_rfl
theorem open_row {H : Type} {enc : TypeId × Value → H} {w : World} {base : Nat} {spare : Nat → Bool} {held : Bool} {m : Nat} {cs : List Value} {x : DataW H × List MemPlace} (h : DataW.trod enc Tryz.prog w base spare held m 201 cs = some x) {a b c d f : Int} (hx : x.1 = .agg [.lit (.int .i64 a), .lit (.int .i64 b), .lit (.int .i64 c), .lit (.int .i64 d), .lit (.int .i64 f)]) :
    cs = [.int .i64 a, .int .i64 b, .int .i64 c, .int .i64 d, .int .i64 f] := by
  obtain ⟨xs, k, _, rfl, hl, hxl, hf⟩ := DataW.trod_struct Tryz.underlying201 h
  rw [cellsRow] at hl
  match cs, hl with
  | [v0, v1, v2, v3, v4], _ =>
    match xs, hxl with
    | [y0, y1, y2, y3, y4], _ =>
      have e0 : DataW.trod enc Tryz.prog w base spare held k 3 (([v0, v1, v2, v3, v4].drop 0).take (Tryz.prog.cellsOf 3)) = some y0 := hf 0 _ rfl
      have e1 : DataW.trod enc Tryz.prog w base spare held k 3 (([v0, v1, v2, v3, v4].drop 1).take (Tryz.prog.cellsOf 3)) = some y1 := hf 1 _ rfl
      have e2 : DataW.trod enc Tryz.prog w base spare held k 3 (([v0, v1, v2, v3, v4].drop 2).take (Tryz.prog.cellsOf 3)) = some y2 := hf 2 _ rfl
      have e3 : DataW.trod enc Tryz.prog w base spare held k 3 (([v0, v1, v2, v3, v4].drop 3).take (Tryz.prog.cellsOf 3)) = some y3 := hf 3 _ rfl
      have e4 : DataW.trod enc Tryz.prog w base spare held k 3 (([v0, v1, v2, v3, v4].drop 4).take (Tryz.prog.cellsOf 3)) = some y4 := hf 4 _ rfl
      simp only [cellsInt, List.drop_zero, List.drop_succ_cons, List.take_succ_cons, List.take_zero] at e0 e1 e2 e3 e4
      obtain ⟨n0, h0, q0, _⟩ := DataW.trod_int Tryz.underlying3 e0
      obtain ⟨n1, h1, q1, _⟩ := DataW.trod_int Tryz.underlying3 e1
      obtain ⟨n2, h2, q2, _⟩ := DataW.trod_int Tryz.underlying3 e2
      obtain ⟨n3, h3, q3, _⟩ := DataW.trod_int Tryz.underlying3 e3
      obtain ⟨n4, h4, q4, _⟩ := DataW.trod_int Tryz.underlying3 e4
      simp only [List.cons.injEq, and_true] at h0 h1 h2 h3 h4
      simp only [List.map_cons, List.map_nil, DataW.agg.injEq, List.cons.injEq, and_true] at hx
      subst q0 q1 q2 q3 q4
      simp only [DataW.lit.injEq, Lit.int.injEq, true_and] at hx
      obtain ⟨rfl, rfl, rfl, rfl, rfl⟩ := hx
      rw [h0, h1, h2, h3, h4]
theorem tab_of_laid {W : World} {laid : List (String × DataW Unit)} (hl : laid = [("platen/symbol.lengths", Rows.laid_platen_symbol_lengths), ("platen/symbol.distances", Rows.laid_platen_symbol_distances)]) (h : laidMet Tryz.prog laid W) : Tab W := by
  subst hl
  obtain ⟨ps, ⟨g0, t0, cs0, f0, p0, q0, hg0, ht0, hv0, hd0, ⟨g1, t1, cs1, f1, p1, q1, hg1, ht1, hv1, hd1, _, _⟩, _⟩, _⟩ := h
  obtain rfl := Option.some.inj (gLens.symm.trans hg0)
  obtain rfl := Option.some.inj (tLens.symm.trans ht0)
  obtain rfl := Option.some.inj (gDists.symm.trans hg1)
  obtain rfl := Option.some.inj (tDists.symm.trans ht1)
  have k0 := open_row hd0 rfl
  have k1 := open_row hd1 rfl
  have c0 := fun j => World.var?_cell hg0 hv0 j
  have c1 := fun j => World.var?_cell hg1 hv1 j
  have each0 : ∀ j, cs0[j]? = cs0.toList[j]? := fun j => (Array.getElem?_toList).symm
  have each1 : ∀ j, cs1[j]? = cs1.toList[j]? := fun j => (Array.getElem?_toList).symm
  have z0 := fun j => (c0 j).trans ((each0 j).trans (by rw [k0]))
  have z1 := fun j => (c1 j).trans ((each1 j).trans (by rw [k1]))
  exact ⟨z0 0, z0 1, z0 2, z0 3, z0 4, z1 0, z1 1, z1 2, z1 3, z1 4⟩
end Go.Proofs.YtlanibgeafdefaaGreatDoor.Y

namespace Go.Proofs.YtlanibgeafdefaaGreatDoor.Y
open Go Go.RowKit M
set_option linter.unusedVariables false
set_option maxRecDepth 1000000
set_option linter.unusedSimpArgs false
theorem bt_lb : ∀ i, i < 28 → bt 2 i = lb i := by decide
theorem lt_ll : ∀ i, i < 28 → lt 3 2 i = ll i := by decide
theorem bt_db : ∀ i, i < 30 → bt 1 i = db i := by decide
theorem lt_dl : ∀ i, i < 30 → lt 1 1 i = dl i := by decide
theorem plc_len {n i : Nat} (hn : n ≤ 257) (h : Plc (lt 3 2) 28 n i) : lsy n = i ∧ lex n = n - lt 3 2 i ∧ lb (lsy n) = bt 2 i := by
  have hi := h.lt
  have hl := lt_ll i hi
  have h1 : ll i ≤ n := by rw [← hl]; exact h.lo
  have h2 : n < ll i + ls i := by
    rcases h.hi with e | e
    · obtain rfl : i = 27 := by omega
      show n < 227 + 31
      omega
    · by_cases q : i + 1 < 28
      · rw [lt_ll _ q, ll_stp.next i (by omega)] at e; exact e
      · obtain rfl : i = 27 := by omega
        show n < 227 + 31
        omega
  have hu := len_uniq (n := n) (i := i) (by omega) h1 h2
  exact ⟨hu, by unfold lex; rw [hu, hl], by rw [hu, bt_lb i hi]⟩
theorem plc_dist {n i : Nat} (hn : n ≤ 32768) (h : Plc (lt 1 1) 30 n i) : dsy n = i ∧ dex n = n - lt 1 1 i ∧ db (dsy n) = bt 1 i := by
  have hi := h.lt
  have hl := lt_dl i hi
  have h1 : dl i ≤ n := by rw [← hl]; exact h.lo
  have h2 : n < dl i + ds i := by
    rcases h.hi with e | e
    · obtain rfl : i = 29 := by omega
      show n < 24577 + 8192
      omega
    · by_cases q : i + 1 < 30
      · rw [lt_dl _ q, dl_stp.next i (by omega)] at e; exact e
      · obtain rfl : i = 29 := by omega
        show n < 24577 + 8192
        omega
  have hu := dist_uniq (n := n) (i := i) (by omega) h1 h2
  exact ⟨hu, by unfold dex; rw [hu, hl], by rw [hu, bt_db i hi]⟩
set_option maxRecDepth 1000000 in
theorem length_yes (n : Nat) (w : World) (H : Tab w) (hn : 3 ≤ n ∧ n ≤ 258) : Calls Tryz.prog 103 #[.int .i64 n] w fun e w' => e = .returned (.tuple #[.int .i64 (257 + lsy n : Nat), .int .u32 (lex n : Nat), .int .i64 (lb (lsy n) : Nat), .bool true]) ∧ Below w.heap.size w w' := by
  by_cases h : n = 258
  · subst h
    show Calls Tryz.prog 103 #[.int .i64 258] w fun e w' => e = .returned (.tuple #[.int .i64 285, .int .u32 0, .int .i64 0, .bool true]) ∧ Below w.heap.size w w'
    go_enter Tryz.func103, Tryz.ntmps103
    go_wp2_with fail
    exact bodyPost_ret (v := .tuple #[.int .i64 285, .int .u32 0, .int .i64 0, .bool true]) (by simp [results, Tryz.results103, go_sem]) rfl ⟨rfl, Below.refl _ _⟩
  · have hn1 : 3 ≤ n ∧ n ≤ 257 := by omega
    have HS := Lib.hid (show Calls Tryz.prog 120 #[.agg #[.int .i64 257, .int .i64 28, .int .i64 3, .int .i64 257, .int .i64 2], .int .i64 n] w fun e w' => ∃ i, Plc (lt 3 2) 28 n i ∧ e = .returned (.tuple #[.int .i64 (257 + i : Nat), .int .u32 (n - lt 3 2 i : Nat), .int .i64 (bt 2 i : Nat), .bool true]) ∧ Below w.heap.size w w' from symbolOf_yes 257 28 3 257 2 n w (by decide) (by decide) (by decide) (by decide) (.inr rfl) (by decide) hn1)
    have c0 := H.l0
    have c1 := H.l1
    have c2 := H.l2
    have c3 := H.l3
    have c4 := H.l4
    have e1 : ((n : Int) == 258) = false := by rw [beq_eq_false_iff_ne]; omega
    have e2 : (n == 258) = false := by rw [beq_eq_false_iff_ne]; exact h
    obtain ⟨s, hs⟩ : ∃ s, (257 + lsy n : Nat) = s := ⟨_, rfl⟩
    obtain ⟨x, hx⟩ : ∃ x, lex n = x := ⟨_, rfl⟩
    obtain ⟨b, hb⟩ : ∃ b, lb (lsy n) = b := ⟨_, rfl⟩
    have HV := Lib.hid (fun (i : Nat) (g : Plc (lt 3 2) 28 n i) => (show (257 + i : Nat) = s ∧ n - lt 3 2 i = x ∧ bt 2 i = b from ⟨by rw [← hs, (plc_len hn1.2 g).1], by rw [← hx, (plc_len hn1.2 g).2.1], by rw [← hb, (plc_len hn1.2 g).2.2]⟩))
    rw [hs, hx, hb]
    clear H hn hn1 h hs hx hb
    go_enter Tryz.func103, Tryz.ntmps103
    go_wp2_with (go_at_call 120; (with_reducible refine HS.out.mono ?_); rintro e w1 ⟨i, hp, rfl, b1⟩; have B1 := Lib.hid b1; obtain ⟨v1, v2, v3⟩ := HV.out i hp; rw [v1, v2, v3]; clear b1 hp v1 v2 v3)
    exact bodyPost_ret (v := .tuple #[.int .i64 s, .int .u32 x, .int .i64 b, .bool true]) (by simp [results, Tryz.results103, go_sem]) rfl ⟨rfl, B1.out⟩
set_option maxRecDepth 1000000 in
theorem dist_yes (n : Nat) (w : World) (H : Tab w) (hn : 1 ≤ n ∧ n ≤ 32768) : Calls Tryz.prog 104 #[.int .i64 n] w fun e w' => e = .returned (.tuple #[.int .i64 (dsy n : Nat), .int .u32 (dex n : Nat), .int .i64 (db (dsy n) : Nat), .bool true]) ∧ Below w.heap.size w w' := by
  have HS := Lib.hid (show Calls Tryz.prog 120 #[.agg #[.int .i64 0, .int .i64 30, .int .i64 1, .int .i64 32768, .int .i64 1], .int .i64 n] w fun e w' => ∃ i, Plc (lt 1 1) 30 n i ∧ e = .returned (.tuple #[.int .i64 (0 + i : Nat), .int .u32 (n - lt 1 1 i : Nat), .int .i64 (bt 1 i : Nat), .bool true]) ∧ Below w.heap.size w w' from symbolOf_yes 0 30 1 32768 1 n w (by decide) (by decide) (by decide) (by decide) (.inl rfl) (by decide) hn)
  have c0 := H.d0
  have c1 := H.d1
  have c2 := H.d2
  have c3 := H.d3
  have c4 := H.d4
  obtain ⟨s, hs⟩ : ∃ s, dsy n = s := ⟨_, rfl⟩
  obtain ⟨x, hx⟩ : ∃ x, dex n = x := ⟨_, rfl⟩
  obtain ⟨b, hb⟩ : ∃ b, db (dsy n) = b := ⟨_, rfl⟩
  have HV := Lib.hid (fun (i : Nat) (g : Plc (lt 1 1) 30 n i) => (show (0 + i : Nat) = s ∧ n - lt 1 1 i = x ∧ bt 1 i = b from ⟨by rw [← hs, (plc_dist hn.2 g).1, Nat.zero_add], by rw [← hx, (plc_dist hn.2 g).2.1], by rw [← hb, (plc_dist hn.2 g).2.2]⟩))
  rw [hb, hs, hx]
  clear H hn hs hx hb
  go_enter Tryz.func104, Tryz.ntmps104
  go_wp2_with (go_at_call 120; (with_reducible refine HS.out.mono ?_); rintro e w1 ⟨i, hp, rfl, b1⟩; have B1 := Lib.hid b1; obtain ⟨v1, v2, v3⟩ := HV.out i hp; rw [v1, v2, v3]; clear b1 hp v1 v2 v3)
  exact bodyPost_ret (v := .tuple #[.int .i64 s, .int .u32 x, .int .i64 b, .bool true]) (by simp [results, Tryz.results104, go_sem]) rfl ⟨rfl, B1.out⟩
end Go.Proofs.YtlanibgeafdefaaGreatDoor.Y
