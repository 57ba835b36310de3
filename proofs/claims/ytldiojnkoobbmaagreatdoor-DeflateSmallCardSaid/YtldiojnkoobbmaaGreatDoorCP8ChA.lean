import Derived.Test.YtldiojnkoobbmaaGreatDoorCMP8Ent
import Derived.Test.YtldiojnkoobbmaaGreatDoorCMP8Cpy
import Derived.WalkKit
import Derived.Lib.Hide
import Derived.Outline
import Derived.Deep.RegionLaw
import Derived.RegionTactic
import Derived.BigRegion
import Derived.BigQuiet
import Derived.Deep.QuietTactic
import Derived.ChangeAlike
import Derived.Laws.Cells
import Derived.WalkSpells
import Derived.WalkMore
import Derived.IntWalk
namespace Go.Proofs.YtldiojnkoobbmaaGreatDoor.V.Px
set_option maxRecDepth 1000000
open Go Go.RowKit M
open Go.ChangeShapes (lits)
set_option linter.unusedVariables false
set_option linter.unusedSimpArgs false
set_option maxRecDepth 1000000 in
theorem made_yes (p m : Nat) (w : World) (hc : w.cell? ⟨p, 2, none⟩ = some (.map (some m))) :
    Calls Tryz.prog 117 #[.pointer (some ⟨p, 0, none⟩)] w fun e w' => e = .returned (.bool true) ∧ w = w' := by
  have qT : ∀ (w : World) (r : Option Nat), (binOp .neq 146 (.map r) (.map none)).run Tryz.prog w = .ok (.bool (!r.isNone)) w := fun w r => run_neq_map_nil w _ _ _ r Tryz.underlying146
  go_enter Tryz.func117, Tryz.ntmps117
  go_wp2
  go_ret
  exact ⟨rfl, rfl⟩
theorem Fd.made {X : World} {F b : Nat} {s : ByteArray} (hF : X.heap[F]? = some (.cells #[Value.string s, Value.int IntKind.i64 (-1), Value.map (some b)] 148 (0, 0))) (hb : X.heap[b]? = some (.map #[] 0)) (h1 : b < F) (h2 : F + 1 ≤ X.heap.size) (hs : s.size ≤ 1048576) {B : Nat} (hB : B ≤ b) : Fd X B F s [] (lst []) :=
  { c0 := by simp [World.cell?, hF], c1 := by simp [World.cell?, hF, lst_nil], fz := by simp [World.frozen?, hF],
    own := ⟨b, F + 1, .map [], by simp [World.cell?, hF], ⟨#[], 0, hb, ⟨by simp, MapKept.stamped_empty 0, by simp⟩, Nat.le_refl _, rfl, by omega, by simp, by simp⟩, Dic.empty, by omega, h2, by omega, hB⟩, base := by omega,
    rise := List.Pairwise.nil, most := (fun p hp => by cases hp), len := hs }
set_option maxRecDepth 1000000 in
theorem new_any (s : ByteArray) (w : World) (hs : s.size ≤ 1048576) :
    Calls Tryz.prog 39 #[.string s] w fun e w' => ∃ F, e = .returned (.pointer (some ⟨F, 0, none⟩)) ∧ w.heap.size ≤ F ∧ Fd w' w.heap.size F s [] (-1) ∧ Below w.heap.size w w' := by
  have hmm := @run_makeMap Tryz.prog
  go_enter Tryz.func39, Tryz.ntmps39
  go_wp2
  go_ret
  have hb0 : (w.alloc (Obj.map #[] 0)).heap[w.heap.size]? = some (.map #[] 0) := heap_alloc_new w _
  have hb : ((w.alloc (Obj.map #[] 0)).alloc (Obj.cells #[Value.string s, Value.int IntKind.i64 (-1), Value.map (some w.heap.size)] 148)).heap[w.heap.size]? = some (.map #[] 0) :=
    (Below.heap_alloc (w.alloc (Obj.map #[] 0)) _ w.heap.size (by simp)).trans hb0
  have hF : ((w.alloc (Obj.map #[] 0)).alloc (Obj.cells #[Value.string s, Value.int IntKind.i64 (-1), Value.map (some w.heap.size)] 148)).heap[w.heap.size + 1]? = some (.cells #[Value.string s, Value.int IntKind.i64 (-1), Value.map (some w.heap.size)] 148 (0, 0)) := by
    have := heap_alloc_new (w.alloc (Obj.map #[] 0)) (.cells #[Value.string s, Value.int IntKind.i64 (-1), Value.map (some w.heap.size)] 148)
    simpa using this
  exact ⟨w.heap.size + 1, rfl, by omega, Fd.made hF hb (by omega) (by simp) hs (Nat.le_refl _), ((Below.refl _ _).alloc (Nat.le_refl _) _).alloc (by simp) _⟩
theorem last_any {B F : Nat} {s : ByteArray} {L : List Nat} {la : Int} {w : World} (H : Fd w B F s L la) :
    Calls Tryz.prog 90 #[.pointer (some ⟨F, 0, none⟩)] w fun e w' => e = .returned (.int .i64 la) ∧ w = w' := by
  have h1 := H.c1
  obtain ⟨b, base, D, h2, _⟩ := H.own
  have HM := Lib.hid (made_yes F b w h2)
  go_enter Tryz.func90, Tryz.ntmps90
  go_wp2_with (go_at_call 117; refine HM.out.mono ?_; rintro e w' ⟨rfl, rfl⟩)
  go_ret
  exact ⟨rfl, rfl⟩
section
variable {B F : Nat} {s : ByteArray} {L : List Nat} {la : Int} {w : World}
set_option maxRecDepth 1000000 in
theorem start_low (H : Fd w B F s L la) (x : Int) (hx : x < 0) :
    Calls Tryz.prog 118 #[.pointer (some ⟨F, 0, none⟩), .int .i64 x] w fun e w' => e = .returned (.tuple #[.agg #[.int .u8 0, .int .u8 0, .int .u8 0], .bool false]) ∧ Below w.heap.size w w' := by
  have h0 := H.c0
  obtain ⟨b, base, D, h2, _⟩ := H.own
  have h2' := (((Below.refl w.heap.size w).alloc (Nat.le_refl _) (.cells #[.int .u8 0, .int .u8 0, .int .u8 0] 210)).cell (World.block_lt_of_cell? _ _ h2)).trans h2
  have HM := Lib.hid (made_yes F b _ h2')
  clear h2 h2'
  go_enter Tryz.func118, Tryz.ntmps118
  go_wp2_with (go_at_call 117; refine HM.out.mono ?_; rintro e w' ⟨rfl, rfl⟩)
  exact bodyPost_ret (v := .tuple #[.agg #[.int .u8 0, .int .u8 0, .int .u8 0], .bool false]) (by simp [results, Tryz.results118, go_sem]) rfl ⟨rfl, (Below.refl _ _).alloc (Nat.le_refl _) _⟩
set_option maxRecDepth 1000000 in
theorem start_high (H : Fd w B F s L la) (x : Int) (hx : (s.size : Int) - 3 < x) :
    Calls Tryz.prog 118 #[.pointer (some ⟨F, 0, none⟩), .int .i64 x] w fun e w' => e = .returned (.tuple #[.agg #[.int .u8 0, .int .u8 0, .int .u8 0], .bool false]) ∧ Below w.heap.size w w' := by
  by_cases hx0 : x < 0
  · exact start_low H x hx0
  have h0 := H.c0
  have hl := H.len
  obtain ⟨b, base, D, h2, _⟩ := H.own
  have h2' := (((Below.refl w.heap.size w).alloc (Nat.le_refl _) (.cells #[.int .u8 0, .int .u8 0, .int .u8 0] 210)).cell (World.block_lt_of_cell? _ _ h2)).trans h2
  have HM := Lib.hid (made_yes F b _ h2')
  clear h2 h2'
  have hF := H.lt
  have hx1 : 0 ≤ x := by omega
  clear hx0
  go_enter Tryz.func118, Tryz.ntmps118
  go_wp2_with (go_at_call 117; refine HM.out.mono ?_; rintro e w' ⟨rfl, rfl⟩)
  exact bodyPost_ret (v := .tuple #[.agg #[.int .u8 0, .int .u8 0, .int .u8 0], .bool false]) (by simp [results, Tryz.results118, go_sem]) rfl ⟨rfl, (Below.refl _ _).alloc (Nat.le_refl _) _⟩
theorem three (s : ByteArray) (k : Nat) (hk : k + 3 ≤ s.size) :
    Lib.byteCells ((s.extract k s.size).data.toList.take 3) ++ [Value.int .u8 0, .int .u8 0, .int .u8 0].drop (0 + 3) = [.int .u8 (byt s k), .int .u8 (byt s (k + 1)), .int .u8 (byt s (k + 2))] := by
  have e1 : (s.extract k s.size).data.toList = s.data.toList.drop k := by
    rw [ByteArray.data_extract, Array.toList_extract, List.extract_eq_take_drop, List.take_of_length_le]
    rw [List.length_drop]; simp
  have hl : s.data.toList.length = s.size := by simp
  rw [e1]
  unfold byt
  generalize s.data.toList = l at hl
  have e2 : (l.drop k).take 3 = [l.getD k 0, l.getD (k + 1) 0, l.getD (k + 2) 0] := by
    apply List.ext_getElem?
    intro i
    by_cases c : i < 3
    · rw [List.getElem?_take, if_pos c, List.getElem?_drop]
      have h3 : k + i < l.length := by omega
      have : i = 0 ∨ i = 1 ∨ i = 2 := by omega
      rcases this with rfl | rfl | rfl <;> simp [List.getD, List.getElem?_eq_getElem h3]
      · simp [List.getElem?_eq_getElem (show k < l.length by omega)]
    · rw [List.getElem?_take, if_neg c, List.getElem?_eq_none (by simp; omega)]
  rw [e2]
  simp [Lib.byteCells]
structure Thr (w w2 : World) (x0 x1 x2 : Int) : Prop where
  d0 : w2.cell? ⟨w.heap.size + 1, 0, none⟩ = some (.int .u8 x0)
  d1 : w2.cell? ⟨w.heap.size + 1, 1, none⟩ = some (.int .u8 x1)
  d2 : w2.cell? ⟨w.heap.size + 1, 2, none⟩ = some (.int .u8 x2)
  out : w2.heap[w.heap.size]? = some (.cells #[.int .u8 0, .int .u8 0, .int .u8 0] 210 (0, 0))
  kept : Kept NoB w w2
theorem start_copy (w : World) (q : Nat) (s : ByteArray) (hq : q + 3 ≤ s.size) :
    ∃ W2, (Builtin.copy_ #[43, 9] 3 #[.slice (some ⟨w.heap.size + 1, 0, none⟩) 3 3, .string (s.extract q s.size)]).run Tryz.prog
        ((w.alloc (.cells #[.int .u8 0, .int .u8 0, .int .u8 0] 210)).alloc (.cells #[.int .u8 0, .int .u8 0, .int .u8 0] 210)).drew = .ok (goInt 3) W2 ∧
      Thr w W2 (byt s q) (byt s (q + 1)) (byt s (q + 2)) := by
  have h8 := three s q hq
  have hm : (3 : Nat) = Nat.min (s.extract q s.size).size 3 := by
    have : (s.extract q s.size).size = s.size - q := by simp
    rw [this]; exact (Nat.min_eq_right (by omega)).symm
  obtain ⟨W, hW⟩ : ∃ W, W = ((w.alloc (.cells #[.int .u8 0, .int .u8 0, .int .u8 0] 210)).alloc (.cells #[.int .u8 0, .int .u8 0, .int .u8 0] 210)).drew := ⟨_, rfl⟩
  have hsz : (w.alloc (.cells #[.int .u8 0, .int .u8 0, .int .u8 0] 210)).heap.size = w.heap.size + 1 := by simp
  have hh : W.heap[w.heap.size + 1]? = some (.cells #[.int .u8 0, .int .u8 0, .int .u8 0] 210 (0, 0)) := by
    rw [hW, ← hsz]; exact heap_alloc_new _ _
  have hh0 : W.heap[w.heap.size]? = some (.cells #[.int .u8 0, .int .u8 0, .int .u8 0] 210 (0, 0)) := by
    rw [hW]
    refine (Below.heap_alloc (w.alloc (.cells #[.int .u8 0, .int .u8 0, .int .u8 0] 210)) _ w.heap.size (by omega)).trans ?_
    exact heap_alloc_new _ _
  have hk : Kept NoB w W := by rw [hW]; exact (((Kept.refl NoB w).alloc _).alloc _).drew
  rw [← hW]
  clear hW
  have g := run_copy_string_some (P := Tryz.prog) W 43 9 3 5 (w.heap.size + 1) 0 3 3 3 (s.extract q s.size) _ 210 Tryz.underlying43 (by kernel_rfl) hh hm (by
    show 0 + 3 ≤ 3; omega)
  rw [show (#[Value.int .u8 0, .int .u8 0, .int .u8 0] : Array Value).toList = [Value.int .u8 0, .int .u8 0, .int .u8 0] from rfl, List.take_zero, List.nil_append, h8] at g
  refine ⟨_, g, ?_⟩
  have hc := fun j => cell_setRow_same W (w.heap.size + 1) j _ ([Value.int .u8 (byt s q), Value.int .u8 (byt s (q + 1)), Value.int .u8 (byt s (q + 2))].toArray) _ _ hh
  exact ⟨hc 0, hc 1, hc 2, (setRow_other _ _ _ _ (by omega)).trans hh0, hk.setRow _ (.inr (by omega)) _⟩
theorem rset_eq {w : World} {a : Addr} {u v : Value} (h : w.cell? a = some u) : (w.setCell a v).cell? a = some v := World.cell?_setCell_same' w a v (by rw [h]; rfl)
theorem rset_ne {w : World} {p i j : Nat} {v : Value} (h : i ≠ j) : (w.setCell ⟨p, i, none⟩ v).cell? ⟨p, j, none⟩ = w.cell? ⟨p, j, none⟩ := World.cell?_setCell_other w _ _ _ (fun e => h (by injection e))
set_option maxRecDepth 1000000 in
set_option maxHeartbeats 1000000 in
theorem start_yes (H : Fd w B F s L la) (k : Nat) (hk : k + 3 ≤ s.size) :
    Calls Tryz.prog 118 #[.pointer (some ⟨F, 0, none⟩), .int .i64 k] w fun e w' => e = .returned (.tuple #[rkey (byt s k) (byt s (k + 1)) (byt s (k + 2)), .bool true]) ∧ Below w.heap.size w w' := by
  have h0 := H.c0
  have hl := H.len
  obtain ⟨b, base, D, h2, _⟩ := H.own
  have h2' := (((Below.refl w.heap.size w).alloc (Nat.le_refl _) (.cells #[.int .u8 0, .int .u8 0, .int .u8 0] 210)).cell (World.block_lt_of_cell? _ _ h2)).trans h2
  have HM := Lib.hid (made_yes F b _ h2')
  obtain ⟨W2, hr, hN⟩ := start_copy w k s hk
  obtain ⟨x0, q0⟩ : ∃ x, byt s k = x := ⟨_, rfl⟩
  obtain ⟨x1, q1⟩ : ∃ x, byt s (k + 1) = x := ⟨_, rfl⟩
  obtain ⟨x2, q2⟩ : ∃ x, byt s (k + 2) = x := ⟨_, rfl⟩
  rw [q0, q1, q2] at hN ⊢
  clear q0 q1 q2
  have HC := Lib.hid hr
  have HN := Lib.hid hN
  have hF := H.lt
  have hx : ¬ ((s.size : Int) - 3 < (k : Int)) := by omega
  have hx1 : decide ((s.size : Int) - 3 < (k : Int)) = false := decide_eq_false hx
  have hk1 : k ≤ s.size := by omega
  clear h2 h2' hr hN
  go_enter Tryz.func118, Tryz.ntmps118
  go_wp2_with (go_at_call 117; refine HM.out.mono ?_; rintro e w' ⟨rfl, rfl⟩)
  go_region_law (refine step_copy_known rfl _ _ _ _ rfl _ _ rfl rfl HC.out ?_)
  all_goals
    have d0 := HN.out.d0
    have d1 := HN.out.d1
    have d2 := HN.out.d2
    have e0 : W2.cell? ⟨w.heap.size, 0, none⟩ = some (.int .u8 0) := by have := HN.out.out; simp [World.cell?, this]
    have f0 : W2.frozen? ⟨w.heap.size, 0, none⟩ = false := by have := HN.out.out; simp [World.frozen?, this]
    have e1 : W2.cell? ⟨w.heap.size, 1, none⟩ = some (.int .u8 0) := by have := HN.out.out; simp [World.cell?, this]
    have f1 : W2.frozen? ⟨w.heap.size, 1, none⟩ = false := by have := HN.out.out; simp [World.frozen?, this]
    have e2 : W2.cell? ⟨w.heap.size, 2, none⟩ = some (.int .u8 0) := by have := HN.out.out; simp [World.cell?, this]
    have f2 : W2.frozen? ⟨w.heap.size, 2, none⟩ = false := by have := HN.out.out; simp [World.frozen?, this]
    clear h0
    have HK := Lib.hid HN.out.kept
    clear HN HC
    go_wp2_with fail
    have g0 : (W2.setCell ⟨w.heap.size, 0, none⟩ (.int .u8 x0)).cell? ⟨w.heap.size, 0, none⟩ = some (.int .u8 x0) := rset_eq e0
    have g1 : ((W2.setCell ⟨w.heap.size, 0, none⟩ (.int .u8 x0)).setCell ⟨w.heap.size, 1, none⟩ (.int .u8 x1)).cell? ⟨w.heap.size, 1, none⟩ = some (.int .u8 x1) := rset_eq ((rset_ne (by decide)).trans e1)
    have g2 : (((W2.setCell ⟨w.heap.size, 0, none⟩ (.int .u8 x0)).setCell ⟨w.heap.size, 1, none⟩ (.int .u8 x1)).setCell ⟨w.heap.size, 2, none⟩ (.int .u8 x2)).cell? ⟨w.heap.size, 2, none⟩ = some (.int .u8 x2) := rset_eq ((rset_ne (by decide)).trans ((rset_ne (by decide)).trans e2))
    refine bodyPost_ret (v := .tuple #[rkey x0 x1 x2, .bool true]) (by simp [results, rkey, Tryz.results118, go_sem, g0, g1, g2]) rfl ⟨rfl, ?_⟩
    exact ((((HK.out.setCell ⟨w.heap.size, 0, none⟩ (.inr (Nat.le_refl _)) (.int .u8 x0)).setCell ⟨w.heap.size, 1, none⟩ (.inr (Nat.le_refl _)) (.int .u8 x1)).setCell ⟨w.heap.size, 2, none⟩ (.inr (Nat.le_refl _)) (.int .u8 x2))).below (Nat.le_refl _) (fun j hj => hj.elim)
end
end Go.Proofs.YtldiojnkoobbmaaGreatDoor.V.Px
