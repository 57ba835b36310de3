import Derived.Test.YtolcaknhjjejeaaDoorProg
import Derived.Test.YtolcaknhjjejeaaDoorCMMathT
import Derived.WalkKit
import Derived.Lib.Hide
import Derived.Deep.OwnRows
import Derived.Deep.WholeRow
import Derived.Deep.MidRow
namespace Go.Proofs.YtolcaknhjjejeaaDoor
open Go.RowKit M
set_option linter.unusedVariables false
def TL (f : Nat → Nat) : List Value := (List.range 16).map fun i => Value.int .u32 (f i)
def TV (f : Nat → Nat) : Array Value := (TL f).toArray
theorem TL_length (f : Nat → Nat) : (TL f).length = 16 := by unfold TL; rw [List.length_map, List.length_range]
theorem TV_size (f : Nat → Nat) : (TV f).size = 16 := by unfold TV; rw [List.size_toArray, TL_length]
theorem TL_at (f : Nat → Nat) (i : Nat) (h : i < 16) : (TL f)[i]? = some (.int .u32 (f i)) := by
  unfold TL
  rw [List.getElem?_map, List.getElem?_range h]; rfl
theorem TV_at (f : Nat → Nat) (i : Nat) (h : i < 16) : (TV f)[i]? = some (.int .u32 (f i)) := by
  unfold TV
  rw [List.getElem?_toArray, TL_at f i h]
theorem TL_one (f : Nat → Nat) : ∀ v ∈ TL f, v.oneCell' = true := by
  intro v hv
  obtain ⟨i, _, rfl⟩ := List.mem_map.1 hv
  rfl
theorem TV_one (f : Nat → Nat) : (TV f).all (·.oneCell') = true := all_oneCell_toArray (TL_one f)
def Tb (w : World) (b : Nat) (f : Nat → Nat) : Prop := w.rowIs b 97 16 (fun i => .int .u32 (f i))
theorem Tb.row {w : World} {b : Nat} {f : Nat → Nat} (h : Tb w b f) : w.heap[b]? = some (.cells (TV f) 97 (0, 0)) := by
  obtain ⟨c, hb, hn, hc⟩ := h
  rw [hb]
  congr 2
  apply Array.ext_getElem?
  intro i
  by_cases hi : i < 16
  · rw [hc i hi, TV_at f i hi]
  · rw [Array.getElem?_eq_none (by omega), Array.getElem?_eq_none (by rw [TV_size]; omega)]
theorem Tb.of_row {w : World} {b : Nat} {f : Nat → Nat} (h : w.heap[b]? = some (.cells (TV f) 97 (0, 0))) : Tb w b f := ⟨_, h, TV_size f, fun i hi => TV_at f i hi⟩
theorem Tb.range {w : World} {b : Nat} {f : Nat → Nat} (h : Tb w b f) : w.rangeAt b 0 (TL f) := by
  intro j v hv
  rw [Nat.zero_add]
  have hj : j < 16 := by have := (List.getElem?_eq_some_iff.1 hv).1; rwa [TL_length] at this
  rw [World.rowIs.cell h hj]
  rw [TL_at f j hj] at hv
  exact hv
theorem Tb.cell {w : World} {b : Nat} {f : Nat → Nat} (h : Tb w b f) {i : Nat} (hi : i < 16) : w.cell? ⟨b, i, none⟩ = some (.int .u32 (f i)) := World.rowIs.cell h hi
theorem Tb.frozen {w : World} {b : Nat} {f : Nat → Nat} (h : Tb w b f) (i : Nat) : w.frozen? ⟨b, i, none⟩ = false := World.rowIs.frozen h i
theorem Tb.congr {w : World} {b : Nat} {f g : Nat → Nat} (h : Tb w b f) (e : ∀ i, i < 16 → f i = g i) : Tb w b g := World.rowIs.congr h (fun i hi => by rw [e i hi])
theorem Tb.set {w : World} {b : Nat} {f : Nat → Nat} (h : Tb w b f) (i v : Nat) : Tb (w.setCell ⟨b, i, none⟩ (.int .u32 v)) b (fun j => if j = i then v else f j) :=
  World.rowIs.congr (World.rowIs.set h i (.int .u32 v)) (fun j hj => by by_cases e : j = i <;> simp [e])
theorem Tb.alloc {w : World} {b : Nat} {f : Nat → Nat} (h : Tb w b f) (o : Obj) : Tb (w.alloc o) b f := World.rowIs.alloc h o
theorem Tb.other {w : World} {b : Nat} {f : Nat → Nat} (h : Tb w b f) {a : Addr} (ha : b ≠ a.block) (v : Value) : Tb (w.setCell a v) b f := World.rowIs.setOther h ha v
theorem Tb.below {w w' : World} {b B : Nat} {f : Nat → Nat} (h : Tb w b f) (hb : Below B w w') (hB : b < B) : Tb w' b f := World.rowIs.of_block h (hb.block b hB)
theorem Tb.made (w : World) (f : Nat → Nat) : Tb (w.alloc (.cells (TV f) 97)) w.heap.size f := Tb.of_row (heap_alloc_new w _)
theorem arrInfo : (Tryd.prog.info? 97).map (fun i => (i.zero, i.size)) = some (some (.agg (TV fun _ => 0)), 16) := by kernel_rfl
theorem arrZero (w : World) : (zeroValue 97).run Tryd.prog w = .ok (.agg (TV fun _ => 0)) w := (zero_of_info arrInfo).1 w
theorem arrSize : (Tryd.prog.info? 97).map (·.size) = some 16 := (zero_of_info arrInfo).2
theorem arrSizeV (f : Nat → Nat) : (Tryd.prog.info? 97).map (·.size) = some (TV f).size := by rw [TV_size]; exact arrSize
theorem arrSizeL (f : Nat → Nat) : (Tryd.prog.info? 97).map (·.size) = some (TL f).length := by rw [TL_length]; exact arrSize
variable {ops : Array Oper} {rest : List Oper} {op : Oper} {a : Act} {w : World} {Q : Exit → Act → World → Prop}
theorem step_load (x : Operand) (ho : op.op = .load 97 x) (hw : Region.wanted op (yielded ops a.tmps) = true) (b : Nat) (hx : a.eval x = .pointer (some ⟨b, 0, none⟩)) (f : Nat → Nat) (hT : Tb w b f)
    (h : wpList Tryd.prog ops Q rest (a.put op.dst (.agg (TV f))) w) : wpList Tryd.prog ops Q (op :: rest) a w :=
  wpList_step fun K hK => by
    rw [if_pos hw]
    exact wp_load_mid 97 x ho b 0 hx (TL f) _ hT.range Tryd.underlying97 rfl (arrSizeL f) (hK _ _ h)
theorem step_store (hg : op.guard = none) (x y : Operand) (ho : op.op = .store 97 x y) (f g : Nat → Nat) (hx : a.eval x = .pointer (some ⟨w.heap.size, 0, none⟩)) (hy : a.eval y = .agg (TV g))
    (h : wpList Tryd.prog ops Q rest (a.put op.dst undef) (w.alloc (.cells (TV g) 97))) : wpList Tryd.prog ops Q (op :: rest) a (w.alloc (.cells (TV f) 97)) :=
  wpList_plain hg fun K hK => by
    refine wp_store_row 97 x y ho w.heap.size (TV g) hx hy 97 (TV f) (heap_alloc_new w _) (arrSizeV g) (by rw [TV_size, TV_size]) (TV_one g) ?_
    rw [World.setRow_alloc_new]
    exact hK _ _ h
theorem Tb.setRow {w : World} {b : Nat} {f : Nat → Nat} (h : Tb w b f) (g : Nat → Nat) : Tb (w.setRow b (TV g)) b g := Tb.of_row (setRow_heap w b _ _ _ _ h.row)
theorem below_setRow {B : Nat} {w0 w : World} (h : Below B w0 w) (b : Nat) (c : Array Value) (hb : B ≤ b) : Below B w0 (w.setRow b c) :=
  h.trans ⟨rfl, rfl, rfl, by simp [World.setRow], fun k hk => by
    simp only [World.setRow, Array.getElem?_modify]
    rw [if_neg (by omega)]⟩
theorem step_store_row (hg : op.guard = none) (x y : Operand) (ho : op.op = .store 97 x y) (b : Nat) (f g : Nat → Nat) (hx : a.eval x = .pointer (some ⟨b, 0, none⟩)) (hy : a.eval y = .agg (TV g)) (hT : Tb w b f)
    (h : wpList Tryd.prog ops Q rest (a.put op.dst undef) (w.setRow b (TV g))) : wpList Tryd.prog ops Q (op :: rest) a w :=
  wpList_plain hg fun K hK =>
    wp_store_row 97 x y ho b (TV g) hx hy 97 (TV f) hT.row (arrSizeV g) (by rw [TV_size, TV_size]) (TV_one g) (hK _ _ h)
theorem idxA (w : World) (f : Nat → Nat) (k : Nat) (hk : k < 16) : (Instr.index 97 (.agg (TV f)) (.int .i64 k)).run Tryd.prog w = .ok (.int .u32 (f k)) w := by
  have h1 : (0 : Int) ≤ k ∧ (k : Int) < (16 : Nat) := ⟨by omega, by omega⟩
  have h2 := TV_at f k hk
  have hs : (sizeOf 83).run Tryd.prog w = .ok 1 w := by kernel_rfl
  have hagg : (isAgg 83).run Tryd.prog w = .ok false w := by kernel_rfl
  simp [Instr.index, asIntOf, run_underlying Tryd.underlying97, h1, hs, part, hagg, h2, Result.andThen]
  intro g; omega
end Go.Proofs.YtolcaknhjjejeaaDoor
