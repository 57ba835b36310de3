import Derived.Test.YtlanibgeafdefaaDoorMRns
import Derived.Test.YtlanibgeafdefaaDoorMPkG
import Derived.BigRegion
namespace Go.Proofs.YtlanibgeafdefaaDoor.V
open Go Go.RowKit M U
set_option linter.unusedVariables false
set_option linter.unusedSimpArgs false
def two (a b : Value) (i : Nat) : Value := if i = 0 then a else b
def C2 (w : World) (g : Nat) (a b : Value) : Prop := w.rowIs g 75 2 (two a b)
section
variable {w w' : World} {g : Nat} {a b : Value}
theorem C2.new (w : World) (a b : Value) : C2 (w.alloc (.cells #[a, b] 75)) w.heap.size a b := ⟨#[a, b], heap_alloc_new _ _, rfl, fun i hi => by
  match i, hi with
  | 0, _ => rfl
  | 1, _ => rfl⟩
theorem C2.alloc (h : C2 w g a b) (o : Obj) : C2 (w.alloc o) g a b := World.rowIs.alloc h o
theorem C2.drew (h : C2 w g a b) : C2 w.drew g a b := h
theorem C2.other (h : C2 w g a b) {x : Addr} (hx : g ≠ x.block) (u : Value) : C2 (w.setCell x u) g a b := World.rowIs.setOther h hx u
theorem C2.at0 (h : C2 w g a b) : w.cell? ⟨g, 0, none⟩ = some a := World.rowIs.cell h (i := 0) (by omega)
theorem C2.at1 (h : C2 w g a b) : w.cell? ⟨g, 1, none⟩ = some b := World.rowIs.cell h (i := 1) (by omega)
theorem C2.frozen (h : C2 w g a b) (i : Nat) : w.frozen? ⟨g, i, none⟩ = false := World.rowIs.frozen h i
theorem C2.put (h : C2 w g a b) (c d : Value) : C2 ((w.setCell ⟨g, 0, none⟩ c).setCell ⟨g, 1, none⟩ d) g c d :=
  World.rowIs.congr (World.rowIs.set (World.rowIs.set h 0 c) 1 d) (fun j hj => by
    match j, hj with
    | 0, _ => rfl
    | 1, _ => rfl)
theorem C2.row (h : C2 w g a b) : w.heap[g]? = some (.cells #[a, b] 75 (0, 0)) := by
  obtain ⟨c, h1, h2, h3⟩ := h
  have : c = #[a, b] := by
    apply Array.ext_getElem?
    intro i
    match i with
    | 0 => exact h3 0 (by omega)
    | 1 => exact h3 1 (by omega)
    | i + 2 => rw [Array.getElem?_eq_none (by omega), Array.getElem?_eq_none (by simp)]
  rw [h1, this]
end
theorem codesSize : (Tryd.prog.info? 75).map (fun i => i.size) = some 2 := by kernel_rfl
def fxl (j : Nat) : Nat := if j < 144 then 8 else if j < 256 then 9 else if j < 280 then 7 else 8
structure Fx (w0 w : World) (cb la da : Nat) (f g : Nat → Nat) : Prop where
  r : C2 w w0.heap.size (.slice none 0 0) (.slice none 0 0)
  c : C2 w cb (.slice (some ⟨la, 0, none⟩) 288 288) (.slice (some ⟨da, 0, none⟩) 30 30)
  l : Br w la 288 f
  d : Br w da 30 g
  gc : w0.heap.size < cb
  gl : w0.heap.size < la
  gd : w0.heap.size < da
  nl : cb ≠ la
  nd : cb ≠ da
  ne : la ≠ da
  b : Below w0.heap.size w0 w
section
variable {w0 w : World} {cb la da : Nat} {f g : Nat → Nat}
theorem Fx.drew (h : Fx w0 w cb la da f g) : Fx w0 w.drew cb la da f g := ⟨h.r, h.c, h.l, h.d, h.gc, h.gl, h.gd, h.nl, h.nd, h.ne, h.b.drew⟩
theorem Fx.congr {f' g' : Nat → Nat} (h : Fx w0 w cb la da f g) (e : ∀ i, i < 288 → f i = f' i) (e2 : ∀ i, i < 30 → g i = g' i) : Fx w0 w cb la da f' g' :=
  ⟨h.r, h.c, h.l.congr e, h.d.congr e2, h.gc, h.gl, h.gd, h.nl, h.nd, h.ne, h.b⟩
end
theorem heap4 (w : World) (o0 o1 o2 o3 : Obj) : ((((w.alloc o0).alloc o1).alloc o2).alloc o3).heap[w.heap.size]? = some o0 ∧ ((((w.alloc o0).alloc o1).alloc o2).alloc o3).heap[w.heap.size + 1]? = some o1 ∧ ((((w.alloc o0).alloc o1).alloc o2).alloc o3).heap[w.heap.size + 1 + 1]? = some o2 ∧ ((((w.alloc o0).alloc o1).alloc o2).alloc o3).heap[w.heap.size + 1 + 1 + 1]? = some o3 ∧ Below w.heap.size w ((((w.alloc o0).alloc o1).alloc o2).alloc o3) := by
  have s0 : (w.alloc o0).heap.size = w.heap.size + 1 := by simp
  have s1 : ((w.alloc o0).alloc o1).heap.size = w.heap.size + 1 + 1 := by simp
  have s2 : (((w.alloc o0).alloc o1).alloc o2).heap.size = w.heap.size + 1 + 1 + 1 := by simp
  have a0 := heap_alloc_new w o0
  have a1 := heap_alloc_new (w.alloc o0) o1
  have a2 := heap_alloc_new ((w.alloc o0).alloc o1) o2
  have a3 := heap_alloc_new (((w.alloc o0).alloc o1).alloc o2) o3
  rw [s0] at a1
  rw [s1] at a2
  rw [s2] at a3
  refine ⟨?_, ?_, ?_, a3, (((((Below.refl _ _).alloc (Nat.le_refl _) _).alloc (by omega) _).alloc (by omega) _).alloc (by omega) _)⟩
  · rw [Below.heap_alloc _ _ _ (by omega), Below.heap_alloc _ _ _ (by omega), Below.heap_alloc _ _ _ (by omega)]; exact a0
  · rw [Below.heap_alloc _ _ _ (by omega), Below.heap_alloc _ _ _ (by omega)]; exact a1
  · rw [Below.heap_alloc _ _ _ (by omega)]; exact a2
theorem Fx.start {w w3 : World} {cb la da : Nat} (hr : w3.heap[w.heap.size]? = some (.cells #[.slice none 0 0, .slice none 0 0] 75))
    (hc : w3.heap[cb]? = some (.cells #[.slice (some ⟨la, 0, none⟩) 288 288, .slice (some ⟨da, 0, none⟩) 30 30] 75)) (hl : w3.heap[la]? = some (.cells (madeCells #[.int .u8 0] 288) 5)) (hd : w3.heap[da]? = some (.cells (madeCells #[.int .u8 0] 30) 5))
    (hb : Below w.heap.size w w3) (gc : w.heap.size < cb) (gl : w.heap.size < la) (gd : w.heap.size < da) (nl : cb ≠ la) (nd : cb ≠ da) (ne : la ≠ da) :
    Fx w w3.drew cb la da (fun _ => 0) (fun _ => 0) :=
  ⟨⟨_, hr, rfl, fun i hi => by
    match i, hi with
    | 0, _ => rfl
    | 1, _ => rfl⟩, ⟨_, hc, rfl, fun i hi => by
    match i, hi with
    | 0, _ => rfl
    | 1, _ => rfl⟩, ⟨_, hl, by simp [size_madeCells], fun i hi => by simp [madeCells, hi, Nat.mod_one]⟩, ⟨_, hd, by simp [size_madeCells], fun i hi => by simp [madeCells, hi, Nat.mod_one]⟩, gc, gl, gd, nl, nd, ne, hb.drew⟩
theorem Fx.s1 (w : World) : Fx w ((((w.alloc (.cells #[.slice none 0 0, .slice none 0 0] 75)).alloc (.cells (madeCells #[.int .u8 0] 288) 5)).alloc (.cells (madeCells #[.int .u8 0] 30) 5)).alloc (.cells #[.slice (some ⟨w.heap.size + 1, 0, none⟩) 288 288, .slice (some ⟨w.heap.size + 1 + 1, 0, none⟩) 30 30] 75)).drew (w.heap.size + 1 + 1 + 1) (w.heap.size + 1) (w.heap.size + 1 + 1) (fun _ => 0) (fun _ => 0) := by
  obtain ⟨a0, a1, a2, a3, b⟩ := heap4 w (.cells #[.slice none 0 0, .slice none 0 0] 75) (.cells (madeCells #[.int .u8 0] 288) 5) (.cells (madeCells #[.int .u8 0] 30) 5) (.cells #[.slice (some ⟨w.heap.size + 1, 0, none⟩) 288 288, .slice (some ⟨w.heap.size + 1 + 1, 0, none⟩) 30 30] 75)
  exact Fx.start a0 a3 a1 a2 b (by omega) (by omega) (by omega) (by omega) (by omega) (by omega)
theorem Fx.s2 (w : World) : Fx w ((((w.alloc (.cells #[.slice none 0 0, .slice none 0 0] 75)).alloc (.cells (madeCells #[.int .u8 0] 288) 5)).alloc (.cells #[.slice (some ⟨w.heap.size + 1, 0, none⟩) 288 288, .slice (some ⟨w.heap.size + 1 + 1 + 1, 0, none⟩) 30 30] 75)).alloc (.cells (madeCells #[.int .u8 0] 30) 5)).drew (w.heap.size + 1 + 1) (w.heap.size + 1) (w.heap.size + 1 + 1 + 1) (fun _ => 0) (fun _ => 0) := by
  obtain ⟨a0, a1, a2, a3, b⟩ := heap4 w (.cells #[.slice none 0 0, .slice none 0 0] 75) (.cells (madeCells #[.int .u8 0] 288) 5) (.cells #[.slice (some ⟨w.heap.size + 1, 0, none⟩) 288 288, .slice (some ⟨w.heap.size + 1 + 1 + 1, 0, none⟩) 30 30] 75) (.cells (madeCells #[.int .u8 0] 30) 5)
  exact Fx.start a0 a2 a1 a3 b (by omega) (by omega) (by omega) (by omega) (by omega) (by omega)
theorem Fx.s3 (w : World) : Fx w ((((w.alloc (.cells #[.slice none 0 0, .slice none 0 0] 75)).alloc (.cells (madeCells #[.int .u8 0] 30) 5)).alloc (.cells (madeCells #[.int .u8 0] 288) 5)).alloc (.cells #[.slice (some ⟨w.heap.size + 1 + 1, 0, none⟩) 288 288, .slice (some ⟨w.heap.size + 1, 0, none⟩) 30 30] 75)).drew (w.heap.size + 1 + 1 + 1) (w.heap.size + 1 + 1) (w.heap.size + 1) (fun _ => 0) (fun _ => 0) := by
  obtain ⟨a0, a1, a2, a3, b⟩ := heap4 w (.cells #[.slice none 0 0, .slice none 0 0] 75) (.cells (madeCells #[.int .u8 0] 30) 5) (.cells (madeCells #[.int .u8 0] 288) 5) (.cells #[.slice (some ⟨w.heap.size + 1 + 1, 0, none⟩) 288 288, .slice (some ⟨w.heap.size + 1, 0, none⟩) 30 30] 75)
  exact Fx.start a0 a3 a2 a1 b (by omega) (by omega) (by omega) (by omega) (by omega) (by omega)
theorem Fx.s4 (w : World) : Fx w ((((w.alloc (.cells #[.slice none 0 0, .slice none 0 0] 75)).alloc (.cells (madeCells #[.int .u8 0] 30) 5)).alloc (.cells #[.slice (some ⟨w.heap.size + 1 + 1 + 1, 0, none⟩) 288 288, .slice (some ⟨w.heap.size + 1, 0, none⟩) 30 30] 75)).alloc (.cells (madeCells #[.int .u8 0] 288) 5)).drew (w.heap.size + 1 + 1) (w.heap.size + 1 + 1 + 1) (w.heap.size + 1) (fun _ => 0) (fun _ => 0) := by
  obtain ⟨a0, a1, a2, a3, b⟩ := heap4 w (.cells #[.slice none 0 0, .slice none 0 0] 75) (.cells (madeCells #[.int .u8 0] 30) 5) (.cells #[.slice (some ⟨w.heap.size + 1 + 1 + 1, 0, none⟩) 288 288, .slice (some ⟨w.heap.size + 1, 0, none⟩) 30 30] 75) (.cells (madeCells #[.int .u8 0] 288) 5)
  exact Fx.start a0 a2 a3 a1 b (by omega) (by omega) (by omega) (by omega) (by omega) (by omega)
theorem Fx.s5 (w : World) : Fx w ((((w.alloc (.cells #[.slice none 0 0, .slice none 0 0] 75)).alloc (.cells #[.slice (some ⟨w.heap.size + 1 + 1, 0, none⟩) 288 288, .slice (some ⟨w.heap.size + 1 + 1 + 1, 0, none⟩) 30 30] 75)).alloc (.cells (madeCells #[.int .u8 0] 288) 5)).alloc (.cells (madeCells #[.int .u8 0] 30) 5)).drew (w.heap.size + 1) (w.heap.size + 1 + 1) (w.heap.size + 1 + 1 + 1) (fun _ => 0) (fun _ => 0) := by
  obtain ⟨a0, a1, a2, a3, b⟩ := heap4 w (.cells #[.slice none 0 0, .slice none 0 0] 75) (.cells #[.slice (some ⟨w.heap.size + 1 + 1, 0, none⟩) 288 288, .slice (some ⟨w.heap.size + 1 + 1 + 1, 0, none⟩) 30 30] 75) (.cells (madeCells #[.int .u8 0] 288) 5) (.cells (madeCells #[.int .u8 0] 30) 5)
  exact Fx.start a0 a1 a2 a3 b (by omega) (by omega) (by omega) (by omega) (by omega) (by omega)
theorem Fx.s6 (w : World) : Fx w ((((w.alloc (.cells #[.slice none 0 0, .slice none 0 0] 75)).alloc (.cells #[.slice (some ⟨w.heap.size + 1 + 1 + 1, 0, none⟩) 288 288, .slice (some ⟨w.heap.size + 1 + 1, 0, none⟩) 30 30] 75)).alloc (.cells (madeCells #[.int .u8 0] 30) 5)).alloc (.cells (madeCells #[.int .u8 0] 288) 5)).drew (w.heap.size + 1) (w.heap.size + 1 + 1 + 1) (w.heap.size + 1 + 1) (fun _ => 0) (fun _ => 0) := by
  obtain ⟨a0, a1, a2, a3, b⟩ := heap4 w (.cells #[.slice none 0 0, .slice none 0 0] 75) (.cells #[.slice (some ⟨w.heap.size + 1 + 1 + 1, 0, none⟩) 288 288, .slice (some ⟨w.heap.size + 1 + 1, 0, none⟩) 30 30] 75) (.cells (madeCells #[.int .u8 0] 30) 5) (.cells (madeCells #[.int .u8 0] 288) 5)
  exact Fx.start a0 a1 a3 a2 b (by omega) (by omega) (by omega) (by omega) (by omega) (by omega)
end Go.Proofs.YtlanibgeafdefaaDoor.V
