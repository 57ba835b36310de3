/- A block of codes that a call made: its cells, kept and written; make of such a slice, and of one of bytes. Conditions: as each theorem names them. -/
import Derived.Test.YtnkkccieidlacaaArs
import Derived.Test.YtnkkccieidlacaaLay
import Derived.Laws.MakeOwn
namespace Go.Proofs.Ytnkkccieidlacaa
open Go.RowKit M
set_option linter.unusedVariables false

/-- Block b holds n codes, from its head on: F i are their bits, G i their sizes. -/
def Crow (w : World) (b n : Nat) (F G : Nat → Nat) : Prop :=
  ∃ c : Array Value, w.heap[b]? = some (.cells c 52 (0, 0)) ∧ c.size = n * 2 ∧ ∀ i, i < n → c[i * 2]? = some (.int .u32 (F i)) ∧ c[i * 2 + 1]? = some (.int .u8 (G i))

section
variable {w w' : World} {b n : Nat} {F G F' G' : Nat → Nat}
theorem Crow.lt (h : Crow w b n F G) : b < w.heap.size := by
  obtain ⟨c, hb, _⟩ := h
  rcases Nat.lt_or_ge b w.heap.size with g | g
  · exact g
  · rw [Array.getElem?_eq_none g] at hb; cases hb
theorem Crow.cell1 (h : Crow w b n F G) {i : Nat} (hi : i < n) : w.cell? ⟨b, i * 2, none⟩ = some (.int .u32 (F i)) := by
  obtain ⟨c, hb, _, hc⟩ := h
  rw [cell_of_row w b _ c _ _ hb]; exact (hc i hi).1
theorem Crow.cell2 (h : Crow w b n F G) {i : Nat} (hi : i < n) : w.cell? ⟨b, i * 2 + 1, none⟩ = some (.int .u8 (G i)) := by
  obtain ⟨c, hb, _, hc⟩ := h
  rw [cell_of_row w b _ c _ _ hb]; exact (hc i hi).2
theorem Crow.frozen (h : Crow w b n F G) (i : Nat) : w.frozen? ⟨b, i, none⟩ = false := by
  obtain ⟨c, hb, _⟩ := h
  simp [World.frozen?, hb]
theorem Crow.congr (h : Crow w b n F G) (e1 : ∀ i, i < n → F i = F' i) (e2 : ∀ i, i < n → G i = G' i) : Crow w b n F' G' := by
  obtain ⟨c, hb, hs, hc⟩ := h
  exact ⟨c, hb, hs, fun i hi => by rw [(hc i hi).1, (hc i hi).2, e1 i hi, e2 i hi]; exact ⟨rfl, rfl⟩⟩
theorem Crow.other (h : Crow w b n F G) {a : Addr} (ha : b ≠ a.block) (v : Value) : Crow (w.setCell a v) b n F G := by
  obtain ⟨c, hb, hs, hc⟩ := h
  exact ⟨c, (Below.heap_setCell w a v b ha).trans hb, hs, hc⟩
theorem Crow.alloc (h : Crow w b n F G) (o : Obj) : Crow (w.alloc o) b n F G := by
  obtain ⟨c, hb, hs, hc⟩ := id h
  exact ⟨c, (Below.heap_alloc w o b h.lt).trans hb, hs, hc⟩
theorem Crow.drew (h : Crow w b n F G) : Crow w.drew b n F G := h
theorem Crow.below (h : Crow w b n F G) {B : Nat} (hb : Below B w w') (hB : b < B) : Crow w' b n F G := by
  obtain ⟨c, h1, hs, hc⟩ := h
  exact ⟨c, (hb.block b hB).trans h1, hs, hc⟩
/-- a code is stored -/
theorem Crow.set (h : Crow w b n F G) (i x y : Nat) : Crow ((w.setCell ⟨b, i * 2, none⟩ (.int .u32 x)).setCell ⟨b, i * 2 + 1, none⟩ (.int .u8 y)) b n (fun j => if j = i then x else F j) (fun j => if j = i then y else G j) := by
  obtain ⟨c, hb, hs, hc⟩ := h
  refine ⟨(c.setIfInBounds (i * 2) (.int .u32 x)).setIfInBounds (i * 2 + 1) (.int .u8 y), ?_, by simp [hs], fun j hj => ?_⟩
  · simp [World.setCell, Array.getElem?_modify, hb]
  · obtain ⟨h1, h2⟩ := hc j hj
    by_cases e : j = i
    · subst e
      have l1 : j * 2 < c.size := by omega
      have l2 : j * 2 + 1 < c.size := by omega
      constructor
      · rw [Array.getElem?_setIfInBounds, if_neg (by omega), Array.getElem?_setIfInBounds, if_pos rfl, if_pos l1]; simp
      · rw [Array.getElem?_setIfInBounds, if_pos rfl, if_pos (by simpa using l2)]; simp
    · constructor
      · rw [Array.getElem?_setIfInBounds, if_neg (by omega), Array.getElem?_setIfInBounds, if_neg (by omega), h1]; simp [e]
      · rw [Array.getElem?_setIfInBounds, if_neg (by omega), Array.getElem?_setIfInBounds, if_neg (by omega), h2]; simp [e]
theorem Crow.cods (h : Crow w b n F G) : Cods w (some ⟨b, 0, none⟩) n F G := fun hn =>
  ⟨b, 0, rfl, h.lt, fun i hi => by rw [Nat.zero_add]; exact ⟨h.cell1 hi, h.cell2 hi⟩⟩
end

theorem codeInfo : (Try.prog.info? 52).map (fun i => (i.zero, i.size, i.bytes)) = some (some (.agg #[.int .u32 0, .int .u8 0]), 2, 8) := by kernel_rfl
theorem byteInfo : (Try.prog.info? 5).map (fun i => (i.zero, i.size, i.bytes)) = some (some (.int .u8 0), 1, 1) := by kernel_rfl
theorem intInfo : (Try.prog.info? 3).map (fun i => (i.zero, i.size, i.bytes)) = some (some (.int .i64 0), 1, 8) := by kernel_rfl

theorem run_make_known (w : World) {t e : TypeId} {z : Value} {size bytes : Nat} (ht : Try.prog.underlying t = some (.slice e)) (hi : (Try.prog.info? e).map (fun i => (i.zero, i.size, i.bytes)) = some (some z, size, bytes)) (hb : bytes ≤ 8) (n : Nat) (hn : n ≤ 400) :
    (Instr.makeSlice t (.int .i64 (n : Int)) (.int .i64 (n : Int))).run Try.prog w = .ok (.slice (some ⟨w.heap.size, 0, none⟩) n n) (w.alloc (.cells (madeCells z.cells (n * size)) e)) := by
  obtain ⟨i, h1, h2, h3, h4⟩ : ∃ i, Try.prog.info? e = some i ∧ i.zero = some z ∧ i.size = size ∧ i.bytes = bytes := by
    cases hq : Try.prog.info? e with
    | none => rw [hq] at hi; cases hi
    | some i => rw [hq] at hi; simp at hi; exact ⟨i, rfl, hi.1, hi.2.1, hi.2.2⟩
  subst h3 h4
  have hb' : (i.bytes : Int) * (n : Int) ≤ 281474976710656 := by
    have h : i.bytes * n ≤ 8 * 400 := Nat.mul_le_mul hb hn
    have h' : ((i.bytes * n : Nat) : Int) ≤ 281474976710656 := by omega
    rwa [Int.natCast_mul] at h'
  have hr := run_make (P := Try.prog) w t e i z ht h1 h2 .i64 .i64 n n (by omega) (Int.le_refl _) hb' (by omega)
  simp only [Int.toNat_natCast] at hr
  exact hr

theorem madeCode (w : World) (n : Nat) (hn : n ≤ 400) :
    (Instr.makeSlice 32 (.int .i64 (n : Int)) (.int .i64 (n : Int))).run Try.prog w = .ok (.slice (some ⟨w.heap.size, 0, none⟩) n n) (w.alloc (.cells (madeCells #[.int .u32 0, .int .u8 0] (n * 2)) 52)) :=
  run_make_known w Try.underlying32 codeInfo (by decide) n hn
theorem madeByte (w : World) (n : Nat) (hn : n ≤ 400) :
    (Instr.makeSlice 22 (.int .i64 (n : Int)) (.int .i64 (n : Int))).run Try.prog w = .ok (.slice (some ⟨w.heap.size, 0, none⟩) n n) (w.alloc (.cells (madeCells #[.int .u8 0] (n * 1)) 5)) :=
  run_make_known w Try.underlying22 byteInfo (by decide) n hn
theorem madeInt (w : World) (n : Nat) (hn : n ≤ 400) :
    (Instr.makeSlice 47 (.int .i64 (n : Int)) (.int .i64 (n : Int))).run Try.prog w = .ok (.slice (some ⟨w.heap.size, 0, none⟩) n n) (w.alloc (.cells (madeCells #[.int .i64 0] (n * 1)) 3)) :=
  run_make_known w Try.underlying47 intInfo (by decide) n hn

theorem Crow.made (w : World) (n : Nat) : Crow (w.alloc (.cells (madeCells #[.int .u32 0, .int .u8 0] (n * 2)) 52)) w.heap.size n (fun _ => 0) (fun _ => 0) := by
  refine ⟨_, heap_alloc_new w _, size_madeCells _ _, fun i hi => ?_⟩
  have h1 : i * 2 < n * 2 := by omega
  have h2 : i * 2 + 1 < n * 2 := by omega
  have m1 : i * 2 % 2 = 0 := by omega
  have m2 : (i * 2 + 1) % 2 = 1 := by omega
  constructor
  · simp [madeCells, h1, m1]
  · simp [madeCells, h2, m2]
end Go.Proofs.Ytnkkccieidlacaa
