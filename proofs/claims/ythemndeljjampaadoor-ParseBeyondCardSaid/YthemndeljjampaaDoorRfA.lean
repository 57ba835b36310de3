/- The document's finder of layer 8 in memory, where all places ahead of k are put: what New and Put answer and leave. Conditions: as each theorem names them. -/
import Derived.Test.YthemndeljjampaaDoorFrm
import Derived.Test.YthemndeljjampaaDoorMathC
import Derived.Test.YthemndeljjampaaDoorChecked
import Derived.KernelRfl
import Derived.Deep.OwnRows
import Derived.WalkKit
import Derived.Lib.Hide
import Derived.Outline
import Derived.Deep.RegionLaw
import Derived.RegionTactic
import Derived.BigRegion
import Derived.BigQuiet
import Derived.Deep.QuietTactic
import Derived.ChangeAlike
import Derived.Laws.Cells
import Derived.Laws.OwnMore
import Derived.OwnWalk
import Derived.WalkSpells
import Derived.WalkMore
import Derived.IntWalk
namespace Go.Proofs.YthemndeljjampaaDoor.Q
open Go Go.RowKit M
set_option linter.unusedVariables false
set_option linter.unusedSimpArgs false

theorem new_at (w : World) (o : Obj) : (w.alloc o).heap[w.heap.size]? = some o := heap_alloc_new w o
theorem old_at {w : World} {i : Nat} {x : Obj} (o : Obj) (h : w.heap[i]? = some x) : (w.alloc o).heap[i]? = some x := (Below.heap_alloc w o i (Array.getElem?_eq_some_iff.1 h).1).trans h
theorem cadd_at (b o j : Nat) : (⟨b, o, none⟩ : Addr).add j = ⟨b, o + j, none⟩ := by
  unfold Addr.add
  split
  · rename_i h; subst h; rfl
  · rfl
theorem info_of {e : TypeId} {z : Value} {size bytes : Nat} (hi : (Tryd.prog.info? e).map (fun i => (i.zero, i.size, i.bytes)) = some (some z, size, bytes)) : ∃ i, Tryd.prog.info? e = some i ∧ i.zero = some z ∧ i.size = size ∧ i.bytes = bytes := by
  cases hq : Tryd.prog.info? e with
  | none => rw [hq] at hi; cases hi
  | some i => rw [hq] at hi; simp at hi; exact ⟨i, rfl, hi.1, hi.2.1, hi.2.2⟩

/-- a block of three cells, whole -/
def B3 (w : World) (T : TypeId) (g : Nat) (x y z : Value) : Prop := w.heap[g]? = some (.cells #[x, y, z] T (0, 0))
section
variable {w w' : World} {T : TypeId} {g : Nat} {x y z : Value}
theorem B3.at0 (h : B3 w T g x y z) : w.cell? ⟨g, 0, none⟩ = some x := by unfold B3 at h; simp [World.cell?, h]
theorem B3.at1 (h : B3 w T g x y z) : w.cell? ⟨g, 1, none⟩ = some y := by unfold B3 at h; simp [World.cell?, h]
theorem B3.at2 (h : B3 w T g x y z) : w.cell? ⟨g, 2, none⟩ = some z := by unfold B3 at h; simp [World.cell?, h]
theorem B3.free (h : B3 w T g x y z) (i : Nat) : w.frozen? ⟨g, i, none⟩ = false := by unfold B3 at h; simp [World.frozen?, h]
theorem B3.lt (h : B3 w T g x y z) : g < w.heap.size := (Array.getElem?_eq_some_iff.1 h).1
theorem B3.of_block (h : B3 w T g x y z) (e : w'.heap[g]? = w.heap[g]?) : B3 w' T g x y z := e.trans h
theorem B3.set2 (h : B3 w T g x y z) (v : Value) : B3 (w.setCell ⟨g, 2, none⟩ v) T g x y v := by
  unfold B3 at h ⊢
  rw [setCell_eq_setRow w g 2 #[x, y, z] T (0, 0) v h]
  exact setRow_heap w g #[x, y, z] #[x, y, v] T (0, 0) h
end
/-- a block of two cells, whole -/
def B2 (w : World) (T : TypeId) (g : Nat) (x y : Value) : Prop := w.heap[g]? = some (.cells #[x, y] T (0, 0))
section
variable {w w' : World} {T : TypeId} {g : Nat} {x y : Value}
theorem B2.at0 (h : B2 w T g x y) : w.cell? ⟨g, 0, none⟩ = some x := by unfold B2 at h; simp [World.cell?, h]
theorem B2.at1 (h : B2 w T g x y) : w.cell? ⟨g, 1, none⟩ = some y := by unfold B2 at h; simp [World.cell?, h]
theorem B2.free (h : B2 w T g x y) (i : Nat) : w.frozen? ⟨g, i, none⟩ = false := by unfold B2 at h; simp [World.frozen?, h]
theorem B2.lt (h : B2 w T g x y) : g < w.heap.size := (Array.getElem?_eq_some_iff.1 h).1
theorem B2.of_block (h : B2 w T g x y) (e : w'.heap[g]? = w.heap[g]?) : B2 w' T g x y := e.trans h
theorem B2.set (h : B2 w T g x y) (u v : Value) : B2 ((w.setCell ⟨g, 0, none⟩ u).setCell ⟨g, 1, none⟩ v) T g u v := by
  unfold B2 at h ⊢
  have h1 : (w.setCell ⟨g, 0, none⟩ u).heap[g]? = some (.cells #[u, y] T (0, 0)) := by
    rw [setCell_eq_setRow w g 0 #[x, y] T (0, 0) u h]
    exact setRow_heap w g #[x, y] #[u, y] T (0, 0) h
  rw [setCell_eq_setRow _ g 1 #[u, y] T (0, 0) v h1]
  exact setRow_heap _ g #[u, y] #[u, v] T (0, 0) h1
end

/-- The document's finder: all places ahead of k are put. -/
structure Rf (w : World) (B F b : Nat) (s : ByteArray) (k : Nat) : Prop where
  fd : B3 w 67 F (.string s) (.slice (some ⟨b, 0, none⟩) s.size s.size) (.int .i64 ((k : Int) - 1))
  row : w.rowIs b 4 s.size (fun j => .bool (decide (j < k)))
  ne : F ≠ b
  hF : B ≤ F
  hb : B ≤ b
  le : k ≤ s.size
  len : s.size ≤ 2000000
section
variable {w w' : World} {B F b k : Nat} {s : ByteArray}
theorem Rf.of_blocks (h : Rf w B F b s k) (e1 : w'.heap[F]? = w.heap[F]?) (e2 : w'.heap[b]? = w.heap[b]?) : Rf w' B F b s k :=
  ⟨h.fd.of_block e1, World.rowIs.of_block h.row e2, h.ne, h.hF, h.hb, h.le, h.len⟩
theorem Rf.below (h : Rf w B F b s k) (hb : Below w.heap.size w w') : Rf w' B F b s k := h.of_blocks (hb.block F h.fd.lt) (hb.block b (World.rowIs.lt h.row))
theorem Rf.drewN (h : Rf w B F b s k) (n : Nat) : Rf (w.drewN n) B F b s k := h.of_blocks rfl rfl
theorem Rf.base (h : Rf w B F b s k) {B' : Nat} (hB : B' ≤ B) : Rf w B' F b s k := ⟨h.fd, h.row, h.ne, Nat.le_trans hB h.hF, Nat.le_trans hB h.hb, h.le, h.len⟩
end

theorem boolInfo : (Tryd.prog.info? 4).map (fun i => (i.zero, i.size, i.bytes)) = some (some (.bool false), 1, 1) := by kernel_rfl
theorem made (w : World) (n : Nat) (hn : n ≤ 2000000) : (Instr.makeSlice 65 (.int .i64 (n : Int)) (.int .i64 (n : Int))).run Tryd.prog w = .ok (.slice (some ⟨w.heap.size, 0, none⟩) n n) (w.alloc (.cells (madeCells #[.bool false] n) 4)) := by
  obtain ⟨i, h1, h2, h3, h4⟩ := info_of boolInfo
  exact run_make_row 65 4 i _ Tryd.underlying65 h1 h2 h3 rfl .i64 .i64 n (by rw [h4]; omega) (by omega) w

theorem rnew_any (s : ByteArray) (w : World) (hs : s.size ≤ 2000000) :
    Calls Tryd.prog 19 #[.string s] w fun e w' => e = .returned (.pointer (some ⟨w.heap.size + 1, 0, none⟩)) ∧ Rf w' w.heap.size (w.heap.size + 1) w.heap.size s 0 ∧ Below w.heap.size w w' := by
  obtain ⟨n, hn⟩ : ∃ n, s.size = n := ⟨_, rfl⟩
  have hn1 : (s.size : Int) = (n : Int) := by rw [hn]
  have hn2 : n ≤ 2000000 := by omega
  have hmk := made w n hn2
  have HN := Lib.hid hn
  clear hn hs
  go_enter Tryd.func19, Tryd.ntmps19
  go_wp2_with fail
  go_ret
  have hn := HN.out
  refine ⟨rfl, ⟨?_, ?_, by omega, by omega, Nat.le_refl _, Nat.zero_le _, by omega⟩, ((Below.refl _ _).alloc (Nat.le_refl _) _).alloc (by simp) _⟩
  · have := new_at (w.alloc (.cells (madeCells #[.bool false] n) 4)) (.cells #[.string s, .slice (some ⟨w.heap.size, 0, none⟩) n n, .int .i64 (-1)] 67)
    rw [World.size_alloc] at this
    rw [hn]
    exact this
  · rw [hn]
    exact World.rowIs.alloc ((World.rowIs_made w (.bool false) n 4).congr (fun i hi => by rw [decide_eq_false (by omega)])) _

theorem rput_any {w : World} {B F b k : Nat} {s : ByteArray} (h : Rf w B F b s k) (hk : k < s.size) :
    Calls Tryd.prog 22 #[.pointer (some ⟨F, 0, none⟩), .int .i64 k] w fun e w' => e = .returned (.int .i64 0) ∧ Rf w' B F b s (k + 1) ∧ Kept (fun j => j = F ∨ j = b) w w' := by
  have c0 := h.fd.at0
  have c1 := h.fd.at1
  have c2 := h.fd.at2
  have f2 := h.fd.free 2
  have hlen := h.len
  have hck := World.rowIs.cell h.row (i := k) hk
  have hfk := World.rowIs.frozen h.row k
  obtain ⟨n, hn⟩ : ∃ n, s.size = n := ⟨_, rfl⟩
  have hn1 : (s.size : Int) = (n : Int) := by rw [hn]
  rw [hn] at c1 hk
  have hk9 : k < 9223372036854775807 := by omega
  have d1 : decide ((n : Int) ≤ (k : Int)) = false := decide_eq_false (by omega)
  have d1' : decide (n ≤ k) = false := decide_eq_false (by omega)
  have d2 : decide ((k : Int) ≤ (k : Int) - 1) = false := decide_eq_false (by omega)
  have hne := h.ne
  have hne' : b ≠ F := fun e => h.ne e.symm
  have HH := Lib.hid h
  have HN := Lib.hid hn
  clear h hn
  go_enter Tryd.func22, Tryd.ntmps22
  go_wp2_with fail
  go_ret
  have hbF : b ≠ F := hne'
  refine ⟨rfl, ⟨?_, ?_, hne, HH.out.hF, HH.out.hb, by rw [HN.out]; omega, HH.out.len⟩, ((Kept.refl _ w).setCell ⟨b, k, none⟩ (.inl (.inr rfl)) _).setCell ⟨F, 2, none⟩ (.inl (.inl rfl)) _⟩
  · have h1 : B3 (w.setCell ⟨b, k, none⟩ (.bool true)) 67 F (.string s) (.slice (some ⟨b, 0, none⟩) s.size s.size) (.int .i64 ((k : Int) - 1)) := HH.out.fd.of_block (Below.heap_setCell _ _ _ _ (by show F ≠ b; exact hne))
    have := h1.set2 (.int .i64 (k : Int))
    rw [show ((k + 1 : Nat) : Int) - 1 = (k : Int) by omega]
    exact this
  · exact World.rowIs.setOther ((World.rowIs.set HH.out.row k (.bool true)).congr (fun j hj => by
      by_cases c : j = k
      · subst c; rw [if_pos rfl, decide_eq_true (by omega)]
      · rw [if_neg c]; congr 1; rw [decide_eq_decide]; omega)) (by show b ≠ F; exact hne') _
end Go.Proofs.YthemndeljjampaaDoor.Q
