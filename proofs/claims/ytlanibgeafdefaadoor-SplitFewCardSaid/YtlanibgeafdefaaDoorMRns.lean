/- Texts of one place, one behind the other: Rns, RuC, BwA, BwC, BwD, BwT, BwS, WgM, BwO, MdA, MdB, MdC, PgT, T9MathT. -/
import Derived.Test.YtlanibgeafdefaaDoorFrm
import Derived.Test.YtlanibgeafdefaaDoorMMaR
import Derived.Test.YtlanibgeafdefaaDoorChecked
import Derived.KernelRfl
import Derived.Deep.OwnRows
import Derived.WalkKit
import Derived.Deep.Slices
import Derived.Deep.Fields
import Derived.SizedLaws
import Derived.Laws.OwnMore
import Derived.Deep.AppendLies
import Derived.Lib.Hide
import Derived.Outline
import Derived.Deep.RegionLaw
import Derived.RegionTactic
import Derived.BigRegion
import Derived.BigQuiet
import Derived.Deep.QuietTactic
import Derived.ChangeAlike
import Derived.Laws.Cells
import Derived.OwnWalk
import Derived.WalkSpells
import Derived.WalkMore
import Derived.IntWalk
import Derived.Test.YtlanibgeafdefaaDoorRsA
import Derived.Test.YtlanibgeafdefaaDoorLay
namespace Go.Proofs.YtlanibgeafdefaaDoor.U
open Go Go.RowKit M
open Go.ChangeShapes Go.WideShapes Go.Deep
set_option linter.unusedVariables false
set_option linter.unusedSimpArgs false
theorem nadd_at (b o j : Nat) : (⟨b, o, none⟩ : Addr).add j = ⟨b, o + j, none⟩ := by
  unfold Addr.add
  split
  · rename_i h; subst h; rfl
  · rfl
theorem info_of {e : TypeId} {z : Value} {size bytes : Nat} (hi : (Tryd.prog.info? e).map (fun i => (i.zero, i.size, i.bytes)) = some (some z, size, bytes)) : ∃ i, Tryd.prog.info? e = some i ∧ i.zero = some z ∧ i.size = size ∧ i.bytes = bytes := by
  cases hq : Tryd.prog.info? e with
  | none => rw [hq] at hi; cases hi
  | some i => rw [hq] at hi; simp at hi; exact ⟨i, rfl, hi.1, hi.2.1, hi.2.2⟩
theorem byteInfo : (Tryd.prog.info? 5).map (fun i => (i.zero, i.size, i.bytes)) = some (some (.int .u8 0), 1, 1) := by kernel_rfl
theorem runInfo : (Tryd.prog.info? 116).map (fun i => (i.zero, i.size, i.bytes)) = some (some (.agg #[.int .u8 0, .int .u8 0]), 2, 2) := by kernel_rfl
theorem cells2 : Tryd.prog.cellsOf 116 = 2 := by kernel_rfl
structure IsBys (w : World) (A : Option Addr) (n : Nat) (l : List Nat) : Prop where
  leng : l.length = n
  most : n ≤ maxLen
  good : ∀ x ∈ l, x ≤ 255
  cells : n = 0 ∨ ∃ b o, A = some ⟨b, o, none⟩ ∧ b < w.heap.size ∧ ∀ (i x : Nat), l[i]? = some x → w.cell? ⟨b, o + i, none⟩ = some (.int .u8 (x : Int))
section
variable {w w' : World} {A : Option Addr} {n : Nat} {l : List Nat}
theorem IsBys.below (h : IsBys w A n l) (hb : Below w.heap.size w w') : IsBys w' A n l := by
  refine ⟨h.leng, h.most, h.good, ?_⟩
  rcases h.cells with g | ⟨b, o, g1, g2, g3⟩
  · exact .inl g
  · exact .inr ⟨b, o, g1, Nat.lt_of_lt_of_le g2 hb.size, fun i x hx => (hb.cell g2).trans (g3 i x hx)⟩
theorem IsBys.nil (w : World) (A : Option Addr) : IsBys w A 0 [] := ⟨rfl, Nat.zero_le _, fun x hx => absurd hx (by simp), .inl rfl⟩
theorem IsBys.at (h : IsBys w A n l) (hn : 0 < n) : ∃ b o, A = some ⟨b, o, none⟩ ∧ b < w.heap.size ∧ ∀ i, i < n → w.cell? ⟨b, o + i, none⟩ = some (.int .u8 (l.getD i 0 : Nat)) := by
  rcases h.cells with g | ⟨b, o, g1, g2, g3⟩
  · omega
  · exact ⟨b, o, g1, g2, fun i hi => g3 i _ (by rw [List.getD, List.getElem?_eq_getElem (by rw [h.leng]; exact hi)]; rfl)⟩
theorem IsBys.le (h : IsBys w A n l) (i : Nat) : l.getD i 0 ≤ 255 := by
  by_cases hi : i < l.length
  · rw [List.getD, List.getElem?_eq_getElem hi]; exact h.good _ (List.getElem_mem _)
  · rw [List.getD, List.getElem?_eq_none (by omega)]; exact Nat.zero_le _
end
theorem IsBys.pre {w : World} {b o n : Nat} {l : List Nat} (h : IsBys w (some ⟨b, o, none⟩) n l) {j : Nat} (hj : j ≤ n) : IsBys w (some ⟨b, o, none⟩) j (l.take j) := by
  have hl := h.leng
  refine ⟨by rw [List.length_take]; omega, by have := h.most; omega, fun x hx => h.good x (List.mem_of_mem_take hx), ?_⟩
  by_cases h0 : j = 0
  · exact .inl h0
  · obtain ⟨b', o', e, g1, g2⟩ := h.at (by omega)
    simp only [Option.some.injEq, Addr.mk.injEq, and_true] at e
    obtain ⟨rfl, rfl⟩ := e
    refine .inr ⟨b, o, rfl, g1, fun i x hx => ?_⟩
    have hi : i < j := by
      have := (List.getElem?_eq_some_iff.1 hx).1
      rw [List.length_take] at this
      omega
    rw [List.getElem?_take, if_pos hi] at hx
    rw [g2 i (by omega), List.getD, hx]
    rfl
theorem IsBys.suf {w : World} {b o n : Nat} {l : List Nat} (h : IsBys w (some ⟨b, o, none⟩) n l) {j : Nat} (hj : j ≤ n) (a : Option Addr) (ha : j < n → a = some ⟨b, o + j, none⟩) : IsBys w a (n - j) (l.drop j) := by
  have hl := h.leng
  refine ⟨by rw [List.length_drop, hl], by have := h.most; omega, fun x hx => h.good x (List.mem_of_mem_drop hx), ?_⟩
  by_cases h0 : n - j = 0
  · exact .inl h0
  · obtain ⟨b', o', e, g1, g2⟩ := h.at (by omega)
    simp only [Option.some.injEq, Addr.mk.injEq, and_true] at e
    obtain ⟨rfl, rfl⟩ := e
    refine .inr ⟨b, o + j, ha (by omega), g1, fun i x hx => ?_⟩
    rw [List.getElem?_drop] at hx
    have hi : j + i < n := by
      have := (List.getElem?_eq_some_iff.1 hx).1
      omega
    have := g2 (j + i) hi
    rw [show o + j + i = o + (j + i) by omega, this, List.getD, hx]
    rfl
def clb (l : List Nat) : List Value := l.map fun x : Nat => Value.int .u8 (x : Int)
theorem clb_length (l : List Nat) : (clb l).length = l.length := by unfold clb; simp
theorem clb_append (l r : List Nat) : clb (l ++ r) = clb l ++ clb r := by unfold clb; simp
def Owb (B : Nat) (w : World) (v : Value) (l : List Nat) : Prop := w.ownsRow B 5 1 v l.length (clb l)
section
variable {B : Nat} {w w' : World} {v : Value} {l : List Nat}
theorem Owb.nil (B : Nat) (w : World) : Owb B w (.slice none 0 0) [] := World.ownsRow_nil w B _ 1
theorem Owb.alloc (h : Owb B w v l) (o : Obj) : Owb B (w.alloc o) v l := World.ownsRow.alloc h o
theorem Owb.at (h : Owb B w v l) (e : ∀ g, v.ownBlock = some g → w'.heap[g]? = w.heap[g]?) : Owb B w' v l := ownsRow_at h e
theorem Owb.lt (h : Owb B w v l) : ∀ g, v.ownBlock = some g → B ≤ g ∧ g < w.heap.size := World.ownsRow.lt h
theorem Owb.below (h : Owb B w v l) (hb : Below w.heap.size w w') : Owb B w' v l := h.at fun g hg => hb.block g (h.lt g hg).2
theorem Owb.bys (h : Owb B w v l) (hok : ∀ x ∈ l, x ≤ 255) (hm : l.length ≤ maxLen) : ∃ A c, v = .slice A l.length c ∧ IsBys w A l.length l := by
  rcases h.2 with ⟨rfl, h0⟩ | ⟨g, cap, cur, rfl, _, hh, _⟩
  · exact ⟨none, 0, by rw [h0], rfl, hm, hok, .inl h0⟩
  · refine ⟨_, cap, rfl, rfl, hm, hok, .inr ⟨g, 0, rfl, (Array.getElem?_eq_some_iff.1 hh).1, fun i x hx => ?_⟩⟩
    have k := h.cells (g := g) rfl i (.int .u8 (x : Int)) (by unfold clb; rw [List.getElem?_map, hx]; rfl)
    rw [nadd_at] at k
    exact k
theorem Owb.ty (h : Owb B w v l) : ∀ g, v.ownBlock = some g → ∃ cs, w.heap[g]? = some (.cells cs 5 (0, 0)) := by
  intro g hg
  rcases h.2 with ⟨rfl, _⟩ | ⟨g', cap, cur, rfl, _, hh, _⟩
  · simp [Value.ownBlock] at hg
  · simp [Value.ownBlock] at hg; subst hg; exact ⟨cur, hh⟩
end
structure IsRns (w : World) (A : Option Addr) (n : Nat) (L : List Rn) : Prop where
  leng : L.length = n
  most : n ≤ maxLen
  good : ∀ r ∈ L, r.s ≤ 255 ∧ r.e ≤ 255
  cells : n = 0 ∨ ∃ b o, A = some ⟨b, o, none⟩ ∧ b < w.heap.size ∧ ∀ (i : Nat) (r : Rn), L[i]? = some r → w.cell? ⟨b, o + i * 2, none⟩ = some (.int .u8 (r.s : Int)) ∧ w.cell? ⟨b, o + i * 2 + 1, none⟩ = some (.int .u8 (r.e : Int))
section
variable {w w' : World} {A : Option Addr} {n : Nat} {L : List Rn}
theorem IsRns.below (h : IsRns w A n L) (hb : Below w.heap.size w w') : IsRns w' A n L := by
  refine ⟨h.leng, h.most, h.good, ?_⟩
  rcases h.cells with g | ⟨b, o, g1, g2, g3⟩
  · exact .inl g
  · exact .inr ⟨b, o, g1, Nat.lt_of_lt_of_le g2 hb.size, fun i x hx => ⟨(hb.cell g2).trans (g3 i x hx).1, (hb.cell g2).trans (g3 i x hx).2⟩⟩
theorem IsRns.nil (w : World) (A : Option Addr) : IsRns w A 0 [] := ⟨rfl, Nat.zero_le _, fun x hx => absurd hx (by simp), .inl rfl⟩
theorem IsRns.at (h : IsRns w A n L) (hn : 0 < n) : ∃ b o, A = some ⟨b, o, none⟩ ∧ b < w.heap.size ∧ ∀ i, i < n → w.cell? ⟨b, o + i * 2, none⟩ = some (.int .u8 ((L.getD i default).s : Nat)) ∧ w.cell? ⟨b, o + i * 2 + 1, none⟩ = some (.int .u8 ((L.getD i default).e : Nat)) := by
  rcases h.cells with g | ⟨b, o, g1, g2, g3⟩
  · omega
  · exact ⟨b, o, g1, g2, fun i hi => g3 i _ (by rw [List.getD, List.getElem?_eq_getElem (by rw [h.leng]; exact hi)]; rfl)⟩
theorem IsRns.le (h : IsRns w A n L) (i : Nat) : (L.getD i default).s ≤ 255 ∧ (L.getD i default).e ≤ 255 := by
  by_cases hi : i < L.length
  · rw [List.getD, List.getElem?_eq_getElem hi]; exact h.good _ (List.getElem_mem _)
  · rw [List.getD, List.getElem?_eq_none (by omega)]; exact ⟨Nat.zero_le _, Nat.zero_le _⟩
end
theorem u8_bounds {a : Int} (h : (Lit.int .u8 a).wf = true) : 0 ≤ a ∧ a ≤ 255 := by simpa [Lit.wf, IntKind.min, IntKind.max, IntKind.signed, IntKind.bits] using h
section
variable {H : Type} {enc : TypeId × Value → H} {w : World} {spare : Nat → Bool} {held : Bool}
end
def clr : List Rn → List Value
  | [] => []
  | t :: l => .int .u8 (t.s : Int) :: .int .u8 (t.e : Int) :: clr l
theorem clr_append : ∀ l r, clr (l ++ r) = clr l ++ clr r
  | [], _ => rfl
  | t :: l, r => by simp only [List.cons_append, clr]; rw [clr_append l r]
theorem clr_at : ∀ (l : List Rn) (i : Nat) (t : Rn), l[i]? = some t → (clr l)[i * 2]? = some (.int .u8 (t.s : Int)) ∧ (clr l)[i * 2 + 1]? = some (.int .u8 (t.e : Int))
  | [], i, t, h => by simp at h
  | a :: l, 0, t, h => by simp at h; subst h; simp [clr]
  | a :: l, i + 1, t, h => by
    rw [List.getElem?_cons_succ] at h
    obtain ⟨h1, h2⟩ := clr_at l i t h
    simp only [clr]
    refine ⟨?_, ?_⟩
    · rw [show (i + 1) * 2 = i * 2 + 1 + 1 by omega]; simpa using h1
    · rw [show (i + 1) * 2 + 1 = i * 2 + 1 + 1 + 1 by omega]; simpa using h2
theorem clr_one : ∀ (l : List Rn), ∀ u ∈ clr l, u.oneCell' = true
  | [], u, h => by simp [clr] at h
  | t :: l, u, h => by
    simp only [clr, List.mem_cons] at h
    rcases h with rfl | rfl | h
    · rfl
    · rfl
    · exact clr_one l u h
def Owr (B : Nat) (w : World) (v : Value) (L : List Rn) : Prop := w.ownsRow B 116 2 v L.length (clr L)
section
variable {B : Nat} {w w' : World} {v : Value} {L : List Rn}
theorem Owr.nil (B : Nat) (w : World) : Owr B w (.slice none 0 0) [] := World.ownsRow_nil w B _ 2
theorem Owr.alloc (h : Owr B w v L) (o : Obj) : Owr B (w.alloc o) v L := World.ownsRow.alloc h o
theorem Owr.at (h : Owr B w v L) (e : ∀ g, v.ownBlock = some g → w'.heap[g]? = w.heap[g]?) : Owr B w' v L := ownsRow_at h e
theorem Owr.lt (h : Owr B w v L) : ∀ g, v.ownBlock = some g → B ≤ g ∧ g < w.heap.size := World.ownsRow.lt h
theorem Owr.below (h : Owr B w v L) (hb : Below w.heap.size w w') : Owr B w' v L := h.at fun g hg => hb.block g (h.lt g hg).2
theorem Owr.weak {B' : Nat} (h : Owr B w v L) (hB : B' ≤ B) : Owr B' w v L := by
  obtain ⟨h1, h2⟩ := h
  refine ⟨h1, ?_⟩
  rcases h2 with h2 | ⟨g, cap, cur, e, hg, r⟩
  · exact .inl h2
  · exact .inr ⟨g, cap, cur, e, Nat.le_trans hB hg, r⟩
theorem Owr.rns (h : Owr B w v L) (hok : ∀ r ∈ L, r.s ≤ 255 ∧ r.e ≤ 255) (hm : L.length ≤ maxLen) : ∃ A c, v = .slice A L.length c ∧ IsRns w A L.length L := by
  rcases h.2 with ⟨rfl, h0⟩ | ⟨g, cap, cur, rfl, _, hh, _⟩
  · exact ⟨none, 0, by rw [h0], rfl, hm, hok, .inl h0⟩
  · refine ⟨_, cap, rfl, rfl, hm, hok, .inr ⟨g, 0, rfl, (Array.getElem?_eq_some_iff.1 hh).1, fun i t ht => ?_⟩⟩
    obtain ⟨h1, h2⟩ := clr_at L i t ht
    have k := fun j u hu => h.cells (g := g) rfl j u hu
    simp only [nadd_at] at k
    exact ⟨k _ _ h1, k _ _ h2⟩
theorem Owr.ty (h : Owr B w v L) : ∀ g, v.ownBlock = some g → ∃ cs, w.heap[g]? = some (.cells cs 116 (0, 0)) := by
  intro g hg
  rcases h.2 with ⟨rfl, _⟩ | ⟨g', cap, cur, rfl, _, hh, _⟩
  · simp [Value.ownBlock] at hg
  · simp [Value.ownBlock] at hg; subst hg; exact ⟨cur, hh⟩
end
end Go.Proofs.YtlanibgeafdefaaDoor.U

namespace Go.Proofs.YtlanibgeafdefaaDoor.U
open Go Go.RowKit M
set_option linter.unusedVariables false
set_option linter.unusedSimpArgs false
def rn (l : List Nat) (k : Nat) : Nat := ru (l.getD k 0) (l.drop k)
def RnP (W : World) (L : List Rn) (e : Ending) (w' : World) : Prop := ∃ v, e = .returned (.tuple #[v, .int .i64 0]) ∧ Owr W.heap.size w' v L ∧ Below W.heap.size W w'
end Go.Proofs.YtlanibgeafdefaaDoor.U

namespace Go.Proofs.YtlanibgeafdefaaDoor.V
open Go Go.RowKit M U
set_option linter.unusedVariables false
set_option linter.unusedSimpArgs false
def put (n k : Nat) : List Nat := (List.range k).map fun i => n / 2 ^ i % 2
theorem put_length (n k : Nat) : (put n k).length = k := by simp [put]
def cdb (c size : Nat) : List Nat := (List.range size).map fun i => c / 2 ^ (size - 1 - i) % 2
theorem cdb_length (c size : Nat) : (cdb c size).length = size := by simp [cdb]
structure Chg (P : Nat) (g : Option Nat) (w : World) (g' : Option Nat) (w' : World) : Prop where
  os : w'.os = w.os
  tape : w'.tape = w.tape
  output : w'.output = w.output
  size : w.heap.size ≤ w'.heap.size
  row : g' = g ∨ ∀ j, g' = some j → w.heap.size ≤ j
  block : ∀ i, i < w.heap.size → i ≠ P → g ≠ some i → w'.heap[i]? = w.heap[i]?
theorem Chg.refl (P : Nat) (g : Option Nat) (w : World) : Chg P g w g w := ⟨rfl, rfl, rfl, Nat.le_refl _, .inl rfl, fun _ _ _ _ => rfl⟩
theorem Chg.trans {P : Nat} {g g' g2 : Option Nat} {w w' w2 : World} (h : Chg P g w g' w') (k : Chg P g' w' g2 w2) : Chg P g w g2 w2 := by
  refine ⟨k.os.trans h.os, k.tape.trans h.tape, k.output.trans h.output, Nat.le_trans h.size k.size, ?_, fun i hi hP hg => ?_⟩
  · rcases k.row with e | e
    · rw [e]; exact h.row
    · exact .inr fun j hj => Nat.le_trans h.size (e j hj)
  · have hg' : g' ≠ some i := by
      rcases h.row with e | e
      · rw [e]; exact hg
      · intro q; have := e i q; omega
    exact (k.block i (Nat.lt_of_lt_of_le hi h.size) hP hg').trans (h.block i hi hP hg)
theorem Chg.of_below {P : Nat} {g : Option Nat} {w w' : World} (h : Below w.heap.size w w') : Chg P g w g w' := ⟨h.os, h.tape, h.output, h.size, .inl rfl, fun i hi _ _ => h.block i hi⟩
theorem Chg.below {P B : Nat} {g g' : Option Nat} {w w' : World} (h : Chg P g w g' w') (hB : B ≤ w.heap.size) (hP : B ≤ P) (hg : ∀ j, g = some j → B ≤ j) : Below B w w' :=
  ⟨h.os, h.tape, h.output, h.size, fun i hi => h.block i (by omega) (by omega) (fun e => by have := hg i e; omega)⟩
def Ap (P : Nat) (g : Option Nat) (w : World) (b : Nat) : Prop := b < w.heap.size ∧ b ≠ P ∧ g ≠ some b
section
variable {B P : Nat} {w w' : World} {v : Value} {bs : List Nat}
end
theorem Owb.form {B : Nat} {w : World} {v : Value} {l : List Nat} (h : Owb B w v l) : ∃ A c, v = .slice A l.length c := by
  rcases h.2 with ⟨rfl, h0⟩ | ⟨g, cap, cur, rfl, _⟩
  · exact ⟨none, 0, by rw [h0]⟩
  · exact ⟨_, _, rfl⟩
end Go.Proofs.YtlanibgeafdefaaDoor.V

namespace Go.Proofs.YtlanibgeafdefaaDoor.V
open Go Go.RowKit M U
set_option linter.unusedVariables false
set_option linter.unusedSimpArgs false
def hdb (kind : Nat) (last : Bool) : List Nat := put (if last then 1 else 0) 1 ++ put kind 2
theorem hdb_length (kind : Nat) (last : Bool) : (hdb kind last).length = 3 := by simp [hdb, put_length]
def upt (l : List Nat) (least : Nat) : Nat := (List.range l.length).foldl (fun n i => if 0 < l.getD i 0 then max n (i + 1) else n) least
def upk (l : List Nat) (least k : Nat) : Nat := (List.range k).foldl (fun n i => if 0 < l.getD i 0 then max n (i + 1) else n) least
theorem upk_succ (l : List Nat) (least k : Nat) : upk l least (k + 1) = if 0 < l.getD k 0 then max (upk l least k) (k + 1) else upk l least k := by
  unfold upk
  rw [List.range_succ, List.foldl_append]
  rfl
theorem upk_le (l : List Nat) (least : Nat) : ∀ k, least ≤ upk l least k ∧ upk l least k ≤ max least k
  | 0 => ⟨Nat.le_refl _, by unfold upk; exact Nat.le_max_left _ _⟩
  | k + 1 => by
    have := upk_le l least k
    rw [upk_succ]
    split <;> omega
end Go.Proofs.YtlanibgeafdefaaDoor.V

namespace Go.Proofs.YtlanibgeafdefaaDoor.V
open Go Go.RowKit M U
set_option linter.unusedVariables false
set_option linter.unusedSimpArgs false
def bty (s : ByteArray) (i : Nat) : Nat := (s.data.toList.getD i 0).toNat
def byb (s : ByteArray) (k : Nat) : List Nat := (List.range k).flatMap fun i => put (bty s i) 8
theorem byb_succ (s : ByteArray) (k : Nat) : byb s (k + 1) = byb s k ++ put (bty s k) 8 := by unfold byb; rw [List.range_succ, List.flatMap_append]; simp
theorem byb_length (s : ByteArray) : ∀ k, (byb s k).length = k * 8
  | 0 => rfl
  | k + 1 => by rw [byb_succ, List.length_append, byb_length s k, put_length]; omega
def pd (n : Nat) : Nat := (8 - n % 8) % 8
def stb (o : Nat) (s : ByteArray) (last : Bool) : List Nat := hdb 0 last ++ List.replicate (pd (o + 3)) 0 ++ put s.size 16 ++ put (65535 - s.size) 16 ++ byb s s.size
theorem stb_length (o : Nat) (s : ByteArray) (last : Bool) : (stb o s last).length = 3 + pd (o + 3) + 32 + s.size * 8 := by
  unfold stb
  simp only [List.length_append, hdb_length, List.length_replicate, put_length, byb_length]
def stm (o : Nat) (s : ByteArray) (last : Bool) : List Nat :=
  if h : s.size ≤ 65535 then stb o s last else stb o (s.extract 0 65535) false ++ stm (o + (stb o (s.extract 0 65535) false).length) (s.extract 65535 s.size) last
termination_by s.size
decreasing_by
  rw [ByteArray.size_extract]
  omega
theorem stm_one {o : Nat} {s : ByteArray} {last : Bool} (h : s.size ≤ 65535) : stm o s last = stb o s last := by rw [stm, dif_pos h]
theorem stm_more {o : Nat} {s : ByteArray} {last : Bool} (h : ¬ s.size ≤ 65535) : stm o s last = stb o (s.extract 0 65535) false ++ stm (o + (stb o (s.extract 0 65535) false).length) (s.extract 65535 s.size) last := by rw [stm, dif_neg h]
end Go.Proofs.YtlanibgeafdefaaDoor.V

namespace Go.Proofs.YtlanibgeafdefaaDoor.V
open Go Go.RowKit M U
open Go.ChangeShapes Go.WideShapes Go.Deep
set_option linter.unusedVariables false
set_option linter.unusedSimpArgs false
structure Tk where
  l : Int
  n : Int
  d : Int
deriving DecidableEq
instance : Inhabited Tk := ⟨⟨0, 0, 0⟩⟩
structure Tk.ok (t : Tk) : Prop where
  l : 0 ≤ t.l ∧ t.l ≤ 255
  n : -9223372036854775808 ≤ t.n ∧ t.n ≤ 9223372036854775807
  d : -9223372036854775808 ≤ t.d ∧ t.d ≤ 9223372036854775807
def isB (t : Tk) : Bool := decide (t.n = 0) && decide (t.d = 0)
def isM (t : Tk) : Bool := decide (t.l = 0) && (decide (3 ≤ t.n) && (decide (t.n ≤ 258) && (decide (1 ≤ t.d) && decide (t.d ≤ 32768))))
def may (t : Tk) : Bool := isB t || isM t
theorem isB_iff {t : Tk} : isB t = true ↔ t.n = 0 ∧ t.d = 0 := by unfold isB; simp
theorem isM_iff {t : Tk} : isM t = true ↔ t.l = 0 ∧ 3 ≤ t.n ∧ t.n ≤ 258 ∧ 1 ≤ t.d ∧ t.d ≤ 32768 := by unfold isM; simp
theorem isB_no {t : Tk} (h : isM t = true) : isB t = false := by
  have := isM_iff.1 h
  cases q : isB t
  · rfl
  · have := isB_iff.1 q; omega
theorem u8_bounds {a : Int} (h : (Lit.int .u8 a).wf = true) : 0 ≤ a ∧ a ≤ 255 := by simpa [Lit.wf, IntKind.min, IntKind.max, IntKind.signed, IntKind.bits] using h
structure Tk.lies (w : World) (b o i : Nat) (c : Tk) : Prop where
  l : w.cell? ⟨b, o + i * 3, none⟩ = some (.int .u8 c.l)
  n : w.cell? ⟨b, o + i * 3 + 1, none⟩ = some (.int .i64 c.n)
  d : w.cell? ⟨b, o + i * 3 + 2, none⟩ = some (.int .i64 c.d)
structure IsTks (w : World) (ao : Option Addr) (len : Nat) (cs : List Tk) : Prop where
  leng : cs.length = len
  most : len ≤ maxLen
  good : ∀ c ∈ cs, c.ok
  cells : len = 0 ∨ ∃ b o, ao = some ⟨b, o, none⟩ ∧ b < w.heap.size ∧ ∀ (i : Nat) (c : Tk), cs[i]? = some c → c.lies w b o i
theorem IsTks.below {w w' : World} {ao : Option Addr} {len : Nat} {cs : List Tk} (h : IsTks w ao len cs) (hb : Below w.heap.size w w') : IsTks w' ao len cs := by
  refine ⟨h.leng, h.most, h.good, ?_⟩
  rcases h.cells with g | ⟨b, o, g1, g2, g3⟩
  · exact .inl g
  · refine .inr ⟨b, o, g1, Nat.lt_of_lt_of_le g2 hb.size, fun i c hc => ?_⟩
    have k := g3 i c hc
    exact ⟨(hb.cell g2).trans k.l, (hb.cell g2).trans k.n, (hb.cell g2).trans k.d⟩
theorem cadd_at (b o j : Nat) : (⟨b, o, none⟩ : Addr).add j = ⟨b, o + j, none⟩ := by
  unfold Addr.add
  split
  · rename_i h; subst h; rfl
  · rfl
section
variable {H : Type} {enc : TypeId × Value → H} {w : World} {spare : Nat → Bool} {held : Bool}
end
theorem rmay_any (l n d : Int) (w : World) :
    Calls Tryd.prog 16 #[.agg #[.int .u8 l, .int .i64 n, .int .i64 d]] w fun e w' => e = .returned (.bool (may ⟨l, n, d⟩)) ∧ Below w.heap.size w w' := by
  by_cases h0 : n = 0
  · have hv : ∀ b, decide (d = 0) = b → may ⟨l, n, d⟩ = b := fun b h => by
      have hm : isM ⟨l, n, d⟩ = false := by cases q : isM ⟨l, n, d⟩ with | false => rfl | true => (have := isM_iff.1 q; simp only at this; omega)
      unfold may; rw [hm, Bool.or_false]; unfold isB; simp only; rw [decide_eq_true h0, h]; rfl
    have e0 : (n == 0) = true := by rw [beq_iff_eq]; exact h0
    by_cases h1 : d = 0
    · rw [hv true (decide_eq_true h1)]
      have e1 : (d == 0) = true := by rw [beq_iff_eq]; exact h1
      clear h0 h1 hv
      go_enter Tryd.func16, Tryd.ntmps16
      go_wp2
      go_ret
      exact ⟨rfl, (Below.refl _ _).alloc (Nat.le_refl _) _⟩
    · rw [hv false (decide_eq_false h1)]
      have e1 : (d == 0) = false := by rw [beq_eq_false_iff_ne]; exact h1
      clear h0 h1 hv
      go_enter Tryd.func16, Tryd.ntmps16
      go_wp2
      go_ret
      exact ⟨rfl, (Below.refl _ _).alloc (Nat.le_refl _) _⟩
  have hv : ∀ b, (decide (l = 0) && (decide (3 ≤ n) && (decide (n ≤ 258) && (decide (1 ≤ d) && decide (d ≤ 32768))))) = b → may ⟨l, n, d⟩ = b := fun b h => by
    have hb : isB ⟨l, n, d⟩ = false := by cases q : isB ⟨l, n, d⟩ with | false => rfl | true => exact absurd (isB_iff.1 q).1 h0
    unfold may; rw [hb, Bool.false_or]; exact h
  have e0 : (n == 0) = false := by rw [beq_eq_false_iff_ne]; exact h0
  by_cases h2 : 3 ≤ n
  · have d2 : decide (3 ≤ n) = true := decide_eq_true h2
    by_cases h3 : n ≤ 258
    · have d3 : decide (n ≤ 258) = true := decide_eq_true h3
      by_cases h4 : 1 ≤ d
      · have d4 : decide (1 ≤ d) = true := decide_eq_true h4
        by_cases h5 : d ≤ 32768
        · have d5 : decide (d ≤ 32768) = true := decide_eq_true h5
          by_cases h6 : l = 0
          · have d6 : (l == 0) = true := by rw [beq_iff_eq]; exact h6
            rw [hv true (by simp [h2, h3, h4, h5, h6])]
            clear h0 h2 h3 h4 h5 h6 hv
            go_enter Tryd.func16, Tryd.ntmps16
            go_wp2
            go_ret
            exact ⟨rfl, (Below.refl _ _).alloc (Nat.le_refl _) _⟩
          · have d6 : (l == 0) = false := by rw [beq_eq_false_iff_ne]; exact h6
            rw [hv false (by simp [h6])]
            clear h0 h2 h3 h4 h5 h6 hv
            go_enter Tryd.func16, Tryd.ntmps16
            go_wp2
            go_ret
            exact ⟨rfl, (Below.refl _ _).alloc (Nat.le_refl _) _⟩
        · have d5 : decide (d ≤ 32768) = false := decide_eq_false h5
          rw [hv false (by simp [h5])]
          clear h0 h2 h3 h4 h5 hv
          go_enter Tryd.func16, Tryd.ntmps16
          go_wp2
          go_ret
          exact ⟨rfl, (Below.refl _ _).alloc (Nat.le_refl _) _⟩
      · have d4 : decide (1 ≤ d) = false := decide_eq_false h4
        rw [hv false (by simp [h4])]
        clear h0 h2 h3 h4 hv
        go_enter Tryd.func16, Tryd.ntmps16
        go_wp2
        go_ret
        exact ⟨rfl, (Below.refl _ _).alloc (Nat.le_refl _) _⟩
    · have d3 : decide (n ≤ 258) = false := decide_eq_false h3
      rw [hv false (by simp [h3])]
      clear h0 h2 h3 hv
      go_enter Tryd.func16, Tryd.ntmps16
      go_wp2
      go_ret
      exact ⟨rfl, (Below.refl _ _).alloc (Nat.le_refl _) _⟩
  · have d2 : decide (3 ≤ n) = false := decide_eq_false h2
    rw [hv false (by simp [h2])]
    clear h0 h2 hv
    go_enter Tryd.func16, Tryd.ntmps16
    go_wp2
    go_ret
    exact ⟨rfl, (Below.refl _ _).alloc (Nat.le_refl _) _⟩
theorem IsTks.at {w : World} {A : Option Addr} {n : Nat} {L : List Tk} (h : IsTks w A n L) (hn : 0 < n) : ∃ b o, A = some ⟨b, o, none⟩ ∧ b < w.heap.size ∧ ∀ i (hi : i < n), w.cell? ⟨b, o + i * 3, none⟩ = some (.int .u8 (L.getD i default).l) ∧ w.cell? ⟨b, o + i * 3 + 1, none⟩ = some (.int .i64 (L.getD i default).n) ∧ w.cell? ⟨b, o + i * 3 + 2, none⟩ = some (.int .i64 (L.getD i default).d) := by
  rcases h.cells with g | ⟨b, o, g1, g2, g3⟩
  · omega
  · refine ⟨b, o, g1, g2, fun i hi => ?_⟩
    have hl := h.leng
    have e : L[i]? = some (L.getD i default) := by rw [List.getD, List.getElem?_eq_getElem (by omega)]; rfl
    have k := g3 i _ e
    exact ⟨k.l, k.n, k.d⟩
theorem getD_take_succ (L : List Tk) (i : Nat) (hi : i < L.length) : L.take (i + 1) = L.take i ++ [L.getD i default] := by
  rw [List.take_add_one, List.getD, List.getElem?_eq_getElem hi]; rfl
end Go.Proofs.YtlanibgeafdefaaDoor.V

namespace Go.Proofs.YtlanibgeafdefaaDoor.V
open Go Go.RowKit M U
open Go.ChangeShapes Go.WideShapes Go.Deep
set_option linter.unusedVariables false
set_option linter.unusedSimpArgs false
structure Sy where
  d : Bool
  n : Nat
  e : Nat
  b : Nat
deriving DecidableEq
instance : Inhabited Sy := ⟨⟨false, 0, 0, 0⟩⟩
def sy1 (t : Tk) : List Sy := if t.n = 0 then [⟨false, t.l.toNat, 0, 0⟩] else [⟨false, 257 + lsy t.n.toNat, lex t.n.toNat, lb (lsy t.n.toNat)⟩, ⟨true, dsy t.d.toNat, dex t.d.toNat, db (dsy t.d.toNat)⟩]
def sys (L : List Tk) : List Sy := L.flatMap sy1 ++ [⟨false, 256, 0, 0⟩]
theorem sy1_len (t : Tk) : (sy1 t).length ≤ 2 := by unfold sy1; split <;> simp
theorem fsy_len : ∀ L : List Tk, (L.flatMap sy1).length ≤ 2 * L.length
  | [] => by simp
  | t :: L => by rw [List.flatMap_cons, List.length_append, List.length_cons]; have := fsy_len L; have := sy1_len t; omega
theorem fsy_succ (L : List Tk) (k : Nat) (hk : k < L.length) : (L.take (k + 1)).flatMap sy1 = (L.take k).flatMap sy1 ++ sy1 (L.getD k default) := by
  rw [getD_take_succ L k hk, List.flatMap_append]; simp
structure IsSys (w : World) (A : Option Addr) (n : Nat) (L : List Sy) : Prop where
  leng : L.length = n
  cells : n = 0 ∨ ∃ b o, A = some ⟨b, o, none⟩ ∧ b < w.heap.size ∧ ∀ (i : Nat) (r : Sy), L[i]? = some r → w.cell? ⟨b, o + i * 4, none⟩ = some (.bool r.d) ∧ w.cell? ⟨b, o + i * 4 + 1, none⟩ = some (.int .i64 (r.n : Int)) ∧ w.cell? ⟨b, o + i * 4 + 2, none⟩ = some (.int .i64 (r.e : Int)) ∧ w.cell? ⟨b, o + i * 4 + 3, none⟩ = some (.int .i64 (r.b : Int))
theorem IsSys.below {w w' : World} {A : Option Addr} {n : Nat} {L : List Sy} (h : IsSys w A n L) (hb : Below w.heap.size w w') : IsSys w' A n L := by
  refine ⟨h.leng, ?_⟩
  rcases h.cells with g | ⟨b, o, g1, g2, g3⟩
  · exact .inl g
  · exact .inr ⟨b, o, g1, Nat.lt_of_lt_of_le g2 hb.size, fun i x hx => ⟨(hb.cell g2).trans (g3 i x hx).1, (hb.cell g2).trans (g3 i x hx).2.1, (hb.cell g2).trans (g3 i x hx).2.2.1, (hb.cell g2).trans (g3 i x hx).2.2.2⟩⟩
theorem IsSys.at {w : World} {A : Option Addr} {n : Nat} {L : List Sy} (h : IsSys w A n L) (hn : 0 < n) : ∃ b o, A = some ⟨b, o, none⟩ ∧ b < w.heap.size ∧ ∀ i, i < n → w.cell? ⟨b, o + i * 4, none⟩ = some (.bool (L.getD i default).d) ∧ w.cell? ⟨b, o + i * 4 + 1, none⟩ = some (.int .i64 ((L.getD i default).n : Nat)) ∧ w.cell? ⟨b, o + i * 4 + 2, none⟩ = some (.int .i64 ((L.getD i default).e : Nat)) ∧ w.cell? ⟨b, o + i * 4 + 3, none⟩ = some (.int .i64 ((L.getD i default).b : Nat)) := by
  rcases h.cells with g | ⟨b, o, g1, g2, g3⟩
  · omega
  · exact ⟨b, o, g1, g2, fun i hi => g3 i _ (by rw [List.getD, List.getElem?_eq_getElem (by rw [h.leng]; exact hi)]; rfl)⟩
section
variable {B : Nat} {w w' : World} {v : Value} {L : List Sy}
end
end Go.Proofs.YtlanibgeafdefaaDoor.V

namespace Go.Proofs.YtlanibgeafdefaaDoor.V
open Go Go.RowKit M U
set_option linter.unusedVariables false
set_option linter.unusedSimpArgs false
def wgh (l1 l2 : Nat → Nat) : List Sy → Nat
  | [] => 0
  | y :: S => (if y.d = true then l2 y.n else l1 y.n) + y.b + wgh l1 l2 S
end Go.Proofs.YtlanibgeafdefaaDoor.V

namespace Go.Proofs.YtlanibgeafdefaaDoor.V
open Go Go.RowKit M U
set_option linter.unusedVariables false
set_option linter.unusedSimpArgs false
def ord : List Nat := [16, 17, 18, 0, 8, 7, 9, 6, 10, 5, 11, 4, 12, 3, 13, 2, 14, 1, 15]
theorem ord_cells (w : World) (g : Nat) (h : w.heap[g]? = some (.cells #[.int .u8 16, .int .u8 17, .int .u8 18, .int .u8 0, .int .u8 8, .int .u8 7, .int .u8 9, .int .u8 6, .int .u8 10, .int .u8 5, .int .u8 11, .int .u8 4, .int .u8 12, .int .u8 3, .int .u8 13, .int .u8 2, .int .u8 14, .int .u8 1, .int .u8 15] 5)) : IsBys w (some ⟨g, 0, none⟩) 19 ord := by
  have e : (#[.int .u8 16, .int .u8 17, .int .u8 18, .int .u8 0, .int .u8 8, .int .u8 7, .int .u8 9, .int .u8 6, .int .u8 10, .int .u8 5, .int .u8 11, .int .u8 4, .int .u8 12, .int .u8 3, .int .u8 13, .int .u8 2, .int .u8 14, .int .u8 1, .int .u8 15] : Array Value) = (clb ord).toArray := rfl
  rw [e] at h
  refine ⟨rfl, by decide, by decide, .inr ⟨g, 0, rfl, (Array.getElem?_eq_some_iff.1 h).1, fun i x hx => ?_⟩⟩
  rw [Nat.zero_add]
  simp only [World.cell?, h]
  unfold clb
  rw [List.getElem?_toArray, List.getElem?_map, hx]
  rfl
end Go.Proofs.YtlanibgeafdefaaDoor.V

namespace Go.Proofs.YtlanibgeafdefaaDoor.V
open Go Go.RowKit M U
open Go.ChangeShapes Go.WideShapes Go.Deep
set_option linter.unusedVariables false
set_option linter.unusedSimpArgs false
structure Ra where
  l : Int
  n : Int
  d : Int
deriving DecidableEq
instance : Inhabited Ra := ⟨⟨0, 0, 0⟩⟩
structure Ra.ok (t : Ra) : Prop where
  l : 0 ≤ t.l ∧ t.l ≤ 255
  n : 0 ≤ t.n ∧ t.n ≤ 65535
  d : 0 ≤ t.d ∧ t.d ≤ 65535
theorem u16_bounds {a : Int} (h : (Lit.int .u16 a).wf = true) : 0 ≤ a ∧ a ≤ 65535 := by simpa [Lit.wf, IntKind.min, IntKind.max, IntKind.signed, IntKind.bits] using h
structure Ra.lies (w : World) (b o i : Nat) (c : Ra) : Prop where
  l : w.cell? ⟨b, o + i * 3, none⟩ = some (.int .u8 c.l)
  n : w.cell? ⟨b, o + i * 3 + 1, none⟩ = some (.int .u16 c.n)
  d : w.cell? ⟨b, o + i * 3 + 2, none⟩ = some (.int .u16 c.d)
structure IsRas (w : World) (ao : Option Addr) (len : Nat) (cs : List Ra) : Prop where
  leng : cs.length = len
  most : len ≤ maxLen
  good : ∀ c ∈ cs, c.ok
  cells : len = 0 ∨ ∃ b o, ao = some ⟨b, o, none⟩ ∧ b < w.heap.size ∧ ∀ (i : Nat) (c : Ra), cs[i]? = some c → c.lies w b o i
theorem IsRas.below {w w' : World} {ao : Option Addr} {len : Nat} {cs : List Ra} (h : IsRas w ao len cs) (hb : Below w.heap.size w w') : IsRas w' ao len cs := by
  refine ⟨h.leng, h.most, h.good, ?_⟩
  rcases h.cells with g | ⟨b, o, g1, g2, g3⟩
  · exact .inl g
  · refine .inr ⟨b, o, g1, Nat.lt_of_lt_of_le g2 hb.size, fun i c hc => ?_⟩
    have k := g3 i c hc
    exact ⟨(hb.cell g2).trans k.l, (hb.cell g2).trans k.n, (hb.cell g2).trans k.d⟩
theorem cells3r : Tryd.prog.cellsOf 40 = 3 := by kernel_rfl
section
variable {H : Type} {enc : TypeId × Value → H} {w : World} {spare : Nat → Bool} {held : Bool}
set_option maxRecDepth 1000000 in
theorem open_ra {m : Nat} {cs : List Value} {x : DataW H × List MemPlace} (h : DataW.trod enc Tryd.prog w 0 spare held m 40 cs = some x) :
    ∃ l n d, cs = [.int .u8 l, .int .u16 n, .int .u16 d] ∧ (Lit.int .u8 l).wf = true ∧ (Lit.int .u16 n).wf = true ∧ (Lit.int .u16 d).wf = true := by
  obtain ⟨xs, k, _, rfl, hl, hxl, hf⟩ := DataW.trod_struct Tryd.underlying40 h
  rw [cells3r] at hl
  match cs, hl with
  | [v0, v1, v2], _ =>
    match xs, hxl with
    | [y0, y1, y2], _ =>
      have k0 : Tryd.prog.cellsOf 5 = 1 := by kernel_rfl
      have k1 : Tryd.prog.cellsOf 23 = 1 := by kernel_rfl
      have e0 : DataW.trod enc Tryd.prog w 0 spare held k 5 (([v0, v1, v2].drop 0).take (Tryd.prog.cellsOf 5)) = some y0 := hf 0 _ rfl
      have e1 : DataW.trod enc Tryd.prog w 0 spare held k 23 (([v0, v1, v2].drop 1).take (Tryd.prog.cellsOf 23)) = some y1 := hf 1 _ rfl
      have e2 : DataW.trod enc Tryd.prog w 0 spare held k 23 (([v0, v1, v2].drop 2).take (Tryd.prog.cellsOf 23)) = some y2 := hf 2 _ rfl
      simp only [k0, k1, List.drop_zero, List.drop_succ_cons, List.take_succ_cons, List.take_zero] at e0 e1 e2
      obtain ⟨l, hd, _, wl⟩ := DataW.trod_int Tryd.underlying5 e0
      obtain ⟨n, hn, _, wn⟩ := DataW.trod_int Tryd.underlying23 e1
      obtain ⟨d, hd', _, wd⟩ := DataW.trod_int Tryd.underlying23 e2
      simp only [List.cons.injEq, and_true] at hd hn hd'
      subst hd hn hd'
      exact ⟨l, n, d, rfl, wl, wn, wd⟩
set_option maxRecDepth 1000000 in
theorem open_ras {fuel : Nat} {ao : Option Addr} {len cap : Nat} {x : DataW H × List MemPlace} (h : DataW.trod enc Tryd.prog w 0 spare held fuel 22 [.slice ao len cap] = some x)
    (hsz : ∀ n ∈ x.1.weights Tryd.prog 22, n ≤ reachBytes) : ∃ cs, IsRas w ao len cs := by
  rcases open_slice Tryd.underlying22 h with ⟨h0, _⟩ | ⟨a, len', cap', m, n, D, Pl, hcs, _, hl, hm, hmm, hx, hi⟩
  · simp only [List.cons.injEq, Value.slice.injEq, and_true] at h0
    obtain ⟨_, rfl, _⟩ := h0
    exact ⟨[], rfl, Nat.zero_le _, fun c hc => (List.not_mem_nil hc).elim, .inl rfl⟩
  simp only [List.cons.injEq, Value.slice.injEq, and_true] at hcs
  obtain ⟨rfl, rfl, rfl⟩ := hcs
  rw [cells3r] at hi
  have hlm : len ≤ m := by rw [hmm]; split <;> omega
  have each : ∀ i, i < len → ∃ c : Ra, c.ok ∧ ∃ b o, a = ⟨b, o, none⟩ ∧ b < w.heap.size ∧ c.lies w b o i := by
    intro i hil
    obtain ⟨cs', hc, ht⟩ := hi i (by omega)
    obtain ⟨_, hcl, hat⟩ := World.cells?_some hc
    obtain ⟨l, n', d, rfl, wl, wn, wd⟩ := open_ra ht
    have g0 := hat 0 (by decide)
    have g1 := hat 1 (by decide)
    have g2 := hat 2 (by decide)
    rw [Go.Deep.add_add] at g0 g1 g2
    simp only [List.getElem?_cons_zero, List.getElem?_cons_succ] at g0 g1 g2
    have hsp0 : a.spot = none := by
      obtain ⟨cs0, hc0, ht0⟩ := hi 0 (by omega)
      obtain ⟨_, _, hat0⟩ := World.cells?_some hc0
      obtain ⟨l0, n0, d0, rfl, _⟩ := open_ra ht0
      have h00 := World.cell?_spot (hat0 0 (by decide))
      rw [Go.Deep.add_add, Nat.zero_mul, Addr.add, if_pos rfl] at h00
      exact h00
    obtain ⟨b, o, sp⟩ := a
    have hsp : sp = none := hsp0
    subst hsp
    rw [cadd_at] at g0 g1 g2
    exact ⟨⟨l, n', d⟩, ⟨u8_bounds wl, u16_bounds wn, u16_bounds wd⟩, b, o, rfl, World.block_lt_of_cell? _ _ g0, g0, g1, g2⟩
  by_cases hz : len = 0
  · subst hz
    exact ⟨[], rfl, Nat.zero_le _, fun c hc => (List.not_mem_nil hc).elim, .inl rfl⟩
  obtain ⟨_, _, b, o, hab, hbw, _⟩ := each 0 (by omega)
  obtain ⟨f, hf⟩ := choose_lt each
  refine ⟨(List.range len).map f, by simp, by omega, fun c hc => ?_, .inr ⟨b, o, by rw [hab], hbw, fun i c hc => ?_⟩⟩
  · obtain ⟨i, hi', rfl⟩ := List.mem_map.1 hc
    exact (hf i (List.mem_range.1 hi')).1
  · have hil : i < len := by
      have := (List.getElem?_eq_some_iff.1 hc).1
      simpa using this
    obtain ⟨_, b', o', hab', _, hat⟩ := hf i hil
    rw [hab] at hab'
    obtain ⟨rfl, rfl⟩ : b = b' ∧ o = o' := by
      simp only [Addr.mk.injEq, and_true] at hab'
      exact hab'
    have : f i = c := by simpa [hil] using hc
    rw [← this]
    exact hat
end
theorem IsRas.at {w : World} {A : Option Addr} {n : Nat} {L : List Ra} (h : IsRas w A n L) (hn : 0 < n) : ∃ b o, A = some ⟨b, o, none⟩ ∧ b < w.heap.size ∧ ∀ i (hi : i < n), w.cell? ⟨b, o + i * 3, none⟩ = some (.int .u8 (L.getD i default).l) ∧ w.cell? ⟨b, o + i * 3 + 1, none⟩ = some (.int .u16 (L.getD i default).n) ∧ w.cell? ⟨b, o + i * 3 + 2, none⟩ = some (.int .u16 (L.getD i default).d) := by
  rcases h.cells with g | ⟨b, o, g1, g2, g3⟩
  · omega
  · refine ⟨b, o, g1, g2, fun i hi => ?_⟩
    have hl := h.leng
    have e : L[i]? = some (L.getD i default) := by rw [List.getD, List.getElem?_eq_getElem (by omega)]; rfl
    have k := g3 i _ e
    exact ⟨k.l, k.n, k.d⟩
end Go.Proofs.YtlanibgeafdefaaDoor.V

namespace Go.Proofs.YtlanibgeafdefaaDoor.V
open Go Go.RowKit M U
set_option linter.unusedVariables false
set_option linter.unusedSimpArgs false
theorem tokInfo : (Tryd.prog.info? 38).map (fun i => (i.zero, i.size, i.bytes)) = some (some (.agg #[.int .u8 0, .int .i64 0, .int .i64 0]), 3, 24) := by kernel_rfl
def clt : List Tk → List Value
  | [] => []
  | t :: l => .int .u8 t.l :: .int .i64 t.n :: .int .i64 t.d :: clt l
theorem clt_length : ∀ l, (clt l).length = l.length * 3
  | [] => rfl
  | t :: l => by simp only [clt, List.length_cons]; rw [clt_length l]; omega
theorem clt_append : ∀ l r, clt (l ++ r) = clt l ++ clt r
  | [], _ => rfl
  | t :: l, r => by simp only [List.cons_append, clt]; rw [clt_append l r]
theorem clt_at : ∀ (l : List Tk) (i : Nat) (t : Tk), l[i]? = some t → (clt l)[i * 3]? = some (.int .u8 t.l) ∧ (clt l)[i * 3 + 1]? = some (.int .i64 t.n) ∧ (clt l)[i * 3 + 2]? = some (.int .i64 t.d)
  | [], i, t, h => by simp at h
  | a :: l, 0, t, h => by simp at h; subst h; simp [clt]
  | a :: l, i + 1, t, h => by
    rw [List.getElem?_cons_succ] at h
    obtain ⟨h1, h2, h3⟩ := clt_at l i t h
    simp only [clt]
    refine ⟨?_, ?_, ?_⟩
    · rw [show (i + 1) * 3 = i * 3 + 1 + 1 + 1 by omega]; simpa using h1
    · rw [show (i + 1) * 3 + 1 = i * 3 + 1 + 1 + 1 + 1 by omega]; simpa using h2
    · rw [show (i + 1) * 3 + 2 = i * 3 + 2 + 1 + 1 + 1 by omega]; simpa using h3
theorem clt_one : ∀ (l : List Tk), ∀ u ∈ clt l, u.oneCell' = true
  | [], u, h => by simp [clt] at h
  | t :: l, u, h => by
    simp only [clt, List.mem_cons] at h
    rcases h with rfl | rfl | rfl | h
    · rfl
    · rfl
    · rfl
    · exact clt_one l u h
theorem lies_clt {w : World} {b o : Nat} {l : List Tk} (h : ∀ i c, l[i]? = some c → Tk.lies w b o i c) : ∀ j u, (clt l)[j]? = some u → w.cell? ((⟨b, o, none⟩ : Addr).add j) = some u := by
  intro j u hu
  rw [cadd_at]
  have hj : j < l.length * 3 := by rw [← clt_length]; exact (List.getElem?_eq_some_iff.1 hu).1
  have hi : j / 3 < l.length := by omega
  obtain ⟨h1, h2, h3⟩ := h (j / 3) _ (List.getElem?_eq_getElem hi)
  obtain ⟨g1, g2, g3⟩ := clt_at l (j / 3) _ (List.getElem?_eq_getElem hi)
  have : j = j / 3 * 3 ∨ j = j / 3 * 3 + 1 ∨ j = j / 3 * 3 + 2 := by omega
  rcases this with e | e | e
  · rw [← e] at g1 h1; rw [g1] at hu; rw [h1, ← hu]
  · rw [← e] at g2; rw [g2] at hu; rw [show o + j = o + j / 3 * 3 + 1 by omega, h2, ← hu]
  · rw [← e] at g3; rw [g3] at hu; rw [show o + j = o + j / 3 * 3 + 2 by omega, h3, ← hu]
theorem IsTks.of_own {w : World} {B n : Nat} {v : Value} {L : List Tk} (h : w.ownsRow B 38 3 v n (clt L)) (hok : ∀ c ∈ L, c.ok) (hm : n ≤ maxLen) : ∃ A c, v = .slice A n c ∧ IsTks w A n L := by
  have hl : L.length = n := by have := h.1; rw [clt_length] at this; omega
  have hc := fun g (hg : v.ownBlock = some g) => h.cells hg
  rcases h.2 with ⟨rfl, rfl⟩ | ⟨g, cap, cur, rfl, _, hh, _⟩
  · exact ⟨none, 0, rfl, hl, hm, hok, .inl rfl⟩
  · refine ⟨_, cap, rfl, hl, hm, hok, .inr ⟨g, 0, rfl, (Array.getElem?_eq_some_iff.1 hh).1, fun i t ht => ?_⟩⟩
    obtain ⟨h1, h2, h3⟩ := clt_at L i t ht
    have k := fun j u hu => hc g rfl j u hu
    simp only [cadd_at] at k
    exact ⟨k _ _ h1, k _ _ h2, k _ _ h3⟩
def Owt (B : Nat) (w : World) (v : Value) (L : List Tk) : Prop := w.ownsRow B 38 3 v L.length (clt L)
theorem Owt.lit (w : World) (l n d : Int) : Owt w.heap.size (w.alloc (.cells #[.int .u8 l, .int .i64 n, .int .i64 d] 38)) (.slice (some ⟨w.heap.size, 0, none⟩) 1 1) [⟨l, n, d⟩] :=
  World.ownsRow_lit (e := 38) w #[.int .u8 l, .int .i64 n, .int .i64 d] 1 (Nat.le_refl _) (by decide) rfl
theorem Owt.alloc {B : Nat} {w : World} {v : Value} {L : List Tk} (h : Owt B w v L) (o : Obj) : Owt B (w.alloc o) v L := World.ownsRow.alloc h o
theorem wpList_tk {ops : Array Oper} {rest : List Oper} {o : Oper} {a : Act} {w : World} {Q : Exit → Act → World → Prop} (hgd : o.guard = none) (s x : Operand)
    (ho : o.op = .call { callee := .builtin .append, args := #[s, x], argTypes := #[25, 25] }) (B : Nat) (v : Value) (L : List Tk) (hs : a.eval s = v) (h : Owt B w v L) (b c : Nat) (l n d : Int)
    (hx : a.eval x = .slice (some ⟨b, 0, none⟩) 1 c) (hc : w.cell? ⟨b, 0, none⟩ = some (.int .u8 l) ∧ w.cell? ⟨b, 1, none⟩ = some (.int .i64 n) ∧ w.cell? ⟨b, 2, none⟩ = some (.int .i64 d)) (hL : L.length ≤ 1000000) (hB : B ≤ w.heap.size)
    (hK : ∀ v' w', Owt B w' v' (L ++ [⟨l, n, d⟩]) → Below B w w' → wpList Tryd.prog ops Q rest (a.put o.dst v') w') : wpList Tryd.prog ops Q (o :: rest) a w :=
  wpList_plain hgd fun K hK' => by
    obtain ⟨i, h1, h2, h3, h4⟩ := info_of tokInfo
    obtain ⟨v', w', r1, r2, r3, _⟩ := run_append_own (P := Tryd.prog) w B 25 o.type 38 i _ 3 24 Tryd.underlying25 h1 h2 h3 h4 rfl (by decide) v L.length (clt L) h ⟨b, 0, none⟩ 1 c (clt [⟨l, n, d⟩]) rfl
      (lies_clt (fun j t ht => by
        match j, ht with
        | 0, ht => simp at ht; subst ht; exact ⟨hc.1, hc.2.1, hc.2.2⟩)) (clt_one _) (by unfold maxLen; omega) (by omega) hB
    unfold Oper.wp execOp
    simp only [ho, resolve, invoke, builtin, Sem.run_bind, Sem.run_pure, Result.andThen_ok, List.map_toArray, List.map_cons, List.map_nil, hs, hx, r1]
    refine hK' _ _ (hK v' w' ?_ ((Below.refl _ w).grown r3 hB (fun k hk => (World.ownsRow.lt h k hk).1)))
    unfold Owt
    rw [List.length_append, clt_append]; exact r2
theorem Owt.nil (B : Nat) (w : World) : Owt B w (.slice none 0 0) [] := World.ownsRow_nil w B _ 3
theorem Owt.at {B : Nat} {w w' : World} {v : Value} {L : List Tk} (h : Owt B w v L) (e : ∀ g, v.ownBlock = some g → w'.heap[g]? = w.heap[g]?) : Owt B w' v L := ownsRow_at h e
theorem Owt.lt {B : Nat} {w : World} {v : Value} {L : List Tk} (h : Owt B w v L) : ∀ g, v.ownBlock = some g → B ≤ g ∧ g < w.heap.size := World.ownsRow.lt h
theorem Owt.below {B : Nat} {w w' : World} {v : Value} {L : List Tk} (h : Owt B w v L) (hb : Below w.heap.size w w') : Owt B w' v L := h.at fun g hg => hb.block g (h.lt g hg).2
theorem Owt.drew {B : Nat} {w : World} {v : Value} {L : List Tk} (h : Owt B w v L) : Owt B w.drew v L := h
def tkn (r : Ra) (a : Int) : Tk := if r.n % 4 = 0 ∨ a = 0 then ⟨r.l, 0, 0⟩ else ⟨0, 3 + r.n % 256, 1 + r.d % min a 32768⟩
def nxt (r : Ra) (a : Int) : Int := a + max (tkn r a).n 1
def mda : List Ra → Int → Int
  | [], a => a
  | r :: L, a => mda L (nxt r a)
def mdk : List Ra → Int → List Tk
  | [], _ => []
  | r :: L, a => tkn r a :: mdk L (nxt r a)
theorem mda_snoc : ∀ (L : List Ra) (r : Ra) (a : Int), mda (L ++ [r]) a = nxt r (mda L a)
  | [], _, _ => rfl
  | x :: L, r, a => by simp only [List.cons_append, mda]; exact mda_snoc L r _
theorem mdk_snoc : ∀ (L : List Ra) (r : Ra) (a : Int), mdk (L ++ [r]) a = mdk L a ++ [tkn r (mda L a)]
  | [], _, _ => rfl
  | x :: L, r, a => by simp only [List.cons_append, mda, mdk]; rw [mdk_snoc L r _]
theorem mdk_length : ∀ (L : List Ra) (a : Int), (mdk L a).length = L.length
  | [], _ => rfl
  | x :: L, a => by simp only [mdk, List.length_cons]; rw [mdk_length L _]
theorem tkn_may {r : Ra} (h : r.ok) {a : Int} (ha : 0 ≤ a) : may (tkn r a) = true ∧ (tkn r a).ok ∧ 0 ≤ (tkn r a).n ∧ (tkn r a).n ≤ 258 := by
  unfold tkn
  split
  · exact ⟨by unfold may isB; simp, ⟨h.l, by show _ ≤ (0 : Int) ∧ (0 : Int) ≤ _; omega, by show _ ≤ (0 : Int) ∧ (0 : Int) ≤ _; omega⟩, by show (0 : Int) ≤ 0; omega, by show (0 : Int) ≤ 258; omega⟩
  · rename_i g
    have h1 : 1 ≤ min a 32768 := by omega
    have h2 : min a 32768 ≤ 32768 := by omega
    have h3 := Int.emod_nonneg r.d (show min a 32768 ≠ 0 by omega)
    have h4 := Int.emod_lt_of_pos r.d (show 0 < min a 32768 by omega)
    refine ⟨?_, ⟨by show (0 : Int) ≤ 0 ∧ (0 : Int) ≤ 255; omega, ?_, ?_⟩, ?_, ?_⟩
    · unfold may
      rw [Bool.or_eq_true]
      exact .inr (isM_iff.2 ⟨rfl, by show 3 ≤ 3 + r.n % 256; omega, by show 3 + r.n % 256 ≤ 258; omega, by show 1 ≤ 1 + r.d % min a 32768; omega, by show 1 + r.d % min a 32768 ≤ 32768; omega⟩)
    · show -9223372036854775808 ≤ 3 + r.n % 256 ∧ 3 + r.n % 256 ≤ 9223372036854775807
      omega
    · show -9223372036854775808 ≤ 1 + r.d % min a 32768 ∧ 1 + r.d % min a 32768 ≤ 9223372036854775807
      omega
    · show 0 ≤ 3 + r.n % 256
      omega
    · show 3 + r.n % 256 ≤ 258
      omega
theorem nxt_le {r : Ra} (h : r.ok) {a : Int} (ha : 0 ≤ a) : a ≤ nxt r a ∧ nxt r a ≤ a + 258 := by
  have := tkn_may h ha
  unfold nxt
  omega
theorem mda_le : ∀ (L : List Ra) (a : Int), (∀ r ∈ L, r.ok) → 0 ≤ a → a ≤ mda L a ∧ mda L a ≤ a + 258 * L.length
  | [], a, _, _ => by simp [mda]
  | r :: L, a, h, ha => by
    have h1 := nxt_le (h r List.mem_cons_self) ha
    have h2 := mda_le L (nxt r a) (fun x hx => h x (List.mem_cons_of_mem _ hx)) (by omega)
    simp only [mda, List.length_cons]
    omega
theorem mdk_may : ∀ (L : List Ra) (a : Int), (∀ r ∈ L, r.ok) → 0 ≤ a → ∀ t ∈ mdk L a, may t = true ∧ t.ok
  | [], a, _, _, t, ht => absurd ht (by simp [mdk])
  | r :: L, a, h, ha, t, ht => by
    have h1 := nxt_le (h r List.mem_cons_self) ha
    simp only [mdk] at ht
    rcases List.mem_cons.1 ht with e | e
    · rw [e]; exact ⟨(tkn_may (h r List.mem_cons_self) ha).1, (tkn_may (h r List.mem_cons_self) ha).2.1⟩
    · exact mdk_may L (nxt r a) (fun x hx => h x (List.mem_cons_of_mem _ hx)) (by omega) t e
theorem ra_take_succ (L : List Ra) (i : Nat) (hi : i < L.length) : L.take (i + 1) = L.take i ++ [L.getD i default] := by
  rw [List.take_add_one, List.getD, List.getElem?_eq_getElem hi]; rfl
end Go.Proofs.YtlanibgeafdefaaDoor.V

namespace Go.Proofs.YtlanibgeafdefaaDoor.V
open Go Go.RowKit M U
set_option linter.unusedVariables false
set_option linter.unusedSimpArgs false
theorem tokSize : (Tryd.prog.info? 38).map (fun i => i.size) = some 3 := by kernel_rfl
theorem tok_row (w : World) (o : Obj) (x y z : Value) (t : TypeId) : ((w.alloc o).alloc (.cells #[x, y, z] t)).heap[w.heap.size + 1]? = some (.cells #[x, y, z] t (0, 0)) := by
  have := heap_alloc_new (w.alloc o) (.cells #[x, y, z] t)
  simpa using this
set_option maxRecDepth 1000000 in
theorem rawtoken_any (r : Ra) (a : Int) (w : World) (hr : r.ok) (ha : 0 ≤ a) (ha2 : a ≤ 1000000000) :
    Calls Tryd.prog 8 #[.agg #[.int .u8 r.l, .int .u16 r.n, .int .u16 r.d], .int .i64 a] w fun e w' => e = .returned (.agg #[.int .u8 (tkn r a).l, .int .i64 (tkn r a).n, .int .i64 (tkn r a).d]) ∧ Below w.heap.size w w' := by
  obtain ⟨l, n, d⟩ := r
  obtain ⟨⟨l1, l2⟩, ⟨n1, n2⟩, d1, d2⟩ := hr
  simp only at l1 l2 n1 n2 d1 d2 ⊢
  by_cases h : n % 4 = 0 ∨ a = 0
  · have hv : tkn ⟨l, n, d⟩ a = ⟨l, 0, 0⟩ := by unfold tkn; exact if_pos h
    rw [hv]
    clear hv
    by_cases h1 : n % 4 = 0
    · have e1 : (n % 4 == 0) = true := by rw [beq_iff_eq]; exact h1
      clear h h1
      go_enter Tryd.func8, Tryd.ntmps8
      go_wp2_with fail
      exact bodyPost_ret (v := .agg #[.int .u8 l, .int .i64 0, .int .i64 0]) (results_cell_row rfl _ _ (w.heap.size + 1) _ _ _ _ rfl (tok_row _ _ _ _ _ _) Tryd.underlying38 rfl tokSize) rfl ⟨rfl, ((Below.refl _ _).alloc (Nat.le_refl _) _).alloc (by simp) _⟩
    · obtain rfl : a = 0 := by omega
      have e1 : (n % 4 == 0) = false := by rw [beq_eq_false_iff_ne]; exact h1
      clear h h1
      go_enter Tryd.func8, Tryd.ntmps8
      go_wp2_with fail
      exact bodyPost_ret (v := .agg #[.int .u8 l, .int .i64 0, .int .i64 0]) (results_cell_row rfl _ _ (w.heap.size + 1) _ _ _ _ rfl (tok_row _ _ _ _ _ _) Tryd.underlying38 rfl tokSize) rfl ⟨rfl, ((Below.refl _ _).alloc (Nat.le_refl _) _).alloc (by simp) _⟩
  · have e1 : (n % 4 == 0) = false := by rw [beq_eq_false_iff_ne]; omega
    have e2 : (a == 0) = false := by rw [beq_eq_false_iff_ne]; omega
    have hv : tkn ⟨l, n, d⟩ a = ⟨0, 3 + n % 256, 1 + d % min a 32768⟩ := by unfold tkn; exact if_neg h
    rw [hv]
    obtain ⟨m, hm⟩ : ∃ m, min a 32768 = m := ⟨_, rfl⟩
    have hm1 : 1 ≤ m := by omega
    have hm2 : m ≤ 32768 := by omega
    rw [hm]
    clear hv h
    by_cases h3 : a < 32768
    · obtain rfl : a = m := by omega
      have d1 : decide ((32768 : Int) < a) = false := decide_eq_false (by omega)
      have z2 : (a != 0) = true := by rw [bne_iff_ne]; omega
      have m1 : 0 ≤ d % a := Int.emod_nonneg d (by omega)
      have m2 : d % a < a := Int.emod_lt_of_pos d (by omega)
      clear hm
      go_enter Tryd.func8, Tryd.ntmps8
      go_wp2_with fail
      go_region
      go_wp2_with fail
      exact bodyPost_ret (v := .agg #[.int .u8 0, .int .i64 (3 + n % 256), .int .i64 (1 + d % a)]) (results_cell_row rfl _ _ (w.heap.size + 1) _ _ _ _ rfl (tok_row _ _ _ _ _ _) Tryd.underlying38 rfl tokSize) rfl ⟨rfl, (((Below.refl _ _).alloc (Nat.le_refl _) _).alloc (by simp) _).drew⟩
    · obtain rfl : m = 32768 := by omega
      have m1 : 0 ≤ d % 32768 := Int.emod_nonneg d (by omega)
      have m2 : d % 32768 < 32768 := Int.emod_lt_of_pos d (by omega)
      by_cases h4 : a = 32768
      · subst h4
        clear hm
        go_enter Tryd.func8, Tryd.ntmps8
        go_wp2_with fail
        go_region
        go_wp2_with fail
        exact bodyPost_ret (v := .agg #[.int .u8 0, .int .i64 (3 + n % 256), .int .i64 (1 + d % 32768)]) (results_cell_row rfl _ _ (w.heap.size + 1) _ _ _ _ rfl (tok_row _ _ _ _ _ _) Tryd.underlying38 rfl tokSize) rfl ⟨rfl, (((Below.refl _ _).alloc (Nat.le_refl _) _).alloc (by simp) _).drew⟩
      · have d1 : decide ((32768 : Int) < a) = true := decide_eq_true (by omega)
        have d2 : (32768 : Int) < a := by omega
        clear hm
        go_enter Tryd.func8, Tryd.ntmps8
        go_wp2_with fail
        go_region
        go_wp2_with fail
        exact bodyPost_ret (v := .agg #[.int .u8 0, .int .i64 (3 + n % 256), .int .i64 (1 + d % 32768)]) (results_cell_row rfl _ _ (w.heap.size + 1) _ _ _ _ rfl (tok_row _ _ _ _ _ _) Tryd.underlying38 rfl tokSize) rfl ⟨rfl, (((Below.refl _ _).alloc (Nat.le_refl _) _).alloc (by simp) _).drew⟩
end Go.Proofs.YtlanibgeafdefaaDoor.V

namespace Go.Proofs.YtlanibgeafdefaaDoor.V
open Go Go.RowKit M U
set_option linter.unusedVariables false
set_option linter.unusedSimpArgs false
theorem isByte_any (l n d : Int) (w : World) :
    Calls Tryd.prog 21 #[.agg #[.int .u8 l, .int .i64 n, .int .i64 d]] w fun e w' => e = .returned (.bool (isB ⟨l, n, d⟩)) ∧ Below w.heap.size w w' := by
  by_cases h1 : n = 0
  · by_cases h2 : d = 0
    · have hv : isB ⟨l, n, d⟩ = true := isB_iff.2 ⟨h1, h2⟩
      rw [hv]
      have e1 : (n == 0) = true := by rw [beq_iff_eq]; exact h1
      have e2 : (d == 0) = true := by rw [beq_iff_eq]; exact h2
      clear h1 h2 hv
      go_enter Tryd.func21, Tryd.ntmps21
      go_wp2
      go_ret
      exact ⟨rfl, (Below.refl _ _).alloc (Nat.le_refl _) _⟩
    · have hv : isB ⟨l, n, d⟩ = false := by cases q : isB ⟨l, n, d⟩ with | false => rfl | true => exact absurd (isB_iff.1 q).2 h2
      rw [hv]
      have e1 : (n == 0) = true := by rw [beq_iff_eq]; exact h1
      have e2 : (d == 0) = false := by rw [beq_eq_false_iff_ne]; exact h2
      clear h1 h2 hv
      go_enter Tryd.func21, Tryd.ntmps21
      go_wp2
      go_ret
      exact ⟨rfl, (Below.refl _ _).alloc (Nat.le_refl _) _⟩
  · have hv : isB ⟨l, n, d⟩ = false := by cases q : isB ⟨l, n, d⟩ with | false => rfl | true => exact absurd (isB_iff.1 q).1 h1
    rw [hv]
    have e1 : (n == 0) = false := by rw [beq_eq_false_iff_ne]; exact h1
    clear h1 hv
    go_enter Tryd.func21, Tryd.ntmps21
    go_wp2
    go_ret
    exact ⟨rfl, (Below.refl _ _).alloc (Nat.le_refl _) _⟩
theorem isMatch_any (l n d : Int) (w : World) :
    Calls Tryd.prog 22 #[.agg #[.int .u8 l, .int .i64 n, .int .i64 d]] w fun e w' => e = .returned (.bool (isM ⟨l, n, d⟩)) ∧ Below w.heap.size w w' := by
  have hv : ∀ b, (decide (l = 0) && (decide (3 ≤ n) && (decide (n ≤ 258) && (decide (1 ≤ d) && decide (d ≤ 32768))))) = b → isM ⟨l, n, d⟩ = b := fun b h => h
  by_cases h1 : l = 0
  · have e1 : (l == 0) = true := by rw [beq_iff_eq]; exact h1
    by_cases h2 : 3 ≤ n
    · have d2 : decide (3 ≤ n) = true := decide_eq_true h2
      by_cases h3 : n ≤ 258
      · have d3 : decide (n ≤ 258) = true := decide_eq_true h3
        by_cases h4 : 1 ≤ d
        · have d4 : decide (1 ≤ d) = true := decide_eq_true h4
          by_cases h5 : d ≤ 32768
          · have d5 : decide (d ≤ 32768) = true := decide_eq_true h5
            rw [hv true (by rw [d2, d3, d4, d5]; simp [h1])]
            clear h1 h2 h3 h4 h5 hv
            go_enter Tryd.func22, Tryd.ntmps22
            go_wp2
            go_ret
            exact ⟨rfl, (Below.refl _ _).alloc (Nat.le_refl _) _⟩
          · have d5 : decide (d ≤ 32768) = false := decide_eq_false h5
            rw [hv false (by rw [d2, d3, d4, d5]; simp)]
            clear h1 h2 h3 h4 h5 hv
            go_enter Tryd.func22, Tryd.ntmps22
            go_wp2
            go_ret
            exact ⟨rfl, (Below.refl _ _).alloc (Nat.le_refl _) _⟩
        · have d4 : decide (1 ≤ d) = false := decide_eq_false h4
          rw [hv false (by rw [d2, d3, d4]; simp)]
          clear h1 h2 h3 h4 hv
          go_enter Tryd.func22, Tryd.ntmps22
          go_wp2
          go_ret
          exact ⟨rfl, (Below.refl _ _).alloc (Nat.le_refl _) _⟩
      · have d3 : decide (n ≤ 258) = false := decide_eq_false h3
        rw [hv false (by rw [d2, d3]; simp)]
        clear h1 h2 h3 hv
        go_enter Tryd.func22, Tryd.ntmps22
        go_wp2
        go_ret
        exact ⟨rfl, (Below.refl _ _).alloc (Nat.le_refl _) _⟩
    · have d2 : decide (3 ≤ n) = false := decide_eq_false h2
      rw [hv false (by rw [d2]; simp)]
      clear h1 h2 hv
      go_enter Tryd.func22, Tryd.ntmps22
      go_wp2
      go_ret
      exact ⟨rfl, (Below.refl _ _).alloc (Nat.le_refl _) _⟩
  · have e1 : (l == 0) = false := by rw [beq_eq_false_iff_ne]; exact h1
    rw [hv false (by simp [h1])]
    clear h1 hv
    go_enter Tryd.func22, Tryd.ntmps22
    go_wp2
    go_ret
    exact ⟨rfl, (Below.refl _ _).alloc (Nat.le_refl _) _⟩
theorem tokmay_any (l n d : Int) (w : World) :
    Calls Tryd.prog 17 #[.agg #[.int .u8 l, .int .i64 n, .int .i64 d]] w fun e w' => e = .returned (.bool (may ⟨l, n, d⟩)) ∧ Below w.heap.size w w' := by
  have hB := isByte_any l n d
  have hM := isMatch_any l n d
  have hb0 : Below w.heap.size w (w.alloc (.cells #[.int .u8 l, .int .i64 n, .int .i64 d] 38)) := (Below.refl _ _).alloc (Nat.le_refl _) _
  have n0 : (w.alloc (.cells #[.int .u8 l, .int .i64 n, .int .i64 d] 38)).cell? ⟨w.heap.size, 0, none⟩ = some (.int .u8 l) := by simp
  have n1 : (w.alloc (.cells #[.int .u8 l, .int .i64 n, .int .i64 d] 38)).cell? ⟨w.heap.size, 1, none⟩ = some (.int .i64 n) := by simp
  have n2 : (w.alloc (.cells #[.int .u8 l, .int .i64 n, .int .i64 d] 38)).cell? ⟨w.heap.size, 2, none⟩ = some (.int .i64 d) := by simp
  have N0 := Lib.hid n0
  have N1 := Lib.hid n1
  have N2 := Lib.hid n2
  have HB0 := Lib.hid hb0
  clear n0 n1 n2 hb0
  by_cases h1 : isB ⟨l, n, d⟩ = true
  · have hv : may ⟨l, n, d⟩ = true := by unfold may; rw [h1]; rfl
    rw [hv]
    rw [h1] at hB
    clear hv h1
    have HB := Lib.hid hB
    clear hB hM
    go_enter Tryd.func17, Tryd.ntmps17
    go_wp2_with (go_at_call 21; refine (HB.out _).mono ?_; rintro e w1 ⟨rfl, b1⟩; have B1 := Lib.hid (HB0.out.trans (b1.mono (by simp))); clear b1)
    go_ret
    exact ⟨rfl, B1.out⟩
  · have h1' : isB ⟨l, n, d⟩ = false := by simpa using h1
    have hv : may ⟨l, n, d⟩ = isM ⟨l, n, d⟩ := by unfold may; rw [h1']; rfl
    rw [hv]
    rw [h1'] at hB
    clear hv h1 h1'
    obtain ⟨z, hz⟩ : ∃ z, isM ⟨l, n, d⟩ = z := ⟨_, rfl⟩
    rw [hz] at hM ⊢
    have HB := Lib.hid hB
    have HM := Lib.hid hM
    clear hB hM hz
    go_enter Tryd.func17, Tryd.ntmps17
    go_wp2_with (go_at_call 21; refine (HB.out _).mono ?_; rintro e w1 ⟨rfl, b1⟩; have c0 := (b1.cell (p := ⟨w.heap.size, 0, none⟩) (by simp)).trans N0.out; have c1 := (b1.cell (p := ⟨w.heap.size, 1, none⟩) (by simp)).trans N1.out; have c2 := (b1.cell (p := ⟨w.heap.size, 2, none⟩) (by simp)).trans N2.out; have B1 := Lib.hid (HB0.out.trans (b1.mono (by simp))); clear b1)
    go_wp2_with (go_at_call 22; refine (HM.out _).mono ?_; rintro e w2 ⟨rfl, b2⟩; have B2 := Lib.hid (B1.out.trans (b2.mono B1.out.size)); clear b2)
    go_ret
    exact ⟨rfl, B2.out⟩
end Go.Proofs.YtlanibgeafdefaaDoor.V

namespace Go.Proofs.YtlanibgeafdefaaDoor.V.Tx
set_option maxRecDepth 1000000
set_option linter.unusedVariables false
def szo (t : Tk) : Nat := if isB t = true then 1 else if isM t = true then t.n.toNat else 0
def szs : List Tk → Nat
  | [] => 0
  | t :: l => szo t + szs l
theorem szs_append : ∀ (l m : List Tk), szs (l ++ m) = szs l + szs m
  | [], m => by simp [szs]
  | t :: l, m => by simp only [List.cons_append, szs, szs_append l m]; omega
theorem szo_le (t : Tk) : szo t ≤ 258 := by
  unfold szo
  split
  · omega
  · split
    · rename_i h; have := isM_iff.1 h; omega
    · omega
theorem szo_byte {t : Tk} (h : isB t = true) : szo t = 1 := by unfold szo; rw [if_pos h]
theorem szo_match {t : Tk} (h : isM t = true) : szo t = t.n.toNat := by unfold szo; rw [isB_no h, if_neg (by decide), if_pos h]
theorem szs_le : ∀ l : List Tk, szs l ≤ 258 * l.length
  | [] => by simp [szs]
  | t :: l => by have := szs_le l; have := szo_le t; simp only [szs, List.length_cons]; omega
def grow (b : List UInt8) (d : Nat) : Nat → List UInt8
  | 0 => b
  | k + 1 => grow b d k ++ [(grow b d k).getD ((grow b d k).length - d) 0]
theorem grow_length (b : List UInt8) (d : Nat) : ∀ k, (grow b d k).length = b.length + k
  | 0 => rfl
  | k + 1 => by simp only [grow, List.length_append, List.length_cons, List.length_nil, grow_length b d k]; omega
def step (d0 : Nat) (b : List UInt8) (t : Tk) : Int × List UInt8 :=
  if may t = false then (2, b)
  else if (b.length : Int) < t.d then (7, b)
  else if 1048576 < b.length - d0 + szo t then (5, b)
  else if isB t = true then (0, b ++ [UInt8.ofNat t.l.toNat])
  else (0, grow b t.d.toNat t.n.toNat)
def run (d0 : Nat) (b : List UInt8) : List Tk → Int × List UInt8
  | [] => (0, b)
  | t :: l => if (step d0 b t).1 = 0 then run d0 (step d0 b t).2 l else ((step d0 b t).1, [])
def txt (D : List UInt8) (l : List Tk) : List UInt8 × Int :=
  if (run D.length D l).1 = 0 then ((run D.length D l).2.drop D.length, 0) else ([], (run D.length D l).1)
theorem run_go {d0 : Nat} {b : List UInt8} {t : Tk} {l : List Tk} (h : (step d0 b t).1 = 0) : run d0 b (t :: l) = run d0 (step d0 b t).2 l := by rw [run, if_pos h]
theorem run_no {d0 : Nat} {b : List UInt8} {t : Tk} {l : List Tk} (h : (step d0 b t).1 ≠ 0) : run d0 b (t :: l) = ((step d0 b t).1, []) := by rw [run, if_neg h]
section
variable {d0 : Nat} {b : List UInt8} {t : Tk}
theorem step_arg (h : may t = false) : step d0 b t = (2, b) := by unfold step; rw [if_pos h]
theorem step_far (h : may t = true) (h2 : (b.length : Int) < t.d) : step d0 b t = (7, b) := by unfold step; rw [if_neg (by rw [h]; decide), if_pos h2]
theorem step_long (h : may t = true) (h2 : ¬ (b.length : Int) < t.d) (h3 : 1048576 < b.length - d0 + szo t) : step d0 b t = (5, b) := by
  unfold step; rw [if_neg (by rw [h]; decide), if_neg h2, if_pos h3]
theorem step_byte (h2 : ¬ (b.length : Int) < t.d) (h3 : ¬ 1048576 < b.length - d0 + szo t) (h4 : isB t = true) : step d0 b t = (0, b ++ [UInt8.ofNat t.l.toNat]) := by
  have h : may t = true := by unfold may; rw [h4]; rfl
  unfold step; rw [if_neg (by rw [h]; decide), if_neg h2, if_neg h3, if_pos h4]
theorem step_match (h2 : ¬ (b.length : Int) < t.d) (h3 : ¬ 1048576 < b.length - d0 + szo t) (h4 : isM t = true) : step d0 b t = (0, grow b t.d.toNat t.n.toNat) := by
  have h : may t = true := by unfold may; rw [h4, Bool.or_true]
  unfold step; rw [if_neg (by rw [h]; decide), if_neg h2, if_neg h3, if_neg (by rw [isB_no h4]; decide)]
theorem step_ways (d0 : Nat) (b : List UInt8) (t : Tk) :
    (may t = false) ∨ (may t = true ∧ (b.length : Int) < t.d) ∨ (may t = true ∧ ¬ (b.length : Int) < t.d ∧ 1048576 < b.length - d0 + szo t) ∨
    (¬ (b.length : Int) < t.d ∧ ¬ 1048576 < b.length - d0 + szo t ∧ isB t = true) ∨ (¬ (b.length : Int) < t.d ∧ ¬ 1048576 < b.length - d0 + szo t ∧ isM t = true) := by
  by_cases h : may t = false
  · exact .inl h
  have h' : may t = true := by simpa using h
  by_cases h2 : (b.length : Int) < t.d
  · exact .inr (.inl ⟨h', h2⟩)
  by_cases h3 : 1048576 < b.length - d0 + szo t
  · exact .inr (.inr (.inl ⟨h', h2, h3⟩))
  have h4 := h'
  unfold may at h4
  rw [Bool.or_eq_true] at h4
  rcases h4 with h4 | h4
  · exact .inr (.inr (.inr (.inl ⟨h2, h3, h4⟩)))
  · exact .inr (.inr (.inr (.inr ⟨h2, h3, h4⟩)))
theorem step_len (h : (step d0 b t).1 = 0) : (step d0 b t).2.length = b.length + szo t ∧ b.length - d0 + szo t ≤ 1048576 := by
  rcases step_ways d0 b t with h1 | ⟨h1, h2⟩ | ⟨h1, h2, h3⟩ | ⟨h2, h3, h4⟩ | ⟨h2, h3, h4⟩
  · rw [step_arg h1] at h; exact absurd h (by simp)
  · rw [step_far h1 h2] at h; exact absurd h (by simp)
  · rw [step_long h1 h2 h3] at h; exact absurd h (by simp)
  · rw [step_byte h2 h3 h4, szo_byte h4, List.length_append]; rw [szo_byte h4] at h3; exact ⟨rfl, by omega⟩
  · rw [step_match h2 h3 h4, szo_match h4, grow_length]; rw [szo_match h4] at h3; exact ⟨rfl, by omega⟩
end
theorem txt_ok {D : List UInt8} {l : List Tk} (h : (run D.length D l).1 = 0) : txt D l = ((run D.length D l).2.drop D.length, 0) := by unfold txt; rw [if_pos h]
theorem txt_no {D : List UInt8} {l : List Tk} (h : (run D.length D l).1 ≠ 0) : txt D l = ([], (run D.length D l).1) := by unfold txt; rw [if_neg h]
theorem txt_snd (D : List UInt8) (l : List Tk) : (txt D l).2 = (run D.length D l).1 := by
  by_cases h : (run D.length D l).1 = 0
  · rw [txt_ok h, h]
  · rw [txt_no h]
end Go.Proofs.YtlanibgeafdefaaDoor.V.Tx
