/- Texts of one place, one behind the other: Rns, BwT, BwO. -/
import Derived.Test.YtolcaknhjjejeaaDoorCFrm
import Derived.Test.YtolcaknhjjejeaaDoorCMMaR
import Derived.Test.YtolcaknhjjejeaaDoorChecked
import Derived.KernelRfl
import Derived.Deep.OwnRows
import Derived.WalkKit
import Derived.Deep.Slices
import Derived.Deep.Fields
import Derived.SizedLaws
import Derived.Laws.OwnMore
import Derived.Deep.AppendLies
import Derived.Lib.Hide
import Derived.Outline
import Derived.Deep.RegionLaw
import Derived.RegionTactic
import Derived.BigRegion
import Derived.BigQuiet
import Derived.Deep.QuietTactic
import Derived.ChangeAlike
import Derived.Laws.Cells
import Derived.OwnWalk
import Derived.WalkSpells
import Derived.WalkMore
import Derived.IntWalk
import Derived.Test.YtolcaknhjjejeaaDoorCLay
namespace Go.Proofs.YtolcaknhjjejeaaDoor.U
open Go Go.RowKit M
open Go.ChangeShapes Go.WideShapes Go.Deep
set_option linter.unusedVariables false
set_option linter.unusedSimpArgs false
theorem nadd_at (b o j : Nat) : (⟨b, o, none⟩ : Addr).add j = ⟨b, o + j, none⟩ := by
  unfold Addr.add
  split
  · rename_i h; subst h; rfl
  · rfl
theorem info_of {e : TypeId} {z : Value} {size bytes : Nat} (hi : (Tryd.prog.info? e).map (fun i => (i.zero, i.size, i.bytes)) = some (some z, size, bytes)) : ∃ i, Tryd.prog.info? e = some i ∧ i.zero = some z ∧ i.size = size ∧ i.bytes = bytes := by
  cases hq : Tryd.prog.info? e with
  | none => rw [hq] at hi; cases hi
  | some i => rw [hq] at hi; simp at hi; exact ⟨i, rfl, hi.1, hi.2.1, hi.2.2⟩
theorem byteInfo : (Tryd.prog.info? 5).map (fun i => (i.zero, i.size, i.bytes)) = some (some (.int .u8 0), 1, 1) := by kernel_rfl
theorem runInfo : (Tryd.prog.info? 73).map (fun i => (i.zero, i.size, i.bytes)) = some (some (.agg #[.int .u8 0, .int .u8 0]), 2, 2) := by kernel_rfl
structure IsBys (w : World) (A : Option Addr) (n : Nat) (l : List Nat) : Prop where
  leng : l.length = n
  most : n ≤ maxLen
  good : ∀ x ∈ l, x ≤ 255
  cells : n = 0 ∨ ∃ b o, A = some ⟨b, o, none⟩ ∧ b < w.heap.size ∧ ∀ (i x : Nat), l[i]? = some x → w.cell? ⟨b, o + i, none⟩ = some (.int .u8 (x : Int))
section
variable {w w' : World} {A : Option Addr} {n : Nat} {l : List Nat}
theorem IsBys.below (h : IsBys w A n l) (hb : Below w.heap.size w w') : IsBys w' A n l := by
  refine ⟨h.leng, h.most, h.good, ?_⟩
  rcases h.cells with g | ⟨b, o, g1, g2, g3⟩
  · exact .inl g
  · exact .inr ⟨b, o, g1, Nat.lt_of_lt_of_le g2 hb.size, fun i x hx => (hb.cell g2).trans (g3 i x hx)⟩
theorem IsBys.nil (w : World) (A : Option Addr) : IsBys w A 0 [] := ⟨rfl, Nat.zero_le _, fun x hx => absurd hx (by simp), .inl rfl⟩
theorem IsBys.at (h : IsBys w A n l) (hn : 0 < n) : ∃ b o, A = some ⟨b, o, none⟩ ∧ b < w.heap.size ∧ ∀ i, i < n → w.cell? ⟨b, o + i, none⟩ = some (.int .u8 (l.getD i 0 : Nat)) := by
  rcases h.cells with g | ⟨b, o, g1, g2, g3⟩
  · omega
  · exact ⟨b, o, g1, g2, fun i hi => g3 i _ (by rw [List.getD, List.getElem?_eq_getElem (by rw [h.leng]; exact hi)]; rfl)⟩
theorem IsBys.le (h : IsBys w A n l) (i : Nat) : l.getD i 0 ≤ 255 := by
  by_cases hi : i < l.length
  · rw [List.getD, List.getElem?_eq_getElem hi]; exact h.good _ (List.getElem_mem _)
  · rw [List.getD, List.getElem?_eq_none (by omega)]; exact Nat.zero_le _
end
def clb (l : List Nat) : List Value := l.map fun x : Nat => Value.int .u8 (x : Int)
theorem clb_length (l : List Nat) : (clb l).length = l.length := by unfold clb; simp
theorem clb_append (l r : List Nat) : clb (l ++ r) = clb l ++ clb r := by unfold clb; simp
def Owb (B : Nat) (w : World) (v : Value) (l : List Nat) : Prop := w.ownsRow B 5 1 v l.length (clb l)
section
variable {B : Nat} {w w' : World} {v : Value} {l : List Nat}
theorem Owb.nil (B : Nat) (w : World) : Owb B w (.slice none 0 0) [] := World.ownsRow_nil w B _ 1
theorem Owb.alloc (h : Owb B w v l) (o : Obj) : Owb B (w.alloc o) v l := World.ownsRow.alloc h o
theorem Owb.at (h : Owb B w v l) (e : ∀ g, v.ownBlock = some g → w'.heap[g]? = w.heap[g]?) : Owb B w' v l := ownsRow_at h e
theorem Owb.lt (h : Owb B w v l) : ∀ g, v.ownBlock = some g → B ≤ g ∧ g < w.heap.size := World.ownsRow.lt h
theorem Owb.below (h : Owb B w v l) (hb : Below w.heap.size w w') : Owb B w' v l := h.at fun g hg => hb.block g (h.lt g hg).2
theorem Owb.bys (h : Owb B w v l) (hok : ∀ x ∈ l, x ≤ 255) (hm : l.length ≤ maxLen) : ∃ A c, v = .slice A l.length c ∧ IsBys w A l.length l := by
  rcases h.2 with ⟨rfl, h0⟩ | ⟨g, cap, cur, rfl, _, hh, _⟩
  · exact ⟨none, 0, by rw [h0], rfl, hm, hok, .inl h0⟩
  · refine ⟨_, cap, rfl, rfl, hm, hok, .inr ⟨g, 0, rfl, (Array.getElem?_eq_some_iff.1 hh).1, fun i x hx => ?_⟩⟩
    have k := h.cells (g := g) rfl i (.int .u8 (x : Int)) (by unfold clb; rw [List.getElem?_map, hx]; rfl)
    rw [nadd_at] at k
    exact k
end
theorem wpList_ab {ops : Array Oper} {rest : List Oper} {o : Oper} {a : Act} {w : World} {Q : Exit → Act → World → Prop} (hgd : o.guard = none) (s x : Operand)
    (ho : o.op = .call { callee := .builtin .append, args := #[s, x], argTypes := #[34, 34] }) (B : Nat) (v : Value) (l : List Nat) (hs : a.eval s = v) (h : Owb B w v l) (b c : Nat) (y : Nat)
    (hx : a.eval x = .slice (some ⟨b, 0, none⟩) 1 c) (hc : w.cell? ⟨b, 0, none⟩ = some (.int .u8 (y : Int))) (hL : l.length ≤ 3000000) (hB : B ≤ w.heap.size)
    (hK : ∀ v' w', Owb B w' v' (l ++ [y]) → w.grownBy w' v.ownBlock → Below B w w' → wpList Tryd.prog ops Q rest (a.put o.dst v') w') : wpList Tryd.prog ops Q (o :: rest) a w :=
  wpList_plain hgd fun K hK' => by
    obtain ⟨i, h1, h2, h3, h4⟩ := info_of byteInfo
    obtain ⟨v', w', r1, r2, r3, _⟩ := run_append_own (P := Tryd.prog) w B 34 o.type 5 i _ 1 1 Tryd.underlying34 h1 h2 h3 h4 rfl (by decide) v l.length (clb l) h ⟨b, 0, none⟩ 1 c (clb [y]) rfl
      (fun j u hu => by
        rw [nadd_at, Nat.zero_add]
        match j, hu with
        | 0, hu => simp [clb] at hu; subst hu; exact hc
        | j + 1, hu => simp [clb] at hu) (by intro u hu; simp [clb] at hu; rcases hu with rfl; rfl) (by unfold maxLen; omega) (by omega) hB
    unfold Oper.wp execOp
    simp only [ho, resolve, invoke, builtin, Sem.run_bind, Sem.run_pure, Result.andThen_ok, List.map_toArray, List.map_cons, List.map_nil, hs, hx, r1]
    refine hK' _ _ (hK v' w' ?_ r3 ((Below.refl _ w).grown r3 hB (fun k hk => (World.ownsRow.lt h k hk).1)))
    unfold Owb
    rw [List.length_append, clb_append]; exact r2
structure IsRns (w : World) (A : Option Addr) (n : Nat) (L : List Rn) : Prop where
  leng : L.length = n
  most : n ≤ maxLen
  good : ∀ r ∈ L, r.s ≤ 255 ∧ r.e ≤ 255
  cells : n = 0 ∨ ∃ b o, A = some ⟨b, o, none⟩ ∧ b < w.heap.size ∧ ∀ (i : Nat) (r : Rn), L[i]? = some r → w.cell? ⟨b, o + i * 2, none⟩ = some (.int .u8 (r.s : Int)) ∧ w.cell? ⟨b, o + i * 2 + 1, none⟩ = some (.int .u8 (r.e : Int))
section
variable {w w' : World} {A : Option Addr} {n : Nat} {L : List Rn}
theorem IsRns.below (h : IsRns w A n L) (hb : Below w.heap.size w w') : IsRns w' A n L := by
  refine ⟨h.leng, h.most, h.good, ?_⟩
  rcases h.cells with g | ⟨b, o, g1, g2, g3⟩
  · exact .inl g
  · exact .inr ⟨b, o, g1, Nat.lt_of_lt_of_le g2 hb.size, fun i x hx => ⟨(hb.cell g2).trans (g3 i x hx).1, (hb.cell g2).trans (g3 i x hx).2⟩⟩
theorem IsRns.at (h : IsRns w A n L) (hn : 0 < n) : ∃ b o, A = some ⟨b, o, none⟩ ∧ b < w.heap.size ∧ ∀ i, i < n → w.cell? ⟨b, o + i * 2, none⟩ = some (.int .u8 ((L.getD i default).s : Nat)) ∧ w.cell? ⟨b, o + i * 2 + 1, none⟩ = some (.int .u8 ((L.getD i default).e : Nat)) := by
  rcases h.cells with g | ⟨b, o, g1, g2, g3⟩
  · omega
  · exact ⟨b, o, g1, g2, fun i hi => g3 i _ (by rw [List.getD, List.getElem?_eq_getElem (by rw [h.leng]; exact hi)]; rfl)⟩
theorem IsRns.le (h : IsRns w A n L) (i : Nat) : (L.getD i default).s ≤ 255 ∧ (L.getD i default).e ≤ 255 := by
  by_cases hi : i < L.length
  · rw [List.getD, List.getElem?_eq_getElem hi]; exact h.good _ (List.getElem_mem _)
  · rw [List.getD, List.getElem?_eq_none (by omega)]; exact ⟨Nat.zero_le _, Nat.zero_le _⟩
end
section
variable {H : Type} {enc : TypeId × Value → H} {w : World} {spare : Nat → Bool} {held : Bool}
end
def clr : List Rn → List Value
  | [] => []
  | t :: l => .int .u8 (t.s : Int) :: .int .u8 (t.e : Int) :: clr l
theorem clr_append : ∀ l r, clr (l ++ r) = clr l ++ clr r
  | [], _ => rfl
  | t :: l, r => by simp only [List.cons_append, clr]; rw [clr_append l r]
theorem clr_at : ∀ (l : List Rn) (i : Nat) (t : Rn), l[i]? = some t → (clr l)[i * 2]? = some (.int .u8 (t.s : Int)) ∧ (clr l)[i * 2 + 1]? = some (.int .u8 (t.e : Int))
  | [], i, t, h => by simp at h
  | a :: l, 0, t, h => by simp at h; subst h; simp [clr]
  | a :: l, i + 1, t, h => by
    rw [List.getElem?_cons_succ] at h
    obtain ⟨h1, h2⟩ := clr_at l i t h
    simp only [clr]
    refine ⟨?_, ?_⟩
    · rw [show (i + 1) * 2 = i * 2 + 1 + 1 by omega]; simpa using h1
    · rw [show (i + 1) * 2 + 1 = i * 2 + 1 + 1 + 1 by omega]; simpa using h2
theorem clr_one : ∀ (l : List Rn), ∀ u ∈ clr l, u.oneCell' = true
  | [], u, h => by simp [clr] at h
  | t :: l, u, h => by
    simp only [clr, List.mem_cons] at h
    rcases h with rfl | rfl | h
    · rfl
    · rfl
    · exact clr_one l u h
def Owr (B : Nat) (w : World) (v : Value) (L : List Rn) : Prop := w.ownsRow B 73 2 v L.length (clr L)
section
variable {B : Nat} {w w' : World} {v : Value} {L : List Rn}
theorem Owr.nil (B : Nat) (w : World) : Owr B w (.slice none 0 0) [] := World.ownsRow_nil w B _ 2
theorem Owr.at (h : Owr B w v L) (e : ∀ g, v.ownBlock = some g → w'.heap[g]? = w.heap[g]?) : Owr B w' v L := ownsRow_at h e
theorem Owr.lt (h : Owr B w v L) : ∀ g, v.ownBlock = some g → B ≤ g ∧ g < w.heap.size := World.ownsRow.lt h
theorem Owr.below (h : Owr B w v L) (hb : Below w.heap.size w w') : Owr B w' v L := h.at fun g hg => hb.block g (h.lt g hg).2
theorem Owr.rns (h : Owr B w v L) (hok : ∀ r ∈ L, r.s ≤ 255 ∧ r.e ≤ 255) (hm : L.length ≤ maxLen) : ∃ A c, v = .slice A L.length c ∧ IsRns w A L.length L := by
  rcases h.2 with ⟨rfl, h0⟩ | ⟨g, cap, cur, rfl, _, hh, _⟩
  · exact ⟨none, 0, by rw [h0], rfl, hm, hok, .inl h0⟩
  · refine ⟨_, cap, rfl, rfl, hm, hok, .inr ⟨g, 0, rfl, (Array.getElem?_eq_some_iff.1 hh).1, fun i t ht => ?_⟩⟩
    obtain ⟨h1, h2⟩ := clr_at L i t ht
    have k := fun j u hu => h.cells (g := g) rfl j u hu
    simp only [nadd_at] at k
    exact ⟨k _ _ h1, k _ _ h2⟩
theorem Owr.ty (h : Owr B w v L) : ∀ g, v.ownBlock = some g → ∃ cs, w.heap[g]? = some (.cells cs 73 (0, 0)) := by
  intro g hg
  rcases h.2 with ⟨rfl, _⟩ | ⟨g', cap, cur, rfl, _, hh, _⟩
  · simp [Value.ownBlock] at hg
  · simp [Value.ownBlock] at hg; subst hg; exact ⟨cur, hh⟩
end
theorem wpList_ar {ops : Array Oper} {rest : List Oper} {o : Oper} {a : Act} {w : World} {Q : Exit → Act → World → Prop} (hgd : o.guard = none) (s x : Operand)
    (ho : o.op = .call { callee := .builtin .append, args := #[s, x], argTypes := #[71, 71] }) (B : Nat) (v : Value) (L : List Rn) (hs : a.eval s = v) (h : Owr B w v L) (b c : Nat) (y e : Nat)
    (hx : a.eval x = .slice (some ⟨b, 0, none⟩) 1 c) (hc : w.cell? ⟨b, 0, none⟩ = some (.int .u8 (y : Int)) ∧ w.cell? ⟨b, 1, none⟩ = some (.int .u8 (e : Int))) (hL : L.length ≤ 3000000) (hB : B ≤ w.heap.size)
    (hK : ∀ v' w', Owr B w' v' (L ++ [⟨y, e⟩]) → w.grownBy w' v.ownBlock → Below B w w' → wpList Tryd.prog ops Q rest (a.put o.dst v') w') : wpList Tryd.prog ops Q (o :: rest) a w :=
  wpList_plain hgd fun K hK' => by
    obtain ⟨i, h1, h2, h3, h4⟩ := info_of runInfo
    obtain ⟨v', w', r1, r2, r3, _⟩ := run_append_own (P := Tryd.prog) w B 71 o.type 73 i _ 2 2 Tryd.underlying71 h1 h2 h3 h4 rfl (by decide) v L.length (clr L) h ⟨b, 0, none⟩ 1 c (clr [⟨y, e⟩]) rfl
      (fun j u hu => by
        rw [nadd_at, Nat.zero_add]
        match j, hu with
        | 0, hu => simp [clr] at hu; subst hu; exact hc.1
        | 1, hu => simp [clr] at hu; subst hu; exact hc.2
        | j + 2, hu => simp [clr] at hu) (clr_one _) (by unfold maxLen; omega) (by omega) hB
    unfold Oper.wp execOp
    simp only [ho, resolve, invoke, builtin, Sem.run_bind, Sem.run_pure, Result.andThen_ok, List.map_toArray, List.map_cons, List.map_nil, hs, hx, r1]
    refine hK' _ _ (hK v' w' ?_ r3 ((Below.refl _ w).grown r3 hB (fun k hk => (World.ownsRow.lt h k hk).1)))
    unfold Owr
    rw [List.length_append, clr_append]; exact r2
end Go.Proofs.YtolcaknhjjejeaaDoor.U

namespace Go.Proofs.YtolcaknhjjejeaaDoor.V
open Go Go.RowKit M U
open Go.ChangeShapes Go.WideShapes Go.Deep
set_option linter.unusedVariables false
set_option linter.unusedSimpArgs false
theorem cadd_at (b o j : Nat) : (⟨b, o, none⟩ : Addr).add j = ⟨b, o + j, none⟩ := by
  unfold Addr.add
  split
  · rename_i h; subst h; rfl
  · rfl
section
variable {H : Type} {enc : TypeId × Value → H} {w : World} {spare : Nat → Bool} {held : Bool}
end
end Go.Proofs.YtolcaknhjjejeaaDoor.V

namespace Go.Proofs.YtolcaknhjjejeaaDoor.V
open Go Go.RowKit M U
set_option linter.unusedVariables false
set_option linter.unusedSimpArgs false
def ord : List Nat := [16, 17, 18, 0, 8, 7, 9, 6, 10, 5, 11, 4, 12, 3, 13, 2, 14, 1, 15]
theorem ord_cells (w : World) (g : Nat) (h : w.heap[g]? = some (.cells #[.int .u8 16, .int .u8 17, .int .u8 18, .int .u8 0, .int .u8 8, .int .u8 7, .int .u8 9, .int .u8 6, .int .u8 10, .int .u8 5, .int .u8 11, .int .u8 4, .int .u8 12, .int .u8 3, .int .u8 13, .int .u8 2, .int .u8 14, .int .u8 1, .int .u8 15] 5)) : IsBys w (some ⟨g, 0, none⟩) 19 ord := by
  have e : (#[.int .u8 16, .int .u8 17, .int .u8 18, .int .u8 0, .int .u8 8, .int .u8 7, .int .u8 9, .int .u8 6, .int .u8 10, .int .u8 5, .int .u8 11, .int .u8 4, .int .u8 12, .int .u8 3, .int .u8 13, .int .u8 2, .int .u8 14, .int .u8 1, .int .u8 15] : Array Value) = (clb ord).toArray := rfl
  rw [e] at h
  refine ⟨rfl, by decide, by decide, .inr ⟨g, 0, rfl, (Array.getElem?_eq_some_iff.1 h).1, fun i x hx => ?_⟩⟩
  rw [Nat.zero_add]
  simp only [World.cell?, h]
  unfold clb
  rw [List.getElem?_toArray, List.getElem?_map, hx]
  rfl
end Go.Proofs.YtolcaknhjjejeaaDoor.V
