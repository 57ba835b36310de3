/- Slices of runs and of bytes: what their cells hold; rows of them that append makes. Conditions: as each theorem names them. -/
import Derived.Test.YtogbohompffcbaaDoorFrm
import Derived.Test.YtogbohompffcbaaDoorMaR
import Derived.Test.YtogbohompffcbaaDoorChecked
import Derived.KernelRfl
import Derived.Deep.OwnRows
import Derived.WalkKit
import Derived.Deep.Slices
import Derived.Deep.Fields
import Derived.SizedLaws
import Derived.Laws.OwnMore
import Derived.Deep.AppendLies
import Derived.Lib.Hide
import Derived.Outline
import Derived.Deep.RegionLaw
import Derived.RegionTactic
import Derived.BigRegion
import Derived.BigQuiet
import Derived.Deep.QuietTactic
import Derived.ChangeAlike
import Derived.Laws.Cells
import Derived.OwnWalk
import Derived.WalkSpells
import Derived.WalkMore
import Derived.IntWalk
namespace Go.Proofs.YtogbohompffcbaaDoor.U
open Go Go.RowKit M
open Go.ChangeShapes Go.WideShapes Go.Deep
set_option linter.unusedVariables false
set_option linter.unusedSimpArgs false

theorem nadd_at (b o j : Nat) : (⟨b, o, none⟩ : Addr).add j = ⟨b, o + j, none⟩ := by
  unfold Addr.add
  split
  · rename_i h; subst h; rfl
  · rfl
theorem info_of {e : TypeId} {z : Value} {size bytes : Nat} (hi : (Tryd.prog.info? e).map (fun i => (i.zero, i.size, i.bytes)) = some (some z, size, bytes)) : ∃ i, Tryd.prog.info? e = some i ∧ i.zero = some z ∧ i.size = size ∧ i.bytes = bytes := by
  cases hq : Tryd.prog.info? e with
  | none => rw [hq] at hi; cases hi
  | some i => rw [hq] at hi; simp at hi; exact ⟨i, rfl, hi.1, hi.2.1, hi.2.2⟩
theorem byteInfo : (Tryd.prog.info? 5).map (fun i => (i.zero, i.size, i.bytes)) = some (some (.int .u8 0), 1, 1) := by kernel_rfl
theorem runInfo : (Tryd.prog.info? 33).map (fun i => (i.zero, i.size, i.bytes)) = some (some (.agg #[.int .u8 0, .int .u8 0]), 2, 2) := by kernel_rfl
theorem cells2 : Tryd.prog.cellsOf 33 = 2 := by kernel_rfl
theorem cells1 : Tryd.prog.cellsOf 5 = 1 := by kernel_rfl

/-! bytes -/
/-- a slice of bytes -/
structure IsBys (w : World) (A : Option Addr) (n : Nat) (l : List Nat) : Prop where
  leng : l.length = n
  most : n ≤ maxLen
  good : ∀ x ∈ l, x ≤ 255
  cells : n = 0 ∨ ∃ b o, A = some ⟨b, o, none⟩ ∧ b < w.heap.size ∧ ∀ (i x : Nat), l[i]? = some x → w.cell? ⟨b, o + i, none⟩ = some (.int .u8 (x : Int))
section
variable {w w' : World} {A : Option Addr} {n : Nat} {l : List Nat}
theorem IsBys.below (h : IsBys w A n l) (hb : Below w.heap.size w w') : IsBys w' A n l := by
  refine ⟨h.leng, h.most, h.good, ?_⟩
  rcases h.cells with g | ⟨b, o, g1, g2, g3⟩
  · exact .inl g
  · exact .inr ⟨b, o, g1, Nat.lt_of_lt_of_le g2 hb.size, fun i x hx => (hb.cell g2).trans (g3 i x hx)⟩
theorem IsBys.nil (w : World) (A : Option Addr) : IsBys w A 0 [] := ⟨rfl, Nat.zero_le _, fun x hx => absurd hx (by simp), .inl rfl⟩
theorem IsBys.at (h : IsBys w A n l) (hn : 0 < n) : ∃ b o, A = some ⟨b, o, none⟩ ∧ b < w.heap.size ∧ ∀ i, i < n → w.cell? ⟨b, o + i, none⟩ = some (.int .u8 (l.getD i 0 : Nat)) := by
  rcases h.cells with g | ⟨b, o, g1, g2, g3⟩
  · omega
  · exact ⟨b, o, g1, g2, fun i hi => g3 i _ (by rw [List.getD, List.getElem?_eq_getElem (by rw [h.leng]; exact hi)]; rfl)⟩
theorem IsBys.le (h : IsBys w A n l) (i : Nat) : l.getD i 0 ≤ 255 := by
  by_cases hi : i < l.length
  · rw [List.getD, List.getElem?_eq_getElem hi]; exact h.good _ (List.getElem_mem _)
  · rw [List.getD, List.getElem?_eq_none (by omega)]; exact Nat.zero_le _
end
theorem IsBys.pre {w : World} {b o n : Nat} {l : List Nat} (h : IsBys w (some ⟨b, o, none⟩) n l) {j : Nat} (hj : j ≤ n) : IsBys w (some ⟨b, o, none⟩) j (l.take j) := by
  have hl := h.leng
  refine ⟨by rw [List.length_take]; omega, by have := h.most; omega, fun x hx => h.good x (List.mem_of_mem_take hx), ?_⟩
  by_cases h0 : j = 0
  · exact .inl h0
  · obtain ⟨b', o', e, g1, g2⟩ := h.at (by omega)
    simp only [Option.some.injEq, Addr.mk.injEq, and_true] at e
    obtain ⟨rfl, rfl⟩ := e
    refine .inr ⟨b, o, rfl, g1, fun i x hx => ?_⟩
    have hi : i < j := by
      have := (List.getElem?_eq_some_iff.1 hx).1
      rw [List.length_take] at this
      omega
    rw [List.getElem?_take, if_pos hi] at hx
    rw [g2 i (by omega), List.getD, hx]
    rfl
theorem IsBys.suf {w : World} {b o n : Nat} {l : List Nat} (h : IsBys w (some ⟨b, o, none⟩) n l) {j : Nat} (hj : j ≤ n) (a : Option Addr) (ha : j < n → a = some ⟨b, o + j, none⟩) : IsBys w a (n - j) (l.drop j) := by
  have hl := h.leng
  refine ⟨by rw [List.length_drop, hl], by have := h.most; omega, fun x hx => h.good x (List.mem_of_mem_drop hx), ?_⟩
  by_cases h0 : n - j = 0
  · exact .inl h0
  · obtain ⟨b', o', e, g1, g2⟩ := h.at (by omega)
    simp only [Option.some.injEq, Addr.mk.injEq, and_true] at e
    obtain ⟨rfl, rfl⟩ := e
    refine .inr ⟨b, o + j, ha (by omega), g1, fun i x hx => ?_⟩
    rw [List.getElem?_drop] at hx
    have hi : j + i < n := by
      have := (List.getElem?_eq_some_iff.1 hx).1
      omega
    have := g2 (j + i) hi
    rw [show o + j + i = o + (j + i) by omega, this, List.getD, hx]
    rfl

/-- the cells of bytes -/
def clb (l : List Nat) : List Value := l.map fun x : Nat => Value.int .u8 (x : Int)
theorem clb_length (l : List Nat) : (clb l).length = l.length := by unfold clb; simp
theorem clb_append (l r : List Nat) : clb (l ++ r) = clb l ++ clb r := by unfold clb; simp
/-- v is a slice of bytes in a row of its own -/
def Owb (B : Nat) (w : World) (v : Value) (l : List Nat) : Prop := w.ownsRow B 5 1 v l.length (clb l)
section
variable {B : Nat} {w w' : World} {v : Value} {l : List Nat}
theorem Owb.nil (B : Nat) (w : World) : Owb B w (.slice none 0 0) [] := World.ownsRow_nil w B _ 1
theorem Owb.alloc (h : Owb B w v l) (o : Obj) : Owb B (w.alloc o) v l := World.ownsRow.alloc h o
theorem Owb.at (h : Owb B w v l) (e : ∀ g, v.ownBlock = some g → w'.heap[g]? = w.heap[g]?) : Owb B w' v l := ownsRow_at h e
theorem Owb.lt (h : Owb B w v l) : ∀ g, v.ownBlock = some g → B ≤ g ∧ g < w.heap.size := World.ownsRow.lt h
theorem Owb.below (h : Owb B w v l) (hb : Below w.heap.size w w') : Owb B w' v l := h.at fun g hg => hb.block g (h.lt g hg).2
theorem Owb.bys (h : Owb B w v l) (hok : ∀ x ∈ l, x ≤ 255) (hm : l.length ≤ maxLen) : ∃ A c, v = .slice A l.length c ∧ IsBys w A l.length l := by
  rcases h.2 with ⟨rfl, h0⟩ | ⟨g, cap, cur, rfl, _, hh, _⟩
  · exact ⟨none, 0, by rw [h0], rfl, hm, hok, .inl h0⟩
  · refine ⟨_, cap, rfl, rfl, hm, hok, .inr ⟨g, 0, rfl, (Array.getElem?_eq_some_iff.1 hh).1, fun i x hx => ?_⟩⟩
    have k := h.cells (g := g) rfl i (.int .u8 (x : Int)) (by unfold clb; rw [List.getElem?_map, hx]; rfl)
    rw [nadd_at] at k
    exact k
theorem Owb.ty (h : Owb B w v l) : ∀ g, v.ownBlock = some g → ∃ cs, w.heap[g]? = some (.cells cs 5 (0, 0)) := by
  intro g hg
  rcases h.2 with ⟨rfl, _⟩ | ⟨g', cap, cur, rfl, _, hh, _⟩
  · simp [Value.ownBlock] at hg
  · simp [Value.ownBlock] at hg; subst hg; exact ⟨cur, hh⟩
end
/-- append of a byte -/
theorem wpList_ab {ops : Array Oper} {rest : List Oper} {o : Oper} {a : Act} {w : World} {Q : Exit → Act → World → Prop} (hgd : o.guard = none) (s x : Operand)
    (ho : o.op = .call { callee := .builtin .append, args := #[s, x], argTypes := #[22, 22] }) (B : Nat) (v : Value) (l : List Nat) (hs : a.eval s = v) (h : Owb B w v l) (b c : Nat) (y : Nat)
    (hx : a.eval x = .slice (some ⟨b, 0, none⟩) 1 c) (hc : w.cell? ⟨b, 0, none⟩ = some (.int .u8 (y : Int))) (hL : l.length ≤ 3000000) (hB : B ≤ w.heap.size)
    (hK : ∀ v' w', Owb B w' v' (l ++ [y]) → w.grownBy w' v.ownBlock → Below B w w' → wpList Tryd.prog ops Q rest (a.put o.dst v') w') : wpList Tryd.prog ops Q (o :: rest) a w :=
  wpList_plain hgd fun K hK' => by
    obtain ⟨i, h1, h2, h3, h4⟩ := info_of byteInfo
    obtain ⟨v', w', r1, r2, r3, _⟩ := run_append_own (P := Tryd.prog) w B 22 o.type 5 i _ 1 1 Tryd.underlying22 h1 h2 h3 h4 rfl (by decide) v l.length (clb l) h ⟨b, 0, none⟩ 1 c (clb [y]) rfl
      (fun j u hu => by
        rw [nadd_at, Nat.zero_add]
        match j, hu with
        | 0, hu => simp [clb] at hu; subst hu; exact hc
        | j + 1, hu => simp [clb] at hu) (by intro u hu; simp [clb] at hu; rcases hu with rfl; rfl) (by unfold maxLen; omega) (by omega) hB
    unfold Oper.wp execOp
    simp only [ho, resolve, invoke, builtin, Sem.run_bind, Sem.run_pure, Result.andThen_ok, List.map_toArray, List.map_cons, List.map_nil, hs, hx, r1]
    refine hK' _ _ (hK v' w' ?_ r3 ((Below.refl _ w).grown r3 hB (fun k hk => (World.ownsRow.lt h k hk).1)))
    unfold Owb
    rw [List.length_append, clb_append]; exact r2

/-! runs -/
structure IsRns (w : World) (A : Option Addr) (n : Nat) (L : List Rn) : Prop where
  leng : L.length = n
  most : n ≤ maxLen
  good : ∀ r ∈ L, r.s ≤ 255 ∧ r.e ≤ 255
  cells : n = 0 ∨ ∃ b o, A = some ⟨b, o, none⟩ ∧ b < w.heap.size ∧ ∀ (i : Nat) (r : Rn), L[i]? = some r → w.cell? ⟨b, o + i * 2, none⟩ = some (.int .u8 (r.s : Int)) ∧ w.cell? ⟨b, o + i * 2 + 1, none⟩ = some (.int .u8 (r.e : Int))
section
variable {w w' : World} {A : Option Addr} {n : Nat} {L : List Rn}
theorem IsRns.below (h : IsRns w A n L) (hb : Below w.heap.size w w') : IsRns w' A n L := by
  refine ⟨h.leng, h.most, h.good, ?_⟩
  rcases h.cells with g | ⟨b, o, g1, g2, g3⟩
  · exact .inl g
  · exact .inr ⟨b, o, g1, Nat.lt_of_lt_of_le g2 hb.size, fun i x hx => ⟨(hb.cell g2).trans (g3 i x hx).1, (hb.cell g2).trans (g3 i x hx).2⟩⟩
theorem IsRns.nil (w : World) (A : Option Addr) : IsRns w A 0 [] := ⟨rfl, Nat.zero_le _, fun x hx => absurd hx (by simp), .inl rfl⟩
theorem IsRns.at (h : IsRns w A n L) (hn : 0 < n) : ∃ b o, A = some ⟨b, o, none⟩ ∧ b < w.heap.size ∧ ∀ i, i < n → w.cell? ⟨b, o + i * 2, none⟩ = some (.int .u8 ((L.getD i default).s : Nat)) ∧ w.cell? ⟨b, o + i * 2 + 1, none⟩ = some (.int .u8 ((L.getD i default).e : Nat)) := by
  rcases h.cells with g | ⟨b, o, g1, g2, g3⟩
  · omega
  · exact ⟨b, o, g1, g2, fun i hi => g3 i _ (by rw [List.getD, List.getElem?_eq_getElem (by rw [h.leng]; exact hi)]; rfl)⟩
theorem IsRns.le (h : IsRns w A n L) (i : Nat) : (L.getD i default).s ≤ 255 ∧ (L.getD i default).e ≤ 255 := by
  by_cases hi : i < L.length
  · rw [List.getD, List.getElem?_eq_getElem hi]; exact h.good _ (List.getElem_mem _)
  · rw [List.getD, List.getElem?_eq_none (by omega)]; exact ⟨Nat.zero_le _, Nat.zero_le _⟩
end
theorem u8_bounds {a : Int} (h : (Lit.int .u8 a).wf = true) : 0 ≤ a ∧ a ≤ 255 := by simpa [Lit.wf, IntKind.min, IntKind.max, IntKind.signed, IntKind.bits] using h
section
variable {H : Type} {enc : TypeId × Value → H} {w : World} {spare : Nat → Bool} {held : Bool}
set_option maxRecDepth 1000000 in
theorem open_rn {m : Nat} {cs : List Value} {x : DataW H × List MemPlace} (h : DataW.trod enc Tryd.prog w 0 spare held m 33 cs = some x) :
    ∃ s e, cs = [.int .u8 s, .int .u8 e] ∧ (Lit.int .u8 s).wf = true ∧ (Lit.int .u8 e).wf = true := by
  obtain ⟨xs, k, _, rfl, hl, hxl, hf⟩ := DataW.trod_struct Tryd.underlying33 h
  rw [cells2] at hl
  match cs, hl with
  | [v0, v1], _ =>
    match xs, hxl with
    | [y0, y1], _ =>
      have e0 : DataW.trod enc Tryd.prog w 0 spare held k 5 (([v0, v1].drop 0).take (Tryd.prog.cellsOf 5)) = some y0 := hf 0 _ rfl
      have e1 : DataW.trod enc Tryd.prog w 0 spare held k 5 (([v0, v1].drop 1).take (Tryd.prog.cellsOf 5)) = some y1 := hf 1 _ rfl
      simp only [cells1, List.drop_zero, List.drop_succ_cons, List.take_succ_cons, List.take_zero] at e0 e1
      obtain ⟨l, hd, _, wl⟩ := DataW.trod_int Tryd.underlying5 e0
      obtain ⟨n, hn, _, wn⟩ := DataW.trod_int Tryd.underlying5 e1
      simp only [List.cons.injEq, and_true] at hd hn
      subst hd hn
      exact ⟨l, n, rfl, wl, wn⟩
set_option maxRecDepth 1000000 in
theorem open_rns {fuel : Nat} {ao : Option Addr} {len cap : Nat} {x : DataW H × List MemPlace} (h : DataW.trod enc Tryd.prog w 0 spare held fuel 23 [.slice ao len cap] = some x)
    (hsz : ∀ n ∈ x.1.weights Tryd.prog 23, n ≤ reachBytes) : ∃ cs, IsRns w ao len cs := by
  rcases open_slice Tryd.underlying23 h with ⟨h0, _⟩ | ⟨a, len', cap', m, n, D, Pl, hcs, _, hl, hm, hmm, hx, hi⟩
  · simp only [List.cons.injEq, Value.slice.injEq, and_true] at h0
    obtain ⟨_, rfl, _⟩ := h0
    exact ⟨[], IsRns.nil _ _⟩
  simp only [List.cons.injEq, Value.slice.injEq, and_true] at hcs
  obtain ⟨rfl, rfl, rfl⟩ := hcs
  rw [cells2] at hi
  have hlm : len ≤ m := by rw [hmm]; split <;> omega
  have each : ∀ i, i < len → ∃ c : Rn, (c.s ≤ 255 ∧ c.e ≤ 255) ∧ ∃ b o, a = ⟨b, o, none⟩ ∧ b < w.heap.size ∧ w.cell? ⟨b, o + i * 2, none⟩ = some (.int .u8 (c.s : Int)) ∧ w.cell? ⟨b, o + i * 2 + 1, none⟩ = some (.int .u8 (c.e : Int)) := by
    intro i hil
    obtain ⟨cs', hc, ht⟩ := hi i (by omega)
    obtain ⟨_, hcl, hat⟩ := World.cells?_some hc
    obtain ⟨s, e, rfl, ws, we⟩ := open_rn ht
    have g0 := hat 0 (by decide)
    have g1 := hat 1 (by decide)
    rw [Go.Deep.add_add] at g0 g1
    simp only [List.getElem?_cons_zero, List.getElem?_cons_succ] at g0 g1
    have hsp0 : a.spot = none := by
      obtain ⟨cs0, hc0, ht0⟩ := hi 0 (by omega)
      obtain ⟨_, _, hat0⟩ := World.cells?_some hc0
      obtain ⟨l0, n0, rfl, _⟩ := open_rn ht0
      have h00 := World.cell?_spot (hat0 0 (by decide))
      rw [Go.Deep.add_add, Nat.zero_mul, Addr.add, if_pos rfl] at h00
      exact h00
    obtain ⟨b, o, sp⟩ := a
    have hsp : sp = none := hsp0
    subst hsp
    rw [nadd_at] at g0 g1
    have bs := u8_bounds ws
    have be := u8_bounds we
    obtain ⟨s', rfl⟩ : ∃ k : Nat, s = (k : Int) := ⟨s.toNat, by omega⟩
    obtain ⟨e', rfl⟩ : ∃ k : Nat, e = (k : Int) := ⟨e.toNat, by omega⟩
    exact ⟨⟨s', e'⟩, ⟨by simp only; omega, by simp only; omega⟩, b, o, rfl, World.block_lt_of_cell? _ _ g0, g0, g1⟩
  by_cases hz : len = 0
  · subst hz
    exact ⟨[], IsRns.nil _ _⟩
  obtain ⟨_, _, b, o, hab, hbw, _⟩ := each 0 (by omega)
  obtain ⟨f, hf⟩ := choose_lt each
  refine ⟨(List.range len).map f, by simp, by omega, fun c hc => ?_, .inr ⟨b, o, by rw [hab], hbw, fun i c hc => ?_⟩⟩
  · obtain ⟨i, hi', rfl⟩ := List.mem_map.1 hc
    exact (hf i (List.mem_range.1 hi')).1
  · have hil : i < len := by
      have := (List.getElem?_eq_some_iff.1 hc).1
      simpa using this
    obtain ⟨_, b', o', hab', _, hat⟩ := hf i hil
    rw [hab] at hab'
    obtain ⟨rfl, rfl⟩ : b = b' ∧ o = o' := by
      simp only [Addr.mk.injEq, and_true] at hab'
      exact hab'
    have : f i = c := by simpa [hil] using hc
    rw [← this]
    exact hat
end
/-- the cells of runs -/
def clr : List Rn → List Value
  | [] => []
  | t :: l => .int .u8 (t.s : Int) :: .int .u8 (t.e : Int) :: clr l
theorem clr_length : ∀ l, (clr l).length = l.length * 2
  | [] => rfl
  | t :: l => by simp only [clr, List.length_cons]; rw [clr_length l]; omega
theorem clr_append : ∀ l r, clr (l ++ r) = clr l ++ clr r
  | [], _ => rfl
  | t :: l, r => by simp only [List.cons_append, clr]; rw [clr_append l r]
theorem clr_at : ∀ (l : List Rn) (i : Nat) (t : Rn), l[i]? = some t → (clr l)[i * 2]? = some (.int .u8 (t.s : Int)) ∧ (clr l)[i * 2 + 1]? = some (.int .u8 (t.e : Int))
  | [], i, t, h => by simp at h
  | a :: l, 0, t, h => by simp at h; subst h; simp [clr]
  | a :: l, i + 1, t, h => by
    rw [List.getElem?_cons_succ] at h
    obtain ⟨h1, h2⟩ := clr_at l i t h
    simp only [clr]
    refine ⟨?_, ?_⟩
    · rw [show (i + 1) * 2 = i * 2 + 1 + 1 by omega]; simpa using h1
    · rw [show (i + 1) * 2 + 1 = i * 2 + 1 + 1 + 1 by omega]; simpa using h2
theorem clr_one : ∀ (l : List Rn), ∀ u ∈ clr l, u.oneCell' = true
  | [], u, h => by simp [clr] at h
  | t :: l, u, h => by
    simp only [clr, List.mem_cons] at h
    rcases h with rfl | rfl | h
    · rfl
    · rfl
    · exact clr_one l u h
/-- v is a slice of runs in a row of its own -/
def Owr (B : Nat) (w : World) (v : Value) (L : List Rn) : Prop := w.ownsRow B 33 2 v L.length (clr L)
section
variable {B : Nat} {w w' : World} {v : Value} {L : List Rn}
theorem Owr.nil (B : Nat) (w : World) : Owr B w (.slice none 0 0) [] := World.ownsRow_nil w B _ 2
theorem Owr.alloc (h : Owr B w v L) (o : Obj) : Owr B (w.alloc o) v L := World.ownsRow.alloc h o
theorem Owr.at (h : Owr B w v L) (e : ∀ g, v.ownBlock = some g → w'.heap[g]? = w.heap[g]?) : Owr B w' v L := ownsRow_at h e
theorem Owr.lt (h : Owr B w v L) : ∀ g, v.ownBlock = some g → B ≤ g ∧ g < w.heap.size := World.ownsRow.lt h
theorem Owr.below (h : Owr B w v L) (hb : Below w.heap.size w w') : Owr B w' v L := h.at fun g hg => hb.block g (h.lt g hg).2
theorem Owr.weak {B' : Nat} (h : Owr B w v L) (hB : B' ≤ B) : Owr B' w v L := by
  obtain ⟨h1, h2⟩ := h
  refine ⟨h1, ?_⟩
  rcases h2 with h2 | ⟨g, cap, cur, e, hg, r⟩
  · exact .inl h2
  · exact .inr ⟨g, cap, cur, e, Nat.le_trans hB hg, r⟩
theorem Owr.rns (h : Owr B w v L) (hok : ∀ r ∈ L, r.s ≤ 255 ∧ r.e ≤ 255) (hm : L.length ≤ maxLen) : ∃ A c, v = .slice A L.length c ∧ IsRns w A L.length L := by
  rcases h.2 with ⟨rfl, h0⟩ | ⟨g, cap, cur, rfl, _, hh, _⟩
  · exact ⟨none, 0, by rw [h0], rfl, hm, hok, .inl h0⟩
  · refine ⟨_, cap, rfl, rfl, hm, hok, .inr ⟨g, 0, rfl, (Array.getElem?_eq_some_iff.1 hh).1, fun i t ht => ?_⟩⟩
    obtain ⟨h1, h2⟩ := clr_at L i t ht
    have k := fun j u hu => h.cells (g := g) rfl j u hu
    simp only [nadd_at] at k
    exact ⟨k _ _ h1, k _ _ h2⟩
theorem Owr.ty (h : Owr B w v L) : ∀ g, v.ownBlock = some g → ∃ cs, w.heap[g]? = some (.cells cs 33 (0, 0)) := by
  intro g hg
  rcases h.2 with ⟨rfl, _⟩ | ⟨g', cap, cur, rfl, _, hh, _⟩
  · simp [Value.ownBlock] at hg
  · simp [Value.ownBlock] at hg; subst hg; exact ⟨cur, hh⟩
end
/-- append of a run -/
theorem wpList_ar {ops : Array Oper} {rest : List Oper} {o : Oper} {a : Act} {w : World} {Q : Exit → Act → World → Prop} (hgd : o.guard = none) (s x : Operand)
    (ho : o.op = .call { callee := .builtin .append, args := #[s, x], argTypes := #[23, 23] }) (B : Nat) (v : Value) (L : List Rn) (hs : a.eval s = v) (h : Owr B w v L) (b c : Nat) (y e : Nat)
    (hx : a.eval x = .slice (some ⟨b, 0, none⟩) 1 c) (hc : w.cell? ⟨b, 0, none⟩ = some (.int .u8 (y : Int)) ∧ w.cell? ⟨b, 1, none⟩ = some (.int .u8 (e : Int))) (hL : L.length ≤ 3000000) (hB : B ≤ w.heap.size)
    (hK : ∀ v' w', Owr B w' v' (L ++ [⟨y, e⟩]) → w.grownBy w' v.ownBlock → Below B w w' → wpList Tryd.prog ops Q rest (a.put o.dst v') w') : wpList Tryd.prog ops Q (o :: rest) a w :=
  wpList_plain hgd fun K hK' => by
    obtain ⟨i, h1, h2, h3, h4⟩ := info_of runInfo
    obtain ⟨v', w', r1, r2, r3, _⟩ := run_append_own (P := Tryd.prog) w B 23 o.type 33 i _ 2 2 Tryd.underlying23 h1 h2 h3 h4 rfl (by decide) v L.length (clr L) h ⟨b, 0, none⟩ 1 c (clr [⟨y, e⟩]) rfl
      (fun j u hu => by
        rw [nadd_at, Nat.zero_add]
        match j, hu with
        | 0, hu => simp [clr] at hu; subst hu; exact hc.1
        | 1, hu => simp [clr] at hu; subst hu; exact hc.2
        | j + 2, hu => simp [clr] at hu) (clr_one _) (by unfold maxLen; omega) (by omega) hB
    unfold Oper.wp execOp
    simp only [ho, resolve, invoke, builtin, Sem.run_bind, Sem.run_pure, Result.andThen_ok, List.map_toArray, List.map_cons, List.map_nil, hs, hx, r1]
    refine hK' _ _ (hK v' w' ?_ r3 ((Below.refl _ w).grown r3 hB (fun k hk => (World.ownsRow.lt h k hk).1)))
    unfold Owr
    rw [List.length_append, clr_append]; exact r2
end Go.Proofs.YtogbohompffcbaaDoor.U
