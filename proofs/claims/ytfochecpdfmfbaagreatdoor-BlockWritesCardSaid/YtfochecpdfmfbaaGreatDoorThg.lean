/- Slices of things: their cells, rows that append made, things that lead to others. Conditions: as each theorem names them. -/
import Derived.Test.YtfochecpdfmfbaaGreatDoorSoA
import Derived.Test.YtfochecpdfmfbaaGreatDoorMMathT
import Derived.Maps.AppendAt
import Derived.OwnWalk
import Derived.Laws.MakeOwn
namespace Go.Proofs.YtfochecpdfmfbaaGreatDoor
open Go.RowKit M
set_option linter.unusedVariables false

/-- a thing's cells: its weight, its symbol, where it leads to -/
abbrev Tr := Nat × Nat × Option Addr
def cl : List Tr → List Value
  | [] => []
  | t :: l => .int .u64 t.1 :: .int .i64 t.2.1 :: .pointer t.2.2 :: cl l
theorem cl_length : ∀ l, (cl l).length = l.length * 3
  | [] => rfl
  | t :: l => by simp only [cl, List.length_cons]; rw [cl_length l]; omega
theorem cl_append : ∀ l r, cl (l ++ r) = cl l ++ cl r
  | [], _ => rfl
  | t :: l, r => by simp only [List.cons_append, cl]; rw [cl_append l r]
theorem cl_at : ∀ (l : List Tr) (i : Nat) (t : Tr), l[i]? = some t → (cl l)[i * 3]? = some (.int .u64 t.1) ∧ (cl l)[i * 3 + 1]? = some (.int .i64 t.2.1) ∧ (cl l)[i * 3 + 2]? = some (.pointer t.2.2)
  | [], i, t, h => by simp at h
  | a :: l, 0, t, h => by simp at h; subst h; simp [cl]
  | a :: l, i + 1, t, h => by
    rw [List.getElem?_cons_succ] at h
    obtain ⟨h1, h2, h3⟩ := cl_at l i t h
    simp only [cl]
    refine ⟨?_, ?_, ?_⟩
    · rw [show (i + 1) * 3 = i * 3 + 1 + 1 + 1 by omega]; simpa using h1
    · rw [show (i + 1) * 3 + 1 = i * 3 + 1 + 1 + 1 + 1 by omega]; simpa using h2
    · rw [show (i + 1) * 3 + 2 = i * 3 + 2 + 1 + 1 + 1 by omega]; simpa using h3
theorem cl_one : ∀ (l : List Tr), ∀ u ∈ cl l, u.oneCell' = true
  | [], u, h => by simp [cl] at h
  | t :: l, u, h => by
    simp only [cl, List.mem_cons] at h
    rcases h with rfl | rfl | rfl | h
    · rfl
    · rfl
    · rfl
    · exact cl_one l u h
/-- where cells of things lie -/
def Trs (w : World) (b o : Nat) (l : List Tr) : Prop := ∀ i t, l[i]? = some t → w.cell? ⟨b, o + i * 3, none⟩ = some (.int .u64 t.1) ∧ w.cell? ⟨b, o + i * 3 + 1, none⟩ = some (.int .i64 t.2.1) ∧ w.cell? ⟨b, o + i * 3 + 2, none⟩ = some (.pointer t.2.2)
theorem add_at (b o j : Nat) : (⟨b, o, none⟩ : Addr).add j = ⟨b, o + j, none⟩ := by
  unfold Addr.add
  split
  · rename_i h; subst h; rfl
  · rfl
theorem Trs.cl {w : World} {b o : Nat} : ∀ {l : List Tr}, Trs w b o l → ∀ j u, (cl l)[j]? = some u → w.cell? ((⟨b, o, none⟩ : Addr).add j) = some u := by
  intro l h j u hu
  rw [add_at]
  have hj : j < l.length * 3 := by rw [← cl_length]; exact (List.getElem?_eq_some_iff.1 hu).1
  have hi : j / 3 < l.length := by omega
  obtain ⟨h1, h2, h3⟩ := h (j / 3) _ (List.getElem?_eq_getElem hi)
  obtain ⟨g1, g2, g3⟩ := cl_at l (j / 3) _ (List.getElem?_eq_getElem hi)
  have : j = j / 3 * 3 ∨ j = j / 3 * 3 + 1 ∨ j = j / 3 * 3 + 2 := by omega
  rcases this with e | e | e
  · rw [← e] at g1 h1; rw [g1] at hu; rw [h1, ← hu]
  · rw [← e] at g2; rw [g2] at hu; rw [show o + j = o + j / 3 * 3 + 1 by omega, h2, ← hu]
  · rw [← e] at g3; rw [g3] at hu; rw [show o + j = o + j / 3 * 3 + 2 by omega, h3, ← hu]

/-- v is a slice of things in a block from base on. -/
def Ow (base : Nat) (w : World) (v : Value) (l : List Tr) : Prop := w.ownsRow base 161 3 v l.length (cl l)
section
variable {base : Nat} {w w' : World} {v : Value} {l r : List Tr}
theorem Ow.alloc (h : Ow base w v l) (o : Obj) : Ow base (w.alloc o) v l := World.ownsRow.alloc h o
theorem Ow.drew (h : Ow base w v l) : Ow base w.drew v l := h
theorem Ow.drewN (h : Ow base w v l) (n : Nat) : Ow base (w.drewN n) v l := h
theorem Ow.at' (h : Ow base w v l) (q : ∀ g, v.ownBlock = some g → w'.heap[g]? = w.heap[g]?) : Ow base w' v l := ownsRow_at h q
theorem Ow.nil (base : Nat) (w : World) : Ow base w (.slice none 0 0) [] := World.ownsRow_nil w base _ 3
theorem Ow.lt (h : Ow base w v l) : ∀ k, v.ownBlock = some k → base ≤ k ∧ k < w.heap.size := World.ownsRow.lt h
theorem Ow.other (h : Ow base w v l) {a : Addr} (ha : v.ownBlock ≠ some a.block) (u : Value) : Ow base (w.setCell a u) v l :=
  h.at' fun g hg => Below.heap_setCell w a u g (fun e => ha (by rw [hg, e]))
theorem Ow.form (h : Ow base w v l) : (v = .slice none 0 0 ∧ l = []) ∨ ∃ g cap, v = .slice (some ⟨g, 0, none⟩) l.length cap ∧ base ≤ g ∧ g < w.heap.size := by
  rcases h.2 with ⟨h1, h2⟩ | ⟨g, cap, cur, rfl, hg, hh, _⟩
  · exact .inl ⟨h1, List.eq_nil_of_length_eq_zero h2⟩
  · refine .inr ⟨g, cap, rfl, hg, ?_⟩
    rcases Nat.lt_or_ge g w.heap.size with q | q
    · exact q
    · rw [Array.getElem?_eq_none q] at hh; cases hh
theorem Ow.cap {g n cap : Nat} (h : Ow base w (.slice (some ⟨g, 0, none⟩) n cap) l) : l.length = n ∧ n ≤ cap ∧ cap ≤ maxLen := by
  rcases h.2 with ⟨h', _⟩ | ⟨g', cap', cur, h', _, _, hnc, hcm, _⟩
  · simp at h'
  · simp only [Value.slice.injEq, Option.some.injEq, Addr.mk.injEq, and_true] at h'
    obtain ⟨rfl, h2, rfl⟩ := h'
    exact ⟨h2.symm, by omega, hcm⟩
theorem Ow.trs {g n cap : Nat} (h : Ow base w (.slice (some ⟨g, 0, none⟩) n cap) l) : Trs w g 0 l := by
  have hn := h.cap.1
  subst hn
  intro i t hi
  have hlt := (List.getElem?_eq_some_iff.1 hi).1
  obtain ⟨h1, h2, h3⟩ := cl_at l i t hi
  rw [Nat.zero_add]
  have k := fun j hj => World.ownsRow.cellAt (w := w) h j hj
  exact ⟨(k _ (by omega)).trans h1, (k _ (by omega)).trans h2, (k _ (by omega)).trans h3⟩
theorem Ow.block {g n cap : Nat} (h : Ow base w (.slice (some ⟨g, 0, none⟩) n cap) l) : ∃ cur : Array Value, w.heap[g]? = some (.cells cur 161 (0, 0)) ∧ n * 3 ≤ cur.size := by
  rcases h.2 with ⟨h', _⟩ | ⟨g', cap', cur, h', _, hh, hnc, hcm, hs, _⟩
  · simp at h'
  · simp only [Value.slice.injEq, Option.some.injEq, Addr.mk.injEq, and_true] at h'
    obtain ⟨rfl, h2, rfl⟩ := h'
    exact ⟨cur, hh, by rw [hs]; omega⟩
end

theorem thingInfo : (Tryz.prog.info? 161).map (fun i => (i.zero, i.size, i.bytes)) = some (some (.agg #[.int .u64 0, .int .i64 0, .pointer none]), 3, 24) := by kernel_rfl
theorem pairInfo : (Tryz.prog.info? 203).map (fun i => (i.zero, i.size, i.bytes)) = some (some (.agg #[.int .u64 0, .int .i64 0, .pointer none, .int .u64 0, .int .i64 0, .pointer none]), 6, 48) := by kernel_rfl
theorem byteInfo : (Tryz.prog.info? 5).map (fun i => (i.zero, i.size, i.bytes)) = some (some (.int .u8 0), 1, 1) := by kernel_rfl
theorem intInfo : (Tryz.prog.info? 3).map (fun i => (i.zero, i.size, i.bytes)) = some (some (.int .i64 0), 1, 8) := by kernel_rfl
theorem info_of {e : TypeId} {z : Value} {size bytes : Nat} (hi : (Tryz.prog.info? e).map (fun i => (i.zero, i.size, i.bytes)) = some (some z, size, bytes)) : ∃ i, Tryz.prog.info? e = some i ∧ i.zero = some z ∧ i.size = size ∧ i.bytes = bytes := by
  cases hq : Tryz.prog.info? e with
  | none => rw [hq] at hi; cases hi
  | some i => rw [hq] at hi; simp at hi; exact ⟨i, rfl, hi.1, hi.2.1, hi.2.2⟩

theorem run_made (w : World) {t e : TypeId} {z : Value} {size bytes : Nat} (ht : Tryz.prog.underlying t = some (.slice e)) (hi : (Tryz.prog.info? e).map (fun i => (i.zero, i.size, i.bytes)) = some (some z, size, bytes)) (hb : bytes ≤ 64) (n m : Nat) (hn : n ≤ m) (hm : m ≤ 2000) :
    (Instr.makeSlice t (.int .i64 (n : Int)) (.int .i64 (m : Int))).run Tryz.prog w = .ok (.slice (some ⟨w.heap.size, 0, none⟩) n m) (w.alloc (.cells (madeCells z.cells (m * size)) e)) := by
  obtain ⟨i, h1, h2, h3, h4⟩ := info_of hi
  subst h3 h4
  have hb' : (i.bytes : Int) * (m : Int) ≤ 281474976710656 := by
    have h : i.bytes * m ≤ 64 * 2000 := Nat.mul_le_mul hb hm
    have h' : ((i.bytes * m : Nat) : Int) ≤ 281474976710656 := by omega
    rwa [Int.natCast_mul] at h'
  have hr := run_make (P := Tryz.prog) w t e i z ht h1 h2 .i64 .i64 n m (by omega) (by omega) hb' (by omega)
  simp only [Int.toNat_natCast] at hr
  exact hr

theorem run_ap (w : World) (ty : TypeId) (base : Nat) (v : Value) (l r : List Tr) (hown : Ow base w v l) (b o c : Nat) (hG : Trs w b o r) (hm : l.length + r.length ≤ 2000) (hb : base ≤ w.heap.size) :
    ∃ v' w', (Builtin.append_ #[157, 157] ty #[v, .slice (some ⟨b, o, none⟩) r.length c]).run Tryz.prog w = .ok v' w' ∧ Ow base w' v' (l ++ r) ∧ w.grownBy w' v.ownBlock ∧ Below base w w' ∧ (v'.ownBlock = v.ownBlock ∨ v'.ownBlock = some w.heap.size) := by
  obtain ⟨i, h1, h2, h3, h4⟩ := info_of thingInfo
  obtain ⟨v', w', r1, r2, r3, _, r5⟩ := run_append_own_at (P := Tryz.prog) w base 157 ty 161 i _ 3 24 Tryz.underlying157 h1 h2 h3 h4 rfl (by decide) v l.length (cl l) hown ⟨b, o, none⟩ r.length c (cl r) (cl_length r)
    hG.cl (cl_one r) (by unfold maxLen; omega) (by omega) hb
  refine ⟨v', w', r1, ?_, r3, (Below.refl base w).grown r3 hb (fun k hk => (World.ownsRow.lt hown k hk).1), r5⟩
  unfold Ow
  rw [List.length_append, cl_append]; exact r2
theorem wpList_ap {ops : Array Oper} {rest : List Oper} {o : Oper} {a : Act} {w : World} {Q : Exit → Act → World → Prop} (hgd : o.guard = none) (s x : Operand) (ho : o.op = .call { callee := .builtin .append, args := #[s, x], argTypes := #[157, 157] })
    (base : Nat) (v : Value) (l r : List Tr) (hs : a.eval s = v) (hown : Ow base w v l) (b o' n c : Nat) (hx : a.eval x = .slice (some ⟨b, o', none⟩) n c) (hn : r.length = n) (hG : Trs w b o' r) (hm : l.length + r.length ≤ 2000) (hb : base ≤ w.heap.size)
    (h : ∀ v' w', Ow base w' v' (l ++ r) → w.grownBy w' v.ownBlock → Below base w w' → (v'.ownBlock = v.ownBlock ∨ v'.ownBlock = some w.heap.size) → wpList Tryz.prog ops Q rest (a.put o.dst v') w') : wpList Tryz.prog ops Q (o :: rest) a w :=
  wpList_plain hgd fun K hK => by
    subst hn
    obtain ⟨v', w', r1, r2, r3, r4, r5⟩ := run_ap w o.type base v l r hown b o' c hG hm hb
    unfold Oper.wp execOp
    simp only [ho, resolve, invoke, builtin, Sem.run_bind, Sem.run_pure, Result.andThen_ok, List.map_toArray, List.map_cons, List.map_nil, hs, hx, r1]
    exact hK _ _ (h v' w' r2 r3 r4 r5)

/-- A thing and where it leads to: a package's two things lie in a block from base on. -/
def Hung (w : World) (base : Nat) : Th → Option Addr → Prop
  | .lf _ _, p => p = none
  | .pk x y, p => ∃ g o px py, p = some ⟨g, o, none⟩ ∧ base ≤ g ∧ g < w.heap.size ∧
      (w.cell? ⟨g, o, none⟩ = some (.int .u64 x.wt) ∧ w.cell? ⟨g, o + 1, none⟩ = some (.int .i64 x.sy) ∧ w.cell? ⟨g, o + 2, none⟩ = some (.pointer px)) ∧
      (w.cell? ⟨g, o + 3, none⟩ = some (.int .u64 y.wt) ∧ w.cell? ⟨g, o + 4, none⟩ = some (.int .i64 y.sy) ∧ w.cell? ⟨g, o + 5, none⟩ = some (.pointer py)) ∧ Hung w base x px ∧ Hung w base y py
theorem Hung.kept {w w' : World} {base : Nat} (q : ∀ g, base ≤ g → g < w.heap.size → w'.heap[g]? = w.heap[g]?) (hs : w.heap.size ≤ w'.heap.size) : ∀ {t : Th} {p : Option Addr}, Hung w base t p → Hung w' base t p
  | .lf _ _, p, h => h
  | .pk x y, p, h => by
    obtain ⟨g, o, px, py, rfl, hb, hg, ⟨a1, a2, a3⟩, ⟨b1, b2, b3⟩, h1, h2⟩ := h
    have c := fun o' => World.cell?_of_block (w := w) (w' := w') (a := ⟨g, o', none⟩) (q g hb hg)
    exact ⟨g, o, px, py, rfl, hb, by omega, ⟨(c _).trans a1, (c _).trans a2, (c _).trans a3⟩, ⟨(c _).trans b1, (c _).trans b2, (c _).trans b3⟩, h1.kept q hs, h2.kept q hs⟩
theorem Hung.below {w w' : World} {base : Nat} {t : Th} {p : Option Addr} (h : Hung w base t p) (hb : Below w.heap.size w w') : Hung w' base t p := h.kept (fun g _ hg => hb.block g hg) hb.size
theorem Hung.mono {w : World} {base base' : Nat} (hb : base' ≤ base) : ∀ {t : Th} {p : Option Addr}, Hung w base t p → Hung w base' t p
  | .lf _ _, p, h => h
  | .pk x y, p, h => by
    obtain ⟨g, o, px, py, rfl, hb2, hg, h1, h2, h3, h4⟩ := h
    exact ⟨g, o, px, py, rfl, by omega, hg, h1, h2, h3.mono hb, h4.mono hb⟩

/-- a thing with where it leads to -/
abbrev Tp := Th × Option Addr
def tr (x : Tp) : Tr := (x.1.wt, x.1.sy, x.2)
/-- A slice at A holds these things. -/
def Things (w : World) (base : Nat) (A : Option Addr) (X : List Tp) : Prop :=
  (0 < X.length → ∃ b o, A = some ⟨b, o, none⟩ ∧ b < w.heap.size ∧ Trs w b o (X.map tr)) ∧ ∀ x ∈ X, Hung w base x.1 x.2
theorem Trs.below {w w' : World} {b o : Nat} {l : List Tr} (h : Trs w b o l) (hl : b < w.heap.size) (hb : Below w.heap.size w w') : Trs w' b o l := fun i t hi => by
  obtain ⟨h1, h2, h3⟩ := h i t hi
  exact ⟨(hb.cell hl).trans h1, (hb.cell hl).trans h2, (hb.cell hl).trans h3⟩
theorem Trs.at' {w w' : World} {b o : Nat} {l : List Tr} (h : Trs w b o l) (q : w'.heap[b]? = w.heap[b]?) : Trs w' b o l := fun i t hi => by
  have c := fun o' => World.cell?_of_block (w := w) (w' := w') (a := ⟨b, o', none⟩) q
  obtain ⟨h1, h2, h3⟩ := h i t hi
  exact ⟨(c _).trans h1, (c _).trans h2, (c _).trans h3⟩
theorem Things.below {w w' : World} {base : Nat} {A : Option Addr} {X : List Tp} (h : Things w base A X) (hb : Below w.heap.size w w') : Things w' base A X := by
  refine ⟨fun hn => ?_, fun x hx => (h.2 x hx).below hb⟩
  obtain ⟨b, o, e, hl, ht⟩ := h.1 hn
  exact ⟨b, o, e, Nat.lt_of_lt_of_le hl hb.size, ht.below hl hb⟩
theorem Things.drew {w : World} {base : Nat} {A : Option Addr} {X : List Tp} (h : Things w base A X) : Things w.drew base A X := h.below (Below.refl _ _).drew
/-- the cells of one of them -/
theorem Trs.one {w : World} {b o : Nat} {X : List Tp} (h : Trs w b o (X.map tr)) {i : Nat} {x : Tp} (hx : X[i]? = some x) : w.cell? ⟨b, o + i * 3, none⟩ = some (.int .u64 x.1.wt) ∧ w.cell? ⟨b, o + i * 3 + 1, none⟩ = some (.int .i64 x.1.sy) ∧ w.cell? ⟨b, o + i * 3 + 2, none⟩ = some (.pointer x.2) :=
  h i (tr x) (by rw [List.getElem?_map, hx]; rfl)
theorem Trs.drop {w : World} {b o : Nat} {l : List Tr} (h : Trs w b o l) (k : Nat) : Trs w b (o + k * 3) (l.drop k) := fun i t hi => by
  rw [List.getElem?_drop] at hi
  have := h (k + i) t hi
  rw [show o + (k + i) * 3 = o + k * 3 + i * 3 by omega] at this
  exact this
end Go.Proofs.YtfochecpdfmfbaaGreatDoor
