/- What packagesOf of package pack answers. Conditions: as each theorem names them. -/
import Derived.Test.YteicamfelamfhaaPkA
import Derived.Deep.OwnRows
namespace Go.Proofs.Yteicamfelamfhaa
open Go.RowKit M
set_option linter.unusedVariables false

/-- no thing -/
def tp0 : Tp := (.lf 0 0, none)
/-- a cell of a thing -/
def pcell (x : Tp) (j : Nat) : Value := if j = 0 then .int .u64 x.1.wt else if j = 1 then .int .i64 x.1.sy else .pointer x.2
/-- Block g holds n things from its head on. -/
def TRow (w : World) (g : Nat) (T : TypeId) (n : Nat) (X : Nat → Tp) : Prop := w.rowIs g T (n * 3) (fun j => pcell (X (j / 3)) (j % 3))
section
variable {w w' : World} {g n : Nat} {T : TypeId} {X Y : Nat → Tp}
theorem TRow.congr (h : TRow w g T n X) (e : ∀ i, i < n → X i = Y i) : TRow w g T n Y := World.rowIs.congr h (fun j hj => by rw [e (j / 3) (by omega)])
theorem TRow.lt (h : TRow w g T n X) : g < w.heap.size := World.rowIs.lt h
theorem TRow.at' (h : TRow w g T n X) (q : w'.heap[g]? = w.heap[g]?) : TRow w' g T n X := World.rowIs.of_block h q
theorem TRow.alloc (h : TRow w g T n X) (o : Obj) : TRow (w.alloc o) g T n X := World.rowIs.alloc h o
theorem TRow.other (h : TRow w g T n X) {a : Addr} (ha : g ≠ a.block) (v : Value) : TRow (w.setCell a v) g T n X := World.rowIs.setOther h ha v
theorem TRow.drew (h : TRow w g T n X) : TRow w.drew g T n X := h
theorem TRow.below (h : TRow w g T n X) {B : Nat} (hb : Below B w w') (hB : g < B) : TRow w' g T n X := h.at' (hb.block g hB)
theorem TRow.frozen (h : TRow w g T n X) (i : Nat) : w.frozen? ⟨g, i, none⟩ = false := World.rowIs.frozen h i
theorem TRow.cells (h : TRow w g T n X) {i : Nat} (hi : i < n) : w.cell? ⟨g, i * 3, none⟩ = some (.int .u64 (X i).1.wt) ∧ w.cell? ⟨g, i * 3 + 1, none⟩ = some (.int .i64 (X i).1.sy) ∧ w.cell? ⟨g, i * 3 + 2, none⟩ = some (.pointer (X i).2) := by
  have k := fun j (hj : j < n * 3) => World.rowIs.cell (w := w) h hj
  refine ⟨?_, ?_, ?_⟩
  · rw [k _ (by omega), show i * 3 / 3 = i by omega, show i * 3 % 3 = 0 by omega]; rfl
  · rw [k _ (by omega), show (i * 3 + 1) / 3 = i by omega, show (i * 3 + 1) % 3 = 1 by omega]; rfl
  · rw [k _ (by omega), show (i * 3 + 2) / 3 = i by omega, show (i * 3 + 2) % 3 = 2 by omega]; rfl
/-- a thing is stored -/
theorem TRow.set (h : TRow w g T n X) (i : Nat) (x : Tp) : TRow (((w.setCell ⟨g, i * 3, none⟩ (.int .u64 x.1.wt)).setCell ⟨g, i * 3 + 1, none⟩ (.int .i64 x.1.sy)).setCell ⟨g, i * 3 + 2, none⟩ (.pointer x.2)) g T n (fun t => if t = i then x else X t) := by
  refine World.rowIs.congr (((World.rowIs.set h (i * 3) (.int .u64 x.1.wt)).set (i * 3 + 1) (.int .i64 x.1.sy)).set (i * 3 + 2) (.pointer x.2)) (fun j hj => ?_)
  have hm : j % 3 = 0 ∨ j % 3 = 1 ∨ j % 3 = 2 := by omega
  by_cases q : j / 3 = i
  · have e : (fun t => if t = i then x else X t) (j / 3) = x := if_pos q
    rcases hm with r | r | r
    · rw [if_neg (by omega), if_neg (by omega), if_pos (by omega), r]; simp only [if_pos q]; rfl
    · rw [if_neg (by omega), if_pos (by omega), r]; simp only [if_pos q]; rfl
    · rw [if_pos (by omega), r]; simp only [if_pos q]; rfl
  · rw [if_neg (by omega), if_neg (by omega), if_neg (by omega)]
    simp only [if_neg q]
theorem TRow.trs (h : TRow w g T n X) (l : List Tp) (hl : l.length ≤ n) (e : ∀ i x, l[i]? = some x → X i = x) : Trs w g 0 (l.map tr) := fun i t hi => by
  rw [List.getElem?_map] at hi
  cases hq : l[i]? with
  | none => rw [hq] at hi; cases hi
  | some x =>
    rw [hq] at hi
    obtain rfl : tr x = t := by simpa using hi
    have hlt := (List.getElem?_eq_some_iff.1 hq).1
    have := h.cells (show i < n by omega)
    rw [e i x hq] at this
    rw [Nat.zero_add]; exact this
end
theorem TRow.made1 (w : World) (n : Nat) : TRow (w.alloc (.cells (madeCells #[.int .u64 0, .int .i64 0, .pointer none] (n * 3)) 50)) w.heap.size 50 n (fun _ => tp0) := by
  have h := World.rowIs_alloc w (madeCells #[.int .u64 0, .int .i64 0, .pointer none] (n * 3)) 50 (fun j => pcell tp0 (j % 3)) (fun j hj => by
    rw [size_madeCells] at hj
    have hm : j % 3 = 0 ∨ j % 3 = 1 ∨ j % 3 = 2 := by omega
    rcases hm with r | r | r <;> simp [madeCells, hj, r, pcell, tp0, Th.wt, Th.sy])
  rw [size_madeCells] at h
  exact h
theorem TRow.made2 (w : World) (n : Nat) : TRow (w.alloc (.cells (madeCells #[.int .u64 0, .int .i64 0, .pointer none, .int .u64 0, .int .i64 0, .pointer none] (n * 6)) 77)) w.heap.size 77 (2 * n) (fun _ => tp0) := by
  have h := World.rowIs_alloc w (madeCells #[.int .u64 0, .int .i64 0, .pointer none, .int .u64 0, .int .i64 0, .pointer none] (n * 6)) 77 (fun j => pcell tp0 (j % 3)) (fun j hj => by
    rw [size_madeCells] at hj
    have hm : (j % 6 = 0 ∧ j % 3 = 0) ∨ (j % 6 = 1 ∧ j % 3 = 1) ∨ (j % 6 = 2 ∧ j % 3 = 2) ∨ (j % 6 = 3 ∧ j % 3 = 0) ∨ (j % 6 = 4 ∧ j % 3 = 1) ∨ (j % 6 = 5 ∧ j % 3 = 2) := by omega
    rcases hm with ⟨r, s⟩ | ⟨r, s⟩ | ⟨r, s⟩ | ⟨r, s⟩ | ⟨r, s⟩ | ⟨r, s⟩ <;> simp [madeCells, hj, r, s, pcell, tp0, Th.wt, Th.sy])
  rw [size_madeCells] at h
  unfold TRow
  rw [show 2 * n * 3 = n * 6 by omega]
  exact h

/-- packages of a row, that lead to block gp -/
def pkt (gp : Nat) (R : List Tp) : List Tp := (List.range (R.length / 2)).map fun i => (.pk (R.getD (2 * i) tp0).1 (R.getD (2 * i + 1) tp0).1, some ⟨gp, i * 6, none⟩)
theorem pkt_length (gp : Nat) (R : List Tp) : (pkt gp R).length = R.length / 2 := by unfold pkt; simp
theorem pkt_at (gp : Nat) (R : List Tp) {i : Nat} (h : i < R.length / 2) : (pkt gp R)[i]? = some (.pk (R.getD (2 * i) tp0).1 (R.getD (2 * i + 1) tp0).1, some ⟨gp, i * 6, none⟩) := by unfold pkt; simp [h]
theorem pks_at : ∀ (R : List Th) (i : Nat), i < R.length / 2 → (pks R)[i]? = some (.pk (R.getD (2 * i) (.lf 0 0)) (R.getD (2 * i + 1) (.lf 0 0)))
  | [], i, h => by simp at h
  | [a], i, h => by simp at h
  | a :: b :: r, 0, h => by simp [pks]
  | a :: b :: r, i + 1, h => by
    simp only [List.length_cons] at h
    rw [pks, List.getElem?_cons_succ, pks_at r i (by omega), show 2 * (i + 1) = 2 * i + 1 + 1 by omega]
    simp
theorem getD_map (R : List Tp) (i : Nat) : (R.map (·.1)).getD i (.lf 0 0) = (R.getD i tp0).1 := by
  rw [List.getD, List.getD, List.getElem?_map]
  cases R[i]? <;> rfl
theorem pkt_fst (gp : Nat) (R : List Tp) : (pkt gp R).map (·.1) = pks (R.map (·.1)) := by
  apply List.ext_getElem?
  intro i
  rw [List.getElem?_map]
  by_cases h : i < R.length / 2
  · rw [pkt_at gp R h, pks_at _ i (by simpa using h), getD_map, getD_map]; rfl
  · rw [List.getElem?_eq_none (by rw [pkt_length]; omega), List.getElem?_eq_none (by rw [pks_length, List.length_map]; omega)]; rfl
/-- pairs and packages, of which k are made -/
def prX (R : List Tp) (k i : Nat) : Tp := if i < 2 * k then R.getD i tp0 else tp0
def pkX (gp : Nat) (R : List Tp) (k i : Nat) : Tp := if i < k then (.pk (R.getD (2 * i) tp0).1 (R.getD (2 * i + 1) tp0).1, some ⟨gp, i * 6, none⟩) else tp0

set_option maxHeartbeats 4000000 in
set_option maxRecDepth 1000000 in
theorem pkgs_any (A : Option Addr) (n c base : Nat) (R : List Tp) (W : World) (hl : R.length = n) (hn : n ≤ 1000) (hbase : base ≤ W.heap.size) (hw : ∀ x ∈ R, x.1.wt ≤ 1125899906842624) (H : Things W base A R) :
    Calls Try.prog 33 #[.slice A n c] W fun x w' => ∃ g gp, x = .returned (.slice (some ⟨g, 0, none⟩) (n / 2) (n / 2)) ∧ Things w' base (some ⟨g, 0, none⟩) (pkt gp R) ∧ Below W.heap.size W w' := by
  obtain ⟨np, hnp⟩ : ∃ np, n / 2 = np := ⟨_, rfl⟩
  have e1 : (n : Int) / 2 = (np : Int) := by omega
  have HP := Lib.hid hnp
  have HL := Lib.hid hl
  have HA := Lib.hid H
  have HW := Lib.hid hw
  have HB := Lib.hid hbase
  have hnp5 : np ≤ 500 := by omega
  have m1 := fun w => run_made w Try.underlying76 pairInfo (by decide) np np (Nat.le_refl _) (by omega)
  have m2 := fun w => run_made w Try.underlying45 thingInfo (by decide) np np (Nat.le_refl _) (by omega)
  clear hnp hl H hw hbase
  go_enter Try.func33, Try.ntmps33
  go_wp2_with fail
  clear m1 m2
  go_loopw [15] (fun i wr => ∃ k : Nat, k ≤ np ∧ i = .int .i64 k ∧ TRow wr W.heap.size 77 (2 * np) (prX R k) ∧ TRow wr (W.heap.size + 1) 50 np (pkX W.heap.size R k) ∧ Below W.heap.size W wr) (fun i _ => np - (intOf i).toNat)
  case atStart =>
    refine ⟨0, Nat.zero_le _, rfl, ((TRow.made2 W np).alloc _).congr (fun i _ => by unfold prX; rw [if_neg (by omega)]), ?_, ((Below.refl _ _).alloc (Nat.le_refl _) _).alloc (by simp) _⟩
    have h := TRow.made1 (W.alloc (.cells (madeCells #[.int .u64 0, .int .i64 0, .pointer none, .int .u64 0, .int .i64 0, .pointer none] (np * 6)) 77)) np
    rw [show (W.alloc (.cells (madeCells #[.int .u64 0, .int .i64 0, .pointer none, .int .u64 0, .int .i64 0, .pointer none] (np * 6)) 77)).heap.size = W.heap.size + 1 by simp] at h
    exact h.congr (fun i _ => by unfold pkX; rw [if_neg (by omega)])
  case round =>
    obtain ⟨k, hk, rfl, hp, hq, hb⟩ := hrel
    by_cases hlt : k < np
    · have hRn := HL.out
      have hnp := HP.out
      obtain ⟨u, hu⟩ : ∃ u, 2 * k = u := ⟨_, rfl⟩
      obtain ⟨v, hv⟩ : ∃ v, u + 1 = v := ⟨_, rfl⟩
      have l1 : u < R.length := by omega
      have l2 : v < R.length := by omega
      obtain ⟨b, o, rfl, hbs, ht⟩ := HA.out.1 (by omega)
      have x1 := ht.one (List.getElem?_eq_getElem l1)
      have y1 := ht.one (List.getElem?_eq_getElem l2)
      have gx : R.getD u tp0 = R[u] := by rw [List.getD, List.getElem?_eq_getElem l1]; rfl
      have gy : R.getD v tp0 = R[v] := by rw [List.getD, List.getElem?_eq_getElem l2]; rfl
      have hwx := HW.out _ (List.getElem_mem l1)
      have hwy := HW.out _ (List.getElem_mem l2)
      obtain ⟨x, hx⟩ : ∃ x, R[u] = x := ⟨_, rfl⟩
      obtain ⟨y, hy⟩ : ∃ y, R[v] = y := ⟨_, rfl⟩
      rw [hx] at x1 gx hwx
      rw [hy] at y1 gy hwy
      obtain ⟨x1, x2, x3⟩ := x1
      obtain ⟨y1, y2, y3⟩ := y1
      have x1' := (hb.cell hbs).trans x1
      have x2' := (hb.cell hbs).trans x2
      have x3' := (hb.cell hbs).trans x3
      have y1' := (hb.cell hbs).trans y1
      have y2' := (hb.cell hbs).trans y2
      have y3' := (hb.cell hbs).trans y3
      clear x1 x2 x3 y1 y2 y3 ht hx hy l1 l2
      have hs1 := (hp.set (2 * k) x).set (2 * k + 1) y
      rw [show 2 * k * 3 = k * 6 by omega, show (2 * k + 1) * 3 = k * 6 + 3 by omega] at hs1
      have hs2 := hq.set k (.pk x.1 y.1, some ⟨W.heap.size, k * 6, none⟩)
      obtain ⟨c1, c2, c3⟩ := hp.cells (show 2 * k < 2 * np by omega)
      obtain ⟨c4, c5, c6⟩ := hp.cells (show 2 * k + 1 < 2 * np by omega)
      rw [show 2 * k * 3 = k * 6 by omega] at c1 c2 c3
      rw [show (2 * k + 1) * 3 = k * 6 + 3 by omega] at c4 c5 c6
      obtain ⟨d1, d2, d3⟩ := hq.cells (show k < np by omega)
      have f1 := hp.frozen (k * 6)
      have f2 := hp.frozen (k * 6 + 1)
      have f3 := hp.frozen (k * 6 + 2)
      have f4 := hp.frozen (k * 6 + 3)
      have f5 := hp.frozen (k * 6 + 3 + 1)
      have f6 := hp.frozen (k * 6 + 3 + 2)
      have f7 := hq.frozen (k * 3)
      have f8 := hq.frozen (k * 3 + 1)
      have f9 := hq.frozen (k * 3 + 2)
      have w1 : IntKind.i64.wrap (2 * (k : Int)) = (u : Int) := by rw [IntWalk.i64_in _ (by omega)]; omega
      have w2 : IntKind.i64.wrap ((u : Int) + 1) = (v : Int) := by rw [IntWalk.i64_in _ (by omega)]; omega
      have w3 : 2 * (k : Int) = (u : Int) := by omega
      have w4 : (u : Int) + 1 = (v : Int) := by omega
      have w5 : IntKind.i64.wrap (u : Int) = (u : Int) := IntWalk.i64_in _ (by omega)
      have w6 : IntKind.i64.wrap (v : Int) = (v : Int) := IntWalk.i64_in _ (by omega)
      have w7 : ((u : Int)).toNat = u := by omega
      have w8 : ((v : Int)).toNat = v := by omega
      obtain ⟨xw, hxw⟩ : ∃ t, x.1.wt = t := ⟨_, rfl⟩
      obtain ⟨xs, hxs⟩ : ∃ t, x.1.sy = t := ⟨_, rfl⟩
      obtain ⟨xp, hxp⟩ : ∃ t, x.2 = t := ⟨_, rfl⟩
      obtain ⟨yw, hyw⟩ : ∃ t, y.1.wt = t := ⟨_, rfl⟩
      obtain ⟨ys, hys⟩ : ∃ t, y.1.sy = t := ⟨_, rfl⟩
      obtain ⟨yp, hyp⟩ : ∃ t, y.2 = t := ⟨_, rfl⟩
      rw [hxw] at x1' hwx hs1
      rw [hxs] at x2' hs1
      rw [hxp] at x3' hs1
      rw [hyw] at y1' hwy hs1
      rw [hys] at y2' hs1
      rw [hyp] at y3' hs1
      have un : u < n := by omega
      have vn : v < n := by omega
      have hsz := hb.size
      have q4 : k * 6 + 3 + 1 = k * 6 + 4 := rfl
      have q5 : k * 6 + 3 + 2 = k * 6 + 5 := rfl
      rw [q4, q5] at hs1
      rw [q4] at c5 f5
      rw [q5] at c6 f6
      have hsum : (x.1.pk y.1).wt = xw + yw := by simp only [Th.wt]; rw [hxw, hyw]
      have hsy : (x.1.pk y.1).sy = 0 := rfl
      have hs2' := hq.set k (.pk x.1 y.1, some ⟨W.heap.size, k * 6, none⟩)
      obtain ⟨W6, hW6⟩ : ∃ w6, ((((((wr.setCell ⟨W.heap.size, k * 6, none⟩ (.int .u64 xw)).setCell ⟨W.heap.size, k * 6 + 1, none⟩ (.int .i64 xs)).setCell ⟨W.heap.size, k * 6 + 2, none⟩ (.pointer xp)).setCell ⟨W.heap.size, k * 6 + 3, none⟩ (.int .u64 yw)).setCell ⟨W.heap.size, k * 6 + 4, none⟩ (.int .i64 ys)).setCell ⟨W.heap.size, k * 6 + 5, none⟩ (.pointer yp)) = w6 := ⟨_, rfl⟩
      rw [hW6] at hs1
      have hb6 : Below W.heap.size W W6 := by
        rw [← hW6]
        exact (((((hb.setCell (Nat.le_refl _) _).setCell (Nat.le_refl _) _).setCell (Nat.le_refl _) _).setCell (Nat.le_refl _) _).setCell (Nat.le_refl _) _).setCell (Nat.le_refl _) _
      have hq6 : TRow W6 (W.heap.size + 1) 50 np (pkX W.heap.size R k) := by
        rw [← hW6]
        exact (((((hq.other (by simp) _).other (by simp) _).other (by simp) _).other (by simp) _).other (by simp) _).other (by simp) _
      obtain ⟨d1', d2', d3'⟩ := hq6.cells (show k < np by omega)
      have f7' := hq6.frozen (k * 3)
      have f8' := hq6.frozen (k * 3 + 1)
      have f9' := hq6.frozen (k * 3 + 2)
      have z1 : W6.cell? ⟨b, o + u * 3, none⟩ = some (.int .u64 xw) := (hb6.cell hbs).trans ((hb.cell hbs).symm.trans x1')
      have z2 : W6.cell? ⟨b, o + v * 3, none⟩ = some (.int .u64 yw) := (hb6.cell hbs).trans ((hb.cell hbs).symm.trans y1')
      have hs7 := hq6.set k (.pk x.1 y.1, some ⟨W.heap.size, k * 6, none⟩)
      rw [show ((Th.pk x.1 y.1, some (⟨W.heap.size, k * 6, none⟩ : Addr)) : Tp).1.wt = xw + yw from hsum, show ((Th.pk x.1 y.1, some (⟨W.heap.size, k * 6, none⟩ : Addr)) : Tp).1.sy = 0 from rfl] at hs7
      have HS7 := Lib.hid (hs7.congr (Y := pkX W.heap.size R (k + 1)) (fun i _ => by
        unfold pkX
        by_cases q : i = k
        · subst q; rw [if_pos rfl, if_pos (by omega), hu, hv, gx, gy]
        · rw [if_neg q]
          by_cases q2 : i < k
          · rw [if_pos q2, if_pos (by omega)]
          · rw [if_neg q2, if_neg (by omega)]))
      have HP7 := Lib.hid ((hs1.other (a := ⟨W.heap.size + 1, k * 3, none⟩) (by simp) (.int .u64 ((xw + yw : Nat) : Int))).other (a := ⟨W.heap.size + 1, k * 3 + 1, none⟩) (by simp) (.int .i64 ((0 : Nat) : Int)) |>.other (a := ⟨W.heap.size + 1, k * 3 + 2, none⟩) (by simp) (.pointer (some ⟨W.heap.size, k * 6, none⟩)) |>.congr (Y := prX R (k + 1)) (fun i _ => by
        unfold prX
        by_cases q : i = 2 * k + 1
        · rw [if_pos q, if_pos (by omega), q, hu, hv, gy]
        · rw [if_neg q]
          by_cases q2 : i = 2 * k
          · rw [if_pos q2, if_pos (by omega), q2, hu, gx]
          · rw [if_neg q2]
            by_cases q3 : i < 2 * k
            · rw [if_pos q3, if_pos (by omega)]
            · rw [if_neg q3, if_neg (by omega)]))
      have HB7 := Lib.hid (((hb6.setCell (p := ⟨W.heap.size + 1, k * 3, none⟩) (by simp) (.int .u64 ((xw + yw : Nat) : Int))).setCell (p := ⟨W.heap.size + 1, k * 3 + 1, none⟩) (by simp) (.int .i64 ((0 : Nat) : Int))).setCell (p := ⟨W.heap.size + 1, k * 3 + 2, none⟩) (by simp) (.pointer (some ⟨W.heap.size, k * 6, none⟩)))
      have w9 : IntKind.u64.wrap ((xw : Int) + (yw : Int)) = ((xw + yw : Nat) : Int) := by rw [IntKind.wrap_u64]; omega
      have HU := Lib.hid hu
      have HV := Lib.hid hv
      have HW6 := Lib.hid hW6
      clear hs1 hs2 hs2' hs7 hq6 hb6 hp hq hb hsum hsy hu hv gx gy hxw hxs hxp hyw hys hyp hRn hnp q4 q5 hW6 hlt
      have hlt : k < np := by omega
      go_wp2_with fail
      go_region
      rw [HW6.out]
      clear c1 c2 c3 c4 c5 c6 d1 d2 d3 f1 f2 f3 f4 f5 f6 f7 f8 f9 x1' x2' x3' y1' y2' y3' hsz
      go_wp2_with fail
      go_region
      go_wp2_with fail
      go_roundw
      case rel => exact ⟨k + 1, by omega, by go_num, HP7.out.drew, HS7.out.drew, HB7.out.drew.drew⟩
      case measure => simp [intOf]; omega
    · obtain rfl : k = np := by omega
      have HQ := Lib.hid hq
      have HPP := Lib.hid hp
      have HBB := Lib.hid hb
      clear hp hq hb
      go_wp2_with fail
      go_ret
      have hq := HQ.out
      have hp := HPP.out
      have hR := HL.out
      have hnp := HP.out
      have hlen : (pkt W.heap.size R).length = k := by rw [pkt_length]; omega
      rw [hnp]
      refine ⟨_, W.heap.size, rfl, ⟨fun _ => ⟨_, 0, rfl, hq.lt, hq.trs _ (by omega) (fun i x hx => ?_)⟩, fun x hx => ?_⟩, HBB.out⟩
      · have hi := (List.getElem?_eq_some_iff.1 hx).1
        rw [hlen] at hi
        rw [pkt_at _ _ (by omega)] at hx
        unfold pkX; rw [if_pos hi]; exact Option.some.inj hx
      · obtain ⟨i, hi, rfl⟩ := List.getElem_of_mem hx
        have hi' := hi
        rw [hlen] at hi'
        have e := pkt_at W.heap.size R (i := i) (by omega)
        rw [List.getElem?_eq_getElem hi] at e
        rw [Option.some.inj e]
        have l1 : 2 * i < R.length := by omega
        have l2 : 2 * i + 1 < R.length := by omega
        obtain ⟨a1, a2, a3⟩ := hp.cells (show 2 * i < 2 * k by omega)
        obtain ⟨b1, b2, b3⟩ := hp.cells (show 2 * i + 1 < 2 * k by omega)
        unfold prX at a1 a2 a3 b1 b2 b3
        rw [if_pos (by omega)] at a1 a2 a3 b1 b2 b3
        rw [show 2 * i * 3 = i * 6 by omega] at a1 a2 a3
        rw [show (2 * i + 1) * 3 = i * 6 + 3 by omega] at b1 b2 b3
        have m1 : R.getD (2 * i) tp0 ∈ R := by rw [List.getD, List.getElem?_eq_getElem l1]; exact List.getElem_mem l1
        have m2 : R.getD (2 * i + 1) tp0 ∈ R := by rw [List.getD, List.getElem?_eq_getElem l2]; exact List.getElem_mem l2
        exact ⟨_, _, _, _, rfl, HB.out, hp.lt, ⟨a1, a2, a3⟩, ⟨b1, b2, b3⟩, (HA.out.2 _ m1).below HBB.out, (HA.out.2 _ m2).below HBB.out⟩
end Go.Proofs.Yteicamfelamfhaa
