/- What the document's leaf and both of layer 6 answer. Conditions: as each theorem names them. -/
import Derived.Test.YteicamfelamfhaaPkG
import Derived.BigRegion
namespace Go.Proofs.Yteicamfelamfhaa
open Go.RowKit M
set_option linter.unusedVariables false

def two (a b : Value) (i : Nat) : Value := if i = 0 then a else b
/-- Block g holds a thing: its weight, its row of bytes. -/
def R2 (w : World) (g : Nat) (a b : Value) : Prop := w.rowIs g 56 2 (two a b)
section
variable {w w' : World} {g : Nat} {a b : Value}
theorem R2.new (w : World) (a b : Value) : R2 (w.alloc (.cells #[a, b] 56)) w.heap.size a b := ⟨#[a, b], heap_alloc_new _ _, rfl, fun i hi => by
  match i, hi with
  | 0, _ => rfl
  | 1, _ => rfl⟩
theorem R2.alloc (h : R2 w g a b) (o : Obj) : R2 (w.alloc o) g a b := World.rowIs.alloc h o
theorem R2.drew (h : R2 w g a b) : R2 w.drew g a b := h
theorem R2.other (h : R2 w g a b) {x : Addr} (hx : g ≠ x.block) (u : Value) : R2 (w.setCell x u) g a b := World.rowIs.setOther h hx u
theorem R2.at0 (h : R2 w g a b) : w.cell? ⟨g, 0, none⟩ = some a := World.rowIs.cell h (i := 0) (by omega)
theorem R2.at1 (h : R2 w g a b) : w.cell? ⟨g, 1, none⟩ = some b := World.rowIs.cell h (i := 1) (by omega)
theorem R2.frozen (h : R2 w g a b) (i : Nat) : w.frozen? ⟨g, i, none⟩ = false := World.rowIs.frozen h i
theorem R2.put (h : R2 w g a b) (c d : Value) : R2 ((w.setCell ⟨g, 0, none⟩ c).setCell ⟨g, 1, none⟩ d) g c d :=
  World.rowIs.congr (World.rowIs.set (World.rowIs.set h 0 c) 1 d) (fun j hj => by
    match j, hj with
    | 0, _ => rfl
    | 1, _ => rfl)
theorem R2.row (h : R2 w g a b) : w.heap[g]? = some (.cells #[a, b] 56 (0, 0)) := by
  obtain ⟨c, h1, h2, h3⟩ := h
  have : c = #[a, b] := by
    apply Array.ext_getElem?
    intro i
    match i with
    | 0 => exact h3 0 (by omega)
    | 1 => exact h3 1 (by omega)
    | i + 2 => rw [Array.getElem?_eq_none (by omega), Array.getElem?_eq_none (by simp)]
  rw [h1, this]
end
theorem thing2Size : (Try.prog.info? 56).map (fun i => i.size) = some 2 := by kernel_rfl
theorem thing2Info : (Try.prog.info? 56).map (fun i => (i.zero, i.size, i.bytes)) = some (some (.agg #[.int .i64 0, .slice none 0 0]), 2, 32) := by kernel_rfl

set_option maxHeartbeats 1000000 in
theorem rleaf_any (x k n : Nat) (W : World) (hn : n ≤ 320) (hk : k < n) :
    Calls Try.prog 22 #[.int .i64 x, .int .i64 k, .int .i64 n] W fun e w' => ∃ g, e = .returned (.agg #[.int .i64 x, .slice (some ⟨g, 0, none⟩) n n]) ∧ W.heap.size ≤ g ∧ Br w' g n (fun j => if j = k then 1 else 0) ∧ Below W.heap.size W w' := by
  have hmk := fun w => madeByte w n (by omega)
  have mg : (madeCells #[Value.int .u8 0] n)[k]? = some (.int .u8 0) := by simp [madeCells, hk, Nat.mod_one]
  have HB := Lib.hid (Br.made1 (W.alloc (.cells #[.int .i64 x, .slice (some ⟨W.heap.size + 1, 0, none⟩) n n] 56)) n k hk)
  have HR := Lib.hid (R2.new W (.int .i64 x) (.slice (some ⟨W.heap.size + 1, 0, none⟩) n n))
  go_enter Try.func22, Try.ntmps22
  go_wp2_with fail
  refine bodyPost_ret (v := .agg #[.int .i64 x, .slice (some ⟨W.heap.size + 1, 0, none⟩) n n]) (results_cell_row rfl _ _ W.heap.size _ _ _ _ rfl ((HR.out.alloc _).alloc _).row Try.underlying56 rfl thing2Size) rfl ⟨_, rfl, by omega, ?_, ?_⟩
  · have h := HB.out
    rw [show (W.alloc (.cells #[.int .i64 x, .slice (some ⟨W.heap.size + 1, 0, none⟩) n n] 56)).heap.size = W.heap.size + 1 by simp] at h
    exact h.alloc _
  · exact (((Below.refl _ _).alloc (Nat.le_refl _) _).alloc (by simp) _).alloc (by simp; omega) _

set_option maxHeartbeats 1000000 in
theorem rboth_any (x y ga gb n : Nat) (f h : Nat → Nat) (W : World) (hn : n ≤ 320) (hx : x ≤ 1125899906842624) (hy : y ≤ 1125899906842624) (H1 : Br W ga n f) (H2 : Br W gb n h) :
    Calls Try.prog 34 #[.agg #[.int .i64 x, .slice (some ⟨ga, 0, none⟩) n n], .agg #[.int .i64 y, .slice (some ⟨gb, 0, none⟩) n n]] W fun e w' => ∃ g, e = .returned (.agg #[.int .i64 ((x + y : Nat) : Int), .slice (some ⟨g, 0, none⟩) n n]) ∧ W.heap.size ≤ g ∧ Br w' g n (fun j => (f j + h j) % 256) ∧ Below W.heap.size W w' := by
  have hmk := fun w => madeByte w n (by omega)
  have B1 := Lib.hid H1
  have B2 := Lib.hid H2
  have hxy : ((x + y : Nat) : Int) = (x : Int) + (y : Int) := by omega
  clear H1 H2
  go_enter Try.func34, Try.ntmps34
  go_wp2_with fail
  go_region
  all_goals go_wp2_with fail
  all_goals clear hmk
  · go_loopw [6] (fun v wr => ∃ i : Nat, v = .int .i64 i ∧ i ≤ n ∧ R2 wr W.heap.size (.int .i64 x) (.slice (some ⟨ga, 0, none⟩) n n) ∧ R2 wr (W.heap.size + 1) (.int .i64 y) (.slice (some ⟨gb, 0, none⟩) n n) ∧ R2 wr (W.heap.size + 1 + 1) (.int .i64 0) (.slice none 0 0)
      ∧ R2 wr (W.heap.size + 1 + 1 + 1 + 1) (.int .i64 ((x : Int) + (y : Int))) (.slice (some ⟨W.heap.size + 1 + 1 + 1, 0, none⟩) n n) ∧ Br wr (W.heap.size + 1 + 1 + 1) n (fun j => if j < i then (f j + h j) % 256 else 0) ∧ Below W.heap.size W wr) (fun v _ => n - (intOf v).toNat)
    case atStart =>
      refine ⟨0, rfl, Nat.zero_le _, ?_, ?_, ?_, ?_, ?_, ?_⟩
      · exact ((((R2.new W _ _).alloc _).alloc _).alloc _).alloc _
      · have q := R2.new (W.alloc (.cells #[.int .i64 x, .slice (some ⟨ga, 0, none⟩) n n] 56)) (.int .i64 y) (.slice (some ⟨gb, 0, none⟩) n n)
        rw [show (W.alloc (.cells #[.int .i64 x, .slice (some ⟨ga, 0, none⟩) n n] 56)).heap.size = W.heap.size + 1 by simp] at q
        exact ((q.alloc _).alloc _).alloc _
      · have q := R2.new ((W.alloc (.cells #[.int .i64 x, .slice (some ⟨ga, 0, none⟩) n n] 56)).alloc (.cells #[.int .i64 y, .slice (some ⟨gb, 0, none⟩) n n] 56)) (.int .i64 0) (.slice none 0 0)
        rw [show ((W.alloc (.cells #[.int .i64 x, .slice (some ⟨ga, 0, none⟩) n n] 56)).alloc (.cells #[.int .i64 y, .slice (some ⟨gb, 0, none⟩) n n] 56)).heap.size = W.heap.size + 1 + 1 by simp] at q
        exact (q.alloc _).alloc _
      · have q := R2.new ((((W.alloc (.cells #[.int .i64 x, .slice (some ⟨ga, 0, none⟩) n n] 56)).alloc (.cells #[.int .i64 y, .slice (some ⟨gb, 0, none⟩) n n] 56)).alloc (.cells #[.int .i64 0, .slice none 0 0] 56)).alloc (.cells (madeCells #[.int .u8 0] n) 5)) (.int .i64 ((x : Int) + (y : Int))) (.slice (some ⟨W.heap.size + 1 + 1 + 1, 0, none⟩) n n)
        rw [show ((((W.alloc (.cells #[.int .i64 x, .slice (some ⟨ga, 0, none⟩) n n] 56)).alloc (.cells #[.int .i64 y, .slice (some ⟨gb, 0, none⟩) n n] 56)).alloc (.cells #[.int .i64 0, .slice none 0 0] 56)).alloc (.cells (madeCells #[.int .u8 0] n) 5)).heap.size = W.heap.size + 1 + 1 + 1 + 1 by simp] at q
        exact q
      · have q := Br.made' (((W.alloc (.cells #[.int .i64 x, .slice (some ⟨ga, 0, none⟩) n n] 56)).alloc (.cells #[.int .i64 y, .slice (some ⟨gb, 0, none⟩) n n] 56)).alloc (.cells #[.int .i64 0, .slice none 0 0] 56)) n
        rw [show (((W.alloc (.cells #[.int .i64 x, .slice (some ⟨ga, 0, none⟩) n n] 56)).alloc (.cells #[.int .i64 y, .slice (some ⟨gb, 0, none⟩) n n] 56)).alloc (.cells #[.int .i64 0, .slice none 0 0] 56)).heap.size = W.heap.size + 1 + 1 + 1 by simp] at q
        exact (q.alloc _).congr (fun i _ => by rw [if_neg (by omega)])
      · exact (((((Below.refl _ _).alloc (Nat.le_refl _) _).alloc (by simp) _).alloc (by simp; omega) _).alloc (by simp; omega) _).alloc (by simp; omega) _ |>.drew
    case round =>
      obtain ⟨i, rfl, hi, r1, r2, r3, r4, hb, hw⟩ := hrel
      have p0 := r1.at1
      have p1 := r2.at1
      have p2 := r4.at1
      by_cases hlt : i < n
      · have c1 := (B1.out.below hw B1.out.lt).cell hlt
        have c2 := (B2.out.below hw B2.out.lt).cell hlt
        have c3 := hb.cell hlt
        have f3 := hb.frozen i
        obtain ⟨u, hu⟩ : ∃ u, f i = u := ⟨_, rfl⟩
        obtain ⟨v, hv⟩ : ∃ v, h i = v := ⟨_, rfl⟩
        rw [hu] at c1
        rw [hv] at c2
        have HB := (hb.set i ((u + v) % 256)).congr (f' := fun j => if j < i + 1 then (f j + h j) % 256 else 0) (fun j _ => by
          by_cases e : j = i
          · rw [if_pos e, if_pos (by omega), e, hu, hv]
          · rw [if_neg e]
            by_cases q : j < i
            · rw [if_pos q, if_pos (by omega)]
            · rw [if_neg q, if_neg (by omega)])
        have e8 : (((u + v) % 256 : Nat) : Int) = ((u : Int) + (v : Int)) % 256 := by omega
        have HR1 := Lib.hid (r1.other (x := ⟨W.heap.size + 1 + 1 + 1, i, none⟩) (show W.heap.size ≠ W.heap.size + 1 + 1 + 1 by omega) (.int .u8 (((u + v) % 256 : Nat) : Int)))
        have HR2 := Lib.hid (r2.other (x := ⟨W.heap.size + 1 + 1 + 1, i, none⟩) (show W.heap.size + 1 ≠ W.heap.size + 1 + 1 + 1 by omega) (.int .u8 (((u + v) % 256 : Nat) : Int)))
        have HR3 := Lib.hid (r3.other (x := ⟨W.heap.size + 1 + 1 + 1, i, none⟩) (show W.heap.size + 1 + 1 ≠ W.heap.size + 1 + 1 + 1 by omega) (.int .u8 (((u + v) % 256 : Nat) : Int)))
        have HR4 := Lib.hid (r4.other (x := ⟨W.heap.size + 1 + 1 + 1, i, none⟩) (show W.heap.size + 1 + 1 + 1 + 1 ≠ W.heap.size + 1 + 1 + 1 by omega) (.int .u8 (((u + v) % 256 : Nat) : Int)))
        have HW := Lib.hid (hw.setCell (p := ⟨W.heap.size + 1 + 1 + 1, i, none⟩) (show W.heap.size ≤ W.heap.size + 1 + 1 + 1 by omega) (.int .u8 (((u + v) % 256 : Nat) : Int)))
        have HBB := Lib.hid HB
        rw [e8] at HR1 HR2 HR3 HR4 HW HBB
        clear HB e8 hu hv r1 r2 r3 r4 hb hw
        go_wp2_with fail
        go_region
        go_wp2_with fail
        go_roundw
        case rel => exact ⟨i + 1, by go_num, by omega, HR1.out.drew, HR2.out.drew, HR3.out.drew, HR4.out.drew, HBB.out.drew, HW.out.drew⟩
        case measure => simp [intOf]; omega
      · obtain rfl : i = n := by omega
        have p3 := r4.at0
        have q0 := r3.at0
        have q1 := r3.at1
        have g0 := r3.frozen 0
        have g1 := r3.frozen 1
        have HR := Lib.hid (r3.put (.int .i64 ((x : Int) + (y : Int))) (.slice (some ⟨W.heap.size + 1 + 1 + 1, 0, none⟩) i i))
        have HB := Lib.hid (((hb.other (a := ⟨W.heap.size + 1 + 1, 0, none⟩) (show W.heap.size + 1 + 1 + 1 ≠ W.heap.size + 1 + 1 by omega) (.int .i64 ((x : Int) + (y : Int)))).other (a := ⟨W.heap.size + 1 + 1, 1, none⟩) (show W.heap.size + 1 + 1 + 1 ≠ W.heap.size + 1 + 1 by omega) (.slice (some ⟨W.heap.size + 1 + 1 + 1, 0, none⟩) i i)).congr (f' := fun j => (f j + h j) % 256) (fun j hj => by rw [if_pos hj]))
        have HW := Lib.hid ((hw.setCell (p := ⟨W.heap.size + 1 + 1, 0, none⟩) (show W.heap.size ≤ W.heap.size + 1 + 1 by omega) (.int .i64 ((x : Int) + (y : Int)))).setCell (p := ⟨W.heap.size + 1 + 1, 1, none⟩) (show W.heap.size ≤ W.heap.size + 1 + 1 by omega) (.slice (some ⟨W.heap.size + 1 + 1 + 1, 0, none⟩) i i))
        clear r1 r2 r3 r4 hb hw
        go_wp2_with fail
        refine bodyPost_ret (v := .agg #[.int .i64 ((x : Int) + (y : Int)), .slice (some ⟨W.heap.size + 1 + 1 + 1, 0, none⟩) i i]) (results_cell_row rfl _ _ (W.heap.size + 1 + 1) _ _ _ _ rfl HR.out.row Try.underlying56 rfl thing2Size) rfl ⟨_, by rw [hxy], by omega, HB.out, HW.out⟩
  · go_loopw [6] (fun v wr => ∃ i : Nat, v = .int .i64 i ∧ i ≤ n ∧ R2 wr W.heap.size (.int .i64 x) (.slice (some ⟨ga, 0, none⟩) n n) ∧ R2 wr (W.heap.size + 1) (.int .i64 y) (.slice (some ⟨gb, 0, none⟩) n n) ∧ R2 wr (W.heap.size + 1 + 1) (.int .i64 0) (.slice none 0 0)
      ∧ R2 wr (W.heap.size + 1 + 1 + 1) (.int .i64 ((x : Int) + (y : Int))) (.slice (some ⟨W.heap.size + 1 + 1 + 1 + 1, 0, none⟩) n n) ∧ Br wr (W.heap.size + 1 + 1 + 1 + 1) n (fun j => if j < i then (f j + h j) % 256 else 0) ∧ Below W.heap.size W wr) (fun v _ => n - (intOf v).toNat)
    case atStart =>
      refine ⟨0, rfl, Nat.zero_le _, ?_, ?_, ?_, ?_, ?_, ?_⟩
      · exact ((((R2.new W _ _).alloc _).alloc _).alloc _).alloc _
      · have q := R2.new (W.alloc (.cells #[.int .i64 x, .slice (some ⟨ga, 0, none⟩) n n] 56)) (.int .i64 y) (.slice (some ⟨gb, 0, none⟩) n n)
        rw [show (W.alloc (.cells #[.int .i64 x, .slice (some ⟨ga, 0, none⟩) n n] 56)).heap.size = W.heap.size + 1 by simp] at q
        exact ((q.alloc _).alloc _).alloc _
      · have q := R2.new ((W.alloc (.cells #[.int .i64 x, .slice (some ⟨ga, 0, none⟩) n n] 56)).alloc (.cells #[.int .i64 y, .slice (some ⟨gb, 0, none⟩) n n] 56)) (.int .i64 0) (.slice none 0 0)
        rw [show ((W.alloc (.cells #[.int .i64 x, .slice (some ⟨ga, 0, none⟩) n n] 56)).alloc (.cells #[.int .i64 y, .slice (some ⟨gb, 0, none⟩) n n] 56)).heap.size = W.heap.size + 1 + 1 by simp] at q
        exact (q.alloc _).alloc _
      · have q := R2.new (((W.alloc (.cells #[.int .i64 x, .slice (some ⟨ga, 0, none⟩) n n] 56)).alloc (.cells #[.int .i64 y, .slice (some ⟨gb, 0, none⟩) n n] 56)).alloc (.cells #[.int .i64 0, .slice none 0 0] 56)) (.int .i64 ((x : Int) + (y : Int))) (.slice (some ⟨W.heap.size + 1 + 1 + 1 + 1, 0, none⟩) n n)
        rw [show (((W.alloc (.cells #[.int .i64 x, .slice (some ⟨ga, 0, none⟩) n n] 56)).alloc (.cells #[.int .i64 y, .slice (some ⟨gb, 0, none⟩) n n] 56)).alloc (.cells #[.int .i64 0, .slice none 0 0] 56)).heap.size = W.heap.size + 1 + 1 + 1 by simp] at q
        exact q.alloc _
      · have q := Br.made' ((((W.alloc (.cells #[.int .i64 x, .slice (some ⟨ga, 0, none⟩) n n] 56)).alloc (.cells #[.int .i64 y, .slice (some ⟨gb, 0, none⟩) n n] 56)).alloc (.cells #[.int .i64 0, .slice none 0 0] 56)).alloc (.cells #[.int .i64 ((x : Int) + (y : Int)), .slice (some ⟨W.heap.size + 1 + 1 + 1 + 1, 0, none⟩) n n] 56)) n
        rw [show ((((W.alloc (.cells #[.int .i64 x, .slice (some ⟨ga, 0, none⟩) n n] 56)).alloc (.cells #[.int .i64 y, .slice (some ⟨gb, 0, none⟩) n n] 56)).alloc (.cells #[.int .i64 0, .slice none 0 0] 56)).alloc (.cells #[.int .i64 ((x : Int) + (y : Int)), .slice (some ⟨W.heap.size + 1 + 1 + 1 + 1, 0, none⟩) n n] 56)).heap.size = W.heap.size + 1 + 1 + 1 + 1 by simp] at q
        exact q.congr (fun i _ => by rw [if_neg (by omega)])
      · exact (((((Below.refl _ _).alloc (Nat.le_refl _) _).alloc (by simp) _).alloc (by simp; omega) _).alloc (by simp; omega) _).alloc (by simp; omega) _ |>.drew
    case round =>
      obtain ⟨i, rfl, hi, r1, r2, r3, r4, hb, hw⟩ := hrel
      have p0 := r1.at1
      have p1 := r2.at1
      have p2 := r4.at1
      by_cases hlt : i < n
      · have c1 := (B1.out.below hw B1.out.lt).cell hlt
        have c2 := (B2.out.below hw B2.out.lt).cell hlt
        have c3 := hb.cell hlt
        have f3 := hb.frozen i
        obtain ⟨u, hu⟩ : ∃ u, f i = u := ⟨_, rfl⟩
        obtain ⟨v, hv⟩ : ∃ v, h i = v := ⟨_, rfl⟩
        rw [hu] at c1
        rw [hv] at c2
        have HB := (hb.set i ((u + v) % 256)).congr (f' := fun j => if j < i + 1 then (f j + h j) % 256 else 0) (fun j _ => by
          by_cases e : j = i
          · rw [if_pos e, if_pos (by omega), e, hu, hv]
          · rw [if_neg e]
            by_cases q : j < i
            · rw [if_pos q, if_pos (by omega)]
            · rw [if_neg q, if_neg (by omega)])
        have e8 : (((u + v) % 256 : Nat) : Int) = ((u : Int) + (v : Int)) % 256 := by omega
        have HR1 := Lib.hid (r1.other (x := ⟨W.heap.size + 1 + 1 + 1 + 1, i, none⟩) (show W.heap.size ≠ W.heap.size + 1 + 1 + 1 + 1 by omega) (.int .u8 (((u + v) % 256 : Nat) : Int)))
        have HR2 := Lib.hid (r2.other (x := ⟨W.heap.size + 1 + 1 + 1 + 1, i, none⟩) (show W.heap.size + 1 ≠ W.heap.size + 1 + 1 + 1 + 1 by omega) (.int .u8 (((u + v) % 256 : Nat) : Int)))
        have HR3 := Lib.hid (r3.other (x := ⟨W.heap.size + 1 + 1 + 1 + 1, i, none⟩) (show W.heap.size + 1 + 1 ≠ W.heap.size + 1 + 1 + 1 + 1 by omega) (.int .u8 (((u + v) % 256 : Nat) : Int)))
        have HR4 := Lib.hid (r4.other (x := ⟨W.heap.size + 1 + 1 + 1 + 1, i, none⟩) (show W.heap.size + 1 + 1 + 1 ≠ W.heap.size + 1 + 1 + 1 + 1 by omega) (.int .u8 (((u + v) % 256 : Nat) : Int)))
        have HW := Lib.hid (hw.setCell (p := ⟨W.heap.size + 1 + 1 + 1 + 1, i, none⟩) (show W.heap.size ≤ W.heap.size + 1 + 1 + 1 + 1 by omega) (.int .u8 (((u + v) % 256 : Nat) : Int)))
        have HBB := Lib.hid HB
        rw [e8] at HR1 HR2 HR3 HR4 HW HBB
        clear HB e8 hu hv r1 r2 r3 r4 hb hw
        go_wp2_with fail
        go_region
        go_wp2_with fail
        go_roundw
        case rel => exact ⟨i + 1, by go_num, by omega, HR1.out.drew, HR2.out.drew, HR3.out.drew, HR4.out.drew, HBB.out.drew, HW.out.drew⟩
        case measure => simp [intOf]; omega
      · obtain rfl : i = n := by omega
        have p3 := r4.at0
        have q0 := r3.at0
        have q1 := r3.at1
        have g0 := r3.frozen 0
        have g1 := r3.frozen 1
        have HR := Lib.hid (r3.put (.int .i64 ((x : Int) + (y : Int))) (.slice (some ⟨W.heap.size + 1 + 1 + 1 + 1, 0, none⟩) i i))
        have HB := Lib.hid (((hb.other (a := ⟨W.heap.size + 1 + 1, 0, none⟩) (show W.heap.size + 1 + 1 + 1 + 1 ≠ W.heap.size + 1 + 1 by omega) (.int .i64 ((x : Int) + (y : Int)))).other (a := ⟨W.heap.size + 1 + 1, 1, none⟩) (show W.heap.size + 1 + 1 + 1 + 1 ≠ W.heap.size + 1 + 1 by omega) (.slice (some ⟨W.heap.size + 1 + 1 + 1 + 1, 0, none⟩) i i)).congr (f' := fun j => (f j + h j) % 256) (fun j hj => by rw [if_pos hj]))
        have HW := Lib.hid ((hw.setCell (p := ⟨W.heap.size + 1 + 1, 0, none⟩) (show W.heap.size ≤ W.heap.size + 1 + 1 by omega) (.int .i64 ((x : Int) + (y : Int)))).setCell (p := ⟨W.heap.size + 1 + 1, 1, none⟩) (show W.heap.size ≤ W.heap.size + 1 + 1 by omega) (.slice (some ⟨W.heap.size + 1 + 1 + 1 + 1, 0, none⟩) i i))
        clear r1 r2 r3 r4 hb hw
        go_wp2_with fail
        refine bodyPost_ret (v := .agg #[.int .i64 ((x : Int) + (y : Int)), .slice (some ⟨W.heap.size + 1 + 1 + 1 + 1, 0, none⟩) i i]) (results_cell_row rfl _ _ (W.heap.size + 1 + 1) _ _ _ _ rfl HR.out.row Try.underlying56 rfl thing2Size) rfl ⟨_, by rw [hxy], by omega, HB.out, HW.out⟩
end Go.Proofs.Yteicamfelamfhaa
