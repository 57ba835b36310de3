/- Rows of cells of tables, and what put of package huff leaves. Conditions: as each theorem names them. -/
import Derived.Test.YtnkkccieidlacaaHfB
namespace Go.Proofs.Ytnkkccieidlacaa
open Go.RowKit M
set_option linter.unusedVariables false

/-- Block b holds n cells, from its head on: F i are their symbols, G i their sizes. -/
def Hrow (w : World) (b n : Nat) (F : Nat → Nat × Nat) : Prop :=
  ∃ c : Array Value, w.heap[b]? = some (.cells c 82 (0, 0)) ∧ c.size = n * 2 ∧ ∀ i, i < n → c[i * 2]? = some (.int .u16 (F i).1) ∧ c[i * 2 + 1]? = some (.int .u8 (F i).2)

section
variable {w w' : World} {b n : Nat} {F F' : Nat → Nat × Nat}
theorem Hrow.lt (h : Hrow w b n F) : b < w.heap.size := by
  obtain ⟨c, hb, _⟩ := h
  rcases Nat.lt_or_ge b w.heap.size with g | g
  · exact g
  · rw [Array.getElem?_eq_none g] at hb; cases hb
theorem Hrow.cell1 (h : Hrow w b n F) {i : Nat} (hi : i < n) : w.cell? ⟨b, i * 2, none⟩ = some (.int .u16 (F i).1) := by
  obtain ⟨c, hb, _, hc⟩ := h
  rw [cell_of_row w b _ c _ _ hb]; exact (hc i hi).1
theorem Hrow.cell2 (h : Hrow w b n F) {i : Nat} (hi : i < n) : w.cell? ⟨b, i * 2 + 1, none⟩ = some (.int .u8 (F i).2) := by
  obtain ⟨c, hb, _, hc⟩ := h
  rw [cell_of_row w b _ c _ _ hb]; exact (hc i hi).2
theorem Hrow.frozen (h : Hrow w b n F) (i : Nat) : w.frozen? ⟨b, i, none⟩ = false := by
  obtain ⟨c, hb, _⟩ := h
  simp [World.frozen?, hb]
theorem Hrow.congr (h : Hrow w b n F) (e1 : ∀ i, i < n → F i = F' i) : Hrow w b n F' := by
  obtain ⟨c, hb, hs, hc⟩ := h
  exact ⟨c, hb, hs, fun i hi => by rw [(hc i hi).1, (hc i hi).2, e1 i hi]; exact ⟨rfl, rfl⟩⟩
theorem Hrow.other (h : Hrow w b n F) {a : Addr} (ha : b ≠ a.block) (v : Value) : Hrow (w.setCell a v) b n F := by
  obtain ⟨c, hb, hs, hc⟩ := h
  exact ⟨c, (Below.heap_setCell w a v b ha).trans hb, hs, hc⟩
theorem Hrow.alloc (h : Hrow w b n F) (o : Obj) : Hrow (w.alloc o) b n F := by
  obtain ⟨c, hb, hs, hc⟩ := id h
  exact ⟨c, (Below.heap_alloc w o b h.lt).trans hb, hs, hc⟩
theorem Hrow.drew (h : Hrow w b n F) : Hrow w.drew b n F := h
theorem Hrow.below (h : Hrow w b n F) {B : Nat} (hb : Below B w w') (hB : b < B) : Hrow w' b n F := by
  obtain ⟨c, h1, hs, hc⟩ := h
  exact ⟨c, (hb.block b hB).trans h1, hs, hc⟩
/-- a block that is not written stays -/
theorem Hrow.at' (h : Hrow w b n F) (e : w'.heap[b]? = w.heap[b]?) : Hrow w' b n F := by
  obtain ⟨c, h1, hs, hc⟩ := h
  exact ⟨c, e.trans h1, hs, hc⟩
/-- a cell is stored -/
theorem Hrow.set (h : Hrow w b n F) (i x y : Nat) : Hrow ((w.setCell ⟨b, i * 2, none⟩ (.int .u16 x)).setCell ⟨b, i * 2 + 1, none⟩ (.int .u8 y)) b n (fun j => if j = i then (x, y) else F j) := by
  obtain ⟨c, hb, hs, hc⟩ := h
  refine ⟨(c.setIfInBounds (i * 2) (.int .u16 x)).setIfInBounds (i * 2 + 1) (.int .u8 y), ?_, by simp [hs], fun j hj => ?_⟩
  · simp [World.setCell, Array.getElem?_modify, hb]
  · obtain ⟨h1, h2⟩ := hc j hj
    by_cases e : j = i
    · subst e
      have l1 : j * 2 < c.size := by omega
      have l2 : j * 2 + 1 < c.size := by omega
      constructor
      · rw [Array.getElem?_setIfInBounds, if_neg (by omega), Array.getElem?_setIfInBounds, if_pos rfl, if_pos l1]; simp
      · rw [Array.getElem?_setIfInBounds, if_pos rfl, if_pos (by simpa using l2)]; simp
    · constructor
      · rw [Array.getElem?_setIfInBounds, if_neg (by omega), Array.getElem?_setIfInBounds, if_neg (by omega), h1]; simp [e]
      · rw [Array.getElem?_setIfInBounds, if_neg (by omega), Array.getElem?_setIfInBounds, if_neg (by omega), h2]; simp [e]
theorem Hrow.made (w : World) (n : Nat) : Hrow (w.alloc (.cells (madeCells #[.int .u16 0, .int .u8 0] (n * 2)) 82)) w.heap.size n (fun _ => (0, 0)) := by
  refine ⟨_, heap_alloc_new w _, size_madeCells _ _, fun i hi => ?_⟩
  have h1 : i * 2 < n * 2 := by omega
  have h2 : i * 2 + 1 < n * 2 := by omega
  have m1 : i * 2 % 2 = 0 := by omega
  have m2 : (i * 2 + 1) % 2 = 1 := by omega
  constructor
  · simp [madeCells, h1, m1]
  · simp [madeCells, h2, m2]
end
theorem cellInfo : (Try.prog.info? 82).map (fun i => (i.zero, i.size, i.bytes)) = some (some (.agg #[.int .u16 0, .int .u8 0]), 2, 4) := by kernel_rfl
theorem madeCell (w : World) (n : Nat) (hn : n ≤ 32768) :
    (Instr.makeSlice 75 (.int .i64 (n : Int)) (.int .i64 (n : Int))).run Try.prog w = .ok (.slice (some ⟨w.heap.size, 0, none⟩) n n) (w.alloc (.cells (madeCells #[.int .u16 0, .int .u8 0] (n * 2)) 82)) := by
  obtain ⟨i, h1, h2, h3, h4⟩ : ∃ i, Try.prog.info? 82 = some i ∧ i.zero = some (.agg #[.int .u16 0, .int .u8 0]) ∧ i.size = 2 ∧ i.bytes = 4 := by
    have hi := cellInfo
    cases hq : Try.prog.info? 82 with
    | none => rw [hq] at hi; cases hi
    | some i => rw [hq] at hi; simp at hi; exact ⟨i, rfl, hi.1, hi.2.1, hi.2.2⟩
  have hr := run_make (P := Try.prog) w 75 82 i (.agg #[.int .u16 0, .int .u8 0]) Try.underlying75 h1 h2 .i64 .i64 n n (by omega) (Int.le_refl _) (by rw [h4]; omega) (by omega)
  simp only [Int.toNat_natCast] at hr
  rw [h3] at hr
  exact hr

/-- A table at block p under way: its map m; at b, s lies the row in block G b s; the first k codes are in. -/
structure Hp (w : World) (T p m : Nat) (G : Nat → Nat → Nat) (N : Nat) (D : DataW Value) (l : Nat → Nat) (n f k : Nat) : Prop where
  c0 : w.cell? ⟨p, 0, none⟩ = some (.int .i64 f)
  c1 : w.cell? ⟨p, 1, none⟩ = some (.map (some m))
  own : w.ownsMap Try.prog 74 redS m N D
  dic : Dic D datS (fun b s => (sz l n f b s n).map fun z => (G b s, 2 ^ z))
  rows : ∀ b s z, sz l n f b s n = some z → Hrow w (G b s) (2 ^ z) (fun x => cv l n f b s x k)
  one : ∀ b s z b' s' z', sz l n f b s n = some z → sz l n f b' s' n = some z' → G b s = G b' s' → b = b' ∧ s = s'
  apart : ∀ b s z, sz l n f b s n = some z → p ≠ G b s ∧ m ≠ G b s ∧ T ≤ G b s
section
variable {w w' : World} {T p m N n f k : Nat} {G : Nat → Nat → Nat} {D : DataW Value} {l : Nat → Nat}
theorem Hp.below (h : Hp w T p m G N D l n f k) (hb : Below w.heap.size w w') : Hp w' T p m G N D l n f k :=
  ⟨(hb.cell (World.block_lt_of_cell? _ _ h.c0)).trans h.c0, (hb.cell (World.block_lt_of_cell? _ _ h.c1)).trans h.c1, ownsMap_below h.own hb h.own.lt, h.dic, fun b s z e => (h.rows b s z e).below hb (h.rows b s z e).lt, h.one, h.apart⟩
theorem Hp.congr {k' : Nat} (h : Hp w T p m G N D l n f k) (e : ∀ b s x, cv l n f b s x k = cv l n f b s x k') : Hp w T p m G N D l n f k' :=
  ⟨h.c0, h.c1, h.own, h.dic, fun b s z q => (h.rows b s z q).congr (fun i _ => e b s i), h.one, h.apart⟩
end

theorem stride {y i st q : Nat} (hy : y % st = q) (hi : i % st = q) (h1 : ¬ y < i) (h2 : y < i + st) : y = i := by
  have e1 := Nat.div_add_mod y st
  have e2 := Nat.div_add_mod i st
  rw [hy] at e1
  rw [hi] at e2
  have h3 : i / st ≤ y / st := Nat.div_le_div_right (by omega)
  have h4 : y / st < i / st + 1 := by
    apply Classical.byContradiction
    intro g
    have h5 : st * (i / st + 1) ≤ st * (y / st) := Nat.mul_le_mul_left _ (by omega)
    rw [Nat.mul_add, Nat.mul_one] at h5
    omega
  have h6 : i / st = y / st := by omega
  rw [h6] at e2
  omega
theorem cell_more {w : World} {a : Addr} {v : Value} (h : w.cell? a = some v) (o : Obj) : (w.alloc o).cell? a = some v :=
  (World.cell?_of_block (w := w) (Below.heap_alloc w o a.block (World.block_lt_of_cell? _ _ h))).trans h
theorem cell_set {w : World} {a b : Addr} {v : Value} (h : w.cell? a = some v) (hb : a.block ≠ b.block) (u : Value) : (w.setCell b u).cell? a = some v :=
  (World.cell?_of_block (w := w) (Below.heap_setCell w b u a.block hb)).trans h

set_option maxRecDepth 1000000 in
set_option maxHeartbeats 1000000 in
theorem put_ok_any (T p m N n f k : Nat) (G : Nat → Nat → Nat) (D : DataW Value) (l : Nat → Nat) (W : World) (hm : May l n) (h1 : 1 ≤ f) (hf : f ≤ 15) (hk : k < n) (h0 : l k ≠ 0) (H : Hp W T p m G N D l n f k) (hT : T ≤ W.heap.size) :
    Calls Try.prog 31 #[.pointer (some ⟨p, 0, none⟩), .int .i64 k, .agg #[.int .u32 (rc l n k), .int .u8 (l k)]] W fun e w' => e = .returned (.tuple #[]) ∧ Hp w' T p m G N D l n f (k + 1) ∧ Below T W w' := by
  have h15 := hm.2 k hk
  have h320 := hm.1
  have hrc := rc_lt l n k
  have hrs := rc_small (l := l) (n := n) (i := k) h15
  have HA := Lib.hid (fun w => aheadOf_any l n f k w h15 hf)
  have has := ahs_cases l n f k
  have hab := ahb_lt l n f k
  have hab2 : 2 ^ f ≤ 2 ^ 15 := Nat.pow_le_pow_right (by omega) hf
  obtain ⟨x, hx⟩ : ∃ x, rc l n k = x := ⟨_, rfl⟩
  obtain ⟨z, hz⟩ : ∃ z, l k = z := ⟨_, rfl⟩
  obtain ⟨ab, e1⟩ : ∃ ab, ahb l n f k = ab := ⟨_, rfl⟩
  obtain ⟨ag, e2⟩ : ∃ ag, ahs l f k = ag := ⟨_, rfl⟩
  rw [hx, hz, e1, e2] at HA
  rw [e1] at hab
  have has2 : ag ≤ 15 ∧ ag ≤ z := by rw [e2, hz] at has; omega
  obtain ⟨mz, hmz, hge⟩ := sz_ge n hk e1 e2
  have hm15 := sz_le hf n hm.2 mz hmz
  rw [hx, hz]
  rw [hz] at hge h15 hrc h0
  rw [hx] at hrs hrc
  have HH := Lib.hid H
  have hp0 := H.c0
  have hp1 := H.c1
  have RC := Lib.hid (R2.new W 52 (.int .u32 x) (.int .u8 z))
  have B1 := Lib.hid ((Below.refl W.heap.size W).alloc (Nat.le_refl _) (.cells #[.int .u32 x, .int .u8 z] 52))
  have hp0' : (W.alloc (.cells #[.int .u32 x, .int .u8 z] 52)).drew.cell? ⟨p, 0, none⟩ = some (.int .i64 f) := (B1.out.drew.cell (World.block_lt_of_cell? _ _ hp0)).trans hp0
  have hpl : p < W.heap.size := World.block_lt_of_cell? _ _ hp0
  clear H has
  go_enter Try.func31, Try.ntmps31
  go_wp2_with fail
  refine Code.wp_mono (Q := fun e a w' => e = Exit.normal ∧ ∃ r, a = (⟨#[Value.pointer (some ⟨p, 0, none⟩), Value.int .i64 k, Value.agg #[.int .u32 x, .int .u8 z], undef, undef, Value.pointer (some ⟨W.heap.size, 0, none⟩), Value.pointer (some ⟨r, 0, none⟩), undef, undef, undef, Value.agg #[.int .u32 x, .int .u8 z], Value.pointer (some ⟨p, 0, none⟩), Value.pointer (some ⟨p, 0, none⟩), Value.pointer (some ⟨p, 0, none⟩), Value.int .i64 f, Value.agg #[.int .u64 ab, .int .i64 ag], undef, undef, undef, undef, undef, undef, undef, undef, undef, undef, undef, undef, undef, undef, undef, undef, undef, undef, undef, undef, undef, undef, undef, undef, undef, undef, undef, undef, undef, undef, undef, undef, undef, undef], []⟩ : Act) ∧ R2 w' 74 r (.int .u64 ab) (.int .i64 ag) ∧ W.heap.size ≤ r ∧ Below W.heap.size W w' ∧ R2 w' 52 W.heap.size (.int .u32 x) (.int .u8 z)) ?_ ?_
  rotate_left
  · have q0 := RC.out.drew.at0
    have q1 := RC.out.drew.at1
    refine take_region (fun w' => w'.cell? ⟨p, 0, none⟩ = some (.int .i64 f) ∧ w'.cell? ⟨W.heap.size, 0, none⟩ = some (.int .u32 x) ∧ w'.cell? ⟨W.heap.size, 1, none⟩ = some (.int .u8 z)) ⟨hp0', q0, q1⟩ (fun h0 => ?_)
    refine take_op (i := 0) (d := some 10) (v := ?_) rfl rfl (by kernel_rfl) (by kernel_rfl) (by kernel_rfl) (fun _ _ _ h => by cases h.1) (by rfl) (fun w hSw => ?_) h0 ?_; rotate_left; (focus ((try dsimp only at hSw); go_simp; (try with_reducible rfl))); (try simp only [Act.put, List.setIfInBounds_toArray, List.set_cons_zero, List.set_cons_succ])
    refine take_op (i := 1) (d := some 11) (v := ?_) rfl rfl (by kernel_rfl) (by kernel_rfl) (by kernel_rfl) (fun _ _ _ h => by cases h.1) (by rfl) (fun w hSw => ?_) h0 ?_; rotate_left; (focus ((try dsimp only at hSw); go_simp; (try with_reducible rfl))); (try simp only [Act.put, List.setIfInBounds_toArray, List.set_cons_zero, List.set_cons_succ])
    refine take_op (i := 2) (d := some 12) (v := ?_) rfl rfl (by kernel_rfl) (by kernel_rfl) (by kernel_rfl) (fun _ _ _ h => by cases h.1) (by rfl) (fun w hSw => ?_) h0 ?_; rotate_left; (focus ((try dsimp only at hSw); go_simp; (try with_reducible rfl))); (try simp only [Act.put, List.setIfInBounds_toArray, List.set_cons_zero, List.set_cons_succ])
    refine take_op (i := 3) (d := some 13) (v := ?_) rfl rfl (by kernel_rfl) (by kernel_rfl) (by kernel_rfl) (fun _ _ _ h => by cases h.1) (by rfl) (fun w hSw => ?_) h0 ?_; rotate_left; (focus ((try dsimp only at hSw); go_simp; (try with_reducible rfl))); (try simp only [Act.put, List.setIfInBounds_toArray, List.set_cons_zero, List.set_cons_succ])
    refine take_op (i := 4) (d := some 14) (v := ?_) rfl rfl (by kernel_rfl) (by kernel_rfl) (by kernel_rfl) (fun _ _ _ h => by cases h.1) (by rfl) (fun w hSw => ?_) h0 ?_; rotate_left; (focus ((try dsimp only at hSw); go_simp; (try with_reducible rfl))); (try simp only [Act.put, List.setIfInBounds_toArray, List.set_cons_zero, List.set_cons_succ])
    refine wpAnyH_ready (rs := [5, 6]) (by kernel_rfl) (by simp) (AllReadyH.cons rfl (fun K hK => ?_) (AllReadyH.cons rfl (fun K hK => ?_) AllReadyH.nil))
    · go_simp
      refine (HA.out _).mono ?_; rintro e w2 ⟨rfl, b2⟩
      have rc2 := RC.out.drew.below b2 RC.out.drew.lt
      have p2 := (b2.cell (World.block_lt_of_cell? _ _ h0.1)).trans h0.1
      refine hK.out _ _ ⟨p2, rc2.at0, rc2.at1⟩ (fun h1 => ?_)
      clear hK K
      (try simp only [Act.put, List.setIfInBounds_toArray, List.set_cons_zero, List.set_cons_succ])
      refine take_call (i := 6) (by kernel_rfl) rfl (fun K hK => ?_)
      go_simp
      refine hK.out _ _ ⟨cell_more p2 _, (rc2.alloc _).at0, (rc2.alloc _).at1⟩ (fun h2 => ?_)
      clear hK K
      (try simp only [Act.put, List.setIfInBounds_toArray, List.set_cons_zero, List.set_cons_succ])
      refine take_call (i := 7) (by kernel_rfl) rfl (fun K hK => ?_)
      go_simp
      refine hK.out _ _ ⟨cell_more p2 _, (rc2.alloc _).at0, (rc2.alloc _).at1⟩ (fun h3 => ?_)
      clear hK K
      (try simp only [Act.put, List.setIfInBounds_toArray, List.set_cons_zero, List.set_cons_succ])
      refine wpAnyH_done (by kernel_rfl) ?_ _
      have B2 := B1.out.drew.trans (b2.mono B1.out.size)
      exact ⟨rfl, w2.heap.size, rfl, R2.new w2 _ _ _, B2.size, B2.alloc B2.size _, rc2.alloc _⟩
    · go_simp
      have rr := R2.new (W.alloc (.cells #[.int .u32 x, .int .u8 z] 52)).drew 74 (.int .u64 0) (.int .i64 0)
      rw [show (W.alloc (.cells #[.int .u32 x, .int .u8 z] 52)).drew.heap.size = W.heap.size + 1 by simp [World.drew]] at rr
      refine hK.out _ _ ⟨cell_more h0.1 _, (RC.out.drew.alloc _).at0, (RC.out.drew.alloc _).at1⟩ (fun h1 => ?_)
      clear hK K
      (try simp only [Act.put, List.setIfInBounds_toArray, List.set_cons_zero, List.set_cons_succ])
      refine take_call (i := 5) (by kernel_rfl) rfl (fun K hK => ?_)
      go_simp
      refine (HA.out _).mono ?_; rintro e w2 ⟨rfl, b2⟩
      have rc2 := (RC.out.drew.alloc _).below b2 (RC.out.drew.alloc _).lt
      have rr2 := rr.below b2 rr.lt
      have p2 := (b2.cell (World.block_lt_of_cell? _ _ h1.1)).trans h1.1
      have e0 := rr2.at0
      have e9 := rr2.at1
      have f0 := rr2.frozen 0
      have f9 := rr2.frozen 1
      refine hK.out _ _ ⟨p2, rc2.at0, rc2.at1⟩ (fun h2 => ?_)
      clear hK K
      (try simp only [Act.put, List.setIfInBounds_toArray, List.set_cons_zero, List.set_cons_succ])
      refine take_call (i := 7) (by kernel_rfl) rfl (fun K hK => ?_)
      go_simp
      have rc3 := (rc2.other (x := ⟨W.heap.size + 1, 0, none⟩) (by simp) (.int .u64 ab)).other (x := ⟨W.heap.size + 1, 1, none⟩) (by simp) (.int .i64 ag)
      refine hK.out _ _ ⟨cell_set (cell_set p2 (by simp; omega) _) (by simp; omega) _, rc3.at0, rc3.at1⟩ (fun h3 => ?_)
      clear hK K
      (try simp only [Act.put, List.setIfInBounds_toArray, List.set_cons_zero, List.set_cons_succ])
      refine wpAnyH_done (by kernel_rfl) ?_ _
      have B2 := (B1.out.drew.alloc (by simp [World.drew]) _).trans (b2.mono (by simp [World.drew]; omega))
      exact ⟨rfl, W.heap.size + 1, rfl, rr2.put _ _, by omega, (B2.setCell (by simp) _).setCell (by simp) _, rc3⟩
  rintro e a w2 ⟨rfl, r, rfl, RR, hr, b2, rc2⟩
  go_wp2_with fail
  have H2 := HH.out.below b2
  have p1 : w2.drew.cell? ⟨p, 1, none⟩ = some (.map (some m)) := H2.c1
  have hlk := lookS (w := w2.drew) H2.own.drew H2.dic (b := ab) (s := ag) (by omega) (by omega)
  rw [hmz] at hlk
  obtain ⟨g, hg⟩ : ∃ g, G ab ag = g := ⟨_, rfl⟩
  obtain ⟨Z, hZ⟩ : ∃ Z, 2 ^ mz = Z := ⟨_, rfl⟩
  simp only [Option.map_some, slo, slv, rkey] at hlk
  rw [hg, hZ] at hlk
  have R2' := Lib.hid RR
  have H2' := Lib.hid H2
  have C2' := Lib.hid rc2
  have B2' := Lib.hid b2
  clear H2 b2 rc2
  refine take_region (fun w' => w'.cell? ⟨p, 1, none⟩ = some (.map (some m)) ∧ w'.cell? ⟨r, 0, none⟩ = some (.int .u64 ab) ∧ w'.cell? ⟨r, 1, none⟩ = some (.int .i64 ag) ∧ (Instr.lookup 68 (.map (some m)) (.agg #[.int .u64 ab, .int .i64 ag]) false).run Try.prog w' = .ok (.slice (some ⟨g, 0, none⟩) Z Z) w') ⟨p1, RR.drew.at0, RR.drew.at1, hlk⟩ (fun h0 => ?_)
  first
  | (refine take_no (i := 0) (d := some 16) rfl rfl (by kernel_rfl) (by kernel_rfl) (by kernel_rfl) (fun _ _ _ h => h) (by rfl) h0 ?_; (try simp only [Act.put, List.setIfInBounds_toArray, List.set_cons_zero, List.set_cons_succ]))
  | (refine take_op (i := 0) (d := some 16) (v := ?_) rfl rfl (by kernel_rfl) (by kernel_rfl) (by kernel_rfl) (fun _ _ _ h => h) (by rfl) (fun w hSw => ?_) h0 ?_; rotate_left; (focus ((try dsimp only at hSw); go_simp; (try with_reducible rfl))); (try simp only [Act.put, List.setIfInBounds_toArray, List.set_cons_zero, List.set_cons_succ]))
  first
  | (refine take_no (i := 1) (d := some 17) rfl rfl (by kernel_rfl) (by kernel_rfl) (by kernel_rfl) (fun _ _ _ h => h) (by rfl) h0 ?_; (try simp only [Act.put, List.setIfInBounds_toArray, List.set_cons_zero, List.set_cons_succ]))
  | (refine take_op (i := 1) (d := some 17) (v := ?_) rfl rfl (by kernel_rfl) (by kernel_rfl) (by kernel_rfl) (fun _ _ _ h => h) (by rfl) (fun w hSw => ?_) h0 ?_; rotate_left; (focus ((try dsimp only at hSw); go_simp; (try with_reducible rfl))); (try simp only [Act.put, List.setIfInBounds_toArray, List.set_cons_zero, List.set_cons_succ]))
  first
  | (refine take_no (i := 2) (d := some 18) rfl rfl (by kernel_rfl) (by kernel_rfl) (by kernel_rfl) (fun _ _ _ h => h) (by rfl) h0 ?_; (try simp only [Act.put, List.setIfInBounds_toArray, List.set_cons_zero, List.set_cons_succ]))
  | (refine take_op (i := 2) (d := some 18) (v := ?_) rfl rfl (by kernel_rfl) (by kernel_rfl) (by kernel_rfl) (fun _ _ _ h => h) (by rfl) (fun w hSw => ?_) h0 ?_; rotate_left; (focus ((try dsimp only at hSw); go_simp; (try with_reducible rfl))); (try simp only [Act.put, List.setIfInBounds_toArray, List.set_cons_zero, List.set_cons_succ]))
  first
  | (refine take_no (i := 3) (d := some 19) rfl rfl (by kernel_rfl) (by kernel_rfl) (by kernel_rfl) (fun _ _ _ h => h) (by rfl) h0 ?_; (try simp only [Act.put, List.setIfInBounds_toArray, List.set_cons_zero, List.set_cons_succ]))
  | (refine take_op (i := 3) (d := some 19) (v := ?_) rfl rfl (by kernel_rfl) (by kernel_rfl) (by kernel_rfl) (fun _ _ _ h => h) (by rfl) (fun w hSw => ?_) h0 ?_; rotate_left; (focus ((try dsimp only at hSw); go_simp; (try with_reducible rfl))); (try simp only [Act.put, List.setIfInBounds_toArray, List.set_cons_zero, List.set_cons_succ]))
  first
  | (refine take_no (i := 4) (d := some 20) rfl rfl (by kernel_rfl) (by kernel_rfl) (by kernel_rfl) (fun _ _ _ h => h) (by rfl) h0 ?_; (try simp only [Act.put, List.setIfInBounds_toArray, List.set_cons_zero, List.set_cons_succ]))
  | (refine take_op (i := 4) (d := some 20) (v := ?_) rfl rfl (by kernel_rfl) (by kernel_rfl) (by kernel_rfl) (fun _ _ _ h => h) (by rfl) (fun w hSw => ?_) h0 ?_; rotate_left; (focus ((try dsimp only at hSw); go_simp; (try with_reducible rfl))); (try simp only [Act.put, List.setIfInBounds_toArray, List.set_cons_zero, List.set_cons_succ]))
  first
  | (refine take_no (i := 5) (d := some 21) rfl rfl (by kernel_rfl) (by kernel_rfl) (by kernel_rfl) (fun _ _ _ h => h) (by rfl) h0 ?_; (try simp only [Act.put, List.setIfInBounds_toArray, List.set_cons_zero, List.set_cons_succ]))
  | (refine take_op (i := 5) (d := some 21) (v := ?_) rfl rfl (by kernel_rfl) (by kernel_rfl) (by kernel_rfl) (fun _ _ _ h => h) (by rfl) (fun w hSw => ?_) h0 ?_; rotate_left; (focus ((try dsimp only at hSw); go_simp; (try with_reducible rfl))); (try simp only [Act.put, List.setIfInBounds_toArray, List.set_cons_zero, List.set_cons_succ]))
  first
  | (refine take_no (i := 6) (d := some 7) rfl rfl (by kernel_rfl) (by kernel_rfl) (by kernel_rfl) (fun _ _ _ h => h) (by rfl) h0 ?_; (try simp only [Act.put, List.setIfInBounds_toArray, List.set_cons_zero, List.set_cons_succ]))
  | (refine take_op (i := 6) (d := some 7) (v := ?_) rfl rfl (by kernel_rfl) (by kernel_rfl) (by kernel_rfl) (fun _ _ _ h => h) (by rfl) (fun w hSw => ?_) h0 ?_; rotate_left; (focus ((try dsimp only at hSw); go_simp; (try with_reducible rfl))); (try simp only [Act.put, List.setIfInBounds_toArray, List.set_cons_zero, List.set_cons_succ]))
  refine wpAnyH_done (by kernel_rfl) ?_ _
  have c1 := C2'.out.at1
  have c0 := C2'.out.at0
  have r1 := R2'.out.at1
  obtain ⟨st, hst⟩ : ∃ st, 2 ^ (z - ag) = st := ⟨_, rfl⟩
  obtain ⟨q, hq⟩ : ∃ q, x / 2 ^ ag = q := ⟨_, rfl⟩
  have hZ15 : Z ≤ 32768 := by rw [← hZ]; exact (Nat.pow_le_pow_right (by omega) hm15 : 2 ^ mz ≤ 2 ^ 15)
  have hst15 : st ≤ 32768 := by rw [← hst]; exact (Nat.pow_le_pow_right (by omega) (show z - ag ≤ 15 by omega) : 2 ^ (z - ag) ≤ 2 ^ 15)
  have hst1 : 1 ≤ st := by rw [← hst]; exact Nat.one_le_two_pow
  have hqs : q < st := by
    rw [← hq, ← hst, Nat.div_lt_iff_lt_mul (Nat.two_pow_pos _), ← Nat.pow_add, show z - ag + ag = z by omega]
    exact hrc
  have w1 : wrap64 (2 ^ (z - ag)) = (st : Int) := by
    have : ((2 : Int) ^ (z - ag)) = (st : Int) := by rw [← hst]; push_cast; rfl
    rw [this]
    exact IntWalk.wrap64_in _ ⟨by omega, by omega⟩
  have w3 : (x : Int) / 2 ^ ag = (q : Int) := by rw [← hq]; push_cast; rfl
  have hag := Lib.hid (H2'.out.rows ab ag mz hmz)
  rw [hg, hZ] at hag
  have hap := H2'.out.apart ab ag mz hmz
  rw [hg] at hap
  have hgW : g < W.heap.size := by
    have := (HH.out.rows ab ag mz hmz).lt
    rwa [hg] at this
  clear RR h0 p1 hlk
  go_wp2_with fail
  rw [w1]
  clear r1 c0
  have HST := Lib.hid hst
  have HQ := Lib.hid hq
  clear hst hq w1 w3
  go_loopw [9] (fun v wr => ∃ i : Nat, v = .int .i64 i ∧ i < Z + st ∧ i % st = q ∧ Hrow wr g Z (fun y => if y % st = q ∧ y < i then (k, z) else cv l n f ab ag y k) ∧ Kept (fun j => j = g) w2 wr) (fun v _ => Z + st - (intOf v).toNat)
  case atStart =>
    refine ⟨q, rfl, by omega, Nat.mod_eq_of_lt hqs, hag.out.drew.congr (fun i hi => ?_), (Kept.refl _ w2).drew⟩
    rw [if_neg]
    rintro ⟨a, b⟩
    rw [Nat.mod_eq_of_lt (by omega)] at a
    omega
  case round =>
    obtain ⟨i, rfl, hi, him, hr, hkp⟩ := hrel
    have cc : wr.cell? ⟨W.heap.size, 1, none⟩ = some (.int .u8 z) := hkp.cell c1 (by simp; omega)
    have HR := Lib.hid hr
    have HK := Lib.hid hkp
    have hii : ((i : Int)).toNat = i := by omega
    by_cases hlt : i < Z
    · have hf1 := hr.frozen (i * 2)
      have hf2 := hr.frozen (i * 2 + 1)
      have hr1 := hr.cell1 hlt
      have hr2 := hr.cell2 hlt
      obtain ⟨o1, ho1⟩ : ∃ o1, ((if i % st = q ∧ i < i then (k, z) else cv l n f ab ag i k).1) = o1 := ⟨_, rfl⟩
      obtain ⟨o2, ho2⟩ : ∃ o2, ((if i % st = q ∧ i < i then (k, z) else cv l n f ab ag i k).2) = o2 := ⟨_, rfl⟩
      rw [ho1] at hr1
      rw [ho2] at hr2
      clear hr hkp ho1 ho2
      go_wp2_with fail
      go_roundw
      case rel =>
        refine ⟨i + st, by go_num, by omega, by rw [Nat.add_mod_right]; exact him, (HR.out.set i k z).congr (fun y hy => ?_), (HK.out.setCell _ (.inl rfl) _).setCell _ (.inl rfl) _⟩
        by_cases e : y = i
        · rw [if_pos e, if_pos ⟨by rw [e]; exact him, by omega⟩]
        · rw [if_neg e]
          by_cases e2 : y % st = q ∧ y < i
          · rw [if_pos e2, if_pos ⟨e2.1, by omega⟩]
          · rw [if_neg e2, if_neg]
            rintro ⟨a, b⟩
            exact e (stride a him (fun g => e2 ⟨a, g⟩) b)
      case measure => simp [intOf]; omega
    · clear hr hkp
      go_wp2_with fail
      go_end0
      have hK := HK.out
      refine ⟨rfl, ⟨hK.cell H2'.out.c0 (by simp; exact hap.1), hK.cell H2'.out.c1 (by simp; exact hap.1), ?_, H2'.out.dic, ?_, H2'.out.one, H2'.out.apart⟩, ?_⟩
      · obtain ⟨es, clock, h1, rest⟩ := H2'.out.own
        exact ⟨es, clock, (hK.block m H2'.out.own.lt hap.2.1).trans h1, rest⟩
      · intro b s z' hz'
        have hrow := H2'.out.rows b s z' hz'
        by_cases e : b = ab ∧ s = ag
        · obtain ⟨rfl, rfl⟩ := e
          rw [hmz] at hz'
          injection hz' with hz'
          subst hz'
          rw [hg, hZ]
          refine HR.out.congr (fun y hy => ?_)
          simp only [cv]
          rw [hx, hz, HST.out, HQ.out]
          by_cases e3 : y % st = q
          · rw [if_pos ⟨e3, by omega⟩, if_pos ⟨by omega, ⟨e1, e2⟩, e3⟩]
          · rw [if_neg (fun h => e3 h.1), if_neg (fun h => e3 h.2.2)]
        · have hne : G b s ≠ g := by
            intro h
            rw [← hg] at h
            exact e (H2'.out.one b s z' ab ag mz hz' hmz h)
          refine (hrow.at' (hK.block _ hrow.lt hne)).congr (fun y hy => ?_)
          simp only [cv]
          rw [if_neg]
          rintro ⟨_, a, _⟩
          exact e ⟨by rw [← a.1, e1], by rw [← a.2, e2]⟩
      · have hb := hK.below (B := T) (by have := B2'.out.size; omega) (fun j hj => by rw [hj]; exact hap.2.2)
        exact (B2'.out.mono hT).trans hb
end Go.Proofs.Ytnkkccieidlacaa
