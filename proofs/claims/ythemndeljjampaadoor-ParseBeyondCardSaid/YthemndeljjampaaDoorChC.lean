/- Put of package chain, where a place is put. Conditions: as each theorem names them. -/
import Derived.Test.YthemndeljjampaaDoorChB
namespace Go.Proofs.YthemndeljjampaaDoor
open Go Go.RowKit M
open Go.ChangeShapes (lits)
open Go.ChangeMaps (setBlock heap_setBlock_same heap_setBlock_other)
set_option linter.unusedVariables false
set_option linter.unusedSimpArgs false
/-- what is no row of ints, and no block F, is as it was -/
def KT (F : Nat) (w w' : World) : Prop := ∀ i cs T z, w.heap[i]? = some (.cells cs T z) → T ≠ 3 → i ≠ F → w'.heap[i]? = some (.cells cs T z)
theorem KT.refl (F : Nat) (w : World) : KT F w w := fun _ _ _ _ h _ _ => h
theorem KT.trans {F : Nat} {w w' w2 : World} (h : KT F w w') (h' : KT F w' w2) : KT F w w2 := fun i cs T z q a b => h' i cs T z (h i cs T z q a b) a b
theorem KT.of_below {F : Nat} {w w' : World} (h : Below w.heap.size w w') : KT F w w' := fun i cs T z q _ _ => (h.block i (Array.getElem?_eq_some_iff.1 q).1).trans q
theorem KT.setF (F : Nat) (w : World) (o : Nat) (v : Value) : KT F w (w.setCell ⟨F, o, none⟩ v) := fun i cs T z q _ hF => (Below.heap_setCell _ _ _ _ hF).trans q
section
variable {B F : Nat} {s : ByteArray} {L : List Nat} {la : Int} {w : World}
set_option maxRecDepth 1000000 in
set_option maxHeartbeats 1000000 in
theorem put_short (H : Fd w B F s L la) (k : Nat) (hk : k < s.size) (h : la < (k : Int)) (hL : ∀ p, p ∈ L → p < k) (h3 : ¬ k + 3 ≤ s.size) :
    Calls Tryd.prog 25 #[.pointer (some ⟨F, 0, none⟩), .int .i64 k] w fun e w' => e = .returned (.int .i64 0) ∧ Fd w' B F s (L ++ [k]) k ∧ Below B w w' ∧ KT F w w' := by
  have h0 := H.c0
  have hc1 := H.c1
  have hl := H.len
  have hfz := H.fz
  have hF := H.lt
  have hBF := H.base
  have hBs : B ≤ w.heap.size := by omega
  obtain ⟨b, base, D, h2, _⟩ := H.own
  have HM := Lib.hid (made_yes F b _ h2)
  obtain ⟨HL, bL⟩ := H.last k
  have HS := Lib.hid (start_high HL k (by omega))
  have HP := Lib.hid (HL.short hL hk h3)
  have BL := Lib.hid bL
  have KL := Lib.hid (KT.setF F w 1 (.int .i64 k))
  clear H HL bL h2 hL
  go_enter Tryd.func25, Tryd.ntmps25
  go_wp2_with fail
  refine HM.out.mono ?_; rintro e w' ⟨rfl, rfl⟩
  go_wp2_with fail
  refine HS.out.mono ?_; rintro e w2 ⟨rfl, b2⟩
  have HP2 := Lib.hid (HP.out.below b2)
  have B2 := Lib.hid (BL.out.trans (b2.mono (Nat.le_trans hBs BL.out.size)))
  have K2 := Lib.hid (KL.out.trans (KT.of_below b2))
  clear b2
  go_wp2_with fail
  go_ret
  exact ⟨rfl, HP2.out.below ((Below.refl _ _).alloc (Nat.le_refl _) _), B2.out.alloc (Nat.le_trans hBs B2.out.size) _, K2.out.trans (KT.of_below ((Below.refl _ _).alloc (Nat.le_refl _) _))⟩

theorem setBlock_other (w : World) {b : Nat} (o : Obj) {i : Nat} (h : i ≠ b) : (setBlock w b o).heap[i]? = w.heap[i]? := by
  simp [setBlock, Array.getElem?_setIfInBounds, h, Ne.symm h]
theorem setBlock_here (w : World) {b : Nat} (o : Obj) (h : b < w.heap.size) : (setBlock w b o).heap[b]? = some o := by
  simp [setBlock, h]
/-- the entry of a place: what it answers, and the way back -/
theorem put_entry (H : Fd w B F s L la) (k : Nat) (hk : k < s.size) (hL : ∀ p, p ∈ L → p < k) (h3 : k + 3 ≤ s.size) :
    ∃ (b base : Nat) (v : Value) (zs : List Int) (st : Nat) (o : Obj), w.cell? ⟨F, 2, none⟩ = some (.map (some b)) ∧
      (∀ u : World, u.heap[b]? = w.heap[b]? → (Instr.mapEntry 61 (.map (some b)) (rkey (byt s k) (byt s (k + 1)) (byt s (k + 2)))).run Tryd.prog u = .ok (.tuple #[v, goInt st]) (setBlock u b o)) ∧
      b < w.heap.size ∧ base ≤ w.heap.size ∧ F ≠ b ∧ F < base ∧ b < base ∧ w.ownsInts base 3 .i64 v zs ∧ zs.length ≤ 1048576 ∧
      ∀ (u2 : World) (v' : Value), (setBlock w b o).grownBy u2 v.ownBlock → u2.ownsInts base 3 .i64 v' (zs ++ [(k : Int)]) → (v'.ownBlock = v.ownBlock ∨ ∃ g, v'.ownBlock = some g ∧ w.heap.size ≤ g) →
        ∃ u3, (Instr.entryStore 61 (.map (some b)) (goInt st) v').run Tryd.prog u2 = .ok () u3 ∧ Fd u3 B F s (L ++ [k]) la ∧ Below B w u3 ∧ u2.grownBy u3 (some b) ∧ KT F w u3 := by
  obtain ⟨b, base, D, h1, h2, hd, h4, h5, h6, h7⟩ := H.own
  have hx0 := byt_lt s k
  have hx1 := byt_lt s (k + 1)
  have hx2 := byt_lt s (k + 2)
  have hc := H.count
  have hl := H.len
  have hB := H.base
  have hbb : b < base := by obtain ⟨es, clock, _, _, _, _, q, _⟩ := h2; exact q
  obtain ⟨v, zs, st, o, hent, hat, hown, hzl, hblt, hback⟩ := groups_entry h2 rowDeep Tryd.underlying61 zeroS (by unfold maxLen; omega) (rk_some hx0 hx1 hx2)
  have hz := hd.owned hx0 hx1 hx2 hat hown
  have hvb : v.ownBlock ≠ some b := fun e1 => by have := (hown.1.lt b e1).1; omega
  have hvF : v.ownBlock ≠ some F := fun e1 => by have := (hown.1.lt F e1).1; omega
  refine ⟨b, base, v, zs, st, o, h1, hent, hblt, h5, h6, h4, hbb, hown, by omega, fun u2 v' hg ho hloc => ?_⟩
  obtain ⟨u3, hrun, hgr, hg3⟩ := hback u2 v' (zs ++ [(k : Int)]) hg ho (by simp; omega) hloc
  have hg1 : w.grownBy (setBlock w b o) (some b) := by
    refine ⟨rfl, rfl, rfl, by rw [size_setBlock]; exact Nat.le_refl _, fun i hi hne => ?_⟩
    obtain ⟨es, clock, hbe, _⟩ := id h2
    exact heap_setBlock_other hbe _ (fun e => hne (by rw [e]))
  have hcell : ∀ i x, w.cell? ⟨F, i, none⟩ = some x → u3.cell? ⟨F, i, none⟩ = some x := fun i x q =>
    cell_grown (cell_grown (cell_grown q hg1 (by simpa using fun e => h6 e.symm)) hg hvF) hg3 (by simpa using fun e => h6 e.symm)
  have hbel : Below B w u3 := (((Below.refl B w).grown hg1 (by omega) (fun j hj => by cases hj; exact h7)).grown hg (by rw [size_setBlock]; omega) (fun j hj => by have := (hown.1.lt j hj).1; omega)).grown hg3 (by have := hg.size; rw [size_setBlock] at this; omega) (fun j hj => by cases hj; exact h7)
  have hKT : KT F w u3 := fun i cs T z q hT hF => by
    have hi := (Array.getElem?_eq_some_iff.1 q).1
    have hib : i ≠ b := fun e => by
      obtain ⟨es, clock, hbe, _⟩ := id h2
      rw [e, hbe] at q; cases q
    have hiv : v.ownBlock ≠ some i := fun e => by
      rcases hown.1.2 with ⟨hv, _⟩ | ⟨g, cap, cur, hv, _, hh, _⟩
      · rw [hv] at e; cases e
      · rw [hv] at e
        simp [Value.ownBlock] at e
        subst e
        rw [hh] at q
        injection q with q
        injection q with _ q _
        exact hT q.symm
    have e1 := hg1.block i hi (fun e => hib (by injection e))
    have e2 := hg.block i (by rw [size_setBlock]; exact hi) (fun e => hiv e.symm)
    have e3 := hg3.block i (Nat.lt_of_lt_of_le (by rw [size_setBlock]; exact hi) hg.size) (fun e => hib (by injection e))
    exact (e3.trans (e2.trans e1)).trans q
  obtain ⟨r1, r2⟩ := rise_snoc H hL hk
  refine ⟨u3, hrun, ⟨hcell 0 _ H.c0, hcell 1 _ H.c1, ?_, ⟨b, base, _, hcell 2 _ h1, ?_, (hd.put hx0 hx1 hx2 (grp s L (byt s k) (byt s (k + 1)) (byt s (k + 2)) ++ [k]) (by simp)).congr ?_, h4, Nat.le_trans h5 hbel.size, h6, h7⟩, H.base, r1, r2, H.len⟩, hbel, hg3, hKT⟩
  · have e1 := hg1.block F H.lt (by simpa using h6)
    have e2 := hg.block F (by rw [size_setBlock]; exact H.lt) (fun e => hvF e.symm)
    have e3 := hg3.block F (Nat.lt_of_lt_of_le (by rw [size_setBlock]; exact H.lt) hg.size) (by simpa using h6)
    have := World.frozen?_of_block (w := w) (w' := u3) (a := ⟨F, 1, none⟩) (e3.trans (e2.trans e1))
    rw [this]; exact H.fz
  · rw [List.length_append, List.length_singleton, ints_snoc, ← hz]
    rw [ho.datum_pos (by simp)] at hgr
    exact hgr
  · intro a c d ha hcc hdd
    rw [grp_snoc]
    by_cases q : a = byt s k ∧ c = byt s (k + 1) ∧ d = byt s (k + 2)
    · obtain ⟨rfl, rfl, rfl⟩ := q
      rw [if_pos ⟨rfl, rfl, rfl⟩, if_pos (at3_iff.2 ⟨h3, rfl, rfl, rfl⟩)]
    · rw [if_neg q, if_neg (fun e => q (by
        obtain ⟨_, e1, e2, e3⟩ := at3_iff.1 e
        exact ⟨e1.symm, e2.symm, e3.symm⟩))]
set_option maxRecDepth 1000000 in
set_option maxHeartbeats 1000000 in
theorem put_long (H : Fd w B F s L la) (k : Nat) (hk : k < s.size) (h : la < (k : Int)) (hL : ∀ p, p ∈ L → p < k) (h3 : k + 3 ≤ s.size) :
    Calls Tryd.prog 25 #[.pointer (some ⟨F, 0, none⟩), .int .i64 k] w fun e w' => e = .returned (.int .i64 0) ∧ Fd w' B F s (L ++ [k]) k ∧ Below B w w' ∧ KT F w w' := by
  have h0 := H.c0
  have hc1 := H.c1
  have hl := H.len
  have hfz := H.fz
  have hF := H.lt
  have hBF := H.base
  have hBs : B ≤ w.heap.size := by omega
  obtain ⟨b, base, D, h2, _⟩ := H.own
  have HM := Lib.hid (made_yes F b _ h2)
  obtain ⟨HL, bL⟩ := H.last k
  have HS := Lib.hid (start_yes HL k h3)
  have HL' := Lib.hid HL
  have hL' := Lib.hid hL
  have BL := Lib.hid bL
  have KL := Lib.hid (KT.setF F w 1 (.int .i64 k))
  have hx0 := byt_lt s k
  have hx1 := byt_lt s (k + 1)
  have hx2 := byt_lt s (k + 2)
  obtain ⟨x0, q0⟩ : ∃ x, byt s k = x := ⟨_, rfl⟩
  obtain ⟨x1, q1⟩ : ∃ x, byt s (k + 1) = x := ⟨_, rfl⟩
  obtain ⟨x2, q2⟩ : ∃ x, byt s (k + 2) = x := ⟨_, rfl⟩
  rw [q0, q1, q2] at HS
  rw [q0] at hx0
  rw [q1] at hx1
  rw [q2] at hx2
  have Q0 := Lib.hid q0
  have Q1 := Lib.hid q1
  have Q2 := Lib.hid q2
  clear H bL h2 q0 q1 q2 HL hL
  go_enter Tryd.func25, Tryd.ntmps25
  go_wp2_with fail
  refine HM.out.mono ?_; rintro e w' ⟨rfl, rfl⟩
  go_wp2_with fail
  refine HS.out.mono ?_; rintro e w2 ⟨rfl, b2⟩
  have H2 := Lib.hid (HL'.out.below b2)
  have B2 := Lib.hid (BL.out.trans (b2.mono (Nat.le_trans hBs BL.out.size)))
  have K2 := Lib.hid (KL.out.trans (KT.of_below b2))
  clear b2
  obtain ⟨b', base', v, zs, st, o, f1, fent, f3, f4, f5, f6, f6', fown, f8, fback⟩ := put_entry H2.out k hk hL'.out h3
  rw [Q0.out, Q1.out, Q2.out] at fent
  have FE := Lib.hid fent
  have FB := Lib.hid fback
  have FO := Lib.hid fown
  have hFw := H2.out.lt
  have hvn : ∀ g, w2.heap.size ≤ g → v.ownBlock ≠ some g := fun g hg e => by have := (fown.1.lt g e).2; omega
  have hvn2 : ∀ g, g < base' → v.ownBlock ≠ some g := fun g hg e => by have := (fown.1.lt g e).1; omega
  have HV := Lib.hid hvn
  have HV2 := Lib.hid hvn2
  have hrowc : ∀ i x, (#[Value.int .u8 x0, .int .u8 x1, .int .u8 x2] : Array Value)[i]? = some x → (w2.alloc (.cells #[.int .u8 x0, .int .u8 x1, .int .u8 x2] 75)).drew.cell? ⟨w2.heap.size, i, none⟩ = some x := fun i x q => by
    have hh : (w2.alloc (.cells #[.int .u8 x0, .int .u8 x1, .int .u8 x2] 75)).drew.heap[w2.heap.size]? = some (.cells #[.int .u8 x0, .int .u8 x1, .int .u8 x2] 75 (0, 0)) := heap_alloc_new _ _
    simp only [World.cell?, hh]; exact q
  have s0 : (w2.alloc (.cells #[.int .u8 x0, .int .u8 x1, .int .u8 x2] 75)).drew.cell? ⟨F, 2, none⟩ = some (.map (some b')) := cell_more f1 _
  have s1 := hrowc 0 _ rfl
  have s2 := hrowc 1 _ rfl
  have s3 := hrowc 2 _ rfl
  clear f1 fent fback fown hvn hvn2 hrowc
  unfold rkey
  go_wp2_with fail
  refine Code.wp_mono (Q := fun e a w' => e = Exit.normal ∧ (∃ v0 v1 v2 v3 v4 v5 v6 v7 v8 v9 v10 v11 v12 v13 v14 v15 v16 v17 v18 v19 v20 v21 v22 v23 v24 v25 v26 v27 v28 v29 v30 v31 v32 v33 v34 v35 v36 v37 v38 v39 v40 v41 v42 v43 v44 v45 v46 v47 v48 : Value, a = (⟨#[v0, v1, v2, v3, v4, v5, v6, v7, v8, v9, v10, v11, v12, v13, v14, v15, v16, v17, v18, v19, v20, v21, v22, v23, v24, v25, v26, v27, v28, v29, v30, v31, v32, v33, v34, v35, v36, v37, v38, v39, v40, v41, v42, v43, v44, v45, v46, v47, v48], []⟩ : Act)) ∧ Fd w' B F s (L ++ [k]) k ∧ Below B w2 w' ∧ KT F w2 w') ?_ ?_
  rotate_left
  · refine take_region (fun u => u.cell? ⟨F, 2, none⟩ = some (.map (some b')) ∧ u.cell? ⟨w2.heap.size, 0, none⟩ = some (.int .u8 x0) ∧ u.cell? ⟨w2.heap.size, 1, none⟩ = some (.int .u8 x1) ∧ u.cell? ⟨w2.heap.size, 2, none⟩ = some (.int .u8 x2)) ⟨s0, s1, s2, s3⟩ (fun hS => ?_)
    clear s0 s1 s2 s3
    refine take_op (i := 0) (d := some 38) (v := ?_) rfl rfl (by kernel_rfl) (by kernel_rfl) (by kernel_rfl) (fun _ _ _ h => by cases h.1) (by rfl) (fun w hSw => ?_) hS ?_; rotate_left; (focus ((try dsimp only at hSw); go_simp; (try with_reducible rfl))); (try simp only [Act.put, List.setIfInBounds_toArray, List.set_cons_zero, List.set_cons_succ])
    refine take_op (i := 1) (d := some 39) (v := ?_) rfl rfl (by kernel_rfl) (by kernel_rfl) (by kernel_rfl) (fun _ _ _ h => by cases h.1) (by rfl) (fun w hSw => ?_) hS ?_; rotate_left; (focus ((try dsimp only at hSw); go_simp; (try with_reducible rfl))); (try simp only [Act.put, List.setIfInBounds_toArray, List.set_cons_zero, List.set_cons_succ])
    refine take_op (i := 2) (d := some 40) (v := ?_) rfl rfl (by kernel_rfl) (by kernel_rfl) (by kernel_rfl) (fun _ _ _ h => by cases h.1) (by rfl) (fun w hSw => ?_) hS ?_; rotate_left; (focus ((try dsimp only at hSw); go_simp; (try with_reducible rfl))); (try simp only [Act.put, List.setIfInBounds_toArray, List.set_cons_zero, List.set_cons_succ])
    refine take_op (i := 3) (d := some 41) (v := ?_) rfl rfl (by kernel_rfl) (by kernel_rfl) (by kernel_rfl) (fun _ _ _ h => by cases h.1) (by rfl) (fun w hSw => ?_) hS ?_; rotate_left; (focus ((try dsimp only at hSw); go_simp; (try with_reducible rfl))); (try simp only [Act.put, List.setIfInBounds_toArray, List.set_cons_zero, List.set_cons_succ])
    refine take_op (i := 4) (d := some 42) (v := ?_) rfl rfl (by kernel_rfl) (by kernel_rfl) (by kernel_rfl) (fun _ _ _ h => by cases h.1) (by rfl) (fun w hSw => ?_) hS ?_; rotate_left; (focus ((try dsimp only at hSw); go_simp; (try with_reducible rfl))); (try simp only [Act.put, List.setIfInBounds_toArray, List.set_cons_zero, List.set_cons_succ])
    refine take_op (i := 5) (d := some 44) (v := ?_) rfl rfl (by kernel_rfl) (by kernel_rfl) (by kernel_rfl) (fun _ _ _ h => by cases h.1) (by rfl) (fun w hSw => ?_) hS ?_; rotate_left; (focus ((try dsimp only at hSw); go_simp; (try with_reducible rfl))); (try simp only [Act.put, List.setIfInBounds_toArray, List.set_cons_zero, List.set_cons_succ])
    refine take_call (i := 6) (by kernel_rfl) rfl (fun K hK => ?_)
    go_simp
    refine hK.out _ _ ⟨cell_more hS.1 _, cell_more hS.2.1 _, cell_more hS.2.2.1 _, cell_more hS.2.2.2 _⟩ (fun hS => ?_)
    clear hK K
    (try simp only [Act.put, List.setIfInBounds_toArray, List.set_cons_zero, List.set_cons_succ])
    obtain ⟨u0, hu0⟩ : ∃ u0, ((w2.alloc (.cells #[.int .u8 x0, .int .u8 x1, .int .u8 x2] 75)).alloc (.cells #[.int .i64 k] 3)).drew = u0 := ⟨_, rfl⟩
    have hz0 : u0.heap.size = w2.heap.size + 2 := by rw [← hu0]; simp [World.drew]
    have hb0 : ∀ i, i < w2.heap.size → u0.heap[i]? = w2.heap[i]? := fun i hi => by
      rw [← hu0]
      exact (Below.heap_alloc (w2.alloc (.cells #[.int .u8 x0, .int .u8 x1, .int .u8 x2] 75)) _ i (by simp; omega)).trans (Below.heap_alloc w2 _ i hi)
    have hk0 : u0.cell? ⟨w2.heap.size + 1, 0, none⟩ = some (.int .i64 k) := by
      have hh : u0.heap[w2.heap.size + 1]? = some (.cells #[.int .i64 k] 3 (0, 0)) := by
        rw [← hu0]
        have := heap_alloc_new (w2.alloc (.cells #[.int .u8 x0, .int .u8 x1, .int .u8 x2] 75)) (.cells #[.int .i64 k] 3)
        simpa [World.drew] using this
      simp [World.cell?, hh]
    have hos : u0.os = w2.os ∧ u0.tape = w2.tape ∧ u0.output = w2.output := by rw [← hu0]; exact ⟨rfl, rfl, rfl⟩
    have hE := FE.out u0 (hb0 b' f3)
    have hkept : ∀ {a : Addr} {x : Value}, u0.cell? a = some x → a.block ≠ b' → (setBlock u0 b' o).cell? a = some x := fun {a x} q hne => by
      have : (setBlock u0 b' o).heap[a.block]? = u0.heap[a.block]? := setBlock_other u0 o hne
      exact (World.cell?_of_block this).trans q
    refine take_call (i := 7) (by kernel_rfl) rfl (fun K hK => ?_)
    rw [if_pos (by rfl)]
    rw [hu0] at hS ⊢
    refine wp_mapEntry (some 46) rfl 61 _ _ rfl (.map (some b')) (rkey x0 x1 x2) _ rfl rfl hE ?_
    refine hK.out _ _ ⟨hkept hS.1 f5, hkept hS.2.1 (by simp; omega), hkept hS.2.2.1 (by simp; omega), hkept hS.2.2.2 (by simp; omega)⟩ (fun hS => ?_)
    clear hK K
    (try simp only [Act.put, List.setIfInBounds_toArray, List.set_cons_zero, List.set_cons_succ])
    refine take_op (i := 8) (d := some 43) (v := ?_) rfl rfl (by kernel_rfl) (by kernel_rfl) (by kernel_rfl) (fun _ _ _ h => by cases h.1) (by rfl) (fun w hSw => ?_) hS ?_; rotate_left; (focus ((try dsimp only at hSw); go_simp; (try with_reducible rfl))); (try simp only [Act.put, List.setIfInBounds_toArray, List.set_cons_zero, List.set_cons_succ])
    refine take_op (i := 10) (d := some 48) (v := ?_) rfl rfl (by kernel_rfl) (by kernel_rfl) (by kernel_rfl) (fun _ _ _ h => by cases h.1) (by rfl) (fun w hSw => ?_) hS ?_; rotate_left; (focus ((try dsimp only at hSw); go_simp; (try with_reducible rfl))); (try simp only [Act.put, List.setIfInBounds_toArray, List.set_cons_zero, List.set_cons_succ])
    have g1 : w2.grownBy (setBlock u0 b' o) (some b') := ⟨hos.1, hos.2.1, hos.2.2, by rw [size_setBlock]; omega, fun i hi hne => (setBlock_other u0 o (fun e => hne (by rw [e]))).trans (hb0 i hi)⟩
    have g0 : (setBlock w2 b' o).grownBy (setBlock u0 b' o) v.ownBlock := ⟨hos.1, hos.2.1, hos.2.2, by rw [size_setBlock, size_setBlock]; omega, fun i hi hne => by
      rw [size_setBlock] at hi
      by_cases c : i = b'
      · subst c
        rw [setBlock_here u0 o (by omega), setBlock_here w2 o f3]
      · rw [setBlock_other u0 o c, setBlock_other w2 o c]; exact hb0 i hi⟩
    have hO := FO.out.kept g1 (.inr (HV2.out b' f6'))
    refine take_call (i := 9) (by kernel_rfl) rfl (fun K hK => ?_)
    rw [if_pos (by rfl)]
    refine wp_apx (d := some 47) rfl _ _ rfl base' v zs rfl hO (w2.heap.size + 1) k rfl (hkept hk0 (by simp; omega)) (by simp [Lit.wf, IntKind.min, IntKind.max, IntKind.signed, IntKind.bits]; omega) f8 (by rw [size_setBlock]; omega) (fun v' u2 o2 g2 l2 => ?_)
    refine hK.out _ _ ⟨cell_grown hS.1 g2 (HV2.out F f6), cell_grown hS.2.1 g2 (HV.out _ (Nat.le_refl _)), cell_grown hS.2.2.1 g2 (HV.out _ (Nat.le_refl _)), cell_grown hS.2.2.2 g2 (HV.out _ (Nat.le_refl _))⟩ (fun hS => ?_)
    clear hK K
    (try simp only [Act.put, List.setIfInBounds_toArray, List.set_cons_zero, List.set_cons_succ])
    obtain ⟨u3, hR, hF3, hB3, g3, hK3⟩ := FB.out u2 v' (g0.trans g2) o2 (l2.elim .inl (fun e => .inr ⟨_, e, by rw [size_setBlock]; omega⟩))
    refine take_call (i := 11) (by kernel_rfl) rfl (fun K hK => ?_)
    rw [if_pos (by rfl)]
    refine wp_entryStore none rfl 61 _ _ _ rfl (.map (some b')) (goInt st) v' rfl rfl rfl hR ?_
    refine hK.out _ _ ⟨cell_grown hS.1 g3 (by simp; omega), cell_grown hS.2.1 g3 (by simp; omega), cell_grown hS.2.2.1 g3 (by simp; omega), cell_grown hS.2.2.2 g3 (by simp; omega)⟩ (fun hS => ?_)
    clear hK K
    (try simp only [Act.put, List.setIfInBounds_toArray, List.set_cons_zero, List.set_cons_succ])
    refine wpAnyH_done (by kernel_rfl) ?_ _
    exact ⟨rfl, ⟨_, _, _, _, _, _, _, _, _, _, _, _, _, _, _, _, _, _, _, _, _, _, _, _, _, _, _, _, _, _, _, _, _, _, _, _, _, _, _, _, _, _, _, _, _, _, _, _, _, rfl⟩, hF3, hB3, hK3⟩
  · rintro e a w3 ⟨rfl, ⟨v0, v1, v2, v3, v4, v5, v6, v7, v8, v9, v10, v11, v12, v13, v14, v15, v16, v17, v18, v19, v20, v21, v22, v23, v24, v25, v26, v27, v28, v29, v30, v31, v32, v33, v34, v35, v36, v37, v38, v39, v40, v41, v42, v43, v44, v45, v46, v47, v48, rfl⟩, hF3, hB3, hK3⟩
    have HF3 := Lib.hid hF3
    have HB3 := Lib.hid (B2.out.trans hB3)
    have HK3 := Lib.hid (K2.out.trans hK3)
    clear hF3 hB3 hK3
    go_wp2_with fail
    go_ret
    exact ⟨rfl, HF3.out, HB3.out, HK3.out⟩

/-- a place is put -/
theorem put_ok (H : Fd w B F s L la) (k : Nat) (hk : k < s.size) (h : la < (k : Int)) (hL : ∀ p, p ∈ L → p < k) :
    Calls Tryd.prog 25 #[.pointer (some ⟨F, 0, none⟩), .int .i64 k] w fun e w' => e = .returned (.int .i64 0) ∧ Fd w' B F s (L ++ [k]) k ∧ Below B w w' ∧ KT F w w' := by
  by_cases c : k + 3 ≤ s.size
  · exact put_long H k hk h hL c
  · exact put_short H k hk h hL c
end
end Go.Proofs.YthemndeljjampaaDoor
