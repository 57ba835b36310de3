/- Texts of one place, one behind the other: PkG, RfT. -/
import Derived.Test.YtlanibgeafdefaaGreatDoorPkE
import Derived.Test.YtlanibgeafdefaaGreatDoorMPkF
import Derived.BigRegion
namespace Go.Proofs.YtlanibgeafdefaaGreatDoor
open Go.RowKit M
set_option linter.unusedVariables false
theorem first_of (P : Nat → Prop) (m : Nat) : ∀ k, k ≤ m → (∀ t, k ≤ t → t < m → P t) → ∃ i, i ≤ k ∧ (∀ t, i ≤ t → t < m → P t) ∧ (i = 0 ∨ ¬ P (i - 1))
  | 0, _, h => ⟨0, Nat.le_refl _, h, .inl rfl⟩
  | k + 1, hk, h => by
    by_cases q : P k
    · obtain ⟨i, h1, h2, h3⟩ := first_of P m k (by omega) (fun t g1 g2 => by
        by_cases e : t = k
        · rw [e]; exact q
        · exact h t (by omega) g2)
      exact ⟨i, by omega, h2, h3⟩
    · exact ⟨k + 1, Nat.le_refl _, h, .inr (by rw [Nat.add_sub_cancel]; exact q)⟩
theorem lv_ex (c : Nat → Nat) : ∀ n, ∃ m e, IsLv c n m e
  | 0 => ⟨0, fun _ => (0, 0), fun i j h1 h2 h3 => by omega, fun i h => by omega, fun s h => by omega, Nat.le_refl _⟩
  | n + 1 => by
    obtain ⟨m, e, h⟩ := lv_ex c n
    by_cases h0 : c n = 0
    · exact ⟨m, e, h.ord, fun i hi => by have := h.is_ i hi; exact ⟨by omega, this.2⟩, fun s hs hc => by
        by_cases q : s = n
        · subst q; omega
        · exact h.all s (by omega) hc, by have := h.le; omega⟩
    · let e1 : Nat → Nat × Nat := fun i => if i = m then (c n, n) else e i
      have he : ∀ i, i < m → e1 i = e i := fun i hi => if_neg (by omega)
      have hm : e1 m = (c n, n) := if_pos rfl
      have ho : Ord e1 0 m := h.ord.congr (fun i _ hi => he i hi)
      obtain ⟨i, i1, i2, i3⟩ := first_of (fun t => (e1 m).1 < (e1 t).1) m m (Nat.le_refl _) (fun t g1 g2 => by omega)
      have hs : Same e1 (mvd e1 i m) 0 (m + 1) := mvd_same e1 (Nat.zero_le _) i1 (by omega)
      refine ⟨m + 1, mvd e1 i m, mvd_ord ho (fun t _ g2 _ => ?_) (Nat.zero_le _) i1 i2 (by omega), fun j hj => ?_, fun s hs' hc => ?_, by have := h.le; omega⟩
      · rw [he t g2, hm]; exact (h.is_ t g2).1
      · obtain ⟨k, _, k2, q⟩ := hs.fro j (Nat.zero_le _) hj
        rw [q]
        by_cases r : k = m
        · rw [r, hm]; exact ⟨Nat.lt_succ_self _, Nat.pos_of_ne_zero h0, rfl⟩
        · rw [he k (by omega)]; have := h.is_ k (by omega); exact ⟨by omega, this.2⟩
      · by_cases r : s = n
        · obtain ⟨k, _, k2, q⟩ := hs.to m (Nat.zero_le _) (by omega)
          exact ⟨k, k2, by rw [← q, hm]; exact r.symm⟩
        · obtain ⟨j, j1, j2⟩ := h.all s (by omega) hc
          obtain ⟨k, _, k2, q⟩ := hs.to j (Nat.zero_le _) (by omega)
          exact ⟨k, k2, by rw [← q, he j j1]; exact j2⟩
theorem lv_one {c : Nat → Nat} {n m m' : Nat} {e e' : Nat → Nat × Nat} (h : IsLv c n m e) (h' : IsLv c n m' e') : m = m' ∧ ∀ i, i < m → e i = e' i := by
  have key : ∀ {m m' : Nat} {e e' : Nat → Nat × Nat}, IsLv c n m e → IsLv c n m' e' → ∀ i, i < m → ∃ j, j < m' ∧ e i = e' j := by
    intro m m' e e' h h' i hi
    obtain ⟨a1, a2, a3⟩ := h.is_ i hi
    obtain ⟨j, j1, j2⟩ := h'.all _ a1 a2
    have := (h'.is_ j j1).2.2
    exact ⟨j, j1, Prod.ext (by rw [a3, this, j2]) j2.symm⟩
  exact ord_one h.ord h'.ord (key h h') (key h' h)
def lw (e : Nat → Nat × Nat) (i : Nat) : Nat := (e i).1
def ly (e : Nat → Nat × Nat) (i : Nat) : Nat := (e i).2
def pl (m : Nat) (e : Nat → Nat × Nat) (L s : Nat) : Nat :=
  if m = 0 then 0 else if m = 1 then (if s = ly e 0 then 1 else 0) else ct s ((row (lvs (lw e) (ly e) m) L).take (2 * m - 2))
theorem lv_rise {c : Nat → Nat} {n m : Nat} {e : Nat → Nat × Nat} (h : IsLv c n m e) : Rise (lw e) m := fun i j h1 h2 => by
  rcases h.ord.le (Nat.zero_le _) h1 h2 with q | q
  · unfold lw; rw [q]; exact Nat.le_refl _
  · unfold lx at q; unfold lw; omega
theorem lv_inj {c : Nat → Nat} {n m : Nat} {e : Nat → Nat × Nat} (h : IsLv c n m e) : ∀ i j, i < m → j < m → ly e i = ly e j → i = j := fun i j hi hj q => by
  unfold ly at q
  have h1 := (h.is_ i hi).2.2
  have h2 := (h.is_ j hj).2.2
  have he : e i = e j := Prod.ext (by rw [h1, h2, q]) q
  rcases Nat.lt_trichotomy i j with g | g | g
  · have := h.ord i j (Nat.zero_le _) g hj
    rw [he] at this; exact this.irr.elim
  · exact g
  · have := h.ord j i (Nat.zero_le _) g hi
    rw [he] at this; exact this.irr.elim
theorem pl_leaf {c : Nat → Nat} {n m L : Nat} {e : Nat → Nat × Nat} (h : IsLv c n m e) (h2 : 2 ≤ m) (hL : nds m ≤ L) (h1 : 1 ≤ L) {i : Nat} (hi : i < m) : pl m e L (ly e i) = ln (lvs (lw e) (ly e) m) L (2 * m - 2) i := by
  unfold pl
  rw [if_neg (by omega), if_neg (by omega)]
  have := row_enough (lvs (lw e) (ly e) m) L (by rw [lvs_length]; exact (nds_le h1).1 hL)
  rw [lvs_length] at this
  exact ct_row (lv_inj h) hi L _ this
theorem pl_none {c : Nat → Nat} {n m L s : Nat} {e : Nat → Nat × Nat} (h : IsLv c n m e) (hL : nds m ≤ L) (h1 : 1 ≤ L) (hs : ∀ i, i < m → ly e i ≠ s) : pl m e L s = 0 := by
  unfold pl
  by_cases h0 : m = 0
  · rw [if_pos h0]
  rw [if_neg h0]
  by_cases h2 : m = 1
  · rw [if_pos h2, if_neg (fun q => hs 0 (by omega) q.symm)]
  rw [if_neg h2]
  have := row_enough (lvs (lw e) (ly e) m) L (by rw [lvs_length]; exact (nds_le h1).1 hL)
  rw [lvs_length] at this
  exact ct_row0 hs L _ this
theorem pl_le {c : Nat → Nat} {n m L : Nat} {e : Nat → Nat × Nat} (h : IsLv c n m e) (hL : nds m ≤ L) (h1 : 1 ≤ L) (s : Nat) : pl m e L s ≤ L := by
  by_cases q : ∃ i, i < m ∧ ly e i = s
  · obtain ⟨i, hi, rfl⟩ := q
    by_cases h2 : 2 ≤ m
    · rw [pl_leaf h h2 hL h1 hi]; exact ln_le _ _ _ _
    · unfold pl
      rw [if_neg (by omega), if_pos (by omega)]; split <;> omega
  · rw [pl_none h hL h1 (fun i hi e => q ⟨i, hi, e⟩)]; omega
theorem pl_congr {m L : Nat} {e e' : Nat → Nat × Nat} (h : ∀ i, i < m → e i = e' i) (s : Nat) : pl m e L s = pl m e' L s := by
  unfold pl
  by_cases h0 : m = 0
  · rw [if_pos h0, if_pos h0]
  rw [if_neg h0, if_neg h0]
  have hl : lvs (lw e) (ly e) m = lvs (lw e') (ly e') m := by
    unfold lvs
    apply List.map_congr_left
    intro i hi
    unfold lw ly; rw [h i (List.mem_range.1 hi)]
  rw [hl]
  unfold ly; rw [h 0 (by omega)]
def lvt (m : Nat) (e : Nat → Nat × Nat) : List Tp := (List.range m).map fun i => (.lf (lw e i) (ly e i), none)
theorem lvt_length (m : Nat) (e : Nat → Nat × Nat) : (lvt m e).length = m := by unfold lvt; simp
theorem lvt_fst (m : Nat) (e : Nat → Nat × Nat) : (lvt m e).map (·.1) = lvs (lw e) (ly e) m := by unfold lvt lvs; rw [List.map_map]; rfl
theorem lvt_at (m : Nat) (e : Nat → Nat × Nat) {i : Nat} {x : Tp} (h : (lvt m e)[i]? = some x) : i < m ∧ x = (.lf (lw e i) (ly e i), none) := by
  have hi := (List.getElem?_eq_some_iff.1 h).1
  rw [lvt_length] at hi
  refine ⟨hi, ?_⟩
  unfold lvt at h
  rw [List.getElem?_map, List.getElem?_range hi] at h
  exact (Option.some.inj h).symm
theorem Things.leaves {w : World} {base m : Nat} {A : Option Addr} {e : Nat → Nat × Nat} (h : 0 < m → ∃ b, A = some ⟨b, 0, none⟩ ∧ Lfs w b m e) : Things w base A (lvt m e) := by
  refine ⟨fun hn => ?_, fun x hx => ?_⟩
  · rw [lvt_length] at hn
    obtain ⟨b, rfl, hl⟩ := h hn
    refine ⟨b, 0, rfl, hl.lt, fun i t hi => ?_⟩
    rw [List.getElem?_map] at hi
    cases hq : (lvt m e)[i]? with
    | none => rw [hq] at hi; cases hi
    | some x =>
      rw [hq] at hi
      obtain rfl : tr x = t := by simpa using hi
      obtain ⟨h1, rfl⟩ := lvt_at m e hq
      rw [Nat.zero_add]; exact hl.cells h1
  · obtain ⟨i, hi, rfl⟩ := List.getElem_of_mem hx
    obtain ⟨_, q⟩ := lvt_at m e (List.getElem?_eq_getElem hi)
    rw [q]; exact rfl
theorem Things.take {w : World} {base : Nat} {A : Option Addr} {X : List Tp} (h : Things w base A X) (q : Nat) : Things w base A (X.take q) := by
  refine ⟨fun hn => ?_, fun x hx => h.2 x (List.mem_of_mem_take hx)⟩
  obtain ⟨b, o, e, hl, ht⟩ := h.1 (by rw [List.length_take] at hn; omega)
  refine ⟨b, o, e, hl, fun i t hi => ht i t ?_⟩
  rw [List.map_take, List.getElem?_take] at hi
  split at hi
  · exact hi
  · cases hi
theorem sylt_lvs {c : Nat → Nat} {n m : Nat} {e : Nat → Nat × Nat} (h : IsLv c n m e) : ∀ t ∈ lvs (lw e) (ly e) m, SyLt n t := by
  intro t ht
  unfold lvs at ht
  obtain ⟨i, hi, rfl⟩ := List.mem_map.1 ht
  exact (h.is_ i (List.mem_range.1 hi)).1
theorem sylt_row {L : List Th} {n : Nat} (h : ∀ t ∈ L, SyLt n t) : ∀ k, ∀ t ∈ row L k, SyLt n t
  | 0, t, ht => by cases ht
  | k + 1, t, ht => by
    rcases (mrg_mem t _ _).1 ht with g | g
    · exact h t g
    · have key : ∀ (R : List Th), (∀ u ∈ R, SyLt n u) → ∀ u ∈ pks R, SyLt n u := by
        intro R
        induction R using pks.induct with
        | case1 c d r ih2 =>
          intro hr u hu
          rcases List.mem_cons.1 hu with rfl | hu
          · exact ⟨hr c (by simp), hr d (by simp)⟩
          · exact ih2 (fun t ht => hr t (by simp [ht])) u hu
        | case2 r hr => intro _ u hu; unfold pks at hu; split at hu; exact absurd rfl (hr _ _ _); cases hu
      exact key _ (sylt_row h k) t g
theorem madeByte (w : World) (n : Nat) (hn : n ≤ 400) :
    (Instr.makeSlice 46 (.int .i64 (n : Int)) (.int .i64 (n : Int))).run Tryz.prog w = .ok (.slice (some ⟨w.heap.size, 0, none⟩) n n) (w.alloc (.cells (madeCells #[.int .u8 0] (n * 1)) 5)) :=
  run_made w Tryz.underlying46 byteInfo (by decide) n n (Nat.le_refl _) (by omega)
theorem mayC_nat {c : Nat → Nat} {n : Nat} (hn : n ≤ 320) (hc : ∀ i, c i ≤ 1073741824) : MayC (fun i => (c i : Int)) n := ⟨hn, fun i _ => ⟨Int.natCast_nonneg _, Int.ofNat_le.2 (hc i)⟩⟩
theorem Br.made1 (w : World) (n s : Nat) (hs : s < n) : Br (w.alloc (.cells ((madeCells #[.int .u8 0] n).setIfInBounds s (.int .u8 1)) 5)) w.heap.size n (fun i => if i = s then 1 else 0) := by
  have h := World.rowIs_alloc w ((madeCells #[.int .u8 0] n).setIfInBounds s (.int .u8 1)) 5 (fun i => .int .u8 ((if i = s then 1 else 0 : Nat) : Int)) (fun i hi => by
    have hi' : i < n := by simpa [size_madeCells] using hi
    rw [Array.getElem?_setIfInBounds]
    by_cases q : i = s
    · subst q; simp [size_madeCells, hi']
    · rw [if_neg (fun r => q r.symm)]
      simp [madeCells, hi', q, Nat.mod_one])
  rw [Array.size_setIfInBounds, size_madeCells] at h
  exact h
def GotLens (W : World) (n m L : Nat) (e : Nat → Nat × Nat) (x : Ending) (w' : World) : Prop :=
  ∃ g, x = .returned (.tuple #[.slice (some ⟨g, 0, none⟩) n n, .int .i64 0]) ∧ W.heap.size ≤ g ∧ Br w' g n (pl m e L) ∧ Below W.heap.size W w'
set_option maxHeartbeats 8000000 in
set_option maxRecDepth 1000000 in
theorem lens_ok (A : Option Addr) (n c' L m : Nat) (c : Nat → Nat) (e : Nat → Nat × Nat) (W : World) (hn : n ≤ 320) (hc : ∀ i, c i ≤ 1073741824) (H : Nums W .i64 A n (fun i => (c i : Int))) (h1 : 1 ≤ L) (h2 : L ≤ 15) (hl : IsLv c n m e) (hb : nds m ≤ L) :
    Calls Tryz.prog 75 #[.slice A n c', .int .i64 L] W (GotLens W n m L e) := by
  have hv := Lib.hid (mayC_true (mayC_nat hn hc))
  have HN := Lib.hid (show n ≤ maxLen by unfold maxLen; omega)
  have HA := Lib.hid H
  have HC := Lib.hid hc
  have HL := Lib.hid hl
  have HB := Lib.hid hb
  obtain ⟨q, hq⟩ : ∃ q, nds m = q := ⟨_, rfl⟩
  rw [hq] at hb
  have HQ := Lib.hid hq
  have hmk := fun w => madeByte w n (by omega)
  have d0 : decide ((L : Int) < (q : Int)) = false := decide_eq_false (by omega)
  clear H hc hl hq
  go_enter Tryz.func75, Tryz.ntmps75
  go_wp2_with fail
  refine (pmay_any A n c' _ _ HN.out HA.out).mono ?_; rintro e0 w' ⟨rfl, rfl⟩
  rw [hv.out]
  go_wp2_with fail
  refine (leaves_any A n c' c _ hn HC.out HA.out).mono ?_; rintro x w1 ⟨A1, cap1, m1, e1, rfl, hmc, l1, f1, b1⟩
  obtain ⟨rfl, he⟩ := lv_one HL.out l1
  have B1 := Lib.hid b1
  have HE := Lib.hid he
  have HL1 := Lib.hid l1
  have HF := Lib.hid f1
  have hm := l1.le
  clear l1 f1 b1 he
  have NC := Lib.hid (fun w => needs_any (m : Int) w (by omega) (by omega))
  go_wp2_with fail
  refine (NC.out _).mono ?_; rintro e0 w' ⟨rfl, rfl⟩
  rw [show ((m : Int)).toNat = m by omega, HQ.out]
  clear NC
  by_cases c0 : m = 0
  · subst c0
    go_wp2_with fail
    go_ret2
    refine ⟨_, rfl, B1.out.size, (Br.made' w1 n).congr (f' := pl 0 e L) (fun i _ => by unfold pl; rw [if_pos rfl]), B1.out.alloc B1.out.size _⟩
  by_cases c1 : m = 1
  · subst c1
    obtain ⟨b, rfl, hlf⟩ := HF.out (by omega)
    obtain ⟨y1, y2, y3⟩ := hlf.cells (show 0 < 1 by omega)
    obtain ⟨s, hs⟩ : ∃ s, (e1 0).2 = s := ⟨_, rfl⟩
    have hsn := (HL1.out.is_ 0 (by omega)).1
    rw [hs] at y2 hsn
    have HS := Lib.hid (show s = ly e 0 by unfold ly; rw [HE.out 0 (by omega)]; exact hs.symm)
    have hbl := hlf.lt
    have hsz := B1.out.size
    have hbr := Br.made' w1 n
    have hcl := hbr.cell hsn
    have hfr := hbr.frozen s
    have HBR := Lib.hid ((Br.made1 w1 n s hsn).congr (f' := pl 1 e L) (fun i _ => by
      unfold pl
      rw [if_neg (show ¬ (1 = 0) by omega), if_pos (rfl : 1 = 1), ← HS.out]))
    clear hs hlf hbr c0
    go_wp2_with fail
    go_ret2
    exact ⟨_, rfl, hsz, HBR.out, B1.out.alloc hsz _⟩
  · have c2 : 2 ≤ m := by omega
    have n1 : ((m : Int) == 0) = false := by rw [beq_eq_false_iff_ne]; omega
    have n2 : ((m : Int) == 1) = false := by rw [beq_eq_false_iff_ne]; omega
    obtain ⟨r, hr⟩ : ∃ r, 2 * m - 2 = r := ⟨_, rfl⟩
    have v1 : 2 * (m : Int) - 2 = (r : Int) := by omega
    have hlen : 2 * m - 2 ≤ (row (lvs (lw e1) (ly e1) m) L).length := by
      have := row_enough (lvs (lw e1) (ly e1) m) L (by rw [lvs_length]; exact (nds_le h1).1 HB.out)
      rwa [lvs_length] at this
    have HLEN := Lib.hid hlen
    have HR := Lib.hid hr
    have T0 := Lib.hid (fun (B : Nat) => Things.leaves (w := w1) (base := B) HF.out)
    clear hlen hr c0 c1
    go_wp2_with fail
    have HT := Lib.hid ((T0.out (w1.alloc (.cells (madeCells #[.int .u8 0] n) 5)).heap.size).below ((Below.refl w1.heap.size w1).alloc (Nat.le_refl _) (.cells (madeCells #[.int .u8 0] n) 5)))
    have HWL := Lib.hid (show ∀ x ∈ lvt m e1, x.1.wt ≤ 1073741824 from fun x hx => by
      obtain ⟨i, hi, rfl⟩ := List.getElem_of_mem hx
      obtain ⟨g1, g2⟩ := lvt_at m e1 (List.getElem?_eq_getElem hi)
      rw [g2]
      show (e1 i).1 ≤ _
      rw [(HL1.out.is_ i g1).2.2]; exact HC.out _)
    refine (rowOf_any A1 m cap1 L (lvt m e1) _ (lvt_length m e1) (by omega) hmc h1 h2 HT.out HWL.out).mono ?_; rintro x w3 ⟨A3, n3, cap3, X, rfl, x1, x2, x3, x4, x5, x6⟩
    rw [lvt_fst] at x3
    have hrn : r ≤ n3 := by
      have h3 := HLEN.out
      rw [← x3, List.length_map, x1, HR.out] at h3; exact h3
    have hrc : r ≤ cap3 := by omega
    have BR3 := Lib.hid ((Br.made' w1 n).below x6 (by simp))
    have TX := Lib.hid (x4.take r)
    have X1 := Lib.hid (show (X.take r).length = r by rw [List.length_take, x1]; omega)
    have X3 := Lib.hid x3
    have X6 := Lib.hid x6
    have XF := Lib.hid (show ∀ b o, A3 = some ⟨b, o, none⟩ → b ≠ w1.heap.size from fun b o h => by
      rcases x5 with g | g
      · rw [h] at g
        obtain ⟨b0, q1, q2⟩ := HF.out (by omega)
        rw [q1] at g
        have := q2.lt
        simp at g; omega
      · have := g b o h
        simp at this; omega)
    have XS := Lib.hid (show ∀ x ∈ X.take r, SyLt n x.1 from fun x hx => by
      have h3 : x.1 ∈ row (lvs (lw e1) (ly e1) m) L := by rw [← x3]; exact List.mem_map_of_mem (List.mem_of_mem_take hx)
      exact sylt_row (sylt_lvs HL1.out) L _ h3)
    have XW := Lib.hid (show ∀ x ∈ X.take r, x.1.wt < 18446744073709551616 from fun x hx => by
      obtain ⟨z, rfl⟩ : ∃ z, L = z + 1 := ⟨L - 1, by omega⟩
      have h3 : x.1 ∈ row (lvs (lw e1) (ly e1) m) (z + 1) := by rw [← x3]; exact List.mem_map_of_mem (List.mem_of_mem_take hx)
      have h4 := row_wt (M := 1073741824) (fun t ht => by
        unfold lvs at ht
        obtain ⟨i, hi, rfl⟩ := List.mem_map.1 ht
        show (e1 i).1 ≤ _
        rw [(HL1.out.is_ i (List.mem_range.1 hi)).2.2]; exact HC.out _) z _ h3
      have h5 : 1073741824 * 2 ^ z ≤ 1073741824 * 2 ^ 14 := Nat.mul_le_mul_left _ (Nat.pow_le_pow_right (by omega) (by omega))
      have h6 : (2 : Nat) ^ 14 = 16384 := rfl
      omega)
    have hgb : w1.heap.size < (w1.alloc (.cells (madeCells #[.int .u8 0] n) 5)).heap.size := by simp
    have HGB := Lib.hid hgb
    have hr1000 : r ≤ 1000 := by omega
    clear x1 x3 x4 x5 x6 hrn hgb
    go_wp2_with fail
    refine (addLeaves_any w1.heap.size n (w1.alloc (.cells (madeCells #[.int .u8 0] n) 5)).heap.size r cap3 A3 (X.take r) (fun _ => 0) _ (by omega) HGB.out X1.out hr1000 XF.out XS.out XW.out (fun i => by omega) TX.out BR3.out).mono ?_; rintro x w4 ⟨rfl, x7, x8⟩
    have F7 := Lib.hid (x7.congr (f' := pl m e L) (fun i _ => by
      rw [pl_congr HE.out i]
      have hle := pl_le HL1.out HB.out h1 i
      unfold plusL
      rw [List.map_take, X3.out]
      unfold pl at hle ⊢
      rw [if_neg (by omega), if_neg (by omega), HR.out] at hle ⊢
      rw [Nat.zero_add, Nat.mod_eq_of_lt (by omega)]))
    have F8 := Lib.hid (x8.below (B := W.heap.size) (by have := X6.out.size; have := B1.out.size; simp at *; omega) (fun j hj => by have : j = w1.heap.size := hj; have := B1.out.size; omega))
    clear x7 x8
    go_wp2_with fail
    go_ret2
    exact ⟨_, rfl, B1.out.size, F7.out, ((B1.out.alloc B1.out.size _).trans (X6.out.mono (by have := B1.out.size; simp; omega))).trans F8.out⟩
end Go.Proofs.YtlanibgeafdefaaGreatDoor

namespace Go.Proofs.YtlanibgeafdefaaGreatDoor
open Go.RowKit M
set_option linter.unusedVariables false
def two (a b : Value) (i : Nat) : Value := if i = 0 then a else b
def R2 (w : World) (g : Nat) (a b : Value) : Prop := w.rowIs g 136 2 (two a b)
section
variable {w w' : World} {g : Nat} {a b : Value}
theorem R2.new (w : World) (a b : Value) : R2 (w.alloc (.cells #[a, b] 136)) w.heap.size a b := ⟨#[a, b], heap_alloc_new _ _, rfl, fun i hi => by
  match i, hi with
  | 0, _ => rfl
  | 1, _ => rfl⟩
theorem R2.alloc (h : R2 w g a b) (o : Obj) : R2 (w.alloc o) g a b := World.rowIs.alloc h o
theorem R2.drew (h : R2 w g a b) : R2 w.drew g a b := h
theorem R2.other (h : R2 w g a b) {x : Addr} (hx : g ≠ x.block) (u : Value) : R2 (w.setCell x u) g a b := World.rowIs.setOther h hx u
theorem R2.at0 (h : R2 w g a b) : w.cell? ⟨g, 0, none⟩ = some a := World.rowIs.cell h (i := 0) (by omega)
theorem R2.at1 (h : R2 w g a b) : w.cell? ⟨g, 1, none⟩ = some b := World.rowIs.cell h (i := 1) (by omega)
theorem R2.frozen (h : R2 w g a b) (i : Nat) : w.frozen? ⟨g, i, none⟩ = false := World.rowIs.frozen h i
theorem R2.put (h : R2 w g a b) (c d : Value) : R2 ((w.setCell ⟨g, 0, none⟩ c).setCell ⟨g, 1, none⟩ d) g c d :=
  World.rowIs.congr (World.rowIs.set (World.rowIs.set h 0 c) 1 d) (fun j hj => by
    match j, hj with
    | 0, _ => rfl
    | 1, _ => rfl)
theorem R2.row (h : R2 w g a b) : w.heap[g]? = some (.cells #[a, b] 136 (0, 0)) := by
  obtain ⟨c, h1, h2, h3⟩ := h
  have : c = #[a, b] := by
    apply Array.ext_getElem?
    intro i
    match i with
    | 0 => exact h3 0 (by omega)
    | 1 => exact h3 1 (by omega)
    | i + 2 => rw [Array.getElem?_eq_none (by omega), Array.getElem?_eq_none (by simp)]
  rw [h1, this]
end
theorem thing2Size : (Tryz.prog.info? 136).map (fun i => i.size) = some 2 := by kernel_rfl
theorem thing2Info : (Tryz.prog.info? 136).map (fun i => (i.zero, i.size, i.bytes)) = some (some (.agg #[.int .i64 0, .slice none 0 0]), 2, 32) := by kernel_rfl
set_option maxHeartbeats 1000000 in
theorem rleaf_any (x k n : Nat) (W : World) (hn : n ≤ 320) (hk : k < n) :
    Calls Tryz.prog 67 #[.int .i64 x, .int .i64 k, .int .i64 n] W fun e w' => ∃ g, e = .returned (.agg #[.int .i64 x, .slice (some ⟨g, 0, none⟩) n n]) ∧ W.heap.size ≤ g ∧ Br w' g n (fun j => if j = k then 1 else 0) ∧ Below W.heap.size W w' := by
  have hmk := fun w => madeByte w n (by omega)
  have mg : (madeCells #[Value.int .u8 0] n)[k]? = some (.int .u8 0) := by simp [madeCells, hk, Nat.mod_one]
  have HB := Lib.hid (Br.made1 (W.alloc (.cells #[.int .i64 x, .slice (some ⟨W.heap.size + 1, 0, none⟩) n n] 136)) n k hk)
  have HR := Lib.hid (R2.new W (.int .i64 x) (.slice (some ⟨W.heap.size + 1, 0, none⟩) n n))
  go_enter Tryz.func67, Tryz.ntmps67
  go_wp2_with fail
  refine bodyPost_ret (v := .agg #[.int .i64 x, .slice (some ⟨W.heap.size + 1, 0, none⟩) n n]) (results_cell_row rfl _ _ W.heap.size _ _ _ _ rfl ((HR.out.alloc _).alloc _).row Tryz.underlying136 rfl thing2Size) rfl ⟨_, rfl, by omega, ?_, ?_⟩
  · have h := HB.out
    rw [show (W.alloc (.cells #[.int .i64 x, .slice (some ⟨W.heap.size + 1, 0, none⟩) n n] 136)).heap.size = W.heap.size + 1 by simp] at h
    exact h.alloc _
  · exact (((Below.refl _ _).alloc (Nat.le_refl _) _).alloc (by simp) _).alloc (by simp; omega) _
set_option maxHeartbeats 1000000 in
theorem rboth_any (x y ga gb n : Nat) (f h : Nat → Nat) (W : World) (hn : n ≤ 320) (hx : x ≤ 1125899906842624) (hy : y ≤ 1125899906842624) (H1 : Br W ga n f) (H2 : Br W gb n h) :
    Calls Tryz.prog 85 #[.agg #[.int .i64 x, .slice (some ⟨ga, 0, none⟩) n n], .agg #[.int .i64 y, .slice (some ⟨gb, 0, none⟩) n n]] W fun e w' => ∃ g, e = .returned (.agg #[.int .i64 ((x + y : Nat) : Int), .slice (some ⟨g, 0, none⟩) n n]) ∧ W.heap.size ≤ g ∧ Br w' g n (fun j => (f j + h j) % 256) ∧ Below W.heap.size W w' := by
  have hmk := fun w => madeByte w n (by omega)
  have B1 := Lib.hid H1
  have B2 := Lib.hid H2
  have hxy : ((x + y : Nat) : Int) = (x : Int) + (y : Int) := by omega
  clear H1 H2
  go_enter Tryz.func85, Tryz.ntmps85
  go_wp2_with fail
  go_region
  all_goals go_wp2_with fail
  all_goals clear hmk
  · go_loopw [6] (fun v wr => ∃ i : Nat, v = .int .i64 i ∧ i ≤ n ∧ R2 wr W.heap.size (.int .i64 x) (.slice (some ⟨ga, 0, none⟩) n n) ∧ R2 wr (W.heap.size + 1) (.int .i64 y) (.slice (some ⟨gb, 0, none⟩) n n) ∧ R2 wr (W.heap.size + 1 + 1) (.int .i64 0) (.slice none 0 0)
      ∧ R2 wr (W.heap.size + 1 + 1 + 1 + 1) (.int .i64 ((x : Int) + (y : Int))) (.slice (some ⟨W.heap.size + 1 + 1 + 1, 0, none⟩) n n) ∧ Br wr (W.heap.size + 1 + 1 + 1) n (fun j => if j < i then (f j + h j) % 256 else 0) ∧ Below W.heap.size W wr) (fun v _ => n - (intOf v).toNat)
    case atStart =>
      refine ⟨0, rfl, Nat.zero_le _, ?_, ?_, ?_, ?_, ?_, ?_⟩
      · exact ((((R2.new W _ _).alloc _).alloc _).alloc _).alloc _
      · have q := R2.new (W.alloc (.cells #[.int .i64 x, .slice (some ⟨ga, 0, none⟩) n n] 136)) (.int .i64 y) (.slice (some ⟨gb, 0, none⟩) n n)
        rw [show (W.alloc (.cells #[.int .i64 x, .slice (some ⟨ga, 0, none⟩) n n] 136)).heap.size = W.heap.size + 1 by simp] at q
        exact ((q.alloc _).alloc _).alloc _
      · have q := R2.new ((W.alloc (.cells #[.int .i64 x, .slice (some ⟨ga, 0, none⟩) n n] 136)).alloc (.cells #[.int .i64 y, .slice (some ⟨gb, 0, none⟩) n n] 136)) (.int .i64 0) (.slice none 0 0)
        rw [show ((W.alloc (.cells #[.int .i64 x, .slice (some ⟨ga, 0, none⟩) n n] 136)).alloc (.cells #[.int .i64 y, .slice (some ⟨gb, 0, none⟩) n n] 136)).heap.size = W.heap.size + 1 + 1 by simp] at q
        exact (q.alloc _).alloc _
      · have q := R2.new ((((W.alloc (.cells #[.int .i64 x, .slice (some ⟨ga, 0, none⟩) n n] 136)).alloc (.cells #[.int .i64 y, .slice (some ⟨gb, 0, none⟩) n n] 136)).alloc (.cells #[.int .i64 0, .slice none 0 0] 136)).alloc (.cells (madeCells #[.int .u8 0] n) 5)) (.int .i64 ((x : Int) + (y : Int))) (.slice (some ⟨W.heap.size + 1 + 1 + 1, 0, none⟩) n n)
        rw [show ((((W.alloc (.cells #[.int .i64 x, .slice (some ⟨ga, 0, none⟩) n n] 136)).alloc (.cells #[.int .i64 y, .slice (some ⟨gb, 0, none⟩) n n] 136)).alloc (.cells #[.int .i64 0, .slice none 0 0] 136)).alloc (.cells (madeCells #[.int .u8 0] n) 5)).heap.size = W.heap.size + 1 + 1 + 1 + 1 by simp] at q
        exact q
      · have q := Br.made' (((W.alloc (.cells #[.int .i64 x, .slice (some ⟨ga, 0, none⟩) n n] 136)).alloc (.cells #[.int .i64 y, .slice (some ⟨gb, 0, none⟩) n n] 136)).alloc (.cells #[.int .i64 0, .slice none 0 0] 136)) n
        rw [show (((W.alloc (.cells #[.int .i64 x, .slice (some ⟨ga, 0, none⟩) n n] 136)).alloc (.cells #[.int .i64 y, .slice (some ⟨gb, 0, none⟩) n n] 136)).alloc (.cells #[.int .i64 0, .slice none 0 0] 136)).heap.size = W.heap.size + 1 + 1 + 1 by simp] at q
        exact (q.alloc _).congr (fun i _ => by rw [if_neg (by omega)])
      · exact (((((Below.refl _ _).alloc (Nat.le_refl _) _).alloc (by simp) _).alloc (by simp; omega) _).alloc (by simp; omega) _).alloc (by simp; omega) _ |>.drew
    case round =>
      obtain ⟨i, rfl, hi, r1, r2, r3, r4, hb, hw⟩ := hrel
      have p0 := r1.at1
      have p1 := r2.at1
      have p2 := r4.at1
      by_cases hlt : i < n
      · have c1 := (B1.out.below hw B1.out.lt).cell hlt
        have c2 := (B2.out.below hw B2.out.lt).cell hlt
        have c3 := hb.cell hlt
        have f3 := hb.frozen i
        obtain ⟨u, hu⟩ : ∃ u, f i = u := ⟨_, rfl⟩
        obtain ⟨v, hv⟩ : ∃ v, h i = v := ⟨_, rfl⟩
        rw [hu] at c1
        rw [hv] at c2
        have HB := (hb.set i ((u + v) % 256)).congr (f' := fun j => if j < i + 1 then (f j + h j) % 256 else 0) (fun j _ => by
          by_cases e : j = i
          · rw [if_pos e, if_pos (by omega), e, hu, hv]
          · rw [if_neg e]
            by_cases q : j < i
            · rw [if_pos q, if_pos (by omega)]
            · rw [if_neg q, if_neg (by omega)])
        have e8 : (((u + v) % 256 : Nat) : Int) = ((u : Int) + (v : Int)) % 256 := by omega
        have HR1 := Lib.hid (r1.other (x := ⟨W.heap.size + 1 + 1 + 1, i, none⟩) (show W.heap.size ≠ W.heap.size + 1 + 1 + 1 by omega) (.int .u8 (((u + v) % 256 : Nat) : Int)))
        have HR2 := Lib.hid (r2.other (x := ⟨W.heap.size + 1 + 1 + 1, i, none⟩) (show W.heap.size + 1 ≠ W.heap.size + 1 + 1 + 1 by omega) (.int .u8 (((u + v) % 256 : Nat) : Int)))
        have HR3 := Lib.hid (r3.other (x := ⟨W.heap.size + 1 + 1 + 1, i, none⟩) (show W.heap.size + 1 + 1 ≠ W.heap.size + 1 + 1 + 1 by omega) (.int .u8 (((u + v) % 256 : Nat) : Int)))
        have HR4 := Lib.hid (r4.other (x := ⟨W.heap.size + 1 + 1 + 1, i, none⟩) (show W.heap.size + 1 + 1 + 1 + 1 ≠ W.heap.size + 1 + 1 + 1 by omega) (.int .u8 (((u + v) % 256 : Nat) : Int)))
        have HW := Lib.hid (hw.setCell (p := ⟨W.heap.size + 1 + 1 + 1, i, none⟩) (show W.heap.size ≤ W.heap.size + 1 + 1 + 1 by omega) (.int .u8 (((u + v) % 256 : Nat) : Int)))
        have HBB := Lib.hid HB
        rw [e8] at HR1 HR2 HR3 HR4 HW HBB
        clear HB e8 hu hv r1 r2 r3 r4 hb hw
        go_wp2_with fail
        go_region
        go_wp2_with fail
        go_roundw
        case rel => exact ⟨i + 1, by go_num, by omega, HR1.out.drew, HR2.out.drew, HR3.out.drew, HR4.out.drew, HBB.out.drew, HW.out.drew⟩
        case measure => simp [intOf]; omega
      · obtain rfl : i = n := by omega
        have p3 := r4.at0
        have q0 := r3.at0
        have q1 := r3.at1
        have g0 := r3.frozen 0
        have g1 := r3.frozen 1
        have HR := Lib.hid (r3.put (.int .i64 ((x : Int) + (y : Int))) (.slice (some ⟨W.heap.size + 1 + 1 + 1, 0, none⟩) i i))
        have HB := Lib.hid (((hb.other (a := ⟨W.heap.size + 1 + 1, 0, none⟩) (show W.heap.size + 1 + 1 + 1 ≠ W.heap.size + 1 + 1 by omega) (.int .i64 ((x : Int) + (y : Int)))).other (a := ⟨W.heap.size + 1 + 1, 1, none⟩) (show W.heap.size + 1 + 1 + 1 ≠ W.heap.size + 1 + 1 by omega) (.slice (some ⟨W.heap.size + 1 + 1 + 1, 0, none⟩) i i)).congr (f' := fun j => (f j + h j) % 256) (fun j hj => by rw [if_pos hj]))
        have HW := Lib.hid ((hw.setCell (p := ⟨W.heap.size + 1 + 1, 0, none⟩) (show W.heap.size ≤ W.heap.size + 1 + 1 by omega) (.int .i64 ((x : Int) + (y : Int)))).setCell (p := ⟨W.heap.size + 1 + 1, 1, none⟩) (show W.heap.size ≤ W.heap.size + 1 + 1 by omega) (.slice (some ⟨W.heap.size + 1 + 1 + 1, 0, none⟩) i i))
        clear r1 r2 r3 r4 hb hw
        go_wp2_with fail
        refine bodyPost_ret (v := .agg #[.int .i64 ((x : Int) + (y : Int)), .slice (some ⟨W.heap.size + 1 + 1 + 1, 0, none⟩) i i]) (results_cell_row rfl _ _ (W.heap.size + 1 + 1) _ _ _ _ rfl HR.out.row Tryz.underlying136 rfl thing2Size) rfl ⟨_, by rw [hxy], by omega, HB.out, HW.out⟩
  · go_loopw [6] (fun v wr => ∃ i : Nat, v = .int .i64 i ∧ i ≤ n ∧ R2 wr W.heap.size (.int .i64 x) (.slice (some ⟨ga, 0, none⟩) n n) ∧ R2 wr (W.heap.size + 1) (.int .i64 y) (.slice (some ⟨gb, 0, none⟩) n n) ∧ R2 wr (W.heap.size + 1 + 1) (.int .i64 0) (.slice none 0 0)
      ∧ R2 wr (W.heap.size + 1 + 1 + 1) (.int .i64 ((x : Int) + (y : Int))) (.slice (some ⟨W.heap.size + 1 + 1 + 1 + 1, 0, none⟩) n n) ∧ Br wr (W.heap.size + 1 + 1 + 1 + 1) n (fun j => if j < i then (f j + h j) % 256 else 0) ∧ Below W.heap.size W wr) (fun v _ => n - (intOf v).toNat)
    case atStart =>
      refine ⟨0, rfl, Nat.zero_le _, ?_, ?_, ?_, ?_, ?_, ?_⟩
      · exact ((((R2.new W _ _).alloc _).alloc _).alloc _).alloc _
      · have q := R2.new (W.alloc (.cells #[.int .i64 x, .slice (some ⟨ga, 0, none⟩) n n] 136)) (.int .i64 y) (.slice (some ⟨gb, 0, none⟩) n n)
        rw [show (W.alloc (.cells #[.int .i64 x, .slice (some ⟨ga, 0, none⟩) n n] 136)).heap.size = W.heap.size + 1 by simp] at q
        exact ((q.alloc _).alloc _).alloc _
      · have q := R2.new ((W.alloc (.cells #[.int .i64 x, .slice (some ⟨ga, 0, none⟩) n n] 136)).alloc (.cells #[.int .i64 y, .slice (some ⟨gb, 0, none⟩) n n] 136)) (.int .i64 0) (.slice none 0 0)
        rw [show ((W.alloc (.cells #[.int .i64 x, .slice (some ⟨ga, 0, none⟩) n n] 136)).alloc (.cells #[.int .i64 y, .slice (some ⟨gb, 0, none⟩) n n] 136)).heap.size = W.heap.size + 1 + 1 by simp] at q
        exact (q.alloc _).alloc _
      · have q := R2.new (((W.alloc (.cells #[.int .i64 x, .slice (some ⟨ga, 0, none⟩) n n] 136)).alloc (.cells #[.int .i64 y, .slice (some ⟨gb, 0, none⟩) n n] 136)).alloc (.cells #[.int .i64 0, .slice none 0 0] 136)) (.int .i64 ((x : Int) + (y : Int))) (.slice (some ⟨W.heap.size + 1 + 1 + 1 + 1, 0, none⟩) n n)
        rw [show (((W.alloc (.cells #[.int .i64 x, .slice (some ⟨ga, 0, none⟩) n n] 136)).alloc (.cells #[.int .i64 y, .slice (some ⟨gb, 0, none⟩) n n] 136)).alloc (.cells #[.int .i64 0, .slice none 0 0] 136)).heap.size = W.heap.size + 1 + 1 + 1 by simp] at q
        exact q.alloc _
      · have q := Br.made' ((((W.alloc (.cells #[.int .i64 x, .slice (some ⟨ga, 0, none⟩) n n] 136)).alloc (.cells #[.int .i64 y, .slice (some ⟨gb, 0, none⟩) n n] 136)).alloc (.cells #[.int .i64 0, .slice none 0 0] 136)).alloc (.cells #[.int .i64 ((x : Int) + (y : Int)), .slice (some ⟨W.heap.size + 1 + 1 + 1 + 1, 0, none⟩) n n] 136)) n
        rw [show ((((W.alloc (.cells #[.int .i64 x, .slice (some ⟨ga, 0, none⟩) n n] 136)).alloc (.cells #[.int .i64 y, .slice (some ⟨gb, 0, none⟩) n n] 136)).alloc (.cells #[.int .i64 0, .slice none 0 0] 136)).alloc (.cells #[.int .i64 ((x : Int) + (y : Int)), .slice (some ⟨W.heap.size + 1 + 1 + 1 + 1, 0, none⟩) n n] 136)).heap.size = W.heap.size + 1 + 1 + 1 + 1 by simp] at q
        exact q.congr (fun i _ => by rw [if_neg (by omega)])
      · exact (((((Below.refl _ _).alloc (Nat.le_refl _) _).alloc (by simp) _).alloc (by simp; omega) _).alloc (by simp; omega) _).alloc (by simp; omega) _ |>.drew
    case round =>
      obtain ⟨i, rfl, hi, r1, r2, r3, r4, hb, hw⟩ := hrel
      have p0 := r1.at1
      have p1 := r2.at1
      have p2 := r4.at1
      by_cases hlt : i < n
      · have c1 := (B1.out.below hw B1.out.lt).cell hlt
        have c2 := (B2.out.below hw B2.out.lt).cell hlt
        have c3 := hb.cell hlt
        have f3 := hb.frozen i
        obtain ⟨u, hu⟩ : ∃ u, f i = u := ⟨_, rfl⟩
        obtain ⟨v, hv⟩ : ∃ v, h i = v := ⟨_, rfl⟩
        rw [hu] at c1
        rw [hv] at c2
        have HB := (hb.set i ((u + v) % 256)).congr (f' := fun j => if j < i + 1 then (f j + h j) % 256 else 0) (fun j _ => by
          by_cases e : j = i
          · rw [if_pos e, if_pos (by omega), e, hu, hv]
          · rw [if_neg e]
            by_cases q : j < i
            · rw [if_pos q, if_pos (by omega)]
            · rw [if_neg q, if_neg (by omega)])
        have e8 : (((u + v) % 256 : Nat) : Int) = ((u : Int) + (v : Int)) % 256 := by omega
        have HR1 := Lib.hid (r1.other (x := ⟨W.heap.size + 1 + 1 + 1 + 1, i, none⟩) (show W.heap.size ≠ W.heap.size + 1 + 1 + 1 + 1 by omega) (.int .u8 (((u + v) % 256 : Nat) : Int)))
        have HR2 := Lib.hid (r2.other (x := ⟨W.heap.size + 1 + 1 + 1 + 1, i, none⟩) (show W.heap.size + 1 ≠ W.heap.size + 1 + 1 + 1 + 1 by omega) (.int .u8 (((u + v) % 256 : Nat) : Int)))
        have HR3 := Lib.hid (r3.other (x := ⟨W.heap.size + 1 + 1 + 1 + 1, i, none⟩) (show W.heap.size + 1 + 1 ≠ W.heap.size + 1 + 1 + 1 + 1 by omega) (.int .u8 (((u + v) % 256 : Nat) : Int)))
        have HR4 := Lib.hid (r4.other (x := ⟨W.heap.size + 1 + 1 + 1 + 1, i, none⟩) (show W.heap.size + 1 + 1 + 1 ≠ W.heap.size + 1 + 1 + 1 + 1 by omega) (.int .u8 (((u + v) % 256 : Nat) : Int)))
        have HW := Lib.hid (hw.setCell (p := ⟨W.heap.size + 1 + 1 + 1 + 1, i, none⟩) (show W.heap.size ≤ W.heap.size + 1 + 1 + 1 + 1 by omega) (.int .u8 (((u + v) % 256 : Nat) : Int)))
        have HBB := Lib.hid HB
        rw [e8] at HR1 HR2 HR3 HR4 HW HBB
        clear HB e8 hu hv r1 r2 r3 r4 hb hw
        go_wp2_with fail
        go_region
        go_wp2_with fail
        go_roundw
        case rel => exact ⟨i + 1, by go_num, by omega, HR1.out.drew, HR2.out.drew, HR3.out.drew, HR4.out.drew, HBB.out.drew, HW.out.drew⟩
        case measure => simp [intOf]; omega
      · obtain rfl : i = n := by omega
        have p3 := r4.at0
        have q0 := r3.at0
        have q1 := r3.at1
        have g0 := r3.frozen 0
        have g1 := r3.frozen 1
        have HR := Lib.hid (r3.put (.int .i64 ((x : Int) + (y : Int))) (.slice (some ⟨W.heap.size + 1 + 1 + 1 + 1, 0, none⟩) i i))
        have HB := Lib.hid (((hb.other (a := ⟨W.heap.size + 1 + 1, 0, none⟩) (show W.heap.size + 1 + 1 + 1 + 1 ≠ W.heap.size + 1 + 1 by omega) (.int .i64 ((x : Int) + (y : Int)))).other (a := ⟨W.heap.size + 1 + 1, 1, none⟩) (show W.heap.size + 1 + 1 + 1 + 1 ≠ W.heap.size + 1 + 1 by omega) (.slice (some ⟨W.heap.size + 1 + 1 + 1 + 1, 0, none⟩) i i)).congr (f' := fun j => (f j + h j) % 256) (fun j hj => by rw [if_pos hj]))
        have HW := Lib.hid ((hw.setCell (p := ⟨W.heap.size + 1 + 1, 0, none⟩) (show W.heap.size ≤ W.heap.size + 1 + 1 by omega) (.int .i64 ((x : Int) + (y : Int)))).setCell (p := ⟨W.heap.size + 1 + 1, 1, none⟩) (show W.heap.size ≤ W.heap.size + 1 + 1 by omega) (.slice (some ⟨W.heap.size + 1 + 1 + 1 + 1, 0, none⟩) i i))
        clear r1 r2 r3 r4 hb hw
        go_wp2_with fail
        refine bodyPost_ret (v := .agg #[.int .i64 ((x : Int) + (y : Int)), .slice (some ⟨W.heap.size + 1 + 1 + 1 + 1, 0, none⟩) i i]) (results_cell_row rfl _ _ (W.heap.size + 1 + 1) _ _ _ _ rfl HR.out.row Tryz.underlying136 rfl thing2Size) rfl ⟨_, by rw [hxy], by omega, HB.out, HW.out⟩
end Go.Proofs.YtlanibgeafdefaaGreatDoor
