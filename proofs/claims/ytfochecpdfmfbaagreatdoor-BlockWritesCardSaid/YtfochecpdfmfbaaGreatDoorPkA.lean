/- What may and leavesOf of package pack answer. Conditions: as each theorem names them. -/
import Derived.Test.YtfochecpdfmfbaaGreatDoorThg
import Derived.Test.YtfochecpdfmfbaaGreatDoorMSoC
namespace Go.Proofs.YtfochecpdfmfbaaGreatDoor
open Go.RowKit M
set_option linter.unusedVariables false

/-- may these be counts -/
def MayC (z : Nat → Int) (n : Nat) : Prop := n ≤ 320 ∧ ∀ i, i < n → 0 ≤ z i ∧ z i ≤ 1073741824
instance (z : Nat → Int) (n : Nat) : Decidable (MayC z n) := inferInstanceAs (Decidable (n ≤ 320 ∧ ∀ i, i < n → 0 ≤ z i ∧ z i ≤ 1073741824))
def mayC (z : Nat → Int) (n : Nat) : Bool := decide (MayC z n)
theorem mayC_true {z : Nat → Int} {n : Nat} (h : MayC z n) : mayC z n = true := decide_eq_true h
theorem mayC_false {z : Nat → Int} {n : Nat} (h : ¬ MayC z n) : mayC z n = false := decide_eq_false h

theorem pmay_any (A : Option Addr) (n c : Nat) (z : Nat → Int) (w : World) (hn : n ≤ maxLen) (H : Nums w .i64 A n z) :
    Calls Tryz.prog 99 #[.slice A n c] w fun e w' => e = .returned (.bool (mayC z n)) ∧ w = w' := by
  have hn' : n ≤ 9223372036854775807 := by unfold maxLen at hn; omega
  clear hn
  by_cases h3 : n ≤ 320
  · go_enter Tryz.func99, Tryz.ntmps99
    go_wp2
    go_loop [10] (fun i => ∃ k : Nat, k ≤ n ∧ i = .int .i64 k ∧ Hid (∀ j, j < k → 0 ≤ z j ∧ z j ≤ 1073741824)) (fun i => n - (intOf i).toNat)
    case atStart => exact ⟨0, Nat.zero_le _, rfl, Lib.hid (fun j hj => by omega)⟩
    case round =>
      obtain ⟨k, hk, rfl, hsm⟩ := hrel
      by_cases hlt : k < n
      · obtain ⟨b, o, rfl, hb, hc⟩ := H (by omega)
        have hcell := hc k hlt
        have HH := Lib.hid hc
        clear hc
        obtain ⟨x, hx⟩ : ∃ x, z k = x := ⟨_, rfl⟩
        rw [hx] at hcell
        have HX := Lib.hid hx
        clear hx
        by_cases h1 : x < 0
        · have d1 : decide (x < 0) = true := decide_eq_true h1
          have hv := Lib.hid (mayC_false (z := z) (n := n) (fun g => by have := g.2 k hlt; rw [HX.out] at this; omega))
          go_wp2
          go_ret
          exact ⟨by rw [hv.out]; rfl, rfl⟩
        · have d1 : decide (x < 0) = false := decide_eq_false h1
          by_cases h2 : 1073741824 < x
          · have hv := Lib.hid (mayC_false (z := z) (n := n) (fun g => by have := g.2 k hlt; rw [HX.out] at this; omega))
            have d2 : decide (1073741824 < x) = true := decide_eq_true h2
            go_wp2
            go_ret
            exact ⟨by rw [hv.out]; rfl, rfl⟩
          · have d2 : decide (1073741824 < x) = false := decide_eq_false h2
            go_wp2
            go_round
            case rel => exact ⟨k + 1, by omega, by go_num, Lib.hid (fun j hj => by
              by_cases e : j = k
              · rw [e, HX.out]; omega
              · exact hsm.out j (by omega))⟩
            case measure => simp [intOf]; omega
      · obtain rfl : k = n := by omega
        have hv := Lib.hid (mayC_true (z := z) (n := k) ⟨h3, hsm.out⟩)
        go_wp2
        go_ret
        exact ⟨by rw [hv.out]; rfl, rfl⟩
  · have hv := Lib.hid (mayC_false (z := z) (n := n) (fun g => h3 g.1))
    go_enter Tryz.func99, Tryz.ntmps99
    go_wp2
    go_ret
    exact ⟨by rw [hv.out]; rfl, rfl⟩

/-- those that count, as they come -/
structure Raw (c : Nat → Nat) (k m : Nat) (e : Nat → Nat × Nat) : Prop where
  inc : Inc e m
  is_ : ∀ i, i < m → (e i).2 < k ∧ 0 < c (e i).2 ∧ (e i).1 = c (e i).2
  all : ∀ s, s < k → 0 < c s → ∃ i, i < m ∧ (e i).2 = s
  le : m ≤ k
/-- those that count, by rising counts -/
structure IsLv (c : Nat → Nat) (n m : Nat) (e : Nat → Nat × Nat) : Prop where
  ord : Ord e 0 m
  is_ : ∀ i, i < m → (e i).2 < n ∧ 0 < c (e i).2 ∧ (e i).1 = c (e i).2
  all : ∀ s, s < n → 0 < c s → ∃ i, i < m ∧ (e i).2 = s
  le : m ≤ n
theorem Raw.none (c : Nat → Nat) (e : Nat → Nat × Nat) : Raw c 0 0 e := ⟨fun i j h1 h2 => by omega, fun i h => by omega, fun s h => by omega, Nat.le_refl _⟩
theorem Raw.skip {c : Nat → Nat} {k m : Nat} {e : Nat → Nat × Nat} (h : Raw c k m e) (hz : c k = 0) : Raw c (k + 1) m e :=
  ⟨h.inc, fun i hi => by have := h.is_ i hi; exact ⟨by omega, this.2⟩, fun s hs hc => by
    by_cases q : s = k
    · subst q; omega
    · exact h.all s (by omega) hc, by have := h.le; omega⟩
theorem Raw.more {c : Nat → Nat} {k m : Nat} {e : Nat → Nat × Nat} (h : Raw c k m e) (hz : 0 < c k) : Raw c (k + 1) (m + 1) (fun i => if i = m then (c k, k) else e i) := by
  refine ⟨fun i j h1 h2 => ?_, fun i hi => ?_, fun s hs hc => ?_, by have := h.le; omega⟩
  · by_cases q : j = m
    · have := (h.is_ i (by omega)).1
      simp only [if_pos q, if_neg (show ¬ i = m by omega)]; exact this
    · simp only [if_neg q, if_neg (show ¬ i = m by omega)]; exact h.inc i j h1 (by omega)
  · by_cases q : i = m
    · simp only [if_pos q]; exact ⟨Nat.lt_succ_self _, hz, trivial⟩
    · simp only [if_neg q]; have := h.is_ i (by omega); exact ⟨by omega, this.2⟩
  · by_cases q : s = k
    · exact ⟨m, by omega, by simp only [if_pos]; exact q.symm⟩
    · obtain ⟨i, hi, r⟩ := h.all s (by omega) hc
      exact ⟨i, by omega, by simp only [if_neg (show ¬ i = m by omega)]; exact r⟩
theorem Raw.lv {c : Nat → Nat} {n m : Nat} {e e' : Nat → Nat × Nat} (h : Raw c n m e) (ho : Ord e' 0 m) (hm : Mem e e' 0 m) : IsLv c n m e' :=
  ⟨ho, fun i hi => by
    obtain ⟨j, _, j2, q⟩ := hm.fro i (Nat.zero_le _) hi
    rw [q]; exact h.is_ j j2, fun s hs hc => by
    obtain ⟨i, hi, r⟩ := h.all s hs hc
    obtain ⟨j, _, j2, q⟩ := hm.to i (Nat.zero_le _) hi
    exact ⟨j, j2, by rw [← q]; exact r⟩, h.le⟩
/-- leaves as things' cells -/
def lt3 (m : Nat) (e : Nat → Nat × Nat) : List Tr := (List.range m).map fun i => ((e i).1, (e i).2, none)
theorem lt3_length (m : Nat) (e : Nat → Nat × Nat) : (lt3 m e).length = m := by unfold lt3; simp
theorem lt3_at (m : Nat) (e : Nat → Nat × Nat) {i : Nat} (h : i < m) : (lt3 m e)[i]? = some ((e i).1, (e i).2, none) := by unfold lt3; simp [h]
theorem lt3_more (m x y : Nat) (e : Nat → Nat × Nat) : lt3 m e ++ [(x, y, none)] = lt3 (m + 1) (fun i => if i = m then (x, y) else e i) := by
  unfold lt3
  rw [List.range_succ, List.map_append]
  congr 1
  · apply List.map_congr_left
    intro i hi
    have := List.mem_range.1 hi
    simp only [if_neg (show ¬ i = m by omega)]
  · simp
theorem Ow.lfs {base g m cap : Nat} {w : World} {e : Nat → Nat × Nat} (h : Ow base w (.slice (some ⟨g, 0, none⟩) m cap) (lt3 m e)) : Lfs w g m e := by
  obtain ⟨cur, hc, hs⟩ := h.block
  refine ⟨cur, hc, hs, fun i hi => ?_⟩
  have := h.trs i _ (lt3_at m e hi)
  rw [cell_of_row w g _ cur _ _ hc, cell_of_row w g _ cur _ _ hc, cell_of_row w g _ cur _ _ hc] at this
  rw [Nat.zero_add] at this
  exact this
theorem one_trs (w : World) (x y : Nat) (p : Option Addr) : Trs (w.alloc (.cells #[.int .u64 x, .int .i64 y, .pointer p] 161)) w.heap.size 0 [(x, y, p)] := by
  intro i t h
  match i, h with
  | 0, h =>
    simp at h
    subst h
    simp

set_option maxHeartbeats 4000000 in
set_option maxRecDepth 1000000 in
theorem leaves_any (A : Option Addr) (n c' : Nat) (c : Nat → Nat) (W : World) (hn : n ≤ 320) (hc : ∀ i, c i ≤ 1073741824) (H : Nums W .i64 A n (fun i => (c i : Int))) :
    Calls Tryz.prog 100 #[.slice A n c'] W fun x w' => ∃ A' cap m e, x = .returned (.slice A' m cap) ∧ m ≤ cap ∧ IsLv c n m e ∧ (0 < m → ∃ b, A' = some ⟨b, 0, none⟩ ∧ Lfs w' b m e) ∧ Below W.heap.size W w' := by
  have HC := Lib.hid hc
  have HA := Lib.hid H
  clear hc H
  go_enter Tryz.func100, Tryz.ntmps100
  go_wp2_with fail
  go_loopw [3, 8] (fun v i wr => ∃ (k m : Nat) (e : Nat → Nat × Nat), i = .int .i64 k ∧ k ≤ n ∧ Hid (Ow W.heap.size wr v (lt3 m e) ∧ Raw c k m e ∧ Below W.heap.size W wr)) (fun v i _ => n - (intOf i).toNat)
  case atStart => exact ⟨0, 0, fun _ => (0, 0), rfl, Nat.zero_le _, Lib.hid ⟨Ow.nil _ _, Raw.none _ _, Below.refl _ _⟩⟩
  case round =>
    obtain ⟨k, m, e, rfl, hk, HB⟩ := hrel
    by_cases hlt : k < n
    · obtain ⟨b, o, rfl, hb, hc1⟩ := HA.out (by omega)
      have hcell : wr.cell? ⟨b, o + k, none⟩ = some (.int .i64 (c k)) := (HB.out.2.2.cell hb).trans (hc1 k hlt)
      have h30 := HC.out k
      clear hc1
      obtain ⟨x, hx⟩ : ∃ x, c k = x := ⟨_, rfl⟩
      rw [hx] at hcell h30
      have HX := Lib.hid hx
      clear hx
      by_cases h0 : 0 < x
      · have hsz := HB.out.2.2.size
        have hw : IntKind.u64.wrap (x : Int) = (x : Int) := by rw [IntKind.wrap_u64]; omega
        have HO := Lib.hid (show Ow W.heap.size (wr.alloc (.cells #[.int .u64 x, .int .i64 k, .pointer none] 161)) _ (lt3 m e) from HB.out.1.alloc _)
        have HT := Lib.hid (one_trs wr x k none)
        have HS := Lib.hid (show W.heap.size ≤ (wr.alloc (.cells #[.int .u64 x, .int .i64 k, .pointer none] 161)).heap.size by simp; omega)
        have HM := Lib.hid (show (lt3 m e).length + 1 ≤ 2000 by have := HB.out.2.1.le; rw [lt3_length]; omega)
        clear hsz
        go_wp2_with (at_builtin; refine wpList_ap rfl _ _ rfl W.heap.size _ (lt3 m e) [(x, k, none)] rfl HO.out _ 0 1 _ rfl rfl HT.out HM.out HS.out ?_; intro v2 w2 o2 g2 b2 q2; have O2 := Lib.hid o2; have B2 := Lib.hid b2; clear o2 g2 b2 q2)
        go_roundw
        case rel =>
          refine ⟨k + 1, m + 1, _, by go_num, by omega, Lib.hid ⟨by have := O2.out; rw [lt3_more] at this; exact this, ?_, ?_⟩⟩
          · have := HB.out.2.1.more (k := k) (by rw [HX.out]; exact h0)
            rw [HX.out] at this; exact this
          · exact (HB.out.2.2.alloc HB.out.2.2.size _).trans B2.out
        case measure => simp [intOf]; omega
      · obtain rfl : x = 0 := by omega
        go_wp2_with fail
        go_roundw
        case rel => exact ⟨k + 1, m, e, by go_num, by omega, Lib.hid ⟨HB.out.1, HB.out.2.1.skip HX.out, HB.out.2.2⟩⟩
        case measure => simp [intOf]; omega
    · obtain rfl : k = n := by omega
      rcases HB.out.1.form with ⟨rfl, h1⟩ | ⟨g, cap, rfl, hg, hg2⟩
      · have h0 := congrArg List.length h1
        rw [lt3_length] at h0
        obtain rfl : m = 0 := h0
        have HL := Lib.hid (HB.out.2.1.lv (e' := e) (fun i j h1 h2 h3 => by omega) ⟨fun i h1 h2 => by omega, fun i h1 h2 => by omega⟩)
        clear h1
        go_wp2_with fail
        refine (sort_none 0 _ _).mono ?_; rintro x w1 ⟨rfl, rfl⟩
        go_wp2_with fail
        go_ret
        exact ⟨_, _, _, _, rfl, Nat.le_refl _, HL.out, fun h => absurd h (by omega), HB.out.2.2⟩
      · rw [lt3_length] at HB ⊢
        have HL := Lib.hid HB.out.1.lfs
        have HR := HB.out.2.1
        have HI := Lib.hid HR.inc
        have HCAP := Lib.hid HB.out.1.cap.2.1
        have HM := Lib.hid (show m ≤ 400 by have := HR.le; omega)
        clear HR
        go_wp2_with fail
        refine (sort_any g m cap e _ HM.out HI.out HL.out).mono ?_; rintro x w1 ⟨rfl, e1, l1, o1, m1, k1⟩
        have F1 := Lib.hid (show IsLv c k m e1 ∧ (0 < m → ∃ b, some (⟨g, 0, none⟩ : Addr) = some ⟨b, 0, none⟩ ∧ Lfs w1 b m e1) ∧ Below W.heap.size W w1 from ⟨HB.out.2.1.lv o1 m1, fun _ => ⟨g, rfl, l1⟩, HB.out.2.2.trans (k1.below HB.out.2.2.size (fun j hj => by rw [hj]; exact hg))⟩)
        clear l1 o1 m1 k1
        go_wp2_with fail
        go_ret
        exact ⟨_, _, _, _, rfl, HCAP.out, F1.out.1, F1.out.2.1, F1.out.2.2⟩
end Go.Proofs.YtfochecpdfmfbaaGreatDoor
