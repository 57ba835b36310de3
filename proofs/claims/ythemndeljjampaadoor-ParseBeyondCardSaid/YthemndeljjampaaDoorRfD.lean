/- The document's finder of layer 8: which match is told. Conditions: as each theorem names them. -/
import Derived.Test.YthemndeljjampaaDoorRfC
namespace Go.Proofs.YthemndeljjampaaDoor.Q
open Go Go.RowKit M
set_option linter.unusedVariables false
set_option linter.unusedSimpArgs false

theorem Owi.cells {B : Nat} {w : World} {v : Value} {l : List Nat} (h : Owi B w v l) {j : Nat} (hj : j < l.length) : ∃ g c, v = .slice (some ⟨g, 0, none⟩) l.length c ∧ B ≤ g ∧ ∀ i (hi : i < l.length), w.cell? ⟨g, i, none⟩ = some (.int .i64 ((l.getD i 0 : Nat) : Int)) := by
  have hc := fun g (hg : v.ownBlock = some g) => World.ownsRow.cells h hg
  rcases h.2 with ⟨h1, h2⟩ | ⟨g, cap, cur, rfl, hg, _⟩
  · omega
  · refine ⟨g, cap, rfl, hg, fun i hi => ?_⟩
    have := hc g rfl i (.int .i64 ((l.getD i 0 : Nat) : Int)) (by rw [List.getElem?_map, List.getElem?_eq_getElem hi, List.getD, List.getElem?_eq_getElem hi]; rfl)
    rw [cadd_at, Nat.zero_add] at this
    exact this
theorem fnd_step {s : ByteArray} {k : Nat} {nice over : Int} {l : List Nat} {j : Nat} {mm : Nat × Nat} (hj : j < l.length) : fnd s k nice over (l.drop j) mm = if nice ≤ (lng s (l.getD j 0) k : Int) then stp s k over mm (l.getD j 0) else fnd s k nice over (l.drop (j + 1)) (stp s k over mm (l.getD j 0)) := by
  rw [List.drop_eq_getElem_cons hj, fnd]
  have e : l[j] = l.getD j 0 := by rw [List.getD, List.getElem?_eq_getElem hj]; rfl
  rw [e]
theorem matchSize : (Tryd.prog.info? 57).map (fun i => i.size) = some 2 := by kernel_rfl

set_option maxRecDepth 1000000 in
set_option maxHeartbeats 2000000 in
theorem rfind_any {W : World} {B F b : Nat} {s : ByteArray} {k : Nat} (H : Rf W B F b s k) (d nice over : Int) (hd : -9223372036854775808 ≤ d ∧ d ≤ 9223372036854775807) :
    Calls Tryd.prog 23 #[.pointer (some ⟨F, 0, none⟩), .int .i64 k, .int .i64 d, .int .i64 nice, .int .i64 over] W fun e w' => e = .returned (.agg #[.int .i64 ((fnd s k nice over (nr s (List.range k) k d) (0, 0)).1 : Nat), .int .i64 ((fnd s k nice over (nr s (List.range k) k d) (0, 0)).2 : Nat)]) ∧ Below W.heap.size W w' := by
  have HH := Lib.hid H
  have hkle := H.le
  have hlen := H.len
  obtain ⟨l, hl⟩ : ∃ l, nr s (List.range k) k d = l := ⟨_, rfl⟩
  have HMem := Lib.hid (show ∀ j, j < l.length → l.getD j 0 < k from fun j hj => by
    have hm : l.getD j 0 ∈ nr s (List.range k) k d := by rw [hl, List.getD, List.getElem?_eq_getElem hj]; exact List.getElem_mem _
    exact (cnd_mem (nr_mem hm)).2.1)
  have HLen := Lib.hid (show l.length ≤ 2000000 from by
    rw [← hl, nr_len]
    have h1 : (cnd s (List.range k) k).length ≤ k := by
      unfold cnd grp
      split
      · exact Nat.le_trans (List.length_filter_le _ _) (Nat.le_trans (List.length_filter_le _ _) (by rw [List.length_range]; exact Nat.le_refl _))
      · exact Nat.zero_le _
    omega)
  obtain ⟨X, Y, hXY⟩ : ∃ X Y, fnd s k nice over l (0, 0) = (X, Y) := ⟨_, _, rfl⟩
  rw [hl, hXY]
  have HP := Lib.hid (fun w (hb : Below W.heap.size W w) => (show Calls Tryd.prog 27 #[.pointer (some ⟨F, 0, none⟩), .int .i64 k, .int .i64 d] w (PlP w l) from by
    have := rplaces_any (H.below hb) d hd
    rw [hl] at this; exact this))
  have HXY := Lib.hid hXY
  clear H hl hXY
  go_enter Tryd.func23, Tryd.ntmps23
  go_wp2_with (go_at_call 27; refine (HP.out _ (((Below.refl _ W).alloc (Nat.le_refl _) _).alloc (by simp) _)).mono ?_; rintro e w1 ⟨v, rfl, hv, hb⟩)
  obtain ⟨A, c, rfl⟩ := hv.form
  have hz2 : ((W.alloc (.cells #[.int .i64 0, .int .i64 0] 57)).alloc (.cells #[.int .i64 0, .int .i64 0] 57)).heap.size = W.heap.size + 2 := by simp
  have hg0 : B2 w1 57 W.heap.size (.int .i64 0) (.int .i64 0) := (hb.block W.heap.size (by rw [hz2]; omega)).trans (old_at _ (new_at _ _))
  have hm0 : B2 w1 57 (W.heap.size + 1) (.int .i64 ((0 : Nat) : Int)) (.int .i64 ((0 : Nat) : Int)) := (hb.block (W.heap.size + 1) (by rw [hz2]; omega)).trans (by
    have := new_at (W.alloc (.cells #[.int .i64 0, .int .i64 0] 57)) (.cells #[.int .i64 0, .int .i64 0] 57)
    rw [World.size_alloc] at this; exact this)
  rw [hz2] at hv hb
  have hb1 : Below W.heap.size W w1 := (((Below.refl _ W).alloc (Nat.le_refl _) _).alloc (by simp) _).trans (hb.mono (by omega))
  have HV := Lib.hid hv
  have HG0 := Lib.hid hg0
  have HM0 := Lib.hid hm0
  have HB1 := Lib.hid hb1
  obtain ⟨n, hn⟩ : ∃ n, l.length = n := ⟨_, rfl⟩
  have HN := Lib.hid hn
  rw [hn]
  have hn9 : n ≤ 2000000 := by have := HLen.out; omega
  clear hv hg0 hm0 hb1 hb hz2 hn HP
  go_loopw [13] (fun i wr => ∃ j m1 m2 : Nat, j ≤ n ∧ i = .int .i64 j ∧ B2 wr 57 W.heap.size (.int .i64 0) (.int .i64 0) ∧ B2 wr 57 (W.heap.size + 1) (.int .i64 m1) (.int .i64 m2) ∧ Owi (W.heap.size + 2) wr (.slice A n c) l ∧ Below W.heap.size W wr ∧ fnd s k nice over (l.drop j) (m1, m2) = (X, Y)) (fun i _ => n - (intOf i).toNat)
  case atStart => exact ⟨0, 0, 0, Nat.zero_le _, rfl, HG0.out, HM0.out, by have := HV.out; rw [HN.out] at this; exact this, HB1.out, HXY.out⟩
  case round =>
    obtain ⟨j, m1, m2, hj, rfl, hG, hM, hO, hb, hf⟩ := hrel
    have g0 := hG.at0
    have g1 := hG.at1
    have gf0 := hG.free 0
    have gf1 := hG.free 1
    have a0 := hM.at0
    have a1 := hM.at1
    have af0 := hM.free 0
    have af1 := hM.free 1
    have HG := Lib.hid hG
    have HM := Lib.hid hM
    have HO := Lib.hid hO
    have HB := Lib.hid hb
    by_cases hlt : j < n
    · obtain ⟨gg, cc, hvv, hgg, hcc⟩ := hO.cells (j := j) (by rw [HN.out]; exact hlt)
      have hfs := fnd_step (s := s) (k := k) (nice := nice) (over := over) (l := l) (mm := (m1, m2)) (j := j) (by rw [HN.out]; exact hlt)
      rw [hf] at hfs
      have hpk := HMem.out j (by rw [HN.out]; exact hlt)
      have hcj := hcc j (by rw [HN.out]; exact hlt)
      obtain ⟨p, hp⟩ : ∃ p, l.getD j 0 = p := ⟨_, rfl⟩
      rw [hp] at hfs hpk hcj
      obtain ⟨rfl, hl2, rfl⟩ : A = some ⟨gg, 0, none⟩ ∧ n = l.length ∧ c = cc := by simpa using hvv
      have HL := Lib.hid (rlong_any (HH.out.below HB.out) p k hpk hkle)
      obtain ⟨z, hz⟩ : ∃ z, lng s p k = z := ⟨_, rfl⟩
      rw [hz] at HL hfs
      have hz9 := (lng_le s p k).1
      rw [hz] at hz9
      obtain ⟨y, hy⟩ : ∃ y, k - p = y := ⟨_, rfl⟩
      have ey : (k : Int) - (p : Int) = (y : Int) := by omega
      have hstp : stp s k over (m1, m2) p = if over < (z : Int) ∧ m1 < z then (z, y) else (m1, m2) := by
        unfold stp; rw [hz, hy]
      rw [hstp] at hfs
      clear hG hM hO hb hf hvv hgg hcc hp hz hl2 hy hstp
      by_cases q1 : over < (z : Int)
      · have e1 : decide (over < (z : Int)) = true := decide_eq_true q1
        by_cases q2 : m1 < z
        · have e2 : decide ((m1 : Int) < (z : Int)) = true := decide_eq_true (by omega)
          have e2' : decide (m1 < z) = true := decide_eq_true q2
          by_cases q3 : nice ≤ (z : Int)
          · have e3 : decide (nice ≤ (z : Int)) = true := decide_eq_true q3
            rw [if_pos q3, if_pos (show over < (z : Int) ∧ m1 < z from ⟨q1, q2⟩)] at hfs
            obtain ⟨rfl, rfl⟩ : X = z ∧ Y = y := by injection hfs with a b; exact ⟨a, b⟩
            clear hfs
            go_wp2_with (go_at_call 28; (with_reducible refine HL.out.mono ?_); rintro e w3 ⟨rfl, nq, rfl⟩)
            have HR := Lib.hid (B2.set (B2.of_block (w' := (((wr.drewN nq).setCell ⟨W.heap.size + 1, 0, none⟩ (.int .i64 (X : Int))).setCell ⟨W.heap.size + 1, 1, none⟩ (.int .i64 (Y : Int)))) HG.out ((Below.heap_setCell _ _ _ _ (by show W.heap.size ≠ W.heap.size + 1; omega)).trans (Below.heap_setCell _ _ _ _ (by show W.heap.size ≠ W.heap.size + 1; omega)))) (.int .i64 (X : Int)) (.int .i64 (Y : Int)))
            refine bodyPost_ret (v := .agg #[.int .i64 (X : Int), .int .i64 (Y : Int)]) (results_cell_row rfl _ _ W.heap.size _ _ _ _ rfl HR.out Tryd.underlying57 rfl matchSize) rfl ⟨rfl, ((((belowN HB.out nq).setCell (p := ⟨W.heap.size + 1, 0, none⟩) (by simp) _).setCell (p := ⟨W.heap.size + 1, 1, none⟩) (by simp) _).setCell (p := ⟨W.heap.size, 0, none⟩) (Nat.le_refl _) _).setCell (p := ⟨W.heap.size, 1, none⟩) (Nat.le_refl _) _⟩
          · have e3 : decide (nice ≤ (z : Int)) = false := decide_eq_false q3
            rw [if_neg q3, if_pos (show over < (z : Int) ∧ m1 < z from ⟨q1, q2⟩)] at hfs
            have HFS := Lib.hid hfs.symm
            clear hfs
            go_wp2_with (go_at_call 28; (with_reducible refine HL.out.mono ?_); rintro e w3 ⟨rfl, nq, rfl⟩)
            go_roundw
            case rel => exact ⟨j + 1, z, y, by omega, by go_num, B2.of_block HG.out ((Below.heap_setCell _ _ _ _ (by show W.heap.size ≠ W.heap.size + 1; omega)).trans (Below.heap_setCell _ _ _ _ (by show W.heap.size ≠ W.heap.size + 1; omega))), (B2.set (B2.of_block (w' := wr.drewN nq) HM.out rfl) _ _), ownsRow_at HO.out (fun g hg => by have := (World.ownsRow.lt HO.out g hg).1; exact (Below.heap_setCell _ _ _ _ (by show g ≠ W.heap.size + 1; omega)).trans (Below.heap_setCell _ _ _ _ (by show g ≠ W.heap.size + 1; omega))), ((belowN HB.out nq).setCell (p := ⟨W.heap.size + 1, 0, none⟩) (by simp) _).setCell (p := ⟨W.heap.size + 1, 1, none⟩) (by simp) _, HFS.out⟩
            case measure => (simp [intOf]; try omega)
        · have e2 : decide ((m1 : Int) < (z : Int)) = false := decide_eq_false (by omega)
          have e2' : decide (m1 < z) = false := decide_eq_false q2
          by_cases q3 : nice ≤ (z : Int)
          · have e3 : decide (nice ≤ (z : Int)) = true := decide_eq_true q3
            rw [if_pos q3, if_neg (show ¬ (over < (z : Int) ∧ m1 < z) from fun q => q2 q.2)] at hfs
            obtain ⟨rfl, rfl⟩ : X = m1 ∧ Y = m2 := by injection hfs with a b; exact ⟨a, b⟩
            clear hfs
            go_wp2_with (go_at_call 28; (with_reducible refine HL.out.mono ?_); rintro e w3 ⟨rfl, nq, rfl⟩)
            have HR := Lib.hid (B2.set (B2.of_block (w' := wr.drewN nq) HG.out rfl) (.int .i64 (X : Int)) (.int .i64 (Y : Int)))
            refine bodyPost_ret (v := .agg #[.int .i64 (X : Int), .int .i64 (Y : Int)]) (results_cell_row rfl _ _ W.heap.size _ _ _ _ rfl HR.out Tryd.underlying57 rfl matchSize) rfl ⟨rfl, ((belowN HB.out nq).setCell (p := ⟨W.heap.size, 0, none⟩) (Nat.le_refl _) _).setCell (p := ⟨W.heap.size, 1, none⟩) (Nat.le_refl _) _⟩
          · have e3 : decide (nice ≤ (z : Int)) = false := decide_eq_false q3
            rw [if_neg q3, if_neg (show ¬ (over < (z : Int) ∧ m1 < z) from fun q => q2 q.2)] at hfs
            have HFS := Lib.hid hfs.symm
            clear hfs
            go_wp2_with (go_at_call 28; (with_reducible refine HL.out.mono ?_); rintro e w3 ⟨rfl, nq, rfl⟩)
            go_roundw
            case rel => exact ⟨j + 1, m1, m2, by omega, by go_num, B2.of_block HG.out rfl, B2.of_block HM.out rfl, HO.out.drewN _, belowN HB.out _, HFS.out⟩
            case measure => (simp [intOf]; try omega)
      · have e1 : decide (over < (z : Int)) = false := decide_eq_false q1
        by_cases q3 : nice ≤ (z : Int)
        · have e3 : decide (nice ≤ (z : Int)) = true := decide_eq_true q3
          rw [if_pos q3, if_neg (show ¬ (over < (z : Int) ∧ m1 < z) from fun q => q1 q.1)] at hfs
          obtain ⟨rfl, rfl⟩ : X = m1 ∧ Y = m2 := by injection hfs with a b; exact ⟨a, b⟩
          clear hfs
          go_wp2_with (go_at_call 28; (with_reducible refine HL.out.mono ?_); rintro e w3 ⟨rfl, nq, rfl⟩)
          have HR := Lib.hid (B2.set (B2.of_block (w' := wr.drewN nq) HG.out rfl) (.int .i64 (X : Int)) (.int .i64 (Y : Int)))
          refine bodyPost_ret (v := .agg #[.int .i64 (X : Int), .int .i64 (Y : Int)]) (results_cell_row rfl _ _ W.heap.size _ _ _ _ rfl HR.out Tryd.underlying57 rfl matchSize) rfl ⟨rfl, ((belowN HB.out nq).setCell (p := ⟨W.heap.size, 0, none⟩) (Nat.le_refl _) _).setCell (p := ⟨W.heap.size, 1, none⟩) (Nat.le_refl _) _⟩
        · have e3 : decide (nice ≤ (z : Int)) = false := decide_eq_false q3
          rw [if_neg q3, if_neg (show ¬ (over < (z : Int) ∧ m1 < z) from fun q => q1 q.1)] at hfs
          have HFS := Lib.hid hfs.symm
          clear hfs
          go_wp2_with (go_at_call 28; (with_reducible refine HL.out.mono ?_); rintro e w3 ⟨rfl, nq, rfl⟩)
          go_roundw
          case rel => exact ⟨j + 1, m1, m2, by omega, by go_num, B2.of_block HG.out rfl, B2.of_block HM.out rfl, HO.out.drewN _, belowN HB.out _, HFS.out⟩
          case measure => (simp [intOf]; try omega)
    · obtain rfl : j = n := by omega
      rw [List.drop_eq_nil_of_le (by rw [HN.out]; exact Nat.le_refl _)] at hf
      obtain ⟨rfl, rfl⟩ : m1 = X ∧ m2 = Y := by simpa [fnd] using hf
      have HR := Lib.hid (HG.out.set (.int .i64 (m1 : Int)) (.int .i64 (m2 : Int)))
      clear hG hM hO hb hf
      go_wp2_with fail
      refine bodyPost_ret (v := .agg #[.int .i64 (m1 : Int), .int .i64 (m2 : Int)]) (results_cell_row rfl _ _ W.heap.size _ _ _ _ rfl HR.out Tryd.underlying57 rfl matchSize) rfl ⟨rfl, (HB.out.setCell (p := ⟨W.heap.size, 0, none⟩) (Nat.le_refl _) _).setCell (p := ⟨W.heap.size, 1, none⟩) (Nat.le_refl _) _⟩

end Go.Proofs.YthemndeljjampaaDoor.Q
