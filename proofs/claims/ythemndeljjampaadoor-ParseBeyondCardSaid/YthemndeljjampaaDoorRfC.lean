/- The document's finder of layer 8: the places ahead, nearest first. Conditions: as each theorem names them. -/
import Derived.Test.YthemndeljjampaaDoorRfB
import Derived.Maps.AppendAt
namespace Go.Proofs.YthemndeljjampaaDoor.Q
open Go Go.RowKit M
set_option linter.unusedVariables false
set_option linter.unusedSimpArgs false

/-! candidates, gone through downwards -/
def isC (s : ByteArray) (k p : Nat) : Bool := at3 s p (byt s k) (byt s (k + 1)) (byt s (k + 2))
def scan (s : ByteArray) (k j : Nat) : List Nat := ((List.range j).map fun i => k - 1 - i).filter (isC s k)
theorem scan_succ (s : ByteArray) (k j : Nat) : scan s k (j + 1) = scan s k j ++ (if isC s k (k - 1 - j) = true then [k - 1 - j] else []) := by
  unfold scan
  rw [List.range_succ, List.map_append, List.filter_append]
  congr 1
  simp only [List.map_cons, List.map_nil, List.filter_cons, List.filter_nil]
theorem scan_pre (s : ByteArray) (k : Nat) {j j' : Nat} (h : j ≤ j') : ∃ t, scan s k j' = scan s k j ++ t := by
  obtain ⟨d, rfl⟩ := Nat.exists_eq_add_of_le h
  clear h
  induction d with
  | zero => exact ⟨[], by simp⟩
  | succ d ih =>
    obtain ⟨t, ht⟩ := ih
    exact ⟨t ++ (if isC s k (k - 1 - (j + d)) = true then [k - 1 - (j + d)] else []), by rw [← Nat.add_assoc, scan_succ, ht, List.append_assoc]⟩
theorem range_rev (k : Nat) : (List.range k).reverse = (List.range k).map fun i => k - 1 - i := by
  apply List.ext_getElem?
  intro i
  by_cases c : i < k
  · rw [List.getElem?_reverse (by rw [List.length_range]; exact c), List.length_range, List.getElem?_range (by omega), List.getElem?_map, List.getElem?_range c]; rfl
  · rw [List.getElem?_eq_none (by simp; omega), List.getElem?_eq_none (by simp; omega)]
theorem scan_cnd {s : ByteArray} {k : Nat} (hk : k + 3 ≤ s.size) : (cnd s (List.range k) k).reverse = scan s k (min k 32768) := by
  unfold cnd scan grp
  rw [if_pos hk, ← List.filter_reverse, ← List.filter_reverse, range_rev, List.filter_filter]
  have e : (fun p : Nat => (decide (p < k) && decide (k ≤ p + 32768)) && at3 s p (byt s k) (byt s (k + 1)) (byt s (k + 2))) = (fun p => isC s k p && (decide (p < k) && decide (k ≤ p + 32768))) := by
    funext p; rw [Bool.and_comm]; rfl
  rw [e, ← List.filter_filter]
  congr 1
  rw [List.filter_map]
  have e2 : (List.range k).filter ((fun p : Nat => decide (p < k) && decide (k ≤ p + 32768)) ∘ fun i => k - 1 - i) = List.range (min k 32768) := by
    have e3 : (List.range k).filter ((fun p : Nat => decide (p < k) && decide (k ≤ p + 32768)) ∘ fun i => k - 1 - i) = (List.range k).filter (fun i => decide (i < 32768)) := by
      apply List.filter_congr
      intro i hi
      have := List.mem_range.1 hi
      show (decide (k - 1 - i < k) && decide (k ≤ k - 1 - i + 32768)) = decide (i < 32768)
      rw [decide_eq_true (show k - 1 - i < k by omega), Bool.true_and, decide_eq_decide]
      omega
    rw [e3, filt_take (i := 32768) (fun j y hj hlt => ?_) (fun j y hj hle => ?_), List.take_range]
    · rw [Nat.min_comm]
    · rw [List.getElem?_eq_some_iff] at hj
      obtain ⟨_, rfl⟩ := hj
      simpa using hlt
    · rw [List.getElem?_eq_some_iff] at hj
      obtain ⟨_, rfl⟩ := hj
      simpa using hle
  rw [e2]
theorem nr_scan {s : ByteArray} {k : Nat} (hk : k + 3 ≤ s.size) (d : Int) : nr s (List.range k) k d = (scan s k (min k 32768)).take d.toNat := by
  unfold nr; rw [scan_cnd hk]
theorem nr_done {s : ByteArray} {k : Nat} (hk : k + 3 ≤ s.size) (d : Int) (h : (scan s k (min k 32768)).length ≤ d.toNat) : nr s (List.range k) k d = scan s k (min k 32768) := by
  rw [nr_scan hk, List.take_of_length_le h]
theorem nr_full {s : ByteArray} {k j : Nat} (hk : k + 3 ≤ s.size) (d : Int) (hj : j ≤ min k 32768) (h : (scan s k j).length = d.toNat) : nr s (List.range k) k d = scan s k j := by
  obtain ⟨t, ht⟩ := scan_pre s k hj
  rw [nr_scan hk, ht, ← h, List.take_left]
theorem nr_none {s : ByteArray} {L : List Nat} {k : Nat} (hk : ¬ k + 3 ≤ s.size) (d : Int) : nr s L k d = [] := by
  unfold nr cnd; rw [if_neg hk]; simp

/-- v is a slice of ints in a row of its own -/
def Owi (B : Nat) (w : World) (v : Value) (l : List Nat) : Prop := w.ownsRow B 3 1 v l.length (l.map fun p : Nat => Value.int .i64 (p : Int))
theorem Owi.nil (B : Nat) (w : World) : Owi B w (.slice none 0 0) [] := World.ownsRow_nil w B _ 1
theorem Owi.alloc {B : Nat} {w : World} {v : Value} {l : List Nat} (h : Owi B w v l) (o : Obj) : Owi B (w.alloc o) v l := World.ownsRow.alloc h o
theorem Owi.drewN {B : Nat} {w : World} {v : Value} {l : List Nat} (h : Owi B w v l) (n : Nat) : Owi B (w.drewN n) v l := h
theorem Owi.kept {B : Nat} {w w' : World} {v : Value} {l : List Nat} (h : Owi B w v l) (hb : Below w.heap.size w w') : Owi B w' v l := ownsRow_at h fun g hg => hb.block g (World.ownsRow.lt h g hg).2
theorem Owi.form {B : Nat} {w : World} {v : Value} {l : List Nat} (h : Owi B w v l) : ∃ A c, v = .slice A l.length c := by
  rcases h.2 with ⟨h1, h2⟩ | ⟨g, cap, cur, rfl, _⟩
  · exact ⟨none, 0, by rw [h1, h2]⟩
  · exact ⟨_, cap, rfl⟩
theorem cellN (w : World) (n : Nat) (v : Value) (T : TypeId) : ((w.drewN n).alloc (.cells #[v] T)).cell? ⟨w.heap.size, 0, none⟩ = some v := by
  have h : ((w.drewN n).alloc (.cells #[v] T)).heap[w.heap.size]? = some (.cells #[v] T (0, 0)) := new_at (w.drewN n) (.cells #[v] T)
  simp only [World.cell?, h]
  rfl
theorem sizeN (w : World) (n : Nat) (o : Obj) : ((w.drewN n).alloc o).heap.size = w.heap.size + 1 := World.size_alloc (w.drewN n) o
theorem belowN {B : Nat} {w w' : World} (h : Below B w w') (n : Nat) : Below B w (w'.drewN n) := ⟨h.os, h.tape, h.output, h.size, h.block⟩
theorem intInfo : (Tryd.prog.info? 3).map (fun i => (i.zero, i.size, i.bytes)) = some (some (.int .i64 0), 1, 8) := by kernel_rfl
theorem wpList_int {ops : Array Oper} {rest : List Oper} {o : Oper} {a : Act} {w : World} {Q : Exit → Act → World → Prop} (hgd : o.guard = none) (s x : Operand)
    (ho : o.op = .call { callee := .builtin .append, args := #[s, x], argTypes := #[71, 71] }) (B : Nat) (v : Value) (l : List Nat) (hs : a.eval s = v) (h : Owi B w v l) (b c p : Nat)
    (hx : a.eval x = .slice (some ⟨b, 0, none⟩) 1 c) (hc : w.cell? ⟨b, 0, none⟩ = some (.int .i64 (p : Int))) (hL : l.length ≤ 1000000) (hB : B ≤ w.heap.size)
    (hK : ∀ v' w', Owi B w' v' (l ++ [p]) → w.grownBy w' v.ownBlock → Below B w w' → wpList Tryd.prog ops Q rest (a.put o.dst v') w') : wpList Tryd.prog ops Q (o :: rest) a w :=
  wpList_plain hgd fun K hK' => by
    obtain ⟨i, h1, h2, h3, h4⟩ := info_of intInfo
    obtain ⟨v', w', r1, r2, r3, _⟩ := run_append_own (P := Tryd.prog) w B 71 o.type 3 i _ 1 8 Tryd.underlying71 h1 h2 h3 h4 rfl (by decide) v l.length (l.map fun p : Nat => Value.int .i64 (p : Int)) h ⟨b, 0, none⟩ 1 c [.int .i64 (p : Int)] rfl
      (fun j u hu => by
        match j, hu with
        | 0, hu => simp at hu; subst hu; rw [cadd_at]; exact hc) (by intro u hu; simp at hu; subst hu; rfl) (by unfold maxLen; omega) (by omega) hB
    unfold Oper.wp execOp
    simp only [ho, resolve, invoke, builtin, Sem.run_bind, Sem.run_pure, Result.andThen_ok, List.map_toArray, List.map_cons, List.map_nil, hs, hx, r1]
    refine hK' _ _ (hK v' w' ?_ r3 ((Below.refl _ w).grown r3 hB (fun k hk => (World.ownsRow.lt h k hk).1)))
    unfold Owi
    rw [List.length_append, List.map_append]; exact r2

/-- what a call that makes a list of places answers -/
def PlP (W : World) (l : List Nat) (e : Ending) (w' : World) : Prop := ∃ v, e = .returned v ∧ Owi W.heap.size w' v l ∧ Below W.heap.size W w'

set_option maxRecDepth 1000000 in
set_option maxHeartbeats 2000000 in
theorem rplaces_any {W : World} {B F b : Nat} {s : ByteArray} {k : Nat} (H : Rf W B F b s k) (d : Int) (hd : -9223372036854775808 ≤ d ∧ d ≤ 9223372036854775807) :
    Calls Tryd.prog 27 #[.pointer (some ⟨F, 0, none⟩), .int .i64 k, .int .i64 d] W (PlP W (nr s (List.range k) k d)) := by
  have h0 := H.fd.at0
  have h1 := H.fd.at1
  have hlen := H.len
  have hkle := H.le
  have d0 : decide ((k : Int) < 0) = false := decide_eq_false (by omega)
  by_cases hk : k + 3 ≤ s.size
  · have d1 : decide ((s.size : Int) - 3 < (k : Int)) = false := decide_eq_false (by omega)
    have HH := Lib.hid H
    clear H h1
    obtain ⟨Z, hZ⟩ : ∃ Z, nr s (List.range k) k d = Z := ⟨_, rfl⟩
    rw [hZ]
    have HZ := Lib.hid hZ
    clear hZ
    go_enter Tryd.func27, Tryd.ntmps27
    go_wp2_with fail
    clear h0
    go_loopw [7, 8] (fun v pv wr => ∃ j, j ≤ min k 32768 ∧ pv = .int .i64 ((k : Int) - 1 - (j : Nat)) ∧ Owi W.heap.size wr v (scan s k j) ∧ (scan s k j).length ≤ d.toNat ∧ Below W.heap.size W wr) (fun _ pv _ => (intOf pv + 1).toNat)
    case atStart => exact ⟨0, Nat.zero_le _, by rw [Int.natCast_zero, Int.sub_zero], Owi.nil _ _, Nat.zero_le _, Below.refl _ _⟩
    case round =>
      obtain ⟨j, hj, rfl, hO, hl, hb⟩ := hrel
      have hsl : (scan s k j).length ≤ j := by
        unfold scan
        exact Nat.le_trans (List.length_filter_le _ _) (by simp)
      obtain ⟨A, c, rfl⟩ := hO.form
      obtain ⟨n0, hn0⟩ : ∃ n0, (scan s k j).length = n0 := ⟨_, rfl⟩
      rw [hn0] at hl hsl hO ⊢
      have HN := Lib.hid hn0
      have HO := Lib.hid (show Owi W.heap.size wr (.slice A n0 c) (scan s k j) from by unfold Owi; rw [hn0]; unfold Owi at hO; rw [hn0] at hO; exact hO)
      have HB := Lib.hid hb
      clear hO hb hn0
      by_cases hjk : j < k
      · obtain ⟨P, hP⟩ : ∃ P, k - 1 - j = P := ⟨_, rfl⟩
        have hPi : (k : Int) - 1 - (j : Nat) = (P : Int) := by omega
        rw [hPi]
        have hPk : (P : Int) + (j : Int) + 1 = (k : Int) := by omega
        have d2 : decide (0 ≤ (P : Int)) = true := decide_eq_true (by omega)
        obtain ⟨j1, hj1⟩ : ∃ j1, j + 1 = j1 := ⟨_, rfl⟩
        have e1 : (k : Int) - (P : Int) = (j1 : Int) := by omega
        clear hPi
        by_cases hjw : j < 32768
        · have d3 : decide ((j1 : Int) ≤ 32768) = true := decide_eq_true (by omega)
          have d3' : decide (j1 ≤ 32768) = true := decide_eq_true (by omega)
          by_cases hd3 : (n0 : Int) < d
          · have d4 : decide ((n0 : Int) < d) = true := decide_eq_true hd3
            obtain ⟨P1, hP1⟩ : ∃ P1, P + 1 = P1 := ⟨_, rfl⟩
            obtain ⟨P2, hP2⟩ : ∃ P2, P + 2 = P2 := ⟨_, rfl⟩
            obtain ⟨k1, hk1⟩ : ∃ k1, k + 1 = k1 := ⟨_, rfl⟩
            obtain ⟨k2, hk2⟩ : ∃ k2, k + 2 = k2 := ⟨_, rfl⟩
            have i0 : P < s.size := by omega
            have i1 : P1 < s.size := by omega
            have i2 : P2 < s.size := by omega
            have m0 : k < s.size := by omega
            have m1 : k1 < s.size := by omega
            have m2 : k2 < s.size := by omega
            have b0 := byt_eq i0
            have b1 := byt_eq i1
            have b2 := byt_eq i2
            have n0' := byt_eq m0
            have n1' := byt_eq m1
            have n2' := byt_eq m2
            have v1 : IntKind.i64.wrap ((P : Int) + 1) = (P1 : Int) := by rw [IntWalk.i64_in _ (by omega)]; omega
            have v2 : IntKind.i64.wrap ((P : Int) + 2) = (P2 : Int) := by rw [IntWalk.i64_in _ (by omega)]; omega
            have v3 : IntKind.i64.wrap ((k : Int) + 1) = (k1 : Int) := by rw [IntWalk.i64_in _ (by omega)]; omega
            have v4 : IntKind.i64.wrap ((k : Int) + 2) = (k2 : Int) := by rw [IntWalk.i64_in _ (by omega)]; omega
            have u1 : (P : Int) + 1 = (P1 : Int) := by omega
            have u2 : (P : Int) + 2 = (P2 : Int) := by omega
            have u3 : (k : Int) + 1 = (k1 : Int) := by omega
            have u4 : (k : Int) + 2 = (k2 : Int) := by omega
            have hRr := HH.out.below HB.out
            have r0 := hRr.fd.at0
            have r1 := hRr.fd.at1
            have rb := (World.rowIs.cell hRr.row (i := P) i0).trans (by rw [decide_eq_true (show P < k by omega)])
            have hsc := scan_succ s k j
            rw [hP] at hsc
            have hi3 : isC s k P = true ↔ byt s P = byt s k ∧ byt s P1 = byt s k1 ∧ byt s P2 = byt s k2 := by
              unfold isC
              rw [at3_iff, hP1, hP2, hk1, hk2]
              exact ⟨fun q => q.2, fun q => ⟨by omega, q⟩⟩
            by_cases e0q : byt s P = byt s k
            · have q0 : (((s[P]'i0).toNat : Int) == ((s[k]'m0).toNat : Int)) = true := by rw [b0, n0', e0q]; simp
              by_cases e1q : byt s P1 = byt s k1
              · have q1 : (((s[P1]'i1).toNat : Int) == ((s[k1]'m1).toNat : Int)) = true := by rw [b1, n1', e1q]; simp
                by_cases e2q : byt s P2 = byt s k2
                · have q2 : (((s[P2]'i2).toNat : Int) == ((s[k2]'m2).toNat : Int)) = true := by rw [b2, n2', e2q]; simp
                  rw [hi3.2 ⟨e0q, e1q, e2q⟩, if_pos rfl] at hsc
                  have HSC := Lib.hid hsc
                  have hn9 : n0 ≤ 1000000 := by omega
                  clear hsc hi3 b0 b1 b2 n0' n1' n2' hRr hP hP1 hP2 hk1 hk2 e0q e1q e2q
                  go_wp2_with fail
                  go_quiet (fail)
                  clear r0 r1 rb v1 v2 v3 v4 u1 u2 u3 u4
                  go_wp2_with (at_builtin; refine wpList_int rfl (.tmp 95) (.tmp 97) rfl W.heap.size (.slice A n0 c) (scan s k j) rfl ((HO.out.drewN _).alloc _) wr.heap.size 1 P rfl (cellN wr nq _ _) (by rw [HN.out]; exact hn9) (by have := HB.out.size; rw [sizeN]; omega) ?_; intro v' w' o' g' b'; have HO2 := Lib.hid o'; have HB2 := Lib.hid (((belowN HB.out nq).alloc HB.out.size _).trans b'); clear o' b' g')
                  go_roundw
                  case rel => exact ⟨j + 1, by omega, by rw [show (P : Int) - 1 = (k : Int) - 1 - ((j + 1 : Nat) : Int) by omega], by rw [HSC.out]; exact HO2.out, by rw [HSC.out, List.length_append, HN.out, List.length_singleton]; omega, HB2.out⟩
                  case measure => (simp [intOf]; try omega)
                · have q2 : (((s[P2]'i2).toNat : Int) == ((s[k2]'m2).toNat : Int)) = false := by rw [b2, n2', beq_eq_false_iff_ne]; omega
                  have hc3 : isC s k P = false := by cases q : isC s k P with | false => rfl | true => (have := hi3.1 q; omega)
                  rw [hc3, if_neg (by decide), List.append_nil] at hsc
                  have HSC := Lib.hid hsc
                  clear hsc hi3 hc3 b0 b1 b2 n0' n1' n2' hRr hP hP1 hP2 hk1 hk2 e0q e1q e2q
                  go_wp2_with fail
                  go_quiet (fail)
                  clear r0 r1 rb v1 v2 v3 v4 u1 u2 u3 u4
                  go_wp2_with fail
                  go_roundw
                  case rel => exact ⟨j + 1, by omega, by rw [show (P : Int) - 1 = (k : Int) - 1 - ((j + 1 : Nat) : Int) by omega], by rw [HSC.out]; exact HO.out.drewN _, by rw [HSC.out, HN.out]; exact hl, ((Kept.of_below HB.out).drewN _).below (Nat.le_refl _) (fun _ g => g.elim)⟩
                  case measure => (simp [intOf]; try omega)
              · have q1 : (((s[P1]'i1).toNat : Int) == ((s[k1]'m1).toNat : Int)) = false := by rw [b1, n1', beq_eq_false_iff_ne]; omega
                have hc3 : isC s k P = false := by cases q : isC s k P with | false => rfl | true => (have := hi3.1 q; omega)
                rw [hc3, if_neg (by decide), List.append_nil] at hsc
                have HSC := Lib.hid hsc
                clear hsc hi3 hc3 b0 b1 b2 n0' n1' n2' hRr hP hP1 hP2 hk1 hk2 e0q e1q
                go_wp2_with fail
                go_quiet (fail)
                clear r0 r1 rb v1 v2 v3 v4 u1 u2 u3 u4
                go_wp2_with fail
                go_roundw
                case rel => exact ⟨j + 1, by omega, by rw [show (P : Int) - 1 = (k : Int) - 1 - ((j + 1 : Nat) : Int) by omega], by rw [HSC.out]; exact HO.out.drewN _, by rw [HSC.out, HN.out]; exact hl, ((Kept.of_below HB.out).drewN _).below (Nat.le_refl _) (fun _ g => g.elim)⟩
                case measure => (simp [intOf]; try omega)
            · have q0 : (((s[P]'i0).toNat : Int) == ((s[k]'m0).toNat : Int)) = false := by rw [b0, n0', beq_eq_false_iff_ne]; omega
              have hc3 : isC s k P = false := by cases q : isC s k P with | false => rfl | true => (have := hi3.1 q; omega)
              rw [hc3, if_neg (by decide), List.append_nil] at hsc
              have HSC := Lib.hid hsc
              clear hsc hi3 hc3 b0 b1 b2 n0' n1' n2' hRr hP hP1 hP2 hk1 hk2 e0q
              go_wp2_with fail
              go_quiet (fail)
              clear r0 r1 rb v1 v2 v3 v4 u1 u2 u3 u4
              go_wp2_with fail
              go_roundw
              case rel => exact ⟨j + 1, by omega, by rw [show (P : Int) - 1 = (k : Int) - 1 - ((j + 1 : Nat) : Int) by omega], by rw [HSC.out]; exact HO.out.drewN _, by rw [HSC.out, HN.out]; exact hl, ((Kept.of_below HB.out).drewN _).below (Nat.le_refl _) (fun _ g => g.elim)⟩
              case measure => (simp [intOf]; try omega)
          · have d4 : decide ((n0 : Int) < d) = false := decide_eq_false hd3
            have hZ2 := nr_full hk d hj (by rw [HN.out]; omega)
            rw [HZ.out] at hZ2
            have HZ2 := Lib.hid hZ2
            clear hZ2 hP
            go_wp2_with fail
            go_ret
            exact ⟨_, rfl, by rw [HZ2.out]; exact HO.out, HB.out⟩
        · have d3 : decide ((j1 : Int) ≤ 32768) = false := decide_eq_false (by omega)
          have d3' : decide (j1 ≤ 32768) = false := decide_eq_false (by omega)
          have hjm : j = min k 32768 := by omega
          have hZ2 := nr_done hk d (by rw [← hjm, HN.out]; omega)
          rw [HZ.out, ← hjm] at hZ2
          have HZ2 := Lib.hid hZ2
          clear hZ2 hP hjm
          go_wp2_with fail
          go_ret
          exact ⟨_, rfl, by rw [HZ2.out]; exact HO.out, HB.out⟩
      · have hPi : (k : Int) - 1 - (j : Nat) = -1 := by omega
        rw [hPi]
        have hjm : j = min k 32768 := by omega
        have hZ2 := nr_done hk d (by rw [← hjm, HN.out]; omega)
        rw [HZ.out, ← hjm] at hZ2
        have HZ2 := Lib.hid hZ2
        clear hZ2 hjm hPi
        go_wp2_with fail
        go_ret
        exact ⟨_, rfl, by rw [HZ2.out]; exact HO.out, HB.out⟩
  · have d1 : decide ((s.size : Int) - 3 < (k : Int)) = true := decide_eq_true (by omega)
    rw [nr_none hk]
    clear H h1
    go_enter Tryd.func27, Tryd.ntmps27
    go_wp2_with fail
    go_ret
    exact ⟨_, rfl, Owi.nil _ _, Below.refl _ _⟩
end Go.Proofs.YthemndeljjampaaDoor.Q
