/- What differs and stretch of package mods answer, and the iterator of differences. Conditions: as each theorem names them. -/
import Derived.Test.YtbbfbijgclpjeaaOdN
import Derived.Test.YtbbfbijgclpjeaaOdC
import Derived.Test.YtbbfbijgclpjeaaOdI
import Derived.RangeFuncNested
import Derived.RangeFuncBox
import Derived.RangeFuncCalls
import Derived.RangeFuncLeaves
import Derived.RangeFuncWrites
import Derived.Shelf.Abstract
import Derived.OwnWalkIn
import Derived.TacticsInMore
import Derived.LoopNIn
import Derived.LoopIn
import Derived.Laws.EntriesVeiled
namespace Go.Proofs.Ytbbfbijgclpjeaa.O
open Go Go.RowKit M
set_option linter.unusedVariables false
set_option linter.unusedSimpArgs false
attribute [local go_sem] Oper.semAt_some

theorem df_val (a b : ByteArray) (hs : a.size = b.size) (k : Nat) (h : k < a.size) (h' : k < b.size) : df a b k = ((a[k]'h).toNat != (b[k]'h').toNat) := by
  unfold df
  have e1 : a.data.toList.getD k 0 = a[k]'h := by rw [List.getD, List.getElem?_eq_getElem (by rw [size_list]; exact h)]; exact byte_at a k h
  have e2 : b.data.toList.getD k 0 = b[k]'h' := by rw [List.getD, List.getElem?_eq_getElem (by rw [size_list]; exact h')]; exact byte_at b k h'
  rw [e1, e2]
  by_cases q : a[k]'h = b[k]'h'
  · rw [q]; simp
  · have q2 : (a[k]'h).toNat ≠ (b[k]'h').toNat := fun g => q (UInt8.toNat_inj.1 g)
    rw [bne_iff_ne.2 q, bne_iff_ne.2 q2]

set_option maxHeartbeats 1000000 in
theorem differs_any (a b : ByteArray) (f : Nat) (w : World) (hs : a.size = b.size) (hf : f ≤ a.size) (hn : a.size ≤ 100000000) :
    Calls Try.prog 44 #[.string a, .string b, .int .i64 f] w fun e w' => e = .returned (.int .i64 (nx (df a b) a.size f : Nat)) ∧ ∃ q, w' = w.drewN q := by
  obtain ⟨Z, hZ⟩ : ∃ Z, nx (df a b) a.size f = Z := ⟨_, rfl⟩
  rw [hZ]
  have HZ := Lib.hid hZ
  have HS := Lib.hid hs
  clear hZ
  go_enter Try.func44, Try.ntmps44
  go_wp2_with fail
  go_loopw [7] (fun i wr => ∃ k : Nat, k ≤ a.size ∧ i = .int .i64 k ∧ nx (df a b) a.size k = Z ∧ ∃ q, wr = w.drewN q) (fun i _ => a.size - (intOf i).toNat)
  case atStart => exact ⟨f, hf, rfl, HZ.out, 0, rfl⟩
  case round =>
    obtain ⟨k, hk, rfl, hnx, q, rfl⟩ := hrel
    by_cases hlt : k < a.size
    · have hlt' : k < b.size := by omega
      have hv := df_val a b HS.out k hlt hlt'
      obtain ⟨x, hx⟩ : ∃ x, (a[k]'hlt).toNat = x := ⟨_, rfl⟩
      obtain ⟨y, hy⟩ : ∃ y, (b[k]'hlt').toNat = y := ⟨_, rfl⟩
      rw [hx, hy] at hv
      have d1 : decide ((k : Int) < (a.size : Int)) = true := decide_eq_true (by omega)
      have d1' : decide (k < a.size) = true := decide_eq_true hlt
      by_cases he : x = y
      · have d2 : ((x : Int) != (y : Int)) = false := by rw [he]; simp
        have d2' : (x != y) = false := by rw [he]; simp
        rw [d2'] at hv
        have HN := Lib.hid (show nx (df a b) a.size (k + 1) = Z by rw [← nx_skip hlt hv]; exact hnx)
        clear hv hnx he hs
        go_wp2_with fail
        go_quiet (fail)
        go_wp2_with fail
        go_roundw
        case rel => exact ⟨k + 1, by omega, by go_num, HN.out, _, rfl⟩
        case measure => simp [intOf]; omega
      · have d2 : ((x : Int) != (y : Int)) = true := by rw [bne_iff_ne]; omega
        have d2' : (x != y) = true := by rw [bne_iff_ne]; exact he
        rw [d2'] at hv
        obtain rfl : k = Z := by rw [← hnx, nx_here hlt hv]
        clear hv hnx he hs
        go_wp2_with fail
        go_quiet (fail)
        go_wp2_with fail
        go_ret
        exact ⟨rfl, _, by rw [World.drewN_drewN]⟩
    · obtain rfl : k = a.size := by omega
      obtain rfl : a.size = Z := by rw [← hnx, nx_end (Nat.le_refl _)]
      clear hnx hs
      go_wp2_with fail
      go_ret
      exact ⟨rfl, _, rfl⟩
set_option maxHeartbeats 1000000 in
theorem stretch_any (a b : ByteArray) (f : Nat) (w : World) (hs : a.size = b.size) (hf : f < a.size) (hn : a.size ≤ 100000000) :
    Calls Try.prog 45 #[.string a, .string b, .int .i64 f] w fun e w' => e = .returned (.tuple #[.int .i64 (sp (df a b) a.size (f + 1) : Nat), .int .i64 (nx (df a b) a.size (sp (df a b) a.size (f + 1)) : Nat)]) ∧ ∃ q, w' = w.drewN q := by
  obtain ⟨Z, hZ⟩ : ∃ Z, sp (df a b) a.size (f + 1) = Z := ⟨_, rfl⟩
  obtain ⟨Y, hY⟩ : ∃ Y, nx (df a b) a.size Z = Y := ⟨_, rfl⟩
  rw [hZ, hY]
  have HZ := Lib.hid hZ
  have HY := Lib.hid hY
  have HD := Lib.hid (fun f w hf => differs_any a b f w hs hf hn)
  obtain ⟨x0, h0⟩ : ∃ x0, nx (df a b) a.size (f + 1) = x0 := ⟨_, rfl⟩
  obtain ⟨f1, hf1⟩ : ∃ f1, f + 1 = f1 := ⟨_, rfl⟩
  rw [hf1] at h0
  have H0 := Lib.hid (show ∀ w, Calls Try.prog 44 #[.string a, .string b, .int .i64 f1] w fun e w' => e = .returned (.int .i64 x0) ∧ ∃ q, w' = w.drewN q from fun w => by
    rw [← h0]; exact HD.out f1 w (by omega))
  have e1 : (f : Int) + 1 = (f1 : Int) := by omega
  have HX := Lib.hid h0
  have HF1 := Lib.hid (show sp (df a b) a.size f1 = Z by rw [← hf1]; exact hZ)
  have hf2 : f1 ≤ a.size := by omega
  clear hZ hY h0 hf1 hf hs
  go_enter Try.func45, Try.ntmps45
  go_wp2_with (go_at_call 44; (with_reducible refine (H0.out _).mono ?_); rintro e w1 ⟨rfl, q1, rfl⟩)
  go_loopw [6, 7] (fun e x wr => ∃ k : Nat, k ≤ a.size ∧ e = .int .i64 k ∧ x = .int .i64 (nx (df a b) a.size k : Nat) ∧ sp (df a b) a.size k = Z ∧ ∃ q, wr = w.drewN q) (fun e _ _ => a.size - (intOf e).toNat)
  case atStart => exact ⟨f1, hf2, rfl, by rw [HX.out], HF1.out, _, rfl⟩
  case round =>
    obtain ⟨k, hk, rfl, rfl, hsp, q, rfl⟩ := hrel
    have hge := nx_ge (D := df a b) (n := a.size) hk
    have hle := nx_le (D := df a b) (n := a.size) k
    by_cases hc : nx (df a b) a.size k < a.size ∧ nx (df a b) a.size k - k ≤ 4
    · have hg := sp_go hc
      rw [hsp] at hg
      obtain ⟨x, hx⟩ : ∃ x, nx (df a b) a.size k = x := ⟨_, rfl⟩
      rw [hx] at hc hg hge hle ⊢
      obtain ⟨c1, c2⟩ := hc
      obtain ⟨x1, hx1⟩ : ∃ x1, x + 1 = x1 := ⟨_, rfl⟩
      rw [hx1] at hg
      obtain ⟨y, hy⟩ : ∃ y, nx (df a b) a.size x1 = y := ⟨_, rfl⟩
      have H1 := Lib.hid (show ∀ w, Calls Try.prog 44 #[.string a, .string b, .int .i64 x1] w fun e w' => e = .returned (.int .i64 y) ∧ ∃ q, w' = w.drewN q from fun w => by
        rw [← hy]; exact HD.out x1 w (by omega))
      have HG := Lib.hid hg.symm
      have HYy := Lib.hid hy
      have e2 : (x : Int) + 1 = (x1 : Int) := by omega
      have d1 : decide ((x : Int) < (a.size : Int)) = true := decide_eq_true (by omega)
      have d1' : decide (x < a.size) = true := decide_eq_true c1
      have d2 : decide ((x : Int) - (k : Int) ≤ 4) = true := decide_eq_true (by omega)
      have hx2 : x1 ≤ a.size := by omega
      have hkx : k < x1 := by omega
      have HK := Lib.hid hkx
      have HX2 := Lib.hid hx2
      clear hsp hx hg c1 c2 hx1 hy hkx
      go_wp2_with (go_at_call 44; (with_reducible refine (H1.out _).mono ?_); rintro e w1 ⟨rfl, q1, rfl⟩)
      go_roundw
      case rel => exact ⟨x1, HX2.out, rfl, by rw [HYy.out], HG.out, _, rfl⟩
      case measure => have := HX2.out; have := HK.out; simp [intOf]; omega
    · obtain rfl : k = Z := by rw [← hsp, sp_stop hc]
      obtain ⟨x, hx⟩ : ∃ x, nx (df a b) a.size k = x := ⟨_, rfl⟩
      rw [hx] at hc hge hle ⊢
      obtain rfl : x = Y := by rw [← HY.out, hx]
      by_cases hl : x < a.size
      · have d1 : decide ((x : Int) < (a.size : Int)) = true := decide_eq_true (by omega)
        have d1' : decide (x < a.size) = true := decide_eq_true hl
        have d2 : decide ((x : Int) - (k : Int) ≤ 4) = false := decide_eq_false (by omega)
        clear hsp hx hc hl
        go_wp2_with fail
        go_ret2
        exact ⟨rfl, _, rfl⟩
      · have d1 : decide ((x : Int) < (a.size : Int)) = false := decide_eq_false (by omega)
        have d1' : decide (x < a.size) = false := decide_eq_false hl
        clear hsp hx hc hl
        go_wp2_with fail
        go_ret2
        exact ⟨rfl, _, rfl⟩

/-! the iterator -/
def encS (b : ByteArray) (x : Nat × Nat) : Array Value := #[.agg #[.int .i64 (x.1 : Int), .string (b.extract x.1 x.2)]]
/-- what a round may write: two blocks, and what was made since -/
def Sx (R M n₁ : Nat) : Nat → Prop := fun j => j = R ∨ j = M ∨ n₁ ≤ j
theorem keptSx_t {R M n₁ : Nat} {A B C : World} (h : Kept (Sx R M n₁) A B) (k : Kept (Sx R M n₁) B C) : Kept (Sx R M n₁) A C := h.trans k fun j hj => .inl hj
theorem keptSx_b {R M n₁ : Nat} (W : World) (l : Nat) (o o' : Obj) (hl : n₁ ≤ l) (h : W.heap[l]? = some o) : Kept (Sx R M n₁) W (W.putObj l o') :=
  (Kept.refl _ W).grown (grownBy_putObj' W l o') (fun k e => by cases e; exact .inl (.inr (.inr hl)))
theorem sx_no {R M n₁ j : Nat} (h1 : j < n₁) (h2 : j ≠ R) (h3 : j ≠ M) : ¬ Sx R M n₁ j := fun g => by
  rcases g with g | g | g
  · exact h2 g
  · exact h3 g
  · omega

set_option maxRecDepth 1000000 in
set_option maxHeartbeats 2000000 in
theorem diff1_in (m l Ba Bb R M n₁ N : Nat) (a b : ByteArray) (hm : 1 ≤ m) (hs : a.size = b.size) (hn : a.size ≤ 100000000) (hN : (dif a b).length ≤ N) (hA1 : Ba < n₁) (hA2 : Ba ≠ R) (hA3 : Ba ≠ M) (hB1 : Bb < n₁) (hB2 : Bb ≠ R) (hB3 : Bb ≠ M) (W0 : World) (hn1 : n₁ ≤ W0.heap.size)
    (J Jx : List (Nat × Nat) → World → Prop) (hJ : AbidesFrom W0.heap.size J)
    (hY : ∀ pre x W, J pre W → pre.length < N → YieldAt Fence.wide (m - 1) Try.prog l (encS b x) W fun e W' =>
      (e = .returned (.bool true) ∧ J (pre ++ [x]) W' ∧ Kept (Sx R M n₁) W W') ∨ (e = .returned (.bool false) ∧ Jx (pre ++ [x]) W'))
    (hBa : W0.cell? ⟨Ba, 0, none⟩ = some (.string a)) (hBb : W0.cell? ⟨Bb, 0, none⟩ = some (.string b)) (h0 : J [] W0) :
    CallsIn Fence.wide m Try.prog 43 #[.func (.yield l) #[] #[], .pointer (some ⟨Ba, 0, none⟩), .pointer (some ⟨Bb, 0, none⟩)] W0 fun e W' => (∃ v, e = .returned v) ∧
      ((∃ ys : List (Nat × Nat), ys.map (sg b) = dif a b ∧ J ys W') ∨ (∃ pre : List (Nat × Nat), True ∧ Jx pre W')) := by
  refine callsIn_of_wp Try.func43 rfl trivial ?_ rfl
  simp only [Try.ntmps43, List.size_toArray, List.length_cons, List.length_nil, Nat.reduceAdd, Nat.reduceSub, Array.replicate_succ, Array.replicate_zero, List.push_toArray, List.append_toArray, List.nil_append, List.cons_append]
  obtain ⟨DD, hDD⟩ : ∃ DD, df a b = DD := ⟨_, rfl⟩
  have hF := fun f w hf => differs_any a b f w hs hf hn
  have hSt := fun f w hf => stretch_any a b f w hs hf hn
  have hdd : dif a b = (dfs (df a b) a.size (nx (df a b) a.size 0)).map (sg b) := rfl
  rw [hDD] at hF hSt hdd
  obtain ⟨z0, hz0⟩ : ∃ z, nx DD a.size 0 = z := ⟨_, rfl⟩
  have HF0 := Lib.hid (show ∀ w, Calls Try.prog 44 #[.string a, .string b, .int .i64 0] w fun e w' => e = .returned (.int .i64 z0) ∧ ∃ q, w' = w.drewN q from fun w => by
    rw [← hz0]; exact hF 0 w (Nat.zero_le _))
  rw [hz0] at hdd
  have HSt := Lib.hid hSt
  have HDif := Lib.hid hdd
  have HZ0 := Lib.hid (show z0 ≤ a.size ∧ (z0 < a.size → DD z0 = true) by rw [← hz0]; exact ⟨nx_le _, fun h => nx_at h⟩)
  have HJ := Lib.hid hJ
  have HJ0 := Lib.hid (fun q => hJ [] W0 (W0.drewN q) none h0 ⟨rfl, rfl, rfl, Nat.le_refl _, fun k hk _ => rfl⟩ (fun r e => by cases e))
  have HY := Lib.hid hY
  have HCl := Lib.hid (fun s w hs => clone_str s w hs)
  have HSZ := Lib.hid hs
  clear hF hSt hdd hz0 hJ hY hDD
  gi_wp2_with (refine ⟨trivial, ?_⟩; gi_at_call 44; (with_reducible refine (callsIn_wide.2 (HF0.out _)).mono ?_); rintro e w' ⟨rfl, q0, rfl⟩)
  have K0 := Lib.hid ((Kept.refl (Sx R M n₁) W0).drewN q0)
  have J0 := Lib.hid (HJ0.out q0)
  gi_loopw [4] (fun i wr => ∃ (k : Nat) (pre : List (Nat × Nat)), k ≤ a.size ∧ (k < a.size → DD k = true) ∧ i = .int .i64 k ∧ (pre ++ dfs DD a.size k) = dfs DD a.size z0 ∧ J pre wr ∧ Kept (Sx R M n₁) W0 wr)
    (fun i _ => a.size - (intOf i).toNat)
  case atStart => exact ⟨z0, [], HZ0.out.1, HZ0.out.2, rfl, rfl, J0.out, K0.out⟩
  case round =>
    obtain ⟨k, pre, hk, hdk, rfl, hp, hJs, hkp⟩ := hrel
    have n1 := hkp.cell hBa (sx_no hA1 hA2 hA3)
    have n2 := hkp.cell hBb (sx_no hB1 hB2 hB3)
    by_cases hlt : k < a.size
    · have d1 : decide ((k : Int) < (a.size : Int)) = true := decide_eq_true (by omega)
      have d1' : decide (k < a.size) = true := decide_eq_true hlt
      have hgo := dfs_go (D := DD) hlt
      obtain ⟨s1, s2, _, _, _⟩ := sp_all (D := DD) (n := a.size) (k + 1) (by omega)
      have hst := fun w => HSt.out k w hlt
      obtain ⟨e, he⟩ : ∃ e, sp DD a.size (k + 1) = e := ⟨_, rfl⟩
      rw [he] at hgo hst s1 s2
      obtain ⟨y, hy⟩ : ∃ y, nx DD a.size e = y := ⟨_, rfl⟩
      have hny := nx_all (D := DD) (n := a.size) e
      rw [hy] at hgo hst hny
      have HS := Lib.hid hst
      have hpl : pre.length < N := by
        have e1 := congrArg List.length hp
        rw [hgo, List.length_append, List.length_cons] at e1
        have e2 := congrArg List.length HDif.out
        rw [List.length_map] at e2
        omega
      rw [hgo] at hp
      have HP := Lib.hid (show (pre ++ [(k, e)]) ++ dfs DD a.size y = dfs DD a.size z0 by rw [List.append_assoc]; exact hp)
      have HNY := Lib.hid (show y ≤ a.size ∧ (y < a.size → DD y = true) ∧ k < y from ⟨hny.1, hny.2.2.1, by have := hny.2.1 (by omega); omega⟩)
      obtain ⟨T, hT⟩ : ∃ T, b.extract k e = T := ⟨_, rfl⟩
      have hTs : T.size ≤ 100000000 := by rw [← hT, ByteArray.size_extract]; omega
      have HC := Lib.hid (fun w => HCl.out T w hTs)
      have HKP := Lib.hid hkp
      have hke : k ≤ e := by omega
      have heb : e ≤ b.size := by omega
      have HJq := Lib.hid (show ∀ q w', Below (wr.drewN q).heap.size (wr.drewN q) w' → J pre w' from fun q w' hb => HJ.out pre wr w' none hJs ⟨hb.os, hb.tape, hb.output, hb.size, fun k hk _ => hb.block k hk⟩ (fun r e => by cases e))
      have HT := Lib.hid hT
      clear hp hJs hkp hgo hst he hy hny hBa hBb h0 hdk s1 s2 hs
      gi_wp2_with (refine ⟨trivial, ?_⟩; first
        | (gi_at_call 45; (with_reducible refine (callsIn_wide.2 (HS.out _)).mono ?_); rintro e w' ⟨rfl, q1, rfl⟩)
        | (gi_at_call 42; (with_reducible refine (callsIn_wide.2 (HC.out _)).mono ?_); rintro e w2 ⟨rfl, b2⟩; obtain ⟨fn, tmps, assign, body, hy, hR⟩ := HY.out pre (k, e) w2 (HJq.out q1 w2 b2) hpl; unfold encS at hy; dsimp only at hy; rw [HT.out] at hy; have B2 := Lib.hid b2; clear b2))
      refine hR.mono ?_
      rintro e W3 (⟨rfl, hJ3, hk3⟩ | ⟨rfl, hJx3⟩)
      · gi_wp2
        go_roundw
        case rel => exact ⟨y, pre ++ [(k, e)], HNY.out.1, HNY.out.2.1, by go_num, HP.out, hJ3, keptSx_t HKP.out (((Kept.refl _ wr).drewN q1).trans ((Kept.of_below B2.out).none _ |>.trans hk3 fun j hj => .inl hj) fun j hj => .inl hj)⟩
        case measure => have := HNY.out.2.2; have := HNY.out.1; simp [intOf]; omega
      · gi_wp2
        refine bodyPost_ret (results_none rfl _ _ _) rfl ?_
        exact ⟨⟨_, rfl⟩, .inr ⟨_, trivial, hJx3⟩⟩
    · obtain rfl : k = a.size := by omega
      have d1 : decide ((a.size : Int) < (a.size : Int)) = false := decide_eq_false (by omega)
      have HP := Lib.hid hp
      clear hp
      gi_wp2
      go_end0
      exact ⟨⟨_, rfl⟩, .inl ⟨pre, by have := HP.out; rw [dfs_end (Nat.le_refl _), List.append_nil] at this; rw [this, HDif.out], hJs⟩⟩
end Go.Proofs.Ytbbfbijgclpjeaa.O
