/- The document's finder of layer 8, as layer 10 looks with it. Conditions: as each theorem names them. -/
import Derived.Test.YthemndeljjampaaDoorRfD
import Derived.Test.YthemndeljjampaaDoorMathG
namespace Go.Proofs.YthemndeljjampaaDoor.Q
open Go Go.RowKit M
set_option linter.unusedVariables false
set_option linter.unusedSimpArgs false

/-- what a block's third cell holds -/
def lastOf (F : Nat) (w : World) : Int := match w.cell? ⟨F, 2, none⟩ with
  | some v => intOf v
  | none => 0
theorem Rf.last {w : World} {B F b k : Nat} {s : ByteArray} (h : Rf w B F b s k) : lastOf F w = (k : Int) - 1 := by
  unfold lastOf
  rw [h.fd.at2]; rfl
def FdS (F b : Nat) : Nat → Prop := fun j => j = F ∨ j = b
theorem kfd {F b : Nat} {A C D : World} (h : Kept (FdS F b) A C) (k : Kept (FdS F b) C D) : Kept (FdS F b) A D := h.trans k fun j hj => .inl hj

set_option maxRecDepth 1000000 in
set_option maxHeartbeats 2000000 in
theorem look_any {W : World} {B F b : Nat} {s : ByteArray} {k : Nat} (H : Rf W B F b s k) (r : Lv) (t : Nat) (over : Int) (hkt : k ≤ t) (hts : t ≤ s.size) (hd : r.d ≤ 1000000) :
    Calls Tryd.prog 20 #[.pointer (some ⟨F, 0, none⟩), .int .i64 t, .agg #[.int .i64 r.d, .int .i64 r.n, .int .i64 r.z], .int .i64 over] W fun e w' => e = .returned (.agg #[.int .i64 ((mt s r t over).1 : Nat), .int .i64 ((mt s r t over).2 : Nat)]) ∧ Rf w' B F b s t ∧ Kept (FdS F b) W w' := by
  obtain ⟨X, Y, hXY⟩ : ∃ X Y, mt s r t over = (X, Y) := ⟨_, _, rfl⟩
  rw [hXY]
  obtain ⟨d, n, z⟩ := r
  simp only at hd ⊢
  have HF := Lib.hid (show ∀ w, Rf w B F b s t → Calls Tryd.prog 23 #[.pointer (some ⟨F, 0, none⟩), .int .i64 t, .int .i64 d, .int .i64 n, .int .i64 over] w fun e w' => e = .returned (.agg #[.int .i64 (X : Nat), .int .i64 (Y : Nat)]) ∧ Below w.heap.size w w' from fun w h => by
    have := rfind_any h (d : Int) (n : Int) over ⟨by omega, by omega⟩
    unfold M.mt at hXY
    simp only at hXY
    rw [hXY] at this
    exact this)
  have HH := Lib.hid H
  have hlen := H.len
  have hFlt := H.fd.lt
  have hblt := World.rowIs.lt H.row
  have hw0 : Rf ((W.alloc (.cells #[.int .i64 d, .int .i64 n, .int .i64 z] 31)).alloc (.cells #[.int .i64 0, .int .i64 0] 57)) B F b s k := H.below (((Below.refl _ W).alloc (Nat.le_refl _) _).alloc (by simp) _)
  have hk0 : Kept (FdS F b) W ((W.alloc (.cells #[.int .i64 d, .int .i64 n, .int .i64 z] 31)).alloc (.cells #[.int .i64 0, .int .i64 0] 57)) := ((Kept.refl _ W).alloc _).alloc _
  have hr0 : B3 ((W.alloc (.cells #[.int .i64 d, .int .i64 n, .int .i64 z] 31)).alloc (.cells #[.int .i64 0, .int .i64 0] 57)) 31 W.heap.size (.int .i64 d) (.int .i64 n) (.int .i64 z) := old_at _ (new_at _ _)
  have hm0 : B2 ((W.alloc (.cells #[.int .i64 d, .int .i64 n, .int .i64 z] 31)).alloc (.cells #[.int .i64 0, .int .i64 0] 57)) 57 (W.heap.size + 1) (.int .i64 0) (.int .i64 0) := by
    have := new_at (W.alloc (.cells #[.int .i64 d, .int .i64 n, .int .i64 z] 31)) (.cells #[.int .i64 0, .int .i64 0] 57)
    rw [World.size_alloc] at this; exact this
  have HW0 := Lib.hid hw0
  have HK0 := Lib.hid hk0
  have HR0 := Lib.hid hr0
  have HM0 := Lib.hid hm0
  clear H hXY hw0 hk0 hr0 hm0
  go_enter Tryd.func20, Tryd.ntmps20
  go_wp2_with fail
  go_loopw [22] (fun _ wr => ∃ j, k ≤ j ∧ j ≤ t ∧ Rf wr B F b s j ∧ Kept (FdS F b) W wr ∧ B3 wr 31 W.heap.size (.int .i64 d) (.int .i64 n) (.int .i64 z) ∧ B2 wr 57 (W.heap.size + 1) (.int .i64 0) (.int .i64 0)) (fun _ wr => ((t : Int) - 1 - lastOf F wr).toNat)
  case atStart => exact ⟨k, Nat.le_refl _, hkt, HW0.out, HK0.out, HR0.out, HM0.out⟩
  case round =>
    obtain ⟨j, hj1, hj2, hRf, hk, hR, hM⟩ := hrel
    have f0 := hRf.fd.at2
    have hls := hRf.last
    by_cases hlt : j < t
    · have d1 : decide ((j : Int) - 1 < (t : Int) - 1) = true := decide_eq_true (by omega)
      have e1 : (j : Int) - 1 + 1 = (j : Int) := by omega
      have HP := Lib.hid (rput_any hRf (by omega : j < s.size))
      have HK := Lib.hid hk
      have HR := Lib.hid hR
      have HM := Lib.hid hM
      have HLs := Lib.hid hls
      clear hRf hk hR hM hls
      go_wp2_with (go_at_call 22; (with_reducible refine HP.out.mono ?_); rintro e w2 ⟨rfl, hr2, hk2⟩; have HR2 := Lib.hid hr2; have HK2 := Lib.hid hk2; clear hr2 hk2)
      go_roundw
      case rel => exact ⟨j + 1, by omega, by omega, HR2.out, kfd HK.out HK2.out, B3.of_block HR.out (HK2.out.block _ HR.out.lt (fun g => by rcases g with g | g <;> omega)), B2.of_block HM.out (HK2.out.block _ HM.out.lt (fun g => by rcases g with g | g <;> omega))⟩
      case measure => rw [HR2.out.last, HLs.out]; omega
    · obtain rfl : j = t := by omega
      have d1 : decide ((j : Int) - 1 < (j : Int) - 1) = false := decide_eq_false (by omega)
      have r0 := hR.at0
      have r1 := hR.at1
      have HP := Lib.hid (HF.out wr hRf)
      have HRf := Lib.hid hRf
      have HK := Lib.hid hk
      have HM := Lib.hid hM
      clear hRf hk hR hM hls HF
      go_wp2_with (go_at_call 23; (with_reducible refine HP.out.mono ?_); rintro e w2 ⟨rfl, hb2⟩; have hM2 := B2.of_block HM.out (hb2.block _ HM.out.lt); have m0 := hM2.at0; have m1 := hM2.at1; have mf0 := hM2.free 0; have mf1 := hM2.free 1; have HM2 := Lib.hid hM2; have HRf2 := Lib.hid (HRf.out.below hb2); have HK2 := Lib.hid (kfd HK.out ((Kept.of_below hb2).none _)); clear hb2 hM2)
      have HR := Lib.hid (HM2.out.set (.int .i64 (X : Int)) (.int .i64 (Y : Int)))
      refine bodyPost_ret (v := .agg #[.int .i64 (X : Int), .int .i64 (Y : Int)]) (results_cell_row rfl _ _ (W.heap.size + 1) _ _ _ _ rfl HR.out Tryd.underlying57 rfl matchSize) rfl ⟨rfl, HRf2.out.of_blocks ((Below.heap_setCell _ _ _ _ (by show F ≠ W.heap.size + 1; omega)).trans (Below.heap_setCell _ _ _ _ (by show F ≠ W.heap.size + 1; omega))) ((Below.heap_setCell _ _ _ _ (by show b ≠ W.heap.size + 1; omega)).trans (Below.heap_setCell _ _ _ _ (by show b ≠ W.heap.size + 1; omega))), (HK2.out.setCell ⟨W.heap.size + 1, 0, none⟩ (.inr (by simp)) _).setCell ⟨W.heap.size + 1, 1, none⟩ (.inr (by simp)) _⟩
end Go.Proofs.YthemndeljjampaaDoor.Q
