/- Which match is told where there is no candidate. Conditions: as each theorem names them. -/
import Derived.Test.YthemndeljjampaaDoorChH
namespace Go.Proofs.YthemndeljjampaaDoor
open Go Go.RowKit M
set_option linter.unusedVariables false
set_option linter.unusedSimpArgs false
attribute [local go_sem] Oper.semAt_some
section
set_option maxRecDepth 1000000 in
set_option maxHeartbeats 2000000 in
/-- where there is no candidate -/
theorem find_none (P : Option Addr) (k d nice over : Int) (w : World) (HC0 : ∀ W', Below w.heap.size w W' → Calls Tryd.prog 32 #[.pointer P, .int .i64 k, .int .i64 d] W' fun e w' => e = .returned (.slice none 0 0) ∧ Below W'.heap.size W' w') :
    Calls Tryd.prog 26 #[.pointer P, .int .i64 k, .int .i64 d, .int .i64 nice, .int .i64 over] w fun e w' =>
      e = .returned (.agg #[.int .i64 0, .int .i64 0]) ∧ Below w.heap.size w w' := by
  have HC := Lib.hid HC0
  clear HC0
  refine (callsIn_wide (n := 5)).1 ?_
  refine callsIn_of_wp_marks Tryd.func26 rfl trivial ?_ rfl
  simp only [Tryd.ntmps26, List.size_toArray, List.length_cons, List.length_nil, Nat.reduceAdd, Nat.reduceSub, Array.replicate_succ, Array.replicate_zero, List.push_toArray, List.append_toArray, List.nil_append, List.cons_append]
  gi_wp2
  obtain ⟨W6, hW, hsz, hb6, r0, r1, r2, r3, r4, r5⟩ := six w (.cells #[.pointer P] 49) (.cells #[.int .i64 k] 3) (.cells #[.int .i64 nice] 3) (.cells #[.int .i64 over] 3) (.cells #[.int .i64 0, .int .i64 0] 57) (.cells #[.int .i64 0, .int .i64 0] 57)
  rw [hW]
  clear hW
  refine ⟨trivial, ?_⟩
  refine (callsIn_wide.2 (HC.out _ hb6)).mono ?_
  rintro e w7 ⟨rfl, b7⟩
  have B7 := Lib.hid b7
  have R0 := Lib.hid r0
  have R1 := Lib.hid r1
  have R2' := Lib.hid r2
  have R3 := Lib.hid r3
  have R4 := Lib.hid r4
  have R5 := Lib.hid r5
  have HB6 := Lib.hid hb6
  clear b7 r0 r1 r2 r3 r4 r5 hb6
  gi_wp2_with (refine ⟨trivial, ?_⟩; gi_at_call 31; refine (callsIn_wide.2 (back_any _ _ _ _)).mono ?_; rintro e w' ⟨rfl, rfl⟩)
  have hs7 := B7.out.size
  have hb8 : Below W6.heap.size W6 (w7.alloc (.cells #[.slice none 0 0] 71)) := B7.out.alloc hs7 _
  have hz8 : (w7.alloc (.cells #[.slice none 0 0] 71)).heap.size = w7.heap.size + 1 := by simp
  have hbx : (w7.alloc (.cells #[.slice none 0 0] 71)).cell? ⟨w7.heap.size, 0, none⟩ = some (.slice none 0 0) := one_cell (heap_alloc_new w7 _)
  obtain ⟨w8, hw8⟩ : ∃ w8, w7.alloc (.cells #[.slice none 0 0] 71) = w8 := ⟨_, rfl⟩
  rw [hw8] at hb8 hz8 hbx ⊢
  have HB8 := Lib.hid (HB6.out.trans (hb8.mono HB6.out.size))
  have t4 : R2 w8 57 (w.heap.size + 1 + 1 + 1 + 1) (.int .i64 0) (.int .i64 0) := (r2_of R4.out).below hb8 (by omega)
  have t5 : R2 w8 57 (w.heap.size + 1 + 1 + 1 + 1 + 1) (.int .i64 0) (.int .i64 0) := (r2_of R5.out).below hb8 (by omega)
  have T4 := Lib.hid t4
  have hsw : w.heap.size + 6 ≤ w8.heap.size := by omega
  have hns : ∀ j, j < w8.heap.size → j ≠ w.heap.size + 1 + 1 + 1 + 1 + 1 → ¬ Sx (w.heap.size + 1 + 1 + 1 + 1 + 1) w8.heap.size j := fun j h1 h2 g => by
    rcases g with g | g
    · exact h2 g
    · omega
  have HNS := Lib.hid hns
  have HFd := Lib.hid (show ∀ W, Kept (Sx (w.heap.size + 1 + 1 + 1 + 1 + 1) w8.heap.size) w8 W → Below w.heap.size w W from fun W hk =>
    HB8.out.trans (hk.below (by omega) (fun j hj => by rcases hj with hj | hj <;> omega)))
  have hz8' : w7.heap.size < w8.heap.size := by omega
  have hw7 : w.heap.size + 6 ≤ w7.heap.size := by omega
  have HSZ := Lib.hid hsz
  clear t4 hns hw8 hz8 hsz
  refine wpIn_rangeFunc_ownG rfl (by omega) (gf := 34) (lb := #[.pointer (some ⟨w7.heap.size, 0, none⟩)]) rfl trivial (enters_of Tryd.func34 (by kernel_rfl) rfl)
    (back_stops 4 w7.heap.size (w.heap.size + 1 + 1 + 1 + 1 + 1) w8.heap.size 0 0 none (fun _ => (0 : Int)) (by omega) (by omega) w8 (by omega) (by omega) (by omega) hbx (fun h => absurd h (by omega)))
    (fun h k => keptSx_t h k) (fun W l o o' hl h _ _ => keptSx_b W l o o' hl h) (Below.refl _ _) (fun _ => rfl)
    (fun _ W => R2 W 57 (w.heap.size + 1 + 1 + 1 + 1 + 1) (.int .i64 0) (.int .i64 0) ∧ Kept (Sx (w.heap.size + 1 + 1 + 1 + 1 + 1) w8.heap.size) w8 W) (fun _ _ _ => False) (fun _ _ _ _ hs hg hr => ⟨r2_own (by omega) hs.1 hg hr, kept_own hs.2 hg hr⟩) (fun _ _ _ _ _ hs _ _ => hs)
    ⟨t5, Kept.refl _ _⟩
    (fun x => { tmps := #[.pointer P, .int .i64 k, .int .i64 d, .int .i64 nice, .int .i64 over, .pointer (some ⟨w.heap.size, 0, none⟩), .pointer (some ⟨w.heap.size + 1, 0, none⟩), undef, .pointer (some ⟨w.heap.size + 1 + 1, 0, none⟩), .pointer (some ⟨w.heap.size + 1 + 1 + 1, 0, none⟩), .pointer (some ⟨w.heap.size + 1 + 1 + 1 + 1, 0, none⟩), .pointer (some ⟨w.heap.size + 1 + 1 + 1 + 1 + 1, 0, none⟩), undef, .int .i64 (0 : Int), undef, .pointer P, .int .i64 k, .int .i64 d, .slice none 0 0, .func (.func 34) #[] #[.pointer (some ⟨w7.heap.size, 0, none⟩)], .int .i64 (x.1 : Int), .int .i64 (0 : Int), undef, undef, undef, undef, undef, undef, undef, undef, undef, undef, undef, undef, undef, undef, undef, undef, undef, undef, undef], defers := [] }) ?assign ?body ?done ?stop
  case assign =>
    intro l x W K hK
    unfold enc2
    gi_wp2
    exact hK
  case body =>
    intro l' pre x W _ hlt
    omega
  case done =>
    rintro D ys W hD hS ⟨hR, hk⟩ hK
    have m0 := hR.at0
    have m1 := hR.at1
    have hG := T4.out.kept hk (HNS.out _ (by omega) (by omega))
    have g0 := hG.at0
    have g1 := hG.at1
    have gf0 := hG.frozen 0
    have gf1 := hG.frozen 1
    have HP := Lib.hid (hG.put (.int .i64 0) (.int .i64 0))
    have HB := Lib.hid (HFd.out W hk)
    have HKd := Lib.hid hK
    clear hS hk hR hG hbx t5 hK
    gi_wp2
    have hK' := (((KeepsOthers.setCell W ⟨w.heap.size + 1 + 1 + 1 + 1, 0, none⟩ (.int .i64 0)).trans (KeepsOthers.setCell _ ⟨w.heap.size + 1 + 1 + 1 + 1, 1, none⟩ (.int .i64 0)))).same D _ HKd.out rfl
    refine ⟨by simp, .inl ⟨_, _, rfl, run_takeDeferred hK', ?_⟩⟩
    have hc5 := cell_kept HP.out.at0 (grownBy_putObj' _ D (.deferred none)) (fun r e => by cases e; exact ⟨_, hK', rfl⟩)
    have hc6 := cell_kept HP.out.at1 (grownBy_putObj' _ D (.deferred none)) (fun r e => by cases e; exact ⟨_, hK', rfl⟩)
    refine ⟨.agg #[.int .i64 0, .int .i64 0], ?_, rfl, ((HB.out.setCell (p := ⟨w.heap.size + 1 + 1 + 1 + 1, 0, none⟩) (by simp; omega) _).setCell (p := ⟨w.heap.size + 1 + 1 + 1 + 1, 1, none⟩) (by simp; omega) _).trans (belowK_b (w := w) (Nat.le_refl _) _ D _ _ (by omega) hK' rfl rfl)⟩
    simp [results, Tryd.f26, go_sem, hc5, hc6]
  case stop =>
    rintro D c pre W hD _ h _
    exact h.elim
end
theorem find_nil (x d nice over : Int) (w : World) :
    Calls Tryd.prog 26 #[.pointer none, .int .i64 x, .int .i64 d, .int .i64 nice, .int .i64 over] w fun e w' => e = .returned (.agg #[.int .i64 0, .int .i64 0]) ∧ Below w.heap.size w w' :=
  find_none none x d nice over w (fun W' _ => cand_nil x d W')
theorem find_out {B F : Nat} {s : ByteArray} {L : List Nat} {la : Int} {w : World} (H : Fd w B F s L la) (x d nice over : Int) (hx : x < 0 ∨ (s.size : Int) - 3 < x) :
    Calls Tryd.prog 26 #[.pointer (some ⟨F, 0, none⟩), .int .i64 x, .int .i64 d, .int .i64 nice, .int .i64 over] w fun e w' => e = .returned (.agg #[.int .i64 0, .int .i64 0]) ∧ Below w.heap.size w w' :=
  find_none _ x d nice over w (fun W' hb => cand_out (H.below hb) x d hx)
end Go.Proofs.YthemndeljjampaaDoor
