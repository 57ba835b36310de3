/- The small known case, alive, returns true in any world; BitwNil returns true for any arguments that their kinds hold. Conditions: none. -/
import Derived.Test.YtilogllncjlkfaaWtD
namespace Go.Proofs.Ytilogllncjlkfaa
open Go.RowKit M
set_option linter.unusedVariables false

/-- What comes behind a call, of a writer that stands alone. -/
theorem Did.next {w w' : World} {B p V0 L0 : Nat} {S : Nat → Prop} {most : Int} {r : Int × Nat × Nat} {e : Ending} (h : Did w B p S most r e w') (hw : Wt w B p S most V0 L0) (hB : B ≤ w.heap.size) (a : Int) (V L : Nat) (hr : r = (a, V, L)) :
    e = .returned (.int .i64 a) ∧ (∃ S', Wt w' B p S' most V L) ∧ Below B w w' := by
  subst hr
  obtain ⟨he, S', h1, h2, _⟩ := h
  exact ⟨he, ⟨S', h1⟩, h2.below hB (fun j hj => (hw.lt hj).1)⟩
theorem Wt.next {w w' : World} {B p V L : Nat} {S : Nat → Prop} {most : Int} (h : Wt w B p S most V L) (hB : B ≤ w.heap.size) (hk : Kept NoB w w') : Wt w' B p S most V L ∧ Below B w w' :=
  ⟨h.keep hk (fun _ _ g => g), hk.below hB (fun _ g => g.elim)⟩

theorem alive_any (w : World) : Calls Try.prog 9 #[] w fun e w' => e = .returned (.bool true) ∧ Below w.heap.size w w' := by
  have t1 : textR 5 3 = ⟨#[5]⟩ := by decide +kernel
  have t2 : textR 24837 16 = ⟨#[5, 97]⟩ := by decide +kernel
  have T1 := Lib.hid t1
  have T2 := Lib.hid t2
  clear t1 t2
  go_enter Try.func9, Try.ntmps9
  go_wp2_with fail
  refine (new_any 2 _ (Nat.le_refl _)).mono ?_; rintro e w1 ⟨rfl, k1, r1, l1⟩
  have b1 := k1.below (Nat.le_refl w.heap.size) (fun _ g => g.elim)
  have R1 := Lib.hid r1
  have B1 := Lib.hid b1
  clear r1 k1 b1 l1
  go_wp2_with fail
  refine (bits_any R1.out 1 1 (by decide) (by decide)).mono ?_; intro e w2 r2
  obtain ⟨rfl, ⟨S2, r2⟩, b2⟩ := r2.next R1.out B1.out.size 0 1 1 (by decide)
  have R2 := Lib.hid r2
  have B2 := Lib.hid (B1.out.trans b2)
  clear r2 b2
  go_wp2_with fail
  refine (bits_any R2.out 2 2 (by decide) (by decide)).mono ?_; intro e w3 r3
  obtain ⟨rfl, ⟨S3, r3⟩, b3⟩ := r3.next R2.out B2.out.size 0 5 3 (by decide)
  have R3 := Lib.hid r3
  have B3 := Lib.hid (B2.out.trans b3)
  clear r3 b3
  go_wp2_with fail
  refine (text_any R3.out (by decide)).mono ?_; rintro e w4 ⟨rfl, k4⟩
  rw [T1.out]
  have R4 := Lib.hid (R3.out.next B3.out.size k4).1
  have B4 := Lib.hid (B3.out.trans (R3.out.next B3.out.size k4).2)
  clear k4
  go_wp2_with fail
  refine (bytes_any R4.out ⟨#[97]⟩ (by decide) (by decide)).mono ?_; intro e w5 r5
  obtain ⟨rfl, ⟨S5, r5⟩, b5⟩ := r5.next R4.out B4.out.size 0 24837 16 (by decide)
  have R5 := Lib.hid r5
  have B5 := Lib.hid (B4.out.trans b5)
  clear r5 b5
  go_wp2_with fail
  refine (text_any R5.out (by decide)).mono ?_; rintro e w6 ⟨rfl, k6⟩
  rw [T2.out]
  have R6 := Lib.hid (R5.out.next B5.out.size k6).1
  have B6 := Lib.hid (B5.out.trans (R5.out.next B5.out.size k6).2)
  clear k6
  go_wp2_with fail
  refine (wlen_any R6.out (by decide)).mono ?_; rintro e w7 ⟨rfl, k7⟩
  have R7 := Lib.hid (R6.out.next B6.out.size k7).1
  have B7 := Lib.hid (B6.out.trans (R6.out.next B6.out.size k7).2)
  clear k7
  go_wp2_with fail
  refine (bits_any R7.out 1 1 (by decide) (by decide)).mono ?_; intro e w8 r8
  obtain ⟨rfl, ⟨S8, r8⟩, b8⟩ := r8.next R7.out B7.out.size 4 24837 16 (by decide)
  have R8 := Lib.hid r8
  have B8 := Lib.hid (B7.out.trans b8)
  clear r8 b8
  go_wp2_with fail
  refine (bits_any R8.out 4 2 (by decide) (by decide)).mono ?_; intro e w9 r9
  obtain ⟨rfl, ⟨S9, r9⟩, b9⟩ := r9.next R8.out B8.out.size 2 24837 16 (by decide)
  have R9 := Lib.hid r9
  have B9 := Lib.hid (B8.out.trans b9)
  clear r9 b9
  go_wp2_with fail
  go_ret
  exact ⟨rfl, B9.out⟩

theorem BitwNil_walk (a0 a1 : Int) (a2 : ByteArray) (w : World) (w0 : (Lit.int .u64 a0).wf = true) (w1 : (Lit.int .i64 a1).wf = true) (w2 : a2.size ≤ maxLen) :
    Calls Try.prog 6 #[.int .u64 a0, .int .i64 a1, .string a2] w fun e w' => e = .returned (.bool true) ∧ Below w.heap.size w w' := by
  by_cases hl : 1024 < a2.size
  · go_enter Try.func6, Try.ntmps6
    go_wp2_with fail
    refine (alive_any _).mono ?_; rintro e w' ⟨rfl, hb⟩
    go_wp2_with fail
    go_ret
    exact ⟨rfl, hb⟩
  · have hl2 : a2.size ≤ 1024 := by omega
    clear hl
    go_enter Try.func6, Try.ntmps6
    go_wp2_with fail
    refine (bits_nil a0 a1 _).mono ?_; rintro e w' ⟨rfl, rfl⟩
    go_wp2_with fail
    refine (code_nil 0 0 _ (by decide) (by decide)).mono ?_; rintro e w3 ⟨rfl, k3⟩
    have B3 := Lib.hid (k3.below (Nat.le_refl w.heap.size) (fun _ g => g.elim))
    clear k3
    go_wp2_with fail
    refine (align_nil _).mono ?_; rintro e w' ⟨rfl, rfl⟩
    go_wp2_with fail
    refine (bytes_nil a2 _).mono ?_; rintro e w' ⟨rfl, rfl⟩
    go_wp2_with fail
    refine (len_nil _).mono ?_; rintro e w' ⟨rfl, rfl⟩
    go_wp2_with fail
    refine (text_nil _).mono ?_; rintro e w' ⟨rfl, rfl⟩
    go_wp2_with fail
    refine (alive_any _).mono ?_; rintro e w4 ⟨rfl, hb4⟩
    go_wp2_with fail
    go_ret
    exact ⟨rfl, B3.out.trans (hb4.mono B3.out.size)⟩
end Go.Proofs.Ytilogllncjlkfaa
