/- The small known case, alive, returns true in any world; BitrNil returns true for any argument that its kind holds. Conditions: none. -/
import Derived.Test.YtlikpljbbenmoaaRdE
namespace Go.Proofs.Ytlikpljbbenmoaa
open Go.RowKit M
set_option linter.unusedVariables false
variable {w w' : World} {B p a : Nat} {s : ByteArray} {S T : Nat → Prop}

/-- What comes behind a call, of a reader that stands alone. -/
theorem Got.next {v : Value} {r : Nat} {e : Ending} (h : Got w B p s v r e w') (hr : Rd w B p s a) (hB : B ≤ w.heap.size) : e = .returned v ∧ Rd w' B p s r ∧ Below B w w' :=
  ⟨h.1, h.2.1, h.2.2.below hB (fun j hj => by subst hj; exact hr.base)⟩
theorem Rd.next (h : Rd w B p s a) (hB : B ≤ w.heap.size) (hk : Kept NoB w w') : Rd w' B p s a ∧ Below B w w' := ⟨h.same hk, hk.below hB (fun _ g => g.elim)⟩

theorem alive_any (w : World) : Calls Try.prog 8 #[] w fun e w' => e = .returned (.bool true) ∧ Below w.heap.size w w' := by
  have t1 : gbits ⟨#[5]⟩ 0 1 = (1, 0, 1) := by decide +kernel
  have t2 : gpeek ⟨#[5]⟩ 1 9 = (2, 7) := by decide +kernel
  have t3 : gbits ⟨#[5]⟩ 1 2 = (2, 0, 3) := by decide +kernel
  have t4 : gbits ⟨#[5]⟩ 3 6 = (0, 6, 3) := by decide +kernel
  have hs : ByteArray.size ⟨#[5]⟩ ≤ 100000000 := by decide
  have T1 := Lib.hid t1
  have T2 := Lib.hid t2
  have T3 := Lib.hid t3
  have T4 := Lib.hid t4
  clear t1 t2 t3 t4
  go_enter Try.func8, Try.ntmps8
  go_wp2_with fail
  refine (rnew_any ⟨#[5]⟩ _ (Nat.le_refl _)).mono ?_; rintro e w1 ⟨rfl, k1, r1, l1⟩
  have b1 := k1.below (Nat.le_refl w.heap.size) (fun _ g => g.elim)
  have R1 := Lib.hid r1
  have B1 := Lib.hid b1
  clear r1 k1 b1 l1
  go_wp2_with fail
  refine (rbits_any R1.out hs 1).mono ?_; intro e w2 g
  rw [T1.out] at g
  obtain ⟨rfl, r2, b2⟩ := g.next R1.out B1.out.size
  have R2 := Lib.hid r2
  have B2 := Lib.hid (B1.out.trans b2)
  clear r2 b2 g
  go_wp2_with fail
  refine (rpeek_any R2.out hs 9).mono ?_; intro e w3 g
  rw [T2.out] at g
  obtain ⟨rfl, r3, b3⟩ := g.next R2.out B2.out.size
  have R3 := Lib.hid r3
  have B3 := Lib.hid (B2.out.trans b3)
  clear r3 b3 g
  go_wp2_with fail
  refine (rbits_any R3.out hs 2).mono ?_; intro e w4 g
  rw [T3.out] at g
  obtain ⟨rfl, r4, b4⟩ := g.next R3.out B3.out.size
  have R4 := Lib.hid r4
  have B4 := Lib.hid (B3.out.trans b4)
  clear r4 b4 g
  go_wp2_with fail
  refine (rbits_any R4.out hs 6).mono ?_; intro e w5 g
  rw [T4.out] at g
  obtain ⟨rfl, r5, b5⟩ := g.next R4.out B4.out.size
  have R5 := Lib.hid r5
  have B5 := Lib.hid (B4.out.trans b5)
  clear r5 b5 g
  go_wp2_with fail
  refine (at_any R5.out).mono ?_; rintro e w' ⟨rfl, rfl⟩
  go_wp2_with fail
  refine (left_any R5.out hs).mono ?_; rintro e w' ⟨rfl, n6, rfl⟩
  have B6 := Lib.hid (B5.out.trans ((Kept.refl NoB w5).drewN n6 |>.below B5.out.size (fun _ g => g.elim)))
  go_wp2_with fail
  go_ret
  exact ⟨rfl, B6.out⟩

theorem BitrNil_walk (a0 : Int) (w : World) (w0 : (Lit.int .i64 a0).wf = true) :
    Calls Try.prog 6 #[.int .i64 a0] w fun e w' => e = .returned (.bool true) ∧ Below w.heap.size w w' := by
  go_enter Try.func6, Try.ntmps6
  go_wp2_with fail
  refine (rbits_nil a0 _).mono ?_; rintro e w' ⟨rfl, rfl⟩
  go_wp2_with fail
  refine (rpeek_nil a0 _).mono ?_; rintro e w' ⟨rfl, rfl⟩
  go_wp2_with fail
  refine (rbytes_nil' a0 _).mono ?_; rintro e w' ⟨rfl, rfl⟩
  go_wp2_with fail
  refine (ralign_nil' _).mono ?_; rintro e w' ⟨rfl, rfl⟩
  go_wp2_with fail
  refine (rskip_nil a0 _).mono ?_; rintro e w' ⟨rfl, rfl⟩
  go_wp2_with fail
  refine (at_nil _).mono ?_; rintro e w' ⟨rfl, rfl⟩
  go_wp2_with fail
  refine (left_nil _).mono ?_; rintro e w' ⟨rfl, rfl⟩
  go_wp2_with fail
  refine (alive_any _).mono ?_; rintro e w4 ⟨rfl, hb4⟩
  go_wp2_with fail
  go_ret
  exact ⟨rfl, hb4⟩
end Go.Proofs.Ytlikpljbbenmoaa
