/- The small known cases of layer 7, alive, return true in any world. Conditions: none. -/
import Derived.Test.YtnkkccieidlacaaHfG
namespace Go.Proofs.Ytnkkccieidlacaa
open Go.RowKit M
set_option linter.unusedVariables false
set_option linter.unusedSimpArgs false

/-- A literal slice of numbers reads as them. -/
theorem Nums.new (w : World) (k : IntKind) (T : TypeId) (cs : List Nat) : Nums (w.alloc (.cells (cs.map fun x : Nat => Value.int k (x : Int)).toArray T)) k (some ⟨w.heap.size, 0, none⟩) cs.length (fun i => ((cs.getD i 0 : Nat) : Int)) := fun hn => by
  refine ⟨w.heap.size, 0, rfl, by simp, fun i hi => ?_⟩
  rw [Nat.zero_add, cell_of_row _ _ _ _ _ _ (heap_alloc_new w _)]
  simp [List.getD, hi]
/-- a list of numbers as a function -/
def lt (cs : List Nat) (i : Nat) : Nat := cs.getD i 0
theorem lt_le {cs : List Nat} (h : ∀ x ∈ cs, x ≤ 255) (i : Nat) : lt cs i ≤ 255 := by
  unfold lt
  rw [List.getD]
  cases e : cs[i]? with
  | none => simp
  | some x => exact h x (List.mem_of_getElem? e)
theorem newLit (w : World) (cs : List Nat) (f : Nat) (hc : cs.length ≤ 400) (hb : ∀ x ∈ cs, x ≤ 255) (h1 : 1 ≤ f) (hf : f ≤ 15) (ht : kind (lt cs) cs.length = 0 ∨ kind (lt cs) cs.length = 1 ∨ kind (lt cs) cs.length = 2) :
    Calls Try.prog 9 #[.slice (some ⟨w.heap.size, 0, none⟩) cs.length cs.length, .int .i64 f] (w.alloc (.cells (cs.map fun x : Nat => Value.int .u8 (x : Int)).toArray 5)) fun e w' =>
      ∃ T p m G N D, e = .returned (.tuple #[.pointer (some ⟨p, 0, none⟩), .int .i64 0]) ∧ w.heap.size ≤ p ∧ Hp w' T p m G N D (lt cs) cs.length f cs.length ∧ Below w.heap.size w w' :=
  (new_ok_any _ _ cs.length (lt cs) f _ (lt_le hb) (Nums.new w .u8 5 cs) ht h1 hf).mono fun e w' ⟨T, p, m, G, N, D, a, b, c, d⟩ => ⟨T, p, m, G, N, D, a, by simp at b; omega, c, ((Below.refl _ _).alloc (Nat.le_refl _) _).trans (d.mono (by simp))⟩
theorem newNoLit (w : World) (cs : List Nat) (x : Int) (hc : cs.length ≤ 400) (hb : ∀ x ∈ cs, x ≤ 255) (E : Nat) (hE : nerr (lt cs) cs.length x = E) (h0 : E ≠ 0) :
    Calls Try.prog 9 #[.slice (some ⟨w.heap.size, 0, none⟩) cs.length cs.length, .int .i64 x] (w.alloc (.cells (cs.map fun x : Nat => Value.int .u8 (x : Int)).toArray 5)) fun e w' =>
      e = .returned (.tuple #[.pointer none, .int .i64 E]) ∧ Below w.heap.size w w' := by
  subst hE
  exact (new_no_any _ _ cs.length (lt cs) x _ (by unfold maxLen; omega) (lt_le hb) (Nums.new w .u8 5 cs) h0).mono fun e w' ⟨a, d⟩ => ⟨a, ((Below.refl _ _).alloc (Nat.le_refl _) _).trans (d.mono (by simp))⟩

theorem newA (w : World) : Calls Try.prog 9 #[.slice (some ⟨w.heap.size, 0, none⟩) 4 4, .int .i64 2] (w.alloc (.cells #[.int .u8 2, .int .u8 1, .int .u8 3, .int .u8 3] 5)) fun e w' =>
    ∃ T p m G N D, e = .returned (.tuple #[.pointer (some ⟨p, 0, none⟩), .int .i64 0]) ∧ w.heap.size ≤ p ∧ Hp w' T p m G N D (lt [2, 1, 3, 3]) 4 2 4 ∧ Below w.heap.size w w' :=
  newLit w [2, 1, 3, 3] 2 (by decide) (by decide) (by decide) (by decide) (by decide +kernel)
theorem newB (w : World) : Calls Try.prog 9 #[.slice (some ⟨w.heap.size, 0, none⟩) 1 1, .int .i64 3] (w.alloc (.cells #[.int .u8 1] 5)) fun e w' =>
    ∃ T p m G N D, e = .returned (.tuple #[.pointer (some ⟨p, 0, none⟩), .int .i64 0]) ∧ w.heap.size ≤ p ∧ Hp w' T p m G N D (lt [1]) 1 3 1 ∧ Below w.heap.size w w' :=
  newLit w [1] 3 (by decide) (by decide) (by decide) (by decide) (by decide +kernel)
theorem newC (w : World) : Calls Try.prog 9 #[.slice (some ⟨w.heap.size, 0, none⟩) 2 2, .int .i64 9] (w.alloc (.cells #[.int .u8 2, .int .u8 2] 5)) fun e w' => e = .returned (.tuple #[.pointer none, .int .i64 7]) ∧ Below w.heap.size w w' :=
  newNoLit w [2, 2] 9 (by decide) (by decide) 7 (by decide +kernel) (by decide)
theorem writesA (w : World) : Calls Try.prog 11 #[.slice (some ⟨w.heap.size, 0, none⟩) 4 4] (w.alloc (.cells #[.int .u8 2, .int .u8 1, .int .u8 3, .int .u8 3] 5)) fun e w' =>
    ∃ A c, e = .returned (.tuple #[.slice A 4 c, .int .i64 0]) ∧ Cods w' A 4 (rc (lt [2, 1, 3, 3]) 4) (lt [2, 1, 3, 3]) ∧ Below w.heap.size w w' := by
  have h := writes_any (some ⟨w.heap.size, 0, none⟩) 4 4 (lt [2, 1, 3, 3]) _ (by decide) (lt_le (by decide)) (Nums.new w .u8 5 [2, 1, 3, 3])
  have e1 : outn (lt [2, 1, 3, 3]) 4 = 4 := by decide +kernel
  have e2 : erc (lt [2, 1, 3, 3]) 4 = 0 := by decide +kernel
  rw [e1, e2] at h
  exact h.mono fun e w' ⟨A, c, h1, _, _, h2, h3, _⟩ => ⟨A, c, h1, h2, ((Below.refl _ _).alloc (Nat.le_refl _) _).trans (h3.mono (by simp))⟩
theorem fitA : Fit (lt [2, 1, 3, 3]) 4 := ⟨by decide +kernel, by decide +kernel⟩
theorem fitB : Fit (lt [1]) 1 := ⟨by decide +kernel, by decide +kernel⟩
section
variable (T p m N : Nat) (G : Nat → Nat → Nat) (D : DataW Value) (w : World)
theorem lookA1 (H : Hp w T p m G N D (lt [2, 1, 3, 3]) 4 2 4) : Calls Try.prog 14 #[.pointer (some ⟨p, 0, none⟩), .int .u64 3, .int .i64 2] w fun e w' => e = .returned (.tuple #[.int .i64 0, .int .i64 0, .int .i64 6]) ∧ Below w.heap.size w w' := by
  have h := hlook_any T p m N 4 2 3 2 G D (lt [2, 1, 3, 3]) w fitA (by decide) (by decide) (by decide) (by decide) H
  rw [show lk (lt [2, 1, 3, 3]) 4 3 2 = (0, 0, 6) by decide +kernel] at h
  exact h
theorem lookA2 (H : Hp w T p m G N D (lt [2, 1, 3, 3]) 4 2 4) : Calls Try.prog 14 #[.pointer (some ⟨p, 0, none⟩), .int .u64 3, .int .i64 3] w fun e w' => e = .returned (.tuple #[.int .i64 2, .int .i64 3, .int .i64 0]) ∧ Below w.heap.size w w' := by
  have h := hlook_any T p m N 4 2 3 3 G D (lt [2, 1, 3, 3]) w fitA (by decide) (by decide) (by decide) (by decide) H
  rw [show lk (lt [2, 1, 3, 3]) 4 3 3 = (2, 3, 0) by decide +kernel] at h
  exact h
theorem lookA3 (H : Hp w T p m G N D (lt [2, 1, 3, 3]) 4 2 4) : Calls Try.prog 14 #[.pointer (some ⟨p, 0, none⟩), .int .u64 0, .int .i64 1] w fun e w' => e = .returned (.tuple #[.int .i64 1, .int .i64 1, .int .i64 0]) ∧ Below w.heap.size w w' := by
  have h := hlook_any T p m N 4 2 0 1 G D (lt [2, 1, 3, 3]) w fitA (by decide) (by decide) (by decide) (by decide) H
  rw [show lk (lt [2, 1, 3, 3]) 4 0 1 = (1, 1, 0) by decide +kernel] at h
  exact h
theorem lookB1 (H : Hp w T p m G N D (lt [1]) 1 3 1) : Calls Try.prog 14 #[.pointer (some ⟨p, 0, none⟩), .int .u64 1, .int .i64 1] w fun e w' => e = .returned (.tuple #[.int .i64 0, .int .i64 0, .int .i64 7]) ∧ Below w.heap.size w w' := by
  have h := hlook_any T p m N 1 3 1 1 G D (lt [1]) w fitB (by decide) (by decide) (by decide) (by decide) H
  rw [show lk (lt [1]) 1 1 1 = (0, 0, 7) by decide +kernel] at h
  exact h
theorem cellsA (H : Hp w T p m G N D (lt [2, 1, 3, 3]) 4 2 4) : Calls Try.prog 16 #[.pointer (some ⟨p, 0, none⟩)] w fun e w' => e = .returned (.int .i64 6) ∧ Below w.heap.size w w' := by
  have h := hcells_any T p m N 4 2 G D (lt [2, 1, 3, 3]) w fitA.1 (by decide) (by decide) H
  rw [show cells (lt [2, 1, 3, 3]) 4 2 = 6 by decide +kernel] at h
  exact h
end

set_option maxRecDepth 1000000 in
set_option maxHeartbeats 1000000 in
theorem alive_any (W : World) : Calls Try.prog 8 #[] W fun e w' => e = .returned (.bool true) ∧ Below W.heap.size W w' := by
  go_enter Try.func8, Try.ntmps8
  go_wp2_with fail
  refine (newA _).mono ?_; rintro e w1 ⟨T, p, m, G, N, D, rfl, hp, H1, b1⟩
  have H1 := Lib.hid H1
  have B1 := Lib.hid b1
  clear b1 hp
  go_wp2_with fail
  refine (lookA1 T p m N G D _ H1.out).mono ?_; rintro e w2 ⟨rfl, b2⟩
  have H2 := Lib.hid (H1.out.below b2)
  have B2 := Lib.hid (B1.out.trans (b2.mono B1.out.size))
  clear b2
  go_wp2_with fail
  refine (lookA2 T p m N G D _ H2.out).mono ?_; rintro e w3 ⟨rfl, b3⟩
  have H3 := Lib.hid (H2.out.below b3)
  have B3 := Lib.hid (B2.out.trans (b3.mono B2.out.size))
  clear b3
  go_wp2_with fail
  refine (lookA3 T p m N G D _ H3.out).mono ?_; rintro e w4 ⟨rfl, b4⟩
  have H4 := Lib.hid (H3.out.below b4)
  have B4 := Lib.hid (B3.out.trans (b4.mono B3.out.size))
  clear b4
  go_wp2_with fail
  refine (newC _).mono ?_; rintro e w5 ⟨rfl, b5⟩
  have H5 := Lib.hid (H4.out.below b5)
  have B5 := Lib.hid (B4.out.trans (b5.mono B4.out.size))
  clear b5
  go_wp2_with fail
  refine (writesA _).mono ?_; rintro e w6 ⟨A, c, rfl, c6, b6⟩
  have H6 := Lib.hid (H5.out.below b6)
  have B6 := Lib.hid (B5.out.trans (b6.mono B5.out.size))
  have C6 := Lib.hid c6
  clear b6 c6
  go_wp2_with fail
  refine (newB _).mono ?_; rintro e w7 ⟨T2, p2, m2, G2, N2, D2, rfl, hp2, I1, b7⟩
  have H7 := Lib.hid (H6.out.below b7)
  have B7 := Lib.hid (B6.out.trans (b7.mono B6.out.size))
  have C7 := Lib.hid (C6.out.below b7)
  have I7 := Lib.hid I1
  clear b7 I1 hp2
  go_wp2_with fail
  refine (lookB1 T2 p2 m2 N2 G2 D2 _ I7.out).mono ?_; rintro e w8 ⟨rfl, b8⟩
  have H8 := Lib.hid (H7.out.below b8)
  have B8 := Lib.hid (B7.out.trans (b8.mono B7.out.size))
  have C8 := Lib.hid (C7.out.below b8)
  clear b8
  obtain ⟨b, o, rfl, hbs, hc⟩ := C8.out (by decide)
  have g0 := (hc 0 (by decide)).1
  have g2 := (hc 2 (by decide)).1
  rw [show rc (lt [2, 1, 3, 3]) 4 0 = 1 by decide +kernel] at g0
  rw [show rc (lt [2, 1, 3, 3]) 4 2 = 3 by decide +kernel] at g2
  simp only [Nat.zero_mul, Nat.add_zero] at g0
  clear hc
  go_wp2_with fail
  refine (cellsA T p m N G D _ H8.out).mono ?_; rintro e w9 ⟨rfl, b9⟩
  have B9 := Lib.hid (B8.out.trans (b9.mono B8.out.size))
  clear b9
  go_wp2_with fail
  go_ret
  exact ⟨rfl, B9.out⟩
end Go.Proofs.Ytnkkccieidlacaa
