/- The small known cases of layer 6, alive, return true in any world. Conditions: none. -/
import Derived.Test.YteicamfelamfhaaPkG
import Derived.Test.YteicamfelamfhaaCnD
namespace Go.Proofs.Yteicamfelamfhaa
open Go.RowKit M
set_option linter.unusedVariables false

/-- A literal slice of numbers reads as them. -/
theorem Nums.new (w : World) (k : IntKind) (T : TypeId) (cs : List Nat) : Nums (w.alloc (.cells (cs.map fun x : Nat => Value.int k (x : Int)).toArray T)) k (some ⟨w.heap.size, 0, none⟩) cs.length (fun i => ((cs.getD i 0 : Nat) : Int)) := fun hn => by
  refine ⟨w.heap.size, 0, rfl, by simp, fun i hi => ?_⟩
  rw [Nat.zero_add, cell_of_row _ _ _ _ _ _ (heap_alloc_new w _)]
  simp [List.getD, hi]
/-- a list of numbers as a function -/
def lt (cs : List Nat) (i : Nat) : Nat := cs.getD i 0
theorem lt_le {cs : List Nat} {M : Nat} (h : ∀ x ∈ cs, x ≤ M) (i : Nat) : lt cs i ≤ M := by
  unfold lt
  rw [List.getD]
  cases e : cs[i]? with
  | none => simp
  | some x => exact h x (List.mem_of_getElem? e)
def le6 (es : List (Nat × Nat)) (i : Nat) : Nat × Nat := es.getD i (0, 0)
/-- are these those that count, by rising counts -/
def lvB (cs : List Nat) (es : List (Nat × Nat)) : Bool :=
  (List.range es.length).all (fun j => (List.range j).all fun i => decide ((le6 es i).1 < (le6 es j).1 ∨ ((le6 es i).1 = (le6 es j).1 ∧ (le6 es i).2 < (le6 es j).2))) &&
  (List.range es.length).all (fun i => decide ((le6 es i).2 < cs.length ∧ 0 < lt cs (le6 es i).2 ∧ (le6 es i).1 = lt cs (le6 es i).2)) &&
  (List.range cs.length).all (fun s => decide (lt cs s = 0) || (List.range es.length).any fun i => decide ((le6 es i).2 = s)) && decide (es.length ≤ cs.length)
theorem lv_of {cs : List Nat} {es : List (Nat × Nat)} (h : lvB cs es = true) : IsLv (lt cs) cs.length es.length (le6 es) := by
  unfold lvB at h
  simp only [Bool.and_eq_true, List.all_eq_true, List.mem_range, decide_eq_true_eq, Bool.or_eq_true, List.any_eq_true] at h
  obtain ⟨⟨⟨h1, h2⟩, h3⟩, h4⟩ := h
  refine ⟨fun i j _ g2 g3 => h1 j g3 i g2, h2, fun s hs hc => ?_, h4⟩
  rcases h3 s hs with g | ⟨i, g1, g2⟩
  · omega
  · exact ⟨i, g1, g2⟩
/-- Lens of a literal -/
theorem lensLit (w : World) (cs fs : List Nat) (es : List (Nat × Nat)) (L : Nat) (hc : cs.length ≤ 320) (hb : ∀ x ∈ cs, x ≤ 1073741824) (h1 : 1 ≤ L) (h2 : L ≤ 15) (hl : lvB cs es = true) (hn : nds es.length ≤ L) (hf : ∀ i, i < cs.length → pl es.length (le6 es) L i = lt fs i) :
    Calls Try.prog 9 #[.slice (some ⟨w.heap.size, 0, none⟩) cs.length cs.length, .int .i64 L] (w.alloc (.cells (cs.map fun x : Nat => Value.int .i64 (x : Int)).toArray 3)) fun x w' => ∃ g, x = .returned (.tuple #[.slice (some ⟨g, 0, none⟩) cs.length cs.length, .int .i64 0]) ∧ Br w' g cs.length (lt fs) ∧ Below w.heap.size w w' :=
  (lens_ok _ cs.length cs.length L es.length (lt cs) (le6 es) _ hc (lt_le hb) (Nums.new w .i64 3 cs) h1 h2 (lv_of hl) hn).mono fun x w' ⟨g, q1, q2, q3, q4⟩ => ⟨g, q1, q3.congr hf, ((Below.refl _ _).alloc (Nat.le_refl _) _).trans (q4.mono (by simp))⟩
theorem lensA (w : World) : Calls Try.prog 9 #[.slice (some ⟨w.heap.size, 0, none⟩) 4 4, .int .i64 15] (w.alloc (.cells #[.int .i64 1, .int .i64 1, .int .i64 2, .int .i64 4] 3)) fun x w' => ∃ g, x = .returned (.tuple #[.slice (some ⟨g, 0, none⟩) 4 4, .int .i64 0]) ∧ Br w' g 4 (lt [3, 3, 2, 1]) ∧ Below w.heap.size w w' :=
  lensLit w [1, 1, 2, 4] [3, 3, 2, 1] [(1, 0), (1, 1), (2, 2), (4, 3)] 15 (by decide) (by decide) (by decide) (by decide) (by decide +kernel) (by decide +kernel) (by decide +kernel)
theorem lensB (w : World) : Calls Try.prog 9 #[.slice (some ⟨w.heap.size, 0, none⟩) 4 4, .int .i64 2] (w.alloc (.cells #[.int .i64 1, .int .i64 1, .int .i64 2, .int .i64 4] 3)) fun x w' => ∃ g, x = .returned (.tuple #[.slice (some ⟨g, 0, none⟩) 4 4, .int .i64 0]) ∧ Br w' g 4 (lt [2, 2, 2, 2]) ∧ Below w.heap.size w w' :=
  lensLit w [1, 1, 2, 4] [2, 2, 2, 2] [(1, 0), (1, 1), (2, 2), (4, 3)] 2 (by decide) (by decide) (by decide) (by decide) (by decide +kernel) (by decide +kernel) (by decide +kernel)
theorem lensC (w : World) : Calls Try.prog 9 #[.slice (some ⟨w.heap.size, 0, none⟩) 2 2, .int .i64 1] (w.alloc (.cells #[.int .i64 0, .int .i64 5] 3)) fun x w' => ∃ g, x = .returned (.tuple #[.slice (some ⟨g, 0, none⟩) 2 2, .int .i64 0]) ∧ Br w' g 2 (lt [0, 1]) ∧ Below w.heap.size w w' :=
  lensLit w [0, 5] [0, 1] [(5, 1)] 1 (by decide) (by decide) (by decide) (by decide) (by decide +kernel) (by decide +kernel) (by decide +kernel)
theorem lensD (w : World) : Calls Try.prog 9 #[.slice (some ⟨w.heap.size, 0, none⟩) 3 3, .int .i64 1] (w.alloc (.cells #[.int .i64 1, .int .i64 1, .int .i64 1] 3)) fun x w' => x = .returned (.tuple #[.slice none 0 0, .int .i64 2]) ∧ Below w.heap.size w w' :=
  (lens_few _ 3 3 1 3 (lt [1, 1, 1]) (le6 [(1, 0), (1, 1), (1, 2)]) _ (by decide) (lt_le (by decide)) (Nums.new w .i64 3 [1, 1, 1]) (by decide) (by decide) (lv_of (cs := [1, 1, 1]) (es := [(1, 0), (1, 1), (1, 2)]) (by decide +kernel)) (by decide +kernel)).mono fun x w' ⟨q1, q2⟩ => ⟨q1, ((Below.refl _ _).alloc (Nat.le_refl _) _).trans (q2.mono (by simp))⟩
/-- SameLens with a literal -/
theorem sameLit (w : World) (g : Nat) (fs : List Nat) (hc : fs.length ≤ 320) (H : Br w g fs.length (lt fs)) :
    Calls Try.prog 11 #[.slice (some ⟨g, 0, none⟩) fs.length fs.length, .slice (some ⟨w.heap.size, 0, none⟩) fs.length fs.length] (w.alloc (.cells (fs.map fun x : Nat => Value.int .u8 (x : Int)).toArray 5)) fun e w' => e = .returned (.bool true) ∧ Below w.heap.size w w' :=
  (sameLens_any _ _ fs.length _ _ (lt fs) (lt fs) _ (by unfold maxLen; omega) ((H.alloc _).nums) (Nums.new w .u8 5 fs) (fun _ _ => rfl)).mono fun e w' ⟨h1, q, h2⟩ => ⟨h1, by rw [h2]; exact below_drewN ((Below.refl _ _).alloc (Nat.le_refl _) _) q⟩
theorem needs3 (w : World) : Calls Try.prog 12 #[.int .i64 3] w fun e w' => e = .returned (.int .i64 2) ∧ w = w' :=
  (needs_any 3 w (by decide) (by decide)).mono fun e w' ⟨h1, h2⟩ => ⟨by rw [h1, show nds (3 : Int).toNat = 2 by decide +kernel]; rfl, h2⟩

set_option maxHeartbeats 4000000 in
theorem alive_any (W : World) : Calls Try.prog 8 #[] W fun e w' => e = .returned (.bool true) ∧ Below W.heap.size W w' := by
  go_enter Try.func8, Try.ntmps8
  go_wp2_with fail
  refine (lensA _).mono ?_; rintro e w1 ⟨g1, rfl, r1, b1⟩
  have R1 := Lib.hid r1
  have B1 := Lib.hid b1
  clear r1 b1
  go_wp2_with fail
  refine (lensB _).mono ?_; rintro e w2 ⟨g2, rfl, r2, b2⟩
  have R1 := Lib.hid (R1.out.below b2 R1.out.lt)
  have R2 := Lib.hid r2
  have B2 := Lib.hid (B1.out.trans (b2.mono B1.out.size))
  clear r2 b2 B1
  go_wp2_with fail
  refine (lensC _).mono ?_; rintro e w3 ⟨g3, rfl, r3, b3⟩
  have R1 := Lib.hid (R1.out.below b3 R1.out.lt)
  have R2 := Lib.hid (R2.out.below b3 R2.out.lt)
  have R3 := Lib.hid r3
  have B3 := Lib.hid (B2.out.trans (b3.mono B2.out.size))
  clear r3 b3 B2
  go_wp2_with fail
  refine (lensD _).mono ?_; rintro e w4 ⟨rfl, b4⟩
  have R1 := Lib.hid (R1.out.below b4 R1.out.lt)
  have R2 := Lib.hid (R2.out.below b4 R2.out.lt)
  have R3 := Lib.hid (R3.out.below b4 R3.out.lt)
  have B4 := Lib.hid (B3.out.trans (b4.mono B3.out.size))
  clear b4 B3
  go_wp2_with fail
  refine (sameLit _ g1 [3, 3, 2, 1] (by decide) R1.out).mono ?_; rintro e w5 ⟨rfl, b5⟩
  have R2 := Lib.hid (R2.out.below b5 R2.out.lt)
  have R3 := Lib.hid (R3.out.below b5 R3.out.lt)
  have B5 := Lib.hid (B4.out.trans (b5.mono B4.out.size))
  clear b5 B4 R1
  go_wp2_with fail
  refine (sameLit _ g2 [2, 2, 2, 2] (by decide) R2.out).mono ?_; rintro e w6 ⟨rfl, b6⟩
  have R3 := Lib.hid (R3.out.below b6 R3.out.lt)
  have B6 := Lib.hid (B5.out.trans (b6.mono B5.out.size))
  clear b6 B5 R2
  go_wp2_with fail
  refine (sameLit _ g3 [0, 1] (by decide) R3.out).mono ?_; rintro e w7 ⟨rfl, b7⟩
  have B7 := Lib.hid (B6.out.trans (b7.mono B6.out.size))
  clear b7 B6 R3
  go_wp2_with fail
  refine (needs3 _).mono ?_; rintro e w8 ⟨rfl, rfl⟩
  go_wp2_with fail
  go_ret
  exact ⟨rfl, B7.out⟩
end Go.Proofs.Yteicamfelamfhaa
