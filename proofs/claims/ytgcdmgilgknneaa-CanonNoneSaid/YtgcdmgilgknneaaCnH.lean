/- The small known cases of layer 5, alive, return true in any world. Conditions: none. -/
import Derived.Test.YtgcdmgilgknneaaCnG
import Derived.Test.YtgcdmgilgknneaaCnD
namespace Go.Proofs.Ytgcdmgilgknneaa
open Go.RowKit M
set_option linter.unusedVariables false

/-- A literal slice of numbers reads as them. -/
theorem Nums.new (w : World) (k : IntKind) (T : TypeId) (cs : List Nat) : Nums (w.alloc (.cells (cs.map fun x : Nat => Value.int k (x : Int)).toArray T)) k (some ⟨w.heap.size, 0, none⟩) cs.length (fun i => ((cs.getD i 0 : Nat) : Int)) := fun hn => by
  refine ⟨w.heap.size, 0, rfl, by simp, fun i hi => ?_⟩
  rw [Nat.zero_add, cell_of_row _ _ _ _ _ _ (heap_alloc_new w _)]
  simp [List.getD, hi]
theorem Cods.new (w : World) (T : TypeId) (cs : List (Nat × Nat)) : Cods (w.alloc (.cells (cs.flatMap fun x : Nat × Nat => [Value.int .u32 x.1, Value.int .u8 x.2]).toArray T)) (some ⟨w.heap.size, 0, none⟩) cs.length (fun i => (cs.getD i (0, 0)).1) (fun i => (cs.getD i (0, 0)).2) := fun hn => by
  refine ⟨w.heap.size, 0, rfl, by simp, fun i hi => ?_⟩
  rw [Nat.zero_add, cell_of_row _ _ _ _ _ _ (heap_alloc_new w _), cell_of_row _ _ _ _ _ _ (heap_alloc_new w _)]
  have h : ∀ (cs : List (Nat × Nat)) (i : Nat), i < cs.length → (cs.flatMap fun x : Nat × Nat => [Value.int .u32 x.1, Value.int .u8 x.2])[i * 2]? = some (.int .u32 (cs.getD i (0, 0)).1) ∧ (cs.flatMap fun x : Nat × Nat => [Value.int .u32 x.1, Value.int .u8 x.2])[i * 2 + 1]? = some (.int .u8 (cs.getD i (0, 0)).2) := by
    intro cs
    induction cs with
    | nil => intro i hi; simp at hi
    | cons a r ih =>
      intro i hi
      cases i with
      | zero => simp
      | succ i =>
        have := ih i (by simpa using hi)
        rw [show (i + 1) * 2 = i * 2 + 1 + 1 by omega]
        simpa using this
  simpa using h cs i hi

/-- a list of numbers as a function -/
def lt (cs : List Nat) (i : Nat) : Nat := cs.getD i 0
theorem lt_le {cs : List Nat} (h : ∀ x ∈ cs, x ≤ 255) (i : Nat) : lt cs i ≤ 255 := by
  unfold lt
  rw [List.getD]
  cases e : cs[i]? with
  | none => simp
  | some x => exact h x (List.mem_of_getElem? e)
theorem codesLit (w : World) (cs : List Nat) (hc : cs.length ≤ 400) (hb : ∀ x ∈ cs, x ≤ 255) :
    Calls Try.prog 10 #[.slice (some ⟨w.heap.size, 0, none⟩) cs.length cs.length] (w.alloc (.cells (cs.map fun x : Nat => Value.int .u8 (x : Int)).toArray 5)) (GotC (w.alloc (.cells (cs.map fun x : Nat => Value.int .u8 (x : Int)).toArray 5)) (outn (lt cs) cs.length) (cod (lt cs) cs.length) (lt cs) (erc (lt cs) cs.length : Nat)) :=
  codes_any _ _ _ (lt cs) _ (by unfold maxLen; omega) (lt_le hb) (Nums.new w .u8 5 cs)
theorem kindLit (w : World) (cs : List Nat) (hc : cs.length ≤ 400) (hb : ∀ x ∈ cs, x ≤ 255) (k : Nat) (hk : kind (lt cs) cs.length = k) :
    Calls Try.prog 12 #[.slice (some ⟨w.heap.size, 0, none⟩) cs.length cs.length] (w.alloc (.cells (cs.map fun x : Nat => Value.int .u8 (x : Int)).toArray 5)) fun e w' => e = .returned (.int .u8 k) ∧ Below w.heap.size w w' :=
  (kind_any _ _ cs.length (lt cs) _ (by unfold maxLen; omega) (lt_le hb) (Nums.new w .u8 5 cs)).mono fun e w' ⟨h1, h2⟩ => ⟨by rw [h1, hk], ((Below.refl _ _).alloc (Nat.le_refl _) _).trans (h2.mono (by simp))⟩

theorem codes4 (w : World) : Calls Try.prog 10 #[.slice (some ⟨w.heap.size, 0, none⟩) 4 4] (w.alloc (.cells #[.int .u8 2, .int .u8 1, .int .u8 3, .int .u8 3] 5)) fun e w' => ∃ A c, e = .returned (.tuple #[.slice A 4 c, .int .i64 0]) ∧ Cods w' A 4 (cod (lt [2, 1, 3, 3]) 4) (lt [2, 1, 3, 3]) ∧ Below w.heap.size w w' := by
  have h := codesLit w [2, 1, 3, 3] (by decide) (by decide)
  have e1 : outn (lt [2, 1, 3, 3]) 4 = 4 := by decide +kernel
  have e2 : erc (lt [2, 1, 3, 3]) 4 = 0 := by decide +kernel
  simp only [List.length_cons, List.length_nil, Nat.zero_add, Nat.reduceAdd] at h
  rw [e1, e2] at h
  exact h.mono fun e w' ⟨A, c, h1, _, _, h2, h3⟩ => ⟨A, c, h1, h2, ((Below.refl _ _).alloc (Nat.le_refl _) _).trans (h3.mono (by simp))⟩
theorem codes3 (w : World) : Calls Try.prog 10 #[.slice (some ⟨w.heap.size, 0, none⟩) 3 3] (w.alloc (.cells #[.int .u8 1, .int .u8 1, .int .u8 1] 5)) fun e w' => ∃ A c, e = .returned (.tuple #[.slice A 0 c, .int .i64 7]) ∧ Below w.heap.size w w' := by
  have h := codesLit w [1, 1, 1] (by decide) (by decide)
  have e1 : outn (lt [1, 1, 1]) 3 = 0 := by decide +kernel
  have e2 : erc (lt [1, 1, 1]) 3 = 7 := by decide +kernel
  simp only [List.length_cons, List.length_nil, Nat.zero_add, Nat.reduceAdd] at h
  rw [e1, e2] at h
  exact h.mono fun e w' ⟨A, c, h1, _, _, h2, h3⟩ => ⟨A, c, h1, ((Below.refl _ _).alloc (Nat.le_refl _) _).trans (h3.mono (by simp))⟩
theorem codes1 (w : World) : Calls Try.prog 10 #[.slice (some ⟨w.heap.size, 0, none⟩) 1 1] (w.alloc (.cells #[.int .u8 16] 5)) fun e w' => ∃ A c, e = .returned (.tuple #[.slice A 0 c, .int .i64 2]) ∧ Below w.heap.size w w' := by
  have h := codesLit w [16] (by decide) (by decide)
  have e1 : outn (lt [16]) 1 = 0 := by decide +kernel
  have e2 : erc (lt [16]) 1 = 2 := by decide +kernel
  simp only [List.length_cons, List.length_nil, Nat.zero_add] at h
  rw [e1, e2] at h
  exact h.mono fun e w' ⟨A, c, h1, _, _, h2, h3⟩ => ⟨A, c, h1, ((Below.refl _ _).alloc (Nat.le_refl _) _).trans (h3.mono (by simp))⟩
theorem kind1 (w : World) : Calls Try.prog 12 #[.slice (some ⟨w.heap.size, 0, none⟩) 1 1] (w.alloc (.cells #[.int .u8 1] 5)) fun e w' => e = .returned (.int .u8 1) ∧ Below w.heap.size w w' := kindLit w [1] (by decide) (by decide) 1 (by decide +kernel)
theorem kind22 (w : World) : Calls Try.prog 12 #[.slice (some ⟨w.heap.size, 0, none⟩) 2 2] (w.alloc (.cells #[.int .u8 2, .int .u8 2] 5)) fun e w' => e = .returned (.int .u8 3) ∧ Below w.heap.size w w' := kindLit w [2, 2] (by decide) (by decide) 3 (by decide +kernel)
theorem kind11 (w : World) : Calls Try.prog 12 #[.slice (some ⟨w.heap.size, 0, none⟩) 2 2] (w.alloc (.cells #[.int .u8 1, .int .u8 1] 5)) fun e w' => e = .returned (.int .u8 2) ∧ Below w.heap.size w w' := kindLit w [1, 1] (by decide) (by decide) 2 (by decide +kernel)
theorem kind0 (w : World) : Calls Try.prog 12 #[.slice none 0 0] w fun e w' => e = .returned (.int .u8 0) ∧ Below w.heap.size w w' :=
  (kind_any none 0 0 (lt []) w (by decide) (fun i => by simp [lt]) (Nums.nil _ _ _ _)).mono fun e w' ⟨h1, h2⟩ => ⟨by rw [h1, show kind (lt []) 0 = 0 by decide +kernel]; rfl, h2⟩

theorem same4 (w : World) (A : Option Addr) (c : Nat) (C : Cods w A 4 (cod (lt [2, 1, 3, 3]) 4) (lt [2, 1, 3, 3])) :
    Calls Try.prog 14 #[.slice A 4 c, .slice (some ⟨w.heap.size, 0, none⟩) 4 4] (w.alloc (.cells #[.int .u32 2, .int .u8 2, .int .u32 0, .int .u8 1, .int .u32 6, .int .u8 3, .int .u32 7, .int .u8 3] 40)) fun e w' => e = .returned (.bool true) ∧ Below w.heap.size w w' := by
  have hb : Below w.heap.size w (w.alloc (.cells #[.int .u32 2, .int .u8 2, .int .u32 0, .int .u8 1, .int .u32 6, .int .u8 3, .int .u32 7, .int .u8 3] 40)) := (Below.refl _ _).alloc (Nat.le_refl _) _
  have h2 : Cods (w.alloc (.cells #[.int .u32 2, .int .u8 2, .int .u32 0, .int .u8 1, .int .u32 6, .int .u8 3, .int .u32 7, .int .u8 3] 40)) (some ⟨w.heap.size, 0, none⟩) 4 (fun i => ([(2, 2), (0, 1), (6, 3), (7, 3)].getD i (0, 0)).1) (fun i => ([(2, 2), (0, 1), (6, 3), (7, 3)].getD i (0, 0)).2) := Cods.new w 40 [(2, 2), (0, 1), (6, 3), (7, 3)]
  exact (same_any A _ 4 c 4 _ _ _ _ _ (by decide) (C.below hb) h2 (by decide +kernel) (by decide +kernel)).mono fun e w' ⟨h1, q, h3⟩ => ⟨h1, by rw [h3]; exact below_drewN hb q⟩
theorem weigh23 (w : World) :
    Calls Try.prog 17 #[.slice (some ⟨w.heap.size, 0, none⟩) 2 2, .slice (some ⟨w.heap.size + 1, 0, none⟩) 2 2] ((w.alloc (.cells #[.int .u8 2, .int .u8 3] 5)).alloc (.cells #[.int .i64 5, .int .i64 7] 3)) fun e w' => e = .returned (.int .i64 31) ∧ Below w.heap.size w w' := by
  have hb : Below w.heap.size w ((w.alloc (.cells #[.int .u8 2, .int .u8 3] 5)).alloc (.cells #[.int .i64 5, .int .i64 7] 3)) := ((Below.refl _ _).alloc (Nat.le_refl _) _).alloc (by simp) _
  have h1 : Nums (w.alloc (.cells #[.int .u8 2, .int .u8 3] 5)) .u8 (some ⟨w.heap.size, 0, none⟩) 2 (fun i => (lt [2, 3] i : Int)) := Nums.new w .u8 5 [2, 3]
  have h2 : Nums ((w.alloc (.cells #[.int .u8 2, .int .u8 3] 5)).alloc (.cells #[.int .i64 5, .int .i64 7] 3)) .i64 (some ⟨w.heap.size + 1, 0, none⟩) 2 (fun i => (lt [5, 7] i : Int)) := by
    have := Nums.new (w.alloc (.cells #[.int .u8 2, .int .u8 3] 5)) .i64 3 [5, 7]
    rw [show (w.alloc (.cells #[.int .u8 2, .int .u8 3] 5)).heap.size = w.heap.size + 1 by simp] at this
    exact this
  have h := weighs_any _ _ 2 2 2 2 (lt [2, 3]) _ _ (by decide) (by decide) (h1.below ((Below.refl _ _).alloc (Nat.le_refl _) _)) h2 (lt_le (by decide))
  exact h.mono fun e w' ⟨q1, q2⟩ => ⟨by rw [q1, show wg (lt [2, 3]) (fun i => (lt [5, 7] i : Int)) (min 2 2) = 31 by decide +kernel], hb.trans (q2.mono (by simp; omega))⟩

set_option maxHeartbeats 1000000 in
theorem alive_any (W : World) : Calls Try.prog 9 #[] W fun e w' => e = .returned (.bool true) ∧ Below W.heap.size W w' := by
  go_enter Try.func9, Try.ntmps9
  go_wp2_with fail
  refine (codes4 _).mono ?_; rintro e w1 ⟨A, c, rfl, c1, b1⟩
  have C1 := Lib.hid c1
  have B1 := Lib.hid b1
  clear c1 b1
  go_wp2_with fail
  refine (codes3 _).mono ?_; rintro e w2 ⟨A2, c2, rfl, b2⟩
  have C2 := Lib.hid (C1.out.below b2)
  have B2 := Lib.hid (B1.out.trans (b2.mono B1.out.size))
  clear b2
  go_wp2_with fail
  refine (codes1 _).mono ?_; rintro e w3 ⟨A3, c3, rfl, b3⟩
  have C3 := Lib.hid (C2.out.below b3)
  have B3 := Lib.hid (B2.out.trans (b3.mono B2.out.size))
  clear b3
  go_wp2_with fail
  refine (same4 _ _ _ C3.out).mono ?_; rintro e w4 ⟨rfl, b4⟩
  have B4 := Lib.hid (B3.out.trans (b4.mono B3.out.size))
  clear b4
  go_wp2_with fail
  refine (kind1 _).mono ?_; rintro e w5 ⟨rfl, b5⟩
  have B5 := Lib.hid (B4.out.trans (b5.mono B4.out.size))
  clear b5
  go_wp2_with fail
  refine (kind22 _).mono ?_; rintro e w6 ⟨rfl, b6⟩
  have B6 := Lib.hid (B5.out.trans (b6.mono B5.out.size))
  clear b6
  go_wp2_with fail
  refine (kind11 _).mono ?_; rintro e w7 ⟨rfl, b7⟩
  have B7 := Lib.hid (B6.out.trans (b7.mono B6.out.size))
  clear b7
  go_wp2_with fail
  refine (kind0 _).mono ?_; rintro e w8 ⟨rfl, b8⟩
  have B8 := Lib.hid (B7.out.trans (b8.mono B7.out.size))
  clear b8
  go_wp2_with fail
  refine (weigh23 _).mono ?_; rintro e w9 ⟨rfl, b9⟩
  have B9 := Lib.hid (B8.out.trans (b9.mono B8.out.size))
  clear b9
  go_wp2_with fail
  go_ret
  exact ⟨rfl, B9.out⟩
end Go.Proofs.Ytgcdmgilgknneaa
