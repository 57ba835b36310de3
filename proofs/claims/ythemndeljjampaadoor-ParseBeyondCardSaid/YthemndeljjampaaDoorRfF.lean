/- The document's levels of layer 10. Rows of tokens that append makes. Conditions: as each theorem names them. -/
import Derived.Test.YthemndeljjampaaDoorRfE
namespace Go.Proofs.YthemndeljjampaaDoor.Q
open Go Go.RowKit M
set_option linter.unusedVariables false
set_option linter.unusedSimpArgs false

/-- the levels -/
def lvs : List Lv := [⟨0, 0, 0⟩, ⟨4, 8, 0⟩, ⟨8, 16, 0⟩, ⟨16, 32, 0⟩, ⟨8, 16, 4⟩, ⟨16, 32, 16⟩, ⟨64, 128, 16⟩, ⟨128, 128, 32⟩, ⟨512, 258, 128⟩, ⟨2048, 258, 258⟩]
def lv (i : Nat) : Lv := lvs.getD i ⟨0, 0, 0⟩
theorem rowSize : (Tryd.prog.info? 31).map (fun i => i.size) = some 3 := by kernel_rfl

theorem lv_row (w : World) (i : Nat) (hi : i ≤ 9) : ((w.alloc (.cells #[.int .i64 0, .int .i64 0, .int .i64 0] 31)).alloc (.cells #[.int .i64 0, .int .i64 0, .int .i64 0, .int .i64 4, .int .i64 8, .int .i64 0, .int .i64 8, .int .i64 16, .int .i64 0, .int .i64 16, .int .i64 32, .int .i64 0, .int .i64 8, .int .i64 16, .int .i64 4, .int .i64 16, .int .i64 32, .int .i64 16, .int .i64 64, .int .i64 128, .int .i64 16, .int .i64 128, .int .i64 128, .int .i64 32, .int .i64 512, .int .i64 258, .int .i64 128, .int .i64 2048, .int .i64 258, .int .i64 258] 31)).cell? ⟨w.heap.size + 1, i * 3, none⟩ = some (.int .i64 (lv i).d) ∧ ((w.alloc (.cells #[.int .i64 0, .int .i64 0, .int .i64 0] 31)).alloc (.cells #[.int .i64 0, .int .i64 0, .int .i64 0, .int .i64 4, .int .i64 8, .int .i64 0, .int .i64 8, .int .i64 16, .int .i64 0, .int .i64 16, .int .i64 32, .int .i64 0, .int .i64 8, .int .i64 16, .int .i64 4, .int .i64 16, .int .i64 32, .int .i64 16, .int .i64 64, .int .i64 128, .int .i64 16, .int .i64 128, .int .i64 128, .int .i64 32, .int .i64 512, .int .i64 258, .int .i64 128, .int .i64 2048, .int .i64 258, .int .i64 258] 31)).cell? ⟨w.heap.size + 1, i * 3 + 1, none⟩ = some (.int .i64 (lv i).n) ∧ ((w.alloc (.cells #[.int .i64 0, .int .i64 0, .int .i64 0] 31)).alloc (.cells #[.int .i64 0, .int .i64 0, .int .i64 0, .int .i64 4, .int .i64 8, .int .i64 0, .int .i64 8, .int .i64 16, .int .i64 0, .int .i64 16, .int .i64 32, .int .i64 0, .int .i64 8, .int .i64 16, .int .i64 4, .int .i64 16, .int .i64 32, .int .i64 16, .int .i64 64, .int .i64 128, .int .i64 16, .int .i64 128, .int .i64 128, .int .i64 32, .int .i64 512, .int .i64 258, .int .i64 128, .int .i64 2048, .int .i64 258, .int .i64 258] 31)).cell? ⟨w.heap.size + 1, i * 3 + 2, none⟩ = some (.int .i64 (lv i).z) := by
  have h := new_at (w.alloc (.cells #[.int .i64 0, .int .i64 0, .int .i64 0] 31)) (.cells #[.int .i64 0, .int .i64 0, .int .i64 0, .int .i64 4, .int .i64 8, .int .i64 0, .int .i64 8, .int .i64 16, .int .i64 0, .int .i64 16, .int .i64 32, .int .i64 0, .int .i64 8, .int .i64 16, .int .i64 4, .int .i64 16, .int .i64 32, .int .i64 16, .int .i64 64, .int .i64 128, .int .i64 16, .int .i64 128, .int .i64 128, .int .i64 32, .int .i64 512, .int .i64 258, .int .i64 128, .int .i64 2048, .int .i64 258, .int .i64 258] 31)
  rw [World.size_alloc] at h
  have h9 : i = 0 ∨ i = 1 ∨ i = 2 ∨ i = 3 ∨ i = 4 ∨ i = 5 ∨ i = 6 ∨ i = 7 ∨ i = 8 ∨ i = 9 := by omega
  simp only [World.cell?, h]
  rcases h9 with rfl | rfl | rfl | rfl | rfl | rfl | rfl | rfl | rfl | rfl <;> exact ⟨rfl, rfl, rfl⟩

set_option maxRecDepth 1000000 in
set_option maxHeartbeats 2000000 in
theorem rlevel_any (i : Nat) (w : World) (hi : i ≤ 9) :
    Calls Tryd.prog 12 #[.int .i64 i] w fun e w' => e = .returned (.tuple #[.agg #[.int .i64 (lv i).d, .int .i64 (lv i).n, .int .i64 (lv i).z], .bool true]) ∧ Below w.heap.size w w' := by
  obtain ⟨c0, c1, c2⟩ := lv_row w i hi
  obtain ⟨d, hd⟩ : ∃ d : Int, ((lv i).d : Int) = d := ⟨_, rfl⟩
  obtain ⟨n, hn⟩ : ∃ d : Int, ((lv i).n : Int) = d := ⟨_, rfl⟩
  obtain ⟨z, hz⟩ : ∃ d : Int, ((lv i).z : Int) = d := ⟨_, rfl⟩
  rw [hd, hn, hz]
  rw [hd] at c0
  rw [hn] at c1
  rw [hz] at c2
  have d0 : decide ((i : Int) < 0) = false := decide_eq_false (by omega)
  have d9 : decide (9 < (i : Int)) = false := decide_eq_false (by omega)
  have d9' : decide (9 < i) = false := decide_eq_false (by omega)
  clear hd hn hz
  go_enter Tryd.func12, Tryd.ntmps12
  go_wp2_with fail
  clear c0 c1 c2
  generalize Obj.cells #[Value.int IntKind.i64 0, Value.int IntKind.i64 0, Value.int IntKind.i64 0, Value.int IntKind.i64 4, Value.int IntKind.i64 8, Value.int IntKind.i64 0, Value.int IntKind.i64 8, Value.int IntKind.i64 16, Value.int IntKind.i64 0, Value.int IntKind.i64 16, Value.int IntKind.i64 32, Value.int IntKind.i64 0, Value.int IntKind.i64 8, Value.int IntKind.i64 16, Value.int IntKind.i64 4, Value.int IntKind.i64 16, Value.int IntKind.i64 32, Value.int IntKind.i64 16, Value.int IntKind.i64 64, Value.int IntKind.i64 128, Value.int IntKind.i64 16, Value.int IntKind.i64 128, Value.int IntKind.i64 128, Value.int IntKind.i64 32, Value.int IntKind.i64 512, Value.int IntKind.i64 258, Value.int IntKind.i64 128, Value.int IntKind.i64 2048, Value.int IntKind.i64 258, Value.int IntKind.i64 258] 31 = O
  have hB : B3 ((w.alloc (.cells #[.int .i64 d, .int .i64 n, .int .i64 z] 31)).alloc O) 31 w.heap.size (.int .i64 d) (.int .i64 n) (.int .i64 z) := old_at _ (new_at _ _)
  have h0 := hB.at0
  have h1 := hB.at1
  have h2 := hB.at2
  refine bodyPost_ret (v := .tuple #[.agg #[.int .i64 d, .int .i64 n, .int .i64 z], .bool true]) ?_ rfl ⟨rfl, ((Below.refl _ _).alloc (Nat.le_refl _) _).alloc (by simp) _⟩
  simp [results, Tryd.f12, go_sem, h0, h1, h2]

set_option maxRecDepth 1000000 in
set_option maxHeartbeats 2000000 in
theorem rlevel_no (x : Int) (w : World) (hx : x < 0 ∨ 9 < x) :
    Calls Tryd.prog 12 #[.int .i64 x] w fun e w' => e = .returned (.tuple #[.agg #[.int .i64 0, .int .i64 0, .int .i64 0], .bool false]) ∧ Below w.heap.size w w' := by
  by_cases h0 : x < 0
  · have d0 : decide (x < 0) = true := decide_eq_true h0
    clear hx h0
    go_enter Tryd.func12, Tryd.ntmps12
    go_wp2_with fail
    generalize Obj.cells #[Value.int IntKind.i64 0, Value.int IntKind.i64 0, Value.int IntKind.i64 0, Value.int IntKind.i64 4, Value.int IntKind.i64 8, Value.int IntKind.i64 0, Value.int IntKind.i64 8, Value.int IntKind.i64 16, Value.int IntKind.i64 0, Value.int IntKind.i64 16, Value.int IntKind.i64 32, Value.int IntKind.i64 0, Value.int IntKind.i64 8, Value.int IntKind.i64 16, Value.int IntKind.i64 4, Value.int IntKind.i64 16, Value.int IntKind.i64 32, Value.int IntKind.i64 16, Value.int IntKind.i64 64, Value.int IntKind.i64 128, Value.int IntKind.i64 16, Value.int IntKind.i64 128, Value.int IntKind.i64 128, Value.int IntKind.i64 32, Value.int IntKind.i64 512, Value.int IntKind.i64 258, Value.int IntKind.i64 128, Value.int IntKind.i64 2048, Value.int IntKind.i64 258, Value.int IntKind.i64 258] 31 = O
    have hB : B3 ((w.alloc (.cells #[.int .i64 0, .int .i64 0, .int .i64 0] 31)).alloc O) 31 w.heap.size (.int .i64 0) (.int .i64 0) (.int .i64 0) := old_at _ (new_at _ _)
    have h0 := hB.at0
    have h1 := hB.at1
    have h2 := hB.at2
    refine bodyPost_ret (v := .tuple #[.agg #[.int .i64 0, .int .i64 0, .int .i64 0], .bool false]) ?_ rfl ⟨rfl, ((Below.refl _ _).alloc (Nat.le_refl _) _).alloc (by simp) _⟩
    simp [results, Tryd.f12, go_sem, h0, h1, h2]
  · have d0 : decide (x < 0) = false := decide_eq_false h0
    have d9 : decide (9 < x) = true := decide_eq_true (by omega)
    clear hx h0
    go_enter Tryd.func12, Tryd.ntmps12
    go_wp2_with fail
    generalize Obj.cells #[Value.int IntKind.i64 0, Value.int IntKind.i64 0, Value.int IntKind.i64 0, Value.int IntKind.i64 4, Value.int IntKind.i64 8, Value.int IntKind.i64 0, Value.int IntKind.i64 8, Value.int IntKind.i64 16, Value.int IntKind.i64 0, Value.int IntKind.i64 16, Value.int IntKind.i64 32, Value.int IntKind.i64 0, Value.int IntKind.i64 8, Value.int IntKind.i64 16, Value.int IntKind.i64 4, Value.int IntKind.i64 16, Value.int IntKind.i64 32, Value.int IntKind.i64 16, Value.int IntKind.i64 64, Value.int IntKind.i64 128, Value.int IntKind.i64 16, Value.int IntKind.i64 128, Value.int IntKind.i64 128, Value.int IntKind.i64 32, Value.int IntKind.i64 512, Value.int IntKind.i64 258, Value.int IntKind.i64 128, Value.int IntKind.i64 2048, Value.int IntKind.i64 258, Value.int IntKind.i64 258] 31 = O
    have hB : B3 ((w.alloc (.cells #[.int .i64 0, .int .i64 0, .int .i64 0] 31)).alloc O) 31 w.heap.size (.int .i64 0) (.int .i64 0) (.int .i64 0) := old_at _ (new_at _ _)
    have h0 := hB.at0
    have h1 := hB.at1
    have h2 := hB.at2
    refine bodyPost_ret (v := .tuple #[.agg #[.int .i64 0, .int .i64 0, .int .i64 0], .bool false]) ?_ rfl ⟨rfl, ((Below.refl _ _).alloc (Nat.le_refl _) _).alloc (by simp) _⟩
    simp [results, Tryd.f12, go_sem, h0, h1, h2]
end Go.Proofs.YthemndeljjampaaDoor.Q
