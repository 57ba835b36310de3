import Derived.Test.YtlanibgeafdefaaGreatDoorFrm
import Derived.Test.YtlanibgeafdefaaGreatDoorMMaR
import Derived.Test.YtlanibgeafdefaaGreatDoorChecked
import Derived.KernelRfl
import Derived.WalkKit
import Derived.Lib.Hide
import Derived.Outline
import Derived.Deep.RegionLaw
import Derived.RegionTactic
import Derived.BigRegion
import Derived.BigQuiet
import Derived.Deep.QuietTactic
import Derived.ChangeAlike
import Derived.Laws.Cells
import Derived.WalkSpells
import Derived.WalkMore
import Derived.IntWalk
namespace Go.Proofs.YtlanibgeafdefaaGreatDoor
open Go Go.RowKit M
set_option linter.unusedVariables false
set_option linter.unusedSimpArgs false
def LLs (w : World) (g : Nat) : Prop := w.heap[g]? = some (.cells #[.int .i64 3, .int .i64 4, .int .i64 5, .int .i64 6, .int .i64 7, .int .i64 8, .int .i64 9, .int .i64 10, .int .i64 11, .int .i64 13, .int .i64 15, .int .i64 17, .int .i64 19, .int .i64 23, .int .i64 27, .int .i64 31, .int .i64 35, .int .i64 43, .int .i64 51, .int .i64 59, .int .i64 67, .int .i64 83, .int .i64 99, .int .i64 115, .int .i64 131, .int .i64 163, .int .i64 195, .int .i64 227, .int .i64 258] 3 (0, 0))
def DLs (w : World) (g : Nat) : Prop := w.heap[g]? = some (.cells #[.int .i64 1, .int .i64 2, .int .i64 3, .int .i64 4, .int .i64 5, .int .i64 7, .int .i64 9, .int .i64 13, .int .i64 17, .int .i64 25, .int .i64 33, .int .i64 49, .int .i64 65, .int .i64 97, .int .i64 129, .int .i64 193, .int .i64 257, .int .i64 385, .int .i64 513, .int .i64 769, .int .i64 1025, .int .i64 1537, .int .i64 2049, .int .i64 3073, .int .i64 4097, .int .i64 6145, .int .i64 8193, .int .i64 12289, .int .i64 16385, .int .i64 24577] 3 (0, 0))
theorem LLs.cell {w : World} {g : Nat} (h : LLs w g) {i : Nat} (hi : i ≤ 28) : w.cell? ⟨g, i, none⟩ = some (.int .i64 (ll i : Nat)) := by
  have e : (#[.int .i64 3, .int .i64 4, .int .i64 5, .int .i64 6, .int .i64 7, .int .i64 8, .int .i64 9, .int .i64 10, .int .i64 11, .int .i64 13, .int .i64 15, .int .i64 17, .int .i64 19, .int .i64 23, .int .i64 27, .int .i64 31, .int .i64 35, .int .i64 43, .int .i64 51, .int .i64 59, .int .i64 67, .int .i64 83, .int .i64 99, .int .i64 115, .int .i64 131, .int .i64 163, .int .i64 195, .int .i64 227, .int .i64 258] : Array Value) = (lls.map fun x : Nat => Value.int .i64 (x : Int)).toArray := rfl
  have hl : lls.length = 29 := rfl
  unfold LLs at h
  rw [e] at h
  simp only [World.cell?, h]
  rw [List.getElem?_toArray, List.getElem?_map, List.getElem?_eq_getElem (by rw [hl]; omega)]
  unfold ll
  rw [List.getD, List.getElem?_eq_getElem (by rw [hl]; omega)]
  rfl
theorem DLs.cell {w : World} {g : Nat} (h : DLs w g) {i : Nat} (hi : i ≤ 29) : w.cell? ⟨g, i, none⟩ = some (.int .i64 (dl i : Nat)) := by
  have e : (#[.int .i64 1, .int .i64 2, .int .i64 3, .int .i64 4, .int .i64 5, .int .i64 7, .int .i64 9, .int .i64 13, .int .i64 17, .int .i64 25, .int .i64 33, .int .i64 49, .int .i64 65, .int .i64 97, .int .i64 129, .int .i64 193, .int .i64 257, .int .i64 385, .int .i64 513, .int .i64 769, .int .i64 1025, .int .i64 1537, .int .i64 2049, .int .i64 3073, .int .i64 4097, .int .i64 6145, .int .i64 8193, .int .i64 12289, .int .i64 16385, .int .i64 24577] : Array Value) = (dls.map fun x : Nat => Value.int .i64 (x : Int)).toArray := rfl
  have hl : dls.length = 30 := rfl
  unfold DLs at h
  rw [e] at h
  simp only [World.cell?, h]
  rw [List.getElem?_toArray, List.getElem?_map, List.getElem?_eq_getElem (by rw [hl]; omega)]
  unfold dl
  rw [List.getD, List.getElem?_eq_getElem (by rw [hl]; omega)]
  rfl
set_option maxRecDepth 1000000 in
theorem rlengths_any (w : World) : Calls Tryz.prog 83 #[] w fun e w' => e = .returned (.slice (some ⟨w.heap.size, 0, none⟩) 29 29) ∧ LLs w' w.heap.size ∧ Below w.heap.size w w' := by
  go_enter Tryz.func83, Tryz.ntmps83
  go_wp2
  go_ret
  exact ⟨rfl, heap_alloc_new _ _, (Below.refl _ _).alloc (Nat.le_refl _) _⟩
set_option maxRecDepth 1000000 in
theorem rdists_any (w : World) : Calls Tryz.prog 84 #[] w fun e w' => e = .returned (.slice (some ⟨w.heap.size, 0, none⟩) 30 30) ∧ DLs w' w.heap.size ∧ Below w.heap.size w w' := by
  go_enter Tryz.func84, Tryz.ntmps84
  go_wp2
  go_ret
  exact ⟨rfl, heap_alloc_new _ _, (Below.refl _ _).alloc (Nat.le_refl _) _⟩
theorem rlb_yes (i : Nat) (w : World) (hi : i ≤ 28) : Calls Tryz.prog 63 #[.int .i64 (257 + i : Int)] w fun e w' => e = .returned (.int .i64 (lb i : Nat)) ∧ w = w' := by
  obtain ⟨x, hx⟩ : ∃ x : Int, 257 + (i : Int) = x := ⟨_, rfl⟩
  rw [hx]
  have d1 : decide (x < 257) = false := decide_eq_false (by omega)
  have d2 : decide (285 < x) = false := decide_eq_false (by omega)
  by_cases h : i < 8
  · have hl : lb i = 0 := by unfold lb; rw [if_pos (.inl h)]
    rw [hl]
    have d3 : decide (x < 265) = true := decide_eq_true (by omega)
    clear hx hi h
    go_enter Tryz.func63, Tryz.ntmps63
    go_wp2
    go_ret
    exact ⟨rfl, rfl⟩
  have d3 : decide (x < 265) = false := decide_eq_false (by omega)
  by_cases h28 : i = 28
  · have hl : lb i = 0 := by unfold lb; rw [if_pos (.inr h28)]
    rw [hl]
    have d4 : (x == 285) = true := by rw [beq_iff_eq]; omega
    clear hx hi h h28
    go_enter Tryz.func63, Tryz.ntmps63
    go_wp2
    go_ret
    exact ⟨rfl, rfl⟩
  have d4 : (x == 285) = false := by rw [beq_eq_false_iff_ne]; omega
  have hl : lb i = (i - 4) / 4 := by unfold lb; rw [if_neg (by omega)]
  obtain ⟨b, hb⟩ : ∃ b, lb i = b := ⟨_, rfl⟩
  rw [hb] at hl ⊢
  have e1 : (x - 261) / 4 = (b : Int) := by omega
  have e2 : (x - 261).tdiv 4 = (b : Int) := by rw [Int.tdiv_eq_ediv_of_nonneg (by omega)]; exact e1
  have hx1 : 0 ≤ x := by omega
  have hx2 : x ≤ 285 := by omega
  clear hx hi h h28 hl hb
  go_enter Tryz.func63, Tryz.ntmps63
  go_wp2
  go_ret
  exact ⟨rfl, rfl⟩
theorem rdb_yes (i : Nat) (w : World) (hi : i ≤ 29) : Calls Tryz.prog 64 #[.int .i64 i] w fun e w' => e = .returned (.int .i64 (db i : Nat)) ∧ w = w' := by
  have d1 : decide ((i : Int) < 0) = false := decide_eq_false (by omega)
  have d2 : decide (29 < (i : Int)) = false := decide_eq_false (by omega)
  have d2' : decide (29 < i) = false := decide_eq_false (by omega)
  by_cases h : i < 4
  · have hl : db i = 0 := by unfold db; rw [if_pos h]
    rw [hl]
    have d3 : decide ((i : Int) < 4) = true := decide_eq_true (by omega)
    have d3' : decide (i < 4) = true := decide_eq_true h
    clear hi h
    go_enter Tryz.func64, Tryz.ntmps64
    go_wp2
    go_ret
    exact ⟨rfl, rfl⟩
  have d3 : decide ((i : Int) < 4) = false := decide_eq_false (by omega)
  have d3' : decide (i < 4) = false := decide_eq_false h
  have hl : db i = (i - 2) / 2 := by unfold db; rw [if_neg h]
  obtain ⟨b, hb⟩ : ∃ b, db i = b := ⟨_, rfl⟩
  rw [hb] at hl ⊢
  have e1 : ((i : Int) - 2) / 2 = (b : Int) := by omega
  have e2 : ((i : Int) - 2).tdiv 2 = (b : Int) := by rw [Int.tdiv_eq_ediv_of_nonneg (by omega)]; exact e1
  have hi2 : i ≤ 29 := hi
  clear hi h hl hb
  go_enter Tryz.func64, Tryz.ntmps64
  go_wp2
  go_ret
  exact ⟨rfl, rfl⟩
end Go.Proofs.YtlanibgeafdefaaGreatDoor
