/- By how many bits a symbol is told more; the number of a symbol and a number besides. Conditions: as each theorem names them. -/
import Derived.Test.YtobcgieblidjcaaDoorSyA
namespace Go.Proofs.YtobcgieblidjcaaDoor
open Go Go.RowKit M
set_option linter.unusedVariables false
set_option linter.unusedSimpArgs false

set_option maxRecDepth 1000000 in
theorem bitsOf_no (a c l m g : Nat) (x : Int) (W : World) (ha : a ≤ 257) (hc : c ≤ 32) (hx : x < a ∨ (a : Int) + c ≤ x) :
    Calls Tryd.prog 22 #[.agg #[.int .i64 a, .int .i64 c, .int .i64 l, .int .i64 m, .int .i64 g], .int .i64 x] W fun e w' => e = .returned (.tuple #[.int .i64 0, .bool false]) ∧ Below W.heap.size W w' := by
  have v1 : wrap64 ((a : Int) + c) = (a : Int) + c := IntWalk.wrap64_in _ ⟨by omega, by omega⟩
  by_cases h : x < a
  · have d0 : decide (x < (a : Int)) = true := decide_eq_true h
    clear hx h
    go_enter Tryd.func22, Tryd.ntmps22
    go_wp2_with fail
    exact bodyPost_ret (v := .tuple #[.int .i64 0, .bool false]) (by simp [results, Tryd.results22, go_sem]) rfl ⟨rfl, (Below.refl _ _).alloc (Nat.le_refl _) _⟩
  · have d0 : decide (x < (a : Int)) = false := decide_eq_false h
    have d1 : decide ((a : Int) + c ≤ x) = true := decide_eq_true (by omega)
    clear hx h
    go_enter Tryd.func22, Tryd.ntmps22
    go_wp2_with fail
    exact bodyPost_ret (v := .tuple #[.int .i64 0, .bool false]) (by simp [results, Tryd.results22, go_sem]) rfl ⟨rfl, (Below.refl _ _).alloc (Nat.le_refl _) _⟩

set_option maxRecDepth 1000000 in
theorem bitsOf_yes (a c l m g i : Nat) (x : Int) (W : World) (ha : a ≤ 257) (hc : c ≤ 32) (hg : g = 1 ∨ g = 2) (hi : i < c) (hx : x = a + i) :
    Calls Tryd.prog 22 #[.agg #[.int .i64 a, .int .i64 c, .int .i64 l, .int .i64 m, .int .i64 g], .int .i64 x] W fun e w' => e = .returned (.tuple #[.int .i64 (bt g i : Nat), .bool true]) ∧ Below W.heap.size W w' := by
  have hi32 : i < 32 := by omega
  have BA := Lib.hid (fun w => bitsAt_any a c l m g i w hg hi32)
  obtain ⟨z, hz⟩ : ∃ z, bt g i = z := ⟨_, rfl⟩
  rw [hz] at BA ⊢
  have v1 : wrap64 ((a : Int) + c) = (a : Int) + c := IntWalk.wrap64_in _ ⟨by omega, by omega⟩
  have d0 : decide (x < (a : Int)) = false := decide_eq_false (by omega)
  have d1 : decide ((a : Int) + c ≤ x) = false := decide_eq_false (by omega)
  have v2 : x - a = (i : Int) := by omega
  have v3 : wrap64 (i : Int) = (i : Int) := IntWalk.wrap64_in _ ⟨by omega, by omega⟩
  have hx1 : 0 ≤ x := by omega
  have hx2 : x ≤ 300 := by omega
  clear hz hx hg
  go_enter Tryd.func22, Tryd.ntmps22
  go_wp2_with (go_at_call 27; (with_reducible refine (BA.out _).mono ?_); rintro e w2 ⟨rfl, b2⟩; have B2 := Lib.hid (((Below.refl _ _).alloc (Nat.le_refl _) _).trans (b2.mono (by simp))); clear b2)
  exact bodyPost_ret (v := .tuple #[.int .i64 z, .bool true]) (by simp [results, Tryd.results22, go_sem]) rfl ⟨rfl, B2.out⟩

set_option maxRecDepth 1000000 in
theorem numberOf_no (a c l m g : Nat) (x e : Int) (W : World) (ha : a ≤ 257) (hc : c ≤ 32) (hx : x < a ∨ (a : Int) + c ≤ x) :
    Calls Tryd.prog 23 #[.agg #[.int .i64 a, .int .i64 c, .int .i64 l, .int .i64 m, .int .i64 g], .int .i64 x, .int .u32 e] W fun y w' => y = .returned (.tuple #[.int .i64 0, .bool false]) ∧ Below W.heap.size W w' := by
  have BO := Lib.hid (fun w => bitsOf_no a c l m g x w ha hc hx)
  clear hx
  go_enter Tryd.func23, Tryd.ntmps23
  go_wp2_with (go_at_call 22; (with_reducible refine (BO.out _).mono ?_); rintro y w2 ⟨rfl, b2⟩; have hb2 := (b2.block W.heap.size (by simp)).trans (heap_alloc_new W _); have k0 : w2.cell? ⟨W.heap.size, 0, none⟩ = some (.int .i64 a) := (by rw [cell_of_row w2 _ _ _ _ _ hb2]; rfl); have k1 : w2.cell? ⟨W.heap.size, 1, none⟩ = some (.int .i64 c) := (by rw [cell_of_row w2 _ _ _ _ _ hb2]; rfl); have k2 : w2.cell? ⟨W.heap.size, 2, none⟩ = some (.int .i64 l) := (by rw [cell_of_row w2 _ _ _ _ _ hb2]; rfl); have k3 : w2.cell? ⟨W.heap.size, 3, none⟩ = some (.int .i64 m) := (by rw [cell_of_row w2 _ _ _ _ _ hb2]; rfl); have k4 : w2.cell? ⟨W.heap.size, 4, none⟩ = some (.int .i64 g) := (by rw [cell_of_row w2 _ _ _ _ _ hb2]; rfl); have B2 := Lib.hid (((Below.refl _ _).alloc (Nat.le_refl _) _).trans (b2.mono (by simp))); clear b2 hb2)
  exact bodyPost_ret (v := .tuple #[.int .i64 0, .bool false]) (by simp [results, Tryd.results23, go_sem]) rfl ⟨rfl, B2.out⟩

set_option maxRecDepth 1000000 in
theorem numberOf_many (a c l m g i e : Nat) (x : Int) (W : World) (ha : a ≤ 257) (hc : c ≤ 32) (hg : g = 1 ∨ g = 2) (hi : i < c) (hx : x = a + i) (he : ¬ e < 2 ^ bt g i) :
    Calls Tryd.prog 23 #[.agg #[.int .i64 a, .int .i64 c, .int .i64 l, .int .i64 m, .int .i64 g], .int .i64 x, .int .u32 e] W fun y w' => y = .returned (.tuple #[.int .i64 0, .bool false]) ∧ Below W.heap.size W w' := by
  have BO := Lib.hid (fun w => bitsOf_yes a c l m g i x w ha hc hg hi hx)
  have hz15 := bt_le hg (show i < 32 by omega)
  have hs := shr_some he
  obtain ⟨z, hz⟩ : ∃ z, bt g i = z := ⟨_, rfl⟩
  rw [hz] at BO hz15 hs
  have d0 : decide ((z : Int) < 0) = false := decide_eq_false (by omega)
  have d1 : ((z : Int) < 64) := by omega
  clear hx hz he
  go_enter Tryd.func23, Tryd.ntmps23
  go_wp2_with (go_at_call 22; (with_reducible refine (BO.out _).mono ?_); rintro y w2 ⟨rfl, b2⟩; have hb2 := (b2.block W.heap.size (by simp)).trans (heap_alloc_new W _); have k0 : w2.cell? ⟨W.heap.size, 0, none⟩ = some (.int .i64 a) := (by rw [cell_of_row w2 _ _ _ _ _ hb2]; rfl); have k1 : w2.cell? ⟨W.heap.size, 1, none⟩ = some (.int .i64 c) := (by rw [cell_of_row w2 _ _ _ _ _ hb2]; rfl); have k2 : w2.cell? ⟨W.heap.size, 2, none⟩ = some (.int .i64 l) := (by rw [cell_of_row w2 _ _ _ _ _ hb2]; rfl); have k3 : w2.cell? ⟨W.heap.size, 3, none⟩ = some (.int .i64 m) := (by rw [cell_of_row w2 _ _ _ _ _ hb2]; rfl); have k4 : w2.cell? ⟨W.heap.size, 4, none⟩ = some (.int .i64 g) := (by rw [cell_of_row w2 _ _ _ _ _ hb2]; rfl); have B2 := Lib.hid (((Below.refl _ _).alloc (Nat.le_refl _) _).trans (b2.mono (by simp))); clear b2 hb2)
  exact bodyPost_ret (v := .tuple #[.int .i64 0, .bool false]) (by simp [results, Tryd.results23, go_sem]) rfl ⟨rfl, B2.out⟩

set_option maxRecDepth 1000000 in
theorem numberOf_yes (a c l m g i e : Nat) (x : Int) (W : World) (ha : a ≤ 257) (hc : c ≤ 32) (hl : l ≤ 3) (hg : g = 1 ∨ g = 2) (hm : m ≤ 32768) (hi : i < c) (hx : x = a + i) (he : e < 2 ^ bt g i) (hu : lt l g i ≤ 32768) :
    Calls Tryd.prog 23 #[.agg #[.int .i64 a, .int .i64 c, .int .i64 l, .int .i64 m, .int .i64 g], .int .i64 x, .int .u32 e] W fun y w' => y = .returned (.tuple #[.int .i64 (if lt l g i + e ≤ m then lt l g i + e else 0 : Nat), .bool (decide (lt l g i + e ≤ m))]) ∧ Below W.heap.size W w' := by
  have hi32 : i < 32 := by omega
  have hz15 := bt_le hg hi32
  have he2 : e < 32768 := Nat.lt_of_lt_of_le he (Nat.le_trans (Nat.pow_le_pow_right (by decide) hz15) (by decide))
  have BO := Lib.hid (fun w => bitsOf_yes a c l m g i x w ha hc hg hi hx)
  have LA := Lib.hid (fun w => leastAt_any a c l m g i w hl hg hi32)
  have hs := shr_zero he
  clear he
  obtain ⟨z, hz⟩ : ∃ z, bt g i = z := ⟨_, rfl⟩
  obtain ⟨u, hue⟩ : ∃ u, lt l g i = u := ⟨_, rfl⟩
  rw [hz] at BO hz15 hs
  have HSS := Lib.hid hs
  clear hs
  rw [hue] at LA hu ⊢
  have d0 : decide ((z : Int) < 0) = false := decide_eq_false (by omega)
  have d1 : ((z : Int) < 64) := by omega
  have v2 : x - a = (i : Int) := by omega
  have hx1 : 0 ≤ x := by omega
  have hx2 : x ≤ 300 := by omega
  have V4 := Lib.hid (show wrap64 ((u : Int) + e) = ((u + e : Nat) : Int) from by rw [Int.natCast_add]; exact IntWalk.wrap64_in _ ⟨by omega, by omega⟩)
  have V3 := Lib.hid (show wrap64 (i : Int) = (i : Int) from IntWalk.wrap64_in _ ⟨by omega, by omega⟩)
  clear hx hz hue hg
  by_cases h : u + e ≤ m
  · have e1 : decide (u + e ≤ m) = true := decide_eq_true h
    have e2 : decide ((m : Int) < ((u + e : Nat) : Int)) = false := decide_eq_false (by omega)
    have e3 : decide ((m : Int) < (u : Int) + (e : Int)) = false := decide_eq_false (by omega)
    have e4 : decide (m < u + e) = false := decide_eq_false (by omega)
    rw [if_pos h, e1]
    clear h
    have hs := HSS.out
    go_enter Tryd.func23, Tryd.ntmps23
    go_wp2_with (first | (go_at_call 22; (with_reducible refine (BO.out _).mono ?_); rintro y w2 ⟨rfl, b2⟩; have hb2 := (b2.block W.heap.size (by simp)).trans (heap_alloc_new W _); have k0 : w2.cell? ⟨W.heap.size, 0, none⟩ = some (.int .i64 a) := (by rw [cell_of_row w2 _ _ _ _ _ hb2]; rfl); have k1 : w2.cell? ⟨W.heap.size, 1, none⟩ = some (.int .i64 c) := (by rw [cell_of_row w2 _ _ _ _ _ hb2]; rfl); have k2 : w2.cell? ⟨W.heap.size, 2, none⟩ = some (.int .i64 l) := (by rw [cell_of_row w2 _ _ _ _ _ hb2]; rfl); have k3 : w2.cell? ⟨W.heap.size, 3, none⟩ = some (.int .i64 m) := (by rw [cell_of_row w2 _ _ _ _ _ hb2]; rfl); have k4 : w2.cell? ⟨W.heap.size, 4, none⟩ = some (.int .i64 g) := (by rw [cell_of_row w2 _ _ _ _ _ hb2]; rfl); have B2 := Lib.hid (((Below.refl _ _).alloc (Nat.le_refl _) _).trans (b2.mono (by simp))); clear b2 hb2) | (go_at_call 25; (with_reducible refine (LA.out _).mono ?_); rintro y w3 ⟨rfl, b3⟩; have j3 := (b3.cell (World.block_lt_of_cell? _ _ k3)).trans k3; have B3 := Lib.hid (B2.out.trans (b3.mono B2.out.size)); clear b3))
    exact bodyPost_ret (v := .tuple #[.int .i64 ((u + e : Nat) : Int), .bool true]) (by simp [results, Tryd.results23, go_sem]) rfl ⟨rfl, B3.out⟩
  · have e1 : decide (u + e ≤ m) = false := decide_eq_false h
    have e2 : decide ((m : Int) < ((u + e : Nat) : Int)) = true := decide_eq_true (by omega)
    have e3 : decide ((m : Int) < (u : Int) + (e : Int)) = true := decide_eq_true (by omega)
    have e4 : decide (m < u + e) = true := decide_eq_true (by omega)
    rw [if_neg h, e1]
    clear h
    have hs := HSS.out
    go_enter Tryd.func23, Tryd.ntmps23
    go_wp2_with (first | (go_at_call 22; (with_reducible refine (BO.out _).mono ?_); rintro y w2 ⟨rfl, b2⟩; have hb2 := (b2.block W.heap.size (by simp)).trans (heap_alloc_new W _); have k0 : w2.cell? ⟨W.heap.size, 0, none⟩ = some (.int .i64 a) := (by rw [cell_of_row w2 _ _ _ _ _ hb2]; rfl); have k1 : w2.cell? ⟨W.heap.size, 1, none⟩ = some (.int .i64 c) := (by rw [cell_of_row w2 _ _ _ _ _ hb2]; rfl); have k2 : w2.cell? ⟨W.heap.size, 2, none⟩ = some (.int .i64 l) := (by rw [cell_of_row w2 _ _ _ _ _ hb2]; rfl); have k3 : w2.cell? ⟨W.heap.size, 3, none⟩ = some (.int .i64 m) := (by rw [cell_of_row w2 _ _ _ _ _ hb2]; rfl); have k4 : w2.cell? ⟨W.heap.size, 4, none⟩ = some (.int .i64 g) := (by rw [cell_of_row w2 _ _ _ _ _ hb2]; rfl); have B2 := Lib.hid (((Below.refl _ _).alloc (Nat.le_refl _) _).trans (b2.mono (by simp))); clear b2 hb2) | (go_at_call 25; (with_reducible refine (LA.out _).mono ?_); rintro y w3 ⟨rfl, b3⟩; have j3 := (b3.cell (World.block_lt_of_cell? _ _ k3)).trans k3; have B3 := Lib.hid (B2.out.trans (b3.mono B2.out.size)); clear b3))
    exact bodyPost_ret (v := .tuple #[.int .i64 0, .bool false]) (by simp [results, Tryd.results23, go_sem]) rfl ⟨rfl, B3.out⟩
end Go.Proofs.YtobcgieblidjcaaDoor
