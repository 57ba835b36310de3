/- Texts of one place, one behind the other: RsC, YsA, YsC. -/
import Derived.Test.YtolcaknhjjejeaaDoorCFrm
import Derived.Test.YtolcaknhjjejeaaDoorCMMaR
import Derived.Test.YtolcaknhjjejeaaDoorChecked
import Derived.KernelRfl
import Derived.WalkKit
import Derived.Lib.Hide
import Derived.Outline
import Derived.Deep.RegionLaw
import Derived.RegionTactic
import Derived.BigRegion
import Derived.BigQuiet
import Derived.Deep.QuietTactic
import Derived.ChangeAlike
import Derived.Laws.Cells
import Derived.WalkSpells
import Derived.WalkMore
import Derived.IntWalk
import Derived.Test.YtolcaknhjjejeaaDoorCLay
namespace Go.Proofs.YtolcaknhjjejeaaDoor
open Go Go.RowKit M
set_option linter.unusedVariables false
set_option linter.unusedSimpArgs false
theorem shr_zero {e b : Nat} (h : e < 2 ^ b) : (e : Int) / 2 ^ b = 0 := by
  have e1 : ((2 : Int) ^ b) = ((2 ^ b : Nat) : Int) := by rw [Int.natCast_pow]; rfl
  rw [e1, ← Int.natCast_ediv, Nat.div_eq_of_lt h]; rfl
theorem shr_some {e b : Nat} (h : ¬ e < 2 ^ b) : (((e : Int) / 2 ^ b) != 0) = true := by
  have e1 : ((2 : Int) ^ b) = ((2 ^ b : Nat) : Int) := by rw [Int.natCast_pow]; rfl
  rw [e1, ← Int.natCast_ediv]
  have h1 : 0 < e / 2 ^ b := Nat.div_pos (by omega) (Nat.two_pow_pos b)
  rw [bne_iff_ne]; omega
end Go.Proofs.YtolcaknhjjejeaaDoor

namespace Go.Proofs.YtolcaknhjjejeaaDoor.Y
open Go Go.RowKit M
set_option linter.unusedVariables false
set_option maxRecDepth 1000000
set_option linter.unusedSimpArgs false
def bt (g p : Nat) : Nat := p / 2 ^ g - 1
def lt (l g p : Nat) : Nat := l + (p - bt g p * 2 ^ g) * 2 ^ bt g p
theorem pow_g {g : Nat} (h : g = 1 ∨ g = 2) : (2 : Int) ^ g = ((2 ^ g : Nat) : Int) := by rw [Int.natCast_pow]; rfl
theorem bt_le {g p : Nat} (hg : g = 1 ∨ g = 2) (hp : p < 32) : bt g p ≤ 15 := by
  rcases hg with rfl | rfl <;> (unfold bt; omega)
theorem bt_mul {g p : Nat} (hg : g = 1 ∨ g = 2) (hp : p < 32) : bt g p * 2 ^ g ≤ p := by
  rcases hg with rfl | rfl <;> (unfold bt; omega)
set_option maxRecDepth 1000000 in
theorem bitsAt_any (a c l m g p : Nat) (w : World) (hg : g = 1 ∨ g = 2) (hp : p < 32) : Calls Tryd.prog 66 #[.agg #[.int .i64 a, .int .i64 c, .int .i64 l, .int .i64 m, .int .i64 g], .int .i64 p] w fun e w' => e = .returned (.int .i64 (bt g p : Nat)) ∧ Below w.heap.size w w' := by
  have d0 : decide ((g : Int) < 0) = false := decide_eq_false (by omega)
  have d1 : ((g : Int) < 64) := by omega
  obtain ⟨q, hq⟩ : ∃ q, p / 2 ^ g = q := ⟨_, rfl⟩
  have hb : bt g p = q - 1 := by unfold bt; rw [hq]
  have h1 : (p : Int) / 2 ^ g = (q : Int) := by rw [pow_g hg, ← Int.natCast_ediv, hq]
  have h2 : q ≤ 32 := by rw [← hq]; exact Nat.le_trans (Nat.div_le_self _ _) (by omega)
  have h3 : wrap64 ((q : Int) - 1) = (q : Int) - 1 := by exact IntWalk.wrap64_in _ ⟨by omega, by omega⟩
  rw [hb]
  clear hb hq
  go_enter Tryd.func66, Tryd.ntmps66
  go_wp2_with fail
  · go_ret
    exact ⟨by simp; omega, (Below.refl _ _).alloc (Nat.le_refl _) _⟩
  · go_ret
    exact ⟨by simp; omega, (Below.refl _ _).alloc (Nat.le_refl _) _⟩
set_option maxRecDepth 1000000 in
theorem leastAt_any (a c l m g p : Nat) (w : World) (hl : l ≤ 3) (hg : g = 1 ∨ g = 2) (hp : p < 32) : Calls Tryd.prog 67 #[.agg #[.int .i64 a, .int .i64 c, .int .i64 l, .int .i64 m, .int .i64 g], .int .i64 p] w fun e w' => e = .returned (.int .i64 (lt l g p : Nat)) ∧ Below w.heap.size w w' := by
  have d0 : decide ((g : Int) < 0) = false := decide_eq_false (by omega)
  have d1 : ((g : Int) < 64) := by omega
  have HB := Lib.hid (fun w => bitsAt_any a c l m g p w hg hp)
  have hb := bt_le hg hp
  have hm := bt_mul hg hp
  obtain ⟨b, hbe⟩ : ∃ b, bt g p = b := ⟨_, rfl⟩
  have hv : lt l g p = l + (p - b * 2 ^ g) * 2 ^ b := by unfold lt; rw [hbe]
  rw [hv]
  rw [hbe] at HB hb hm
  obtain ⟨k, hk⟩ : ∃ k, b * 2 ^ g = k := ⟨_, rfl⟩
  rw [hk] at hm ⊢
  have h1 : wrap64 ((b : Int) * 2 ^ g) = (k : Int) := by rw [pow_g hg, ← Int.natCast_mul, hk]; exact IntWalk.wrap64_in _ ⟨by omega, by omega⟩
  have h2 : wrap64 ((p : Int) - k) = ((p - k : Nat) : Int) := by rw [Int.ofNat_sub hm]; exact IntWalk.wrap64_in _ ⟨by omega, by omega⟩
  have e2 : (2 : Int) ^ b = ((2 ^ b : Nat) : Int) := by rw [Int.natCast_pow]; rfl
  have hp2 : 2 ^ b ≤ 32768 := Nat.le_trans (Nat.pow_le_pow_right (by decide) hb) (by decide)
  have hp3 : p - k ≤ 31 := by omega
  have hlt : (p - k) * 2 ^ b ≤ 31 * 32768 := Nat.mul_le_mul hp3 hp2
  obtain ⟨z, hz⟩ : ∃ z, (p - k) * 2 ^ b = z := ⟨_, rfl⟩
  rw [hz] at hlt ⊢
  have h3 : wrap64 (((p - k : Nat) : Int) * 2 ^ b) = (z : Int) := by rw [e2, ← Int.natCast_mul, hz]; exact IntWalk.wrap64_in _ ⟨by omega, by omega⟩
  have h4 : wrap64 ((l : Int) + z) = ((l + z : Nat) : Int) := by clear h1 h2 h3 e2 hz; rw [Int.natCast_add]; exact IntWalk.wrap64_in _ ⟨by omega, by omega⟩
  have h5 : wrap64 ((l : Int) + wrap64 (wrap64 ((p : Int) - wrap64 ((b : Int) * 2 ^ g)) * 2 ^ b)) = ((l + z : Nat) : Int) := by rw [h1, h2, h3, h4]
  have HH := Lib.hid h5
  have d2 : decide ((b : Int) < 0) = false := decide_eq_false (by omega)
  have d3 : ((b : Int) < 64) := by omega
  clear hv hbe hm hk h1 h2 e2 hlt hz h3 h4 h5 hp2 hp3
  go_enter Tryd.func67, Tryd.ntmps67
  go_wp2_with (go_at_call 66; (with_reducible refine (HB.out _).mono ?_); rintro e w1 ⟨rfl, b1⟩; have hb0 := (b1.block w.heap.size (by simp)).trans (heap_alloc_new w _); have k2 : w1.cell? ⟨w.heap.size, 2, none⟩ = some (.int .i64 l) := (by rw [cell_of_row w1 _ _ _ _ _ hb0]; rfl); have k4 : w1.cell? ⟨w.heap.size, 4, none⟩ = some (.int .i64 g) := (by rw [cell_of_row w1 _ _ _ _ _ hb0]; rfl); have B1 := Lib.hid b1; clear b1 hb0)
  go_quiet (fail)
  go_wp2_with fail
  go_ret
  exact ⟨by rw [← HH.out]; rfl, below_drewN (((Below.refl _ _).alloc (Nat.le_refl _) _).trans (B1.out.mono (by simp))) _⟩
section
variable {w w' : World} {br bn a c l m g n : Nat}
end
end Go.Proofs.YtolcaknhjjejeaaDoor.Y

namespace Go.Proofs.YtolcaknhjjejeaaDoor.Y
open Go Go.RowKit M
set_option linter.unusedVariables false
set_option linter.unusedSimpArgs false
set_option maxRecDepth 1000000 in
theorem bitsOf_no (a c l m g : Nat) (x : Int) (W : World) (ha : a ≤ 257) (hc : c ≤ 32) (hx : x < a ∨ (a : Int) + c ≤ x) :
    Calls Tryd.prog 50 #[.agg #[.int .i64 a, .int .i64 c, .int .i64 l, .int .i64 m, .int .i64 g], .int .i64 x] W fun e w' => e = .returned (.tuple #[.int .i64 0, .bool false]) ∧ Below W.heap.size W w' := by
  have v1 : wrap64 ((a : Int) + c) = (a : Int) + c := IntWalk.wrap64_in _ ⟨by omega, by omega⟩
  by_cases h : x < a
  · have d0 : decide (x < (a : Int)) = true := decide_eq_true h
    clear hx h
    go_enter Tryd.func50, Tryd.ntmps50
    go_wp2_with fail
    exact bodyPost_ret (v := .tuple #[.int .i64 0, .bool false]) (by simp [results, Tryd.results50, go_sem]) rfl ⟨rfl, (Below.refl _ _).alloc (Nat.le_refl _) _⟩
  · have d0 : decide (x < (a : Int)) = false := decide_eq_false h
    have d1 : decide ((a : Int) + c ≤ x) = true := decide_eq_true (by omega)
    clear hx h
    go_enter Tryd.func50, Tryd.ntmps50
    go_wp2_with fail
    exact bodyPost_ret (v := .tuple #[.int .i64 0, .bool false]) (by simp [results, Tryd.results50, go_sem]) rfl ⟨rfl, (Below.refl _ _).alloc (Nat.le_refl _) _⟩
set_option maxRecDepth 1000000 in
theorem bitsOf_yes (a c l m g i : Nat) (x : Int) (W : World) (ha : a ≤ 257) (hc : c ≤ 32) (hg : g = 1 ∨ g = 2) (hi : i < c) (hx : x = a + i) :
    Calls Tryd.prog 50 #[.agg #[.int .i64 a, .int .i64 c, .int .i64 l, .int .i64 m, .int .i64 g], .int .i64 x] W fun e w' => e = .returned (.tuple #[.int .i64 (bt g i : Nat), .bool true]) ∧ Below W.heap.size W w' := by
  have hi32 : i < 32 := by omega
  have BA := Lib.hid (fun w => bitsAt_any a c l m g i w hg hi32)
  obtain ⟨z, hz⟩ : ∃ z, bt g i = z := ⟨_, rfl⟩
  rw [hz] at BA ⊢
  have v1 : wrap64 ((a : Int) + c) = (a : Int) + c := IntWalk.wrap64_in _ ⟨by omega, by omega⟩
  have d0 : decide (x < (a : Int)) = false := decide_eq_false (by omega)
  have d1 : decide ((a : Int) + c ≤ x) = false := decide_eq_false (by omega)
  have v2 : x - a = (i : Int) := by omega
  have v3 : wrap64 (i : Int) = (i : Int) := IntWalk.wrap64_in _ ⟨by omega, by omega⟩
  have hx1 : 0 ≤ x := by omega
  have hx2 : x ≤ 300 := by omega
  clear hz hx hg
  go_enter Tryd.func50, Tryd.ntmps50
  go_wp2_with (go_at_call 66; (with_reducible refine (BA.out _).mono ?_); rintro e w2 ⟨rfl, b2⟩; have B2 := Lib.hid (((Below.refl _ _).alloc (Nat.le_refl _) _).trans (b2.mono (by simp))); clear b2)
  exact bodyPost_ret (v := .tuple #[.int .i64 z, .bool true]) (by simp [results, Tryd.results50, go_sem]) rfl ⟨rfl, B2.out⟩
set_option maxRecDepth 1000000 in
theorem numberOf_no (a c l m g : Nat) (x e : Int) (W : World) (ha : a ≤ 257) (hc : c ≤ 32) (hx : x < a ∨ (a : Int) + c ≤ x) :
    Calls Tryd.prog 51 #[.agg #[.int .i64 a, .int .i64 c, .int .i64 l, .int .i64 m, .int .i64 g], .int .i64 x, .int .u32 e] W fun y w' => y = .returned (.tuple #[.int .i64 0, .bool false]) ∧ Below W.heap.size W w' := by
  have BO := Lib.hid (fun w => bitsOf_no a c l m g x w ha hc hx)
  clear hx
  go_enter Tryd.func51, Tryd.ntmps51
  go_wp2_with (go_at_call 50; (with_reducible refine (BO.out _).mono ?_); rintro y w2 ⟨rfl, b2⟩; have hb2 := (b2.block W.heap.size (by simp)).trans (heap_alloc_new W _); have k0 : w2.cell? ⟨W.heap.size, 0, none⟩ = some (.int .i64 a) := (by rw [cell_of_row w2 _ _ _ _ _ hb2]; rfl); have k1 : w2.cell? ⟨W.heap.size, 1, none⟩ = some (.int .i64 c) := (by rw [cell_of_row w2 _ _ _ _ _ hb2]; rfl); have k2 : w2.cell? ⟨W.heap.size, 2, none⟩ = some (.int .i64 l) := (by rw [cell_of_row w2 _ _ _ _ _ hb2]; rfl); have k3 : w2.cell? ⟨W.heap.size, 3, none⟩ = some (.int .i64 m) := (by rw [cell_of_row w2 _ _ _ _ _ hb2]; rfl); have k4 : w2.cell? ⟨W.heap.size, 4, none⟩ = some (.int .i64 g) := (by rw [cell_of_row w2 _ _ _ _ _ hb2]; rfl); have B2 := Lib.hid (((Below.refl _ _).alloc (Nat.le_refl _) _).trans (b2.mono (by simp))); clear b2 hb2)
  exact bodyPost_ret (v := .tuple #[.int .i64 0, .bool false]) (by simp [results, Tryd.results51, go_sem]) rfl ⟨rfl, B2.out⟩
set_option maxRecDepth 1000000 in
theorem numberOf_many (a c l m g i e : Nat) (x : Int) (W : World) (ha : a ≤ 257) (hc : c ≤ 32) (hg : g = 1 ∨ g = 2) (hi : i < c) (hx : x = a + i) (he : ¬ e < 2 ^ bt g i) :
    Calls Tryd.prog 51 #[.agg #[.int .i64 a, .int .i64 c, .int .i64 l, .int .i64 m, .int .i64 g], .int .i64 x, .int .u32 e] W fun y w' => y = .returned (.tuple #[.int .i64 0, .bool false]) ∧ Below W.heap.size W w' := by
  have BO := Lib.hid (fun w => bitsOf_yes a c l m g i x w ha hc hg hi hx)
  have hz15 := bt_le hg (show i < 32 by omega)
  have hs := shr_some he
  obtain ⟨z, hz⟩ : ∃ z, bt g i = z := ⟨_, rfl⟩
  rw [hz] at BO hz15 hs
  have d0 : decide ((z : Int) < 0) = false := decide_eq_false (by omega)
  have d1 : ((z : Int) < 64) := by omega
  clear hx hz he
  go_enter Tryd.func51, Tryd.ntmps51
  go_wp2_with (go_at_call 50; (with_reducible refine (BO.out _).mono ?_); rintro y w2 ⟨rfl, b2⟩; have hb2 := (b2.block W.heap.size (by simp)).trans (heap_alloc_new W _); have k0 : w2.cell? ⟨W.heap.size, 0, none⟩ = some (.int .i64 a) := (by rw [cell_of_row w2 _ _ _ _ _ hb2]; rfl); have k1 : w2.cell? ⟨W.heap.size, 1, none⟩ = some (.int .i64 c) := (by rw [cell_of_row w2 _ _ _ _ _ hb2]; rfl); have k2 : w2.cell? ⟨W.heap.size, 2, none⟩ = some (.int .i64 l) := (by rw [cell_of_row w2 _ _ _ _ _ hb2]; rfl); have k3 : w2.cell? ⟨W.heap.size, 3, none⟩ = some (.int .i64 m) := (by rw [cell_of_row w2 _ _ _ _ _ hb2]; rfl); have k4 : w2.cell? ⟨W.heap.size, 4, none⟩ = some (.int .i64 g) := (by rw [cell_of_row w2 _ _ _ _ _ hb2]; rfl); have B2 := Lib.hid (((Below.refl _ _).alloc (Nat.le_refl _) _).trans (b2.mono (by simp))); clear b2 hb2)
  exact bodyPost_ret (v := .tuple #[.int .i64 0, .bool false]) (by simp [results, Tryd.results51, go_sem]) rfl ⟨rfl, B2.out⟩
set_option maxRecDepth 1000000 in
theorem numberOf_yes (a c l m g i e : Nat) (x : Int) (W : World) (ha : a ≤ 257) (hc : c ≤ 32) (hl : l ≤ 3) (hg : g = 1 ∨ g = 2) (hm : m ≤ 32768) (hi : i < c) (hx : x = a + i) (he : e < 2 ^ bt g i) (hu : lt l g i ≤ 32768) :
    Calls Tryd.prog 51 #[.agg #[.int .i64 a, .int .i64 c, .int .i64 l, .int .i64 m, .int .i64 g], .int .i64 x, .int .u32 e] W fun y w' => y = .returned (.tuple #[.int .i64 (if lt l g i + e ≤ m then lt l g i + e else 0 : Nat), .bool (decide (lt l g i + e ≤ m))]) ∧ Below W.heap.size W w' := by
  have hi32 : i < 32 := by omega
  have hz15 := bt_le hg hi32
  have he2 : e < 32768 := Nat.lt_of_lt_of_le he (Nat.le_trans (Nat.pow_le_pow_right (by decide) hz15) (by decide))
  have BO := Lib.hid (fun w => bitsOf_yes a c l m g i x w ha hc hg hi hx)
  have LA := Lib.hid (fun w => leastAt_any a c l m g i w hl hg hi32)
  have hs := shr_zero he
  clear he
  obtain ⟨z, hz⟩ : ∃ z, bt g i = z := ⟨_, rfl⟩
  obtain ⟨u, hue⟩ : ∃ u, lt l g i = u := ⟨_, rfl⟩
  rw [hz] at BO hz15 hs
  have HSS := Lib.hid hs
  clear hs
  rw [hue] at LA hu ⊢
  have d0 : decide ((z : Int) < 0) = false := decide_eq_false (by omega)
  have d1 : ((z : Int) < 64) := by omega
  have v2 : x - a = (i : Int) := by omega
  have hx1 : 0 ≤ x := by omega
  have hx2 : x ≤ 300 := by omega
  have V4 := Lib.hid (show wrap64 ((u : Int) + e) = ((u + e : Nat) : Int) from by rw [Int.natCast_add]; exact IntWalk.wrap64_in _ ⟨by omega, by omega⟩)
  have V3 := Lib.hid (show wrap64 (i : Int) = (i : Int) from IntWalk.wrap64_in _ ⟨by omega, by omega⟩)
  clear hx hz hue hg
  by_cases h : u + e ≤ m
  · have e1 : decide (u + e ≤ m) = true := decide_eq_true h
    have e2 : decide ((m : Int) < ((u + e : Nat) : Int)) = false := decide_eq_false (by omega)
    have e3 : decide ((m : Int) < (u : Int) + (e : Int)) = false := decide_eq_false (by omega)
    have e4 : decide (m < u + e) = false := decide_eq_false (by omega)
    rw [if_pos h, e1]
    clear h
    have hs := HSS.out
    go_enter Tryd.func51, Tryd.ntmps51
    go_wp2_with (first | (go_at_call 50; (with_reducible refine (BO.out _).mono ?_); rintro y w2 ⟨rfl, b2⟩; have hb2 := (b2.block W.heap.size (by simp)).trans (heap_alloc_new W _); have k0 : w2.cell? ⟨W.heap.size, 0, none⟩ = some (.int .i64 a) := (by rw [cell_of_row w2 _ _ _ _ _ hb2]; rfl); have k1 : w2.cell? ⟨W.heap.size, 1, none⟩ = some (.int .i64 c) := (by rw [cell_of_row w2 _ _ _ _ _ hb2]; rfl); have k2 : w2.cell? ⟨W.heap.size, 2, none⟩ = some (.int .i64 l) := (by rw [cell_of_row w2 _ _ _ _ _ hb2]; rfl); have k3 : w2.cell? ⟨W.heap.size, 3, none⟩ = some (.int .i64 m) := (by rw [cell_of_row w2 _ _ _ _ _ hb2]; rfl); have k4 : w2.cell? ⟨W.heap.size, 4, none⟩ = some (.int .i64 g) := (by rw [cell_of_row w2 _ _ _ _ _ hb2]; rfl); have B2 := Lib.hid (((Below.refl _ _).alloc (Nat.le_refl _) _).trans (b2.mono (by simp))); clear b2 hb2) | (go_at_call 67; (with_reducible refine (LA.out _).mono ?_); rintro y w3 ⟨rfl, b3⟩; have j3 := (b3.cell (World.block_lt_of_cell? _ _ k3)).trans k3; have B3 := Lib.hid (B2.out.trans (b3.mono B2.out.size)); clear b3))
    exact bodyPost_ret (v := .tuple #[.int .i64 ((u + e : Nat) : Int), .bool true]) (by simp [results, Tryd.results51, go_sem]) rfl ⟨rfl, B3.out⟩
  · have e1 : decide (u + e ≤ m) = false := decide_eq_false h
    have e2 : decide ((m : Int) < ((u + e : Nat) : Int)) = true := decide_eq_true (by omega)
    have e3 : decide ((m : Int) < (u : Int) + (e : Int)) = true := decide_eq_true (by omega)
    have e4 : decide (m < u + e) = true := decide_eq_true (by omega)
    rw [if_neg h, e1]
    clear h
    have hs := HSS.out
    go_enter Tryd.func51, Tryd.ntmps51
    go_wp2_with (first | (go_at_call 50; (with_reducible refine (BO.out _).mono ?_); rintro y w2 ⟨rfl, b2⟩; have hb2 := (b2.block W.heap.size (by simp)).trans (heap_alloc_new W _); have k0 : w2.cell? ⟨W.heap.size, 0, none⟩ = some (.int .i64 a) := (by rw [cell_of_row w2 _ _ _ _ _ hb2]; rfl); have k1 : w2.cell? ⟨W.heap.size, 1, none⟩ = some (.int .i64 c) := (by rw [cell_of_row w2 _ _ _ _ _ hb2]; rfl); have k2 : w2.cell? ⟨W.heap.size, 2, none⟩ = some (.int .i64 l) := (by rw [cell_of_row w2 _ _ _ _ _ hb2]; rfl); have k3 : w2.cell? ⟨W.heap.size, 3, none⟩ = some (.int .i64 m) := (by rw [cell_of_row w2 _ _ _ _ _ hb2]; rfl); have k4 : w2.cell? ⟨W.heap.size, 4, none⟩ = some (.int .i64 g) := (by rw [cell_of_row w2 _ _ _ _ _ hb2]; rfl); have B2 := Lib.hid (((Below.refl _ _).alloc (Nat.le_refl _) _).trans (b2.mono (by simp))); clear b2 hb2) | (go_at_call 67; (with_reducible refine (LA.out _).mono ?_); rintro y w3 ⟨rfl, b3⟩; have j3 := (b3.cell (World.block_lt_of_cell? _ _ k3)).trans k3; have B3 := Lib.hid (B2.out.trans (b3.mono B2.out.size)); clear b3))
    exact bodyPost_ret (v := .tuple #[.int .i64 0, .bool false]) (by simp [results, Tryd.results51, go_sem]) rfl ⟨rfl, B3.out⟩
end Go.Proofs.YtolcaknhjjejeaaDoor.Y
