/- Texts of one place, one behind the other: RsB, YsA. -/
import Derived.Test.YtlanibgeafdefaaGreatDoorRsA
import Derived.Test.YtlanibgeafdefaaGreatDoorLay
namespace Go.Proofs.YtlanibgeafdefaaGreatDoor
open Go Go.RowKit M
set_option linter.unusedVariables false
set_option linter.unusedSimpArgs false
theorem fdn_step {l : Nat → Nat} {n j : Nat} (h : n < l (j + 1)) : fdn l n (j + 1) = fdn l n j := by
  rw [fdn, if_neg (by omega)]
theorem fdn_here {l : Nat → Nat} {n j : Nat} (h : l j ≤ n) : fdn l n j = j := by
  cases j with
  | zero => rfl
  | succ j => rw [fdn, if_pos h]
set_option maxRecDepth 1000000 in
set_option maxHeartbeats 1000000 in
theorem rlen_yes (n : Nat) (w : World) (hn : 3 ≤ n ∧ n ≤ 258) : Calls Tryz.prog 61 #[.int .i64 n] w fun e w' => e = .returned (.tuple #[.int .i64 (257 + (lsy n : Nat)), .int .i64 (lex n : Nat)]) ∧ Below w.heap.size w w' := by
  have d1 : decide ((n : Int) < 3) = false := decide_eq_false (by omega)
  have d1' : decide (n < 3) = false := decide_eq_false (by omega)
  have d2 : decide (258 < (n : Int)) = false := decide_eq_false (by omega)
  have d2' : decide (258 < n) = false := decide_eq_false (by omega)
  obtain ⟨S, hS⟩ : ∃ S, lsy n = S := ⟨_, rfl⟩
  obtain ⟨X, hX⟩ : ∃ X, lex n = X := ⟨_, rfl⟩
  rw [hS, hX]
  have HS := Lib.hid hS
  have HX := Lib.hid hX
  have HN := Lib.hid hn
  clear hS hX hn
  go_enter Tryz.func61, Tryz.ntmps61
  go_wp2_with (go_at_call 83; (with_reducible refine (rlengths_any _).mono ?_); rintro e w1 ⟨rfl, l1, b1⟩; have L1 := Lib.hid l1; have B1 := Lib.hid b1; clear l1 b1)
  go_loopw [5] (fun x wr => ∃ j : Nat, j ≤ 28 ∧ x = .int .i64 j ∧ fdn ll n 28 = fdn ll n j ∧ wr = w1) (fun x _ => (intOf x).toNat)
  case atStart => exact ⟨28, Nat.le_refl _, rfl, rfl, rfl⟩
  case round =>
    obtain ⟨j, hj, rfl, hf, rfl⟩ := hrel
    have c0 := L1.out.cell hj
    obtain ⟨v, hv⟩ : ∃ v, ll j = v := ⟨_, rfl⟩
    rw [hv] at c0
    have hvb : v ≤ 258 := by rw [← hv]; exact ll_le j hj
    by_cases h : v ≤ n
    · have d3 : decide ((v : Int) ≤ (n : Int)) = true := decide_eq_true (by omega)
      have d3' : decide (v ≤ n) = true := decide_eq_true h
      have hs : S = j := by rw [← HS.out]; unfold lsy; rw [hf]; exact fdn_here (by omega)
      have hx : (n : Int) - (v : Int) = (X : Int) := by
        have : X = n - ll S := by rw [← HX.out, ← HS.out]; rfl
        rw [hs, hv] at this; omega
      have HSj := Lib.hid hs
      have hXb : X ≤ 40000 := by have := HN.out; omega
      clear hf hv h hs hvb
      go_wp2_with fail
      go_quiet (fail)
      go_wp2_with fail
      go_ret2
      rw [HSj.out]
      exact ⟨rfl, below_drewN B1.out _⟩
    · have d3 : decide ((v : Int) ≤ (n : Int)) = false := decide_eq_false (by omega)
      have d3' : decide (v ≤ n) = false := decide_eq_false h
      obtain ⟨i, rfl⟩ : ∃ i, j = i + 1 := ⟨j - 1, by
        have : j ≠ 0 := fun e => by
          rw [e] at hv
          have : v = 3 := by rw [← hv]; rfl
          have := HN.out; omega
        omega⟩
      have HF := Lib.hid (hf.trans (fdn_step (by rw [hv]; omega)))
      clear hf hv h hvb
      go_wp2_with fail
      go_roundw
      case rel => exact ⟨i, by omega, by go_num, HF.out, trivial⟩
      case measure => (simp [intOf]; try omega)
set_option maxRecDepth 1000000 in
set_option maxHeartbeats 1000000 in
theorem rdist_yes (n : Nat) (w : World) (hn : 1 ≤ n ∧ n ≤ 32768) : Calls Tryz.prog 62 #[.int .i64 n] w fun e w' => e = .returned (.tuple #[.int .i64 ((dsy n : Nat)), .int .i64 (dex n : Nat)]) ∧ Below w.heap.size w w' := by
  have d1 : decide ((n : Int) < 1) = false := decide_eq_false (by omega)
  have d1' : decide (n < 1) = false := decide_eq_false (by omega)
  have d2 : decide (32768 < (n : Int)) = false := decide_eq_false (by omega)
  have d2' : decide (32768 < n) = false := decide_eq_false (by omega)
  obtain ⟨S, hS⟩ : ∃ S, dsy n = S := ⟨_, rfl⟩
  obtain ⟨X, hX⟩ : ∃ X, dex n = X := ⟨_, rfl⟩
  rw [hS, hX]
  have HS := Lib.hid hS
  have HX := Lib.hid hX
  have HN := Lib.hid hn
  clear hS hX hn
  go_enter Tryz.func62, Tryz.ntmps62
  go_wp2_with (go_at_call 84; (with_reducible refine (rdists_any _).mono ?_); rintro e w1 ⟨rfl, l1, b1⟩; have L1 := Lib.hid l1; have B1 := Lib.hid b1; clear l1 b1)
  go_loopw [5] (fun x wr => ∃ j : Nat, j ≤ 29 ∧ x = .int .i64 j ∧ fdn dl n 29 = fdn dl n j ∧ wr = w1) (fun x _ => (intOf x).toNat)
  case atStart => exact ⟨29, Nat.le_refl _, rfl, rfl, rfl⟩
  case round =>
    obtain ⟨j, hj, rfl, hf, rfl⟩ := hrel
    have c0 := L1.out.cell hj
    obtain ⟨v, hv⟩ : ∃ v, dl j = v := ⟨_, rfl⟩
    rw [hv] at c0
    have hvb : v ≤ 24577 := by rw [← hv]; exact dl_le j hj
    by_cases h : v ≤ n
    · have d3 : decide ((v : Int) ≤ (n : Int)) = true := decide_eq_true (by omega)
      have d3' : decide (v ≤ n) = true := decide_eq_true h
      have hs : S = j := by rw [← HS.out]; unfold dsy; rw [hf]; exact fdn_here (by omega)
      have hx : (n : Int) - (v : Int) = (X : Int) := by
        have : X = n - dl S := by rw [← HX.out, ← HS.out]; rfl
        rw [hs, hv] at this; omega
      have HSj := Lib.hid hs
      have hXb : X ≤ 40000 := by have := HN.out; omega
      clear hf hv h hs hvb
      go_wp2_with fail
      go_quiet (fail)
      go_wp2_with fail
      go_ret2
      rw [HSj.out]
      exact ⟨rfl, below_drewN B1.out _⟩
    · have d3 : decide ((v : Int) ≤ (n : Int)) = false := decide_eq_false (by omega)
      have d3' : decide (v ≤ n) = false := decide_eq_false h
      obtain ⟨i, rfl⟩ : ∃ i, j = i + 1 := ⟨j - 1, by
        have : j ≠ 0 := fun e => by
          rw [e] at hv
          have : v = 1 := by rw [← hv]; rfl
          have := HN.out; omega
        omega⟩
      have HF := Lib.hid (hf.trans (fdn_step (by rw [hv]; omega)))
      clear hf hv h hvb
      go_wp2_with fail
      go_roundw
      case rel => exact ⟨i, by omega, by go_num, HF.out, trivial⟩
      case measure => (simp [intOf]; try omega)
end Go.Proofs.YtlanibgeafdefaaGreatDoor

namespace Go.Proofs.YtlanibgeafdefaaGreatDoor.Y
open Go Go.RowKit M
set_option linter.unusedVariables false
set_option maxRecDepth 1000000
set_option linter.unusedSimpArgs false
def bt (g p : Nat) : Nat := p / 2 ^ g - 1
def lt (l g p : Nat) : Nat := l + (p - bt g p * 2 ^ g) * 2 ^ bt g p
theorem pow_g {g : Nat} (h : g = 1 ∨ g = 2) : (2 : Int) ^ g = ((2 ^ g : Nat) : Int) := by rw [Int.natCast_pow]; rfl
theorem bt_le {g p : Nat} (hg : g = 1 ∨ g = 2) (hp : p < 32) : bt g p ≤ 15 := by
  rcases hg with rfl | rfl <;> (unfold bt; omega)
theorem bt_mul {g p : Nat} (hg : g = 1 ∨ g = 2) (hp : p < 32) : bt g p * 2 ^ g ≤ p := by
  rcases hg with rfl | rfl <;> (unfold bt; omega)
set_option maxRecDepth 1000000 in
theorem bitsAt_any (a c l m g p : Nat) (w : World) (hg : g = 1 ∨ g = 2) (hp : p < 32) : Calls Tryz.prog 132 #[.agg #[.int .i64 a, .int .i64 c, .int .i64 l, .int .i64 m, .int .i64 g], .int .i64 p] w fun e w' => e = .returned (.int .i64 (bt g p : Nat)) ∧ Below w.heap.size w w' := by
  have d0 : decide ((g : Int) < 0) = false := decide_eq_false (by omega)
  have d1 : ((g : Int) < 64) := by omega
  obtain ⟨q, hq⟩ : ∃ q, p / 2 ^ g = q := ⟨_, rfl⟩
  have hb : bt g p = q - 1 := by unfold bt; rw [hq]
  have h1 : (p : Int) / 2 ^ g = (q : Int) := by rw [pow_g hg, ← Int.natCast_ediv, hq]
  have h2 : q ≤ 32 := by rw [← hq]; exact Nat.le_trans (Nat.div_le_self _ _) (by omega)
  have h3 : wrap64 ((q : Int) - 1) = (q : Int) - 1 := by exact IntWalk.wrap64_in _ ⟨by omega, by omega⟩
  rw [hb]
  clear hb hq
  go_enter Tryz.func132, Tryz.ntmps132
  go_wp2_with fail
  · go_ret
    exact ⟨by simp; omega, (Below.refl _ _).alloc (Nat.le_refl _) _⟩
  · go_ret
    exact ⟨by simp; omega, (Below.refl _ _).alloc (Nat.le_refl _) _⟩
set_option maxRecDepth 1000000 in
theorem leastAt_any (a c l m g p : Nat) (w : World) (hl : l ≤ 3) (hg : g = 1 ∨ g = 2) (hp : p < 32) : Calls Tryz.prog 130 #[.agg #[.int .i64 a, .int .i64 c, .int .i64 l, .int .i64 m, .int .i64 g], .int .i64 p] w fun e w' => e = .returned (.int .i64 (lt l g p : Nat)) ∧ Below w.heap.size w w' := by
  have d0 : decide ((g : Int) < 0) = false := decide_eq_false (by omega)
  have d1 : ((g : Int) < 64) := by omega
  have HB := Lib.hid (fun w => bitsAt_any a c l m g p w hg hp)
  have hb := bt_le hg hp
  have hm := bt_mul hg hp
  obtain ⟨b, hbe⟩ : ∃ b, bt g p = b := ⟨_, rfl⟩
  have hv : lt l g p = l + (p - b * 2 ^ g) * 2 ^ b := by unfold lt; rw [hbe]
  rw [hv]
  rw [hbe] at HB hb hm
  obtain ⟨k, hk⟩ : ∃ k, b * 2 ^ g = k := ⟨_, rfl⟩
  rw [hk] at hm ⊢
  have h1 : wrap64 ((b : Int) * 2 ^ g) = (k : Int) := by rw [pow_g hg, ← Int.natCast_mul, hk]; exact IntWalk.wrap64_in _ ⟨by omega, by omega⟩
  have h2 : wrap64 ((p : Int) - k) = ((p - k : Nat) : Int) := by rw [Int.ofNat_sub hm]; exact IntWalk.wrap64_in _ ⟨by omega, by omega⟩
  have e2 : (2 : Int) ^ b = ((2 ^ b : Nat) : Int) := by rw [Int.natCast_pow]; rfl
  have hp2 : 2 ^ b ≤ 32768 := Nat.le_trans (Nat.pow_le_pow_right (by decide) hb) (by decide)
  have hp3 : p - k ≤ 31 := by omega
  have hlt : (p - k) * 2 ^ b ≤ 31 * 32768 := Nat.mul_le_mul hp3 hp2
  obtain ⟨z, hz⟩ : ∃ z, (p - k) * 2 ^ b = z := ⟨_, rfl⟩
  rw [hz] at hlt ⊢
  have h3 : wrap64 (((p - k : Nat) : Int) * 2 ^ b) = (z : Int) := by rw [e2, ← Int.natCast_mul, hz]; exact IntWalk.wrap64_in _ ⟨by omega, by omega⟩
  have h4 : wrap64 ((l : Int) + z) = ((l + z : Nat) : Int) := by clear h1 h2 h3 e2 hz; rw [Int.natCast_add]; exact IntWalk.wrap64_in _ ⟨by omega, by omega⟩
  have h5 : wrap64 ((l : Int) + wrap64 (wrap64 ((p : Int) - wrap64 ((b : Int) * 2 ^ g)) * 2 ^ b)) = ((l + z : Nat) : Int) := by rw [h1, h2, h3, h4]
  have HH := Lib.hid h5
  have d2 : decide ((b : Int) < 0) = false := decide_eq_false (by omega)
  have d3 : ((b : Int) < 64) := by omega
  clear hv hbe hm hk h1 h2 e2 hlt hz h3 h4 h5 hp2 hp3
  go_enter Tryz.func130, Tryz.ntmps130
  go_wp2_with (go_at_call 132; (with_reducible refine (HB.out _).mono ?_); rintro e w1 ⟨rfl, b1⟩; have hb0 := (b1.block w.heap.size (by simp)).trans (heap_alloc_new w _); have k2 : w1.cell? ⟨w.heap.size, 2, none⟩ = some (.int .i64 l) := (by rw [cell_of_row w1 _ _ _ _ _ hb0]; rfl); have k4 : w1.cell? ⟨w.heap.size, 4, none⟩ = some (.int .i64 g) := (by rw [cell_of_row w1 _ _ _ _ _ hb0]; rfl); have B1 := Lib.hid b1; clear b1 hb0)
  go_quiet (fail)
  go_wp2_with fail
  go_ret
  exact ⟨by rw [← HH.out]; rfl, below_drewN (((Below.refl _ _).alloc (Nat.le_refl _) _).trans (B1.out.mono (by simp))) _⟩
structure Bx (w : World) (br bn a c l m g n : Nat) : Prop where
  c0 : w.cell? ⟨br, 0, none⟩ = some (.int .i64 a)
  c1 : w.cell? ⟨br, 1, none⟩ = some (.int .i64 c)
  c2 : w.cell? ⟨br, 2, none⟩ = some (.int .i64 l)
  c3 : w.cell? ⟨br, 3, none⟩ = some (.int .i64 m)
  c4 : w.cell? ⟨br, 4, none⟩ = some (.int .i64 g)
  num : w.cell? ⟨bn, 0, none⟩ = some (.int .i64 n)
section
variable {w w' : World} {br bn a c l m g n : Nat}
theorem Bx.below (h : Bx w br bn a c l m g n) {B : Nat} (hb : Below B w w') (hr : br < B) (hn : bn < B) : Bx w' br bn a c l m g n :=
  ⟨(hb.cell hr).trans h.c0, (hb.cell hr).trans h.c1, (hb.cell hr).trans h.c2, (hb.cell hr).trans h.c3, (hb.cell hr).trans h.c4, (hb.cell hn).trans h.num⟩
theorem Bx.lt (h : Bx w br bn a c l m g n) : br < w.heap.size ∧ bn < w.heap.size := ⟨World.block_lt_of_cell? _ _ h.c0, World.block_lt_of_cell? _ _ h.num⟩
end
set_option maxRecDepth 1000000 in
theorem beyond_any (br bn a c l m g n p : Nat) (w : World) (hl : l ≤ 3) (hg : g = 1 ∨ g = 2) (hp : p < 32) (H : Bx w br bn a c l m g n) : Calls Tryz.prog 129 #[.int .i64 p, .pointer (some ⟨br, 0, none⟩), .pointer (some ⟨bn, 0, none⟩)] w fun e w' => e = .returned (.bool (decide (n < lt l g p))) ∧ Below w.heap.size w w' := by
  have HB := Lib.hid (fun w => leastAt_any a c l m g p w hl hg hp)
  obtain ⟨c0, c1, c2, c3, c4, c5⟩ := H
  have hlt := World.block_lt_of_cell? _ _ c5
  obtain ⟨v, hv⟩ : ∃ v, lt l g p = v := ⟨_, rfl⟩
  rw [hv] at HB ⊢
  clear hv
  go_enter Tryz.func129, Tryz.ntmps129
  go_wp2_with fail
  go_region_with (go_at_call 130; (with_reducible refine (HB.out _).mono ?_); rintro e w1 ⟨rfl, b1⟩; have k5 := (b1.cell (p := ⟨bn, 0, none⟩) (by simpa using hlt)).trans c5; have B1 := Lib.hid b1; clear b1)
  all_goals
    go_wp2_with fail
    go_ret
    exact ⟨rfl, (Below.refl _ _).drew.trans (B1.out.mono (Nat.le_refl _))⟩
end Go.Proofs.YtlanibgeafdefaaGreatDoor.Y
