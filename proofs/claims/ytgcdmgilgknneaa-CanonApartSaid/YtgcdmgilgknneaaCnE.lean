/- What the document's Begins answers. Conditions: as each theorem names them. -/
import Derived.Test.YtgcdmgilgknneaaCnD
import Derived.Deep.RegionHeld3
import Derived.ChangeAlike
namespace Go.Proofs.Ytgcdmgilgknneaa
open Go.RowKit M
set_option linter.unusedVariables false

/-- Does a code begin another one. -/
def begB (x z y v : Nat) : Bool := decide (z ≤ v ∧ x = y / 2 ^ (v - z))
theorem begB_true {x z y v : Nat} (h1 : z ≤ v) (h2 : x = y / 2 ^ (v - z)) : begB x z y v = true := decide_eq_true ⟨h1, h2⟩
theorem begB_false {x z y v : Nat} (h : ¬ (z ≤ v ∧ x = y / 2 ^ (v - z))) : begB x z y v = false := decide_eq_false h
theorem beg_step (x z y v k : Nat) (hz : k < z) (hv : k < v) (h : x / 2 ^ (z - k) = y / 2 ^ (v - k)) (e : x / 2 ^ (z - 1 - k) % 2 = y / 2 ^ (v - 1 - k) % 2) : x / 2 ^ (z - (k + 1)) = y / 2 ^ (v - (k + 1)) := by
  rw [show z - (k + 1) = z - 1 - k by omega, show v - (k + 1) = v - 1 - k by omega]
  rw [show z - k = (z - 1 - k) + 1 by omega, show v - k = (v - 1 - k) + 1 by omega, Nat.pow_succ, Nat.pow_succ, ← Nat.div_div_eq_div_mul, ← Nat.div_div_eq_div_mul] at h
  omega
theorem beg_end (x z y v : Nat) (h : x / 2 ^ (z - z) = y / 2 ^ (v - z)) : x = y / 2 ^ (v - z) := by
  rw [Nat.sub_self, Nat.pow_zero, Nat.div_one] at h; exact h
theorem beg_bit (x z y v k : Nat) (hz : k < z) (hzv : z ≤ v) (e : x = y / 2 ^ (v - z)) : x / 2 ^ (z - 1 - k) % 2 = y / 2 ^ (v - 1 - k) % 2 := by
  rw [e, Nat.div_div_eq_div_mul, ← Nat.pow_add, show v - z + (z - 1 - k) = v - 1 - k by omega]
theorem beg_start (x z y v : Nat) (hx : x < 2 ^ z) (hy : y < 2 ^ v) : x / 2 ^ (z - 0) = y / 2 ^ (v - 0) := by
  rw [Nat.sub_zero, Nat.sub_zero, Nat.div_eq_of_lt hx, Nat.div_eq_of_lt hy]

set_option maxHeartbeats 1000000 in
theorem begins_any (x z y v : Nat) (W : World) (hx : x < 2 ^ z) (hy : y < 2 ^ v) (hz : z ≤ 15) (hv : v ≤ 15) :
    Calls Try.prog 19 #[.agg #[.int .u32 x, .int .u8 z], .agg #[.int .u32 y, .int .u8 v]] W fun e w' => e = .returned (.bool (begB x z y v)) ∧ Below W.heap.size W w' := by
  have hst := Lib.hid (beg_start x z y v hx hy)
  have hx32 : x < 4294967296 := Nat.lt_of_lt_of_le hx (Nat.le_trans (Nat.pow_le_pow_right (by omega) hz) (by decide : 2 ^ 15 ≤ 4294967296))
  have hy32 : y < 4294967296 := Nat.lt_of_lt_of_le hy (Nat.le_trans (Nat.pow_le_pow_right (by omega) hv) (by decide : 2 ^ 15 ≤ 4294967296))
  have HX := Lib.hid hx32
  have HY := Lib.hid hy32
  clear hx hy hx32 hy32
  have HBW := Lib.hid (((Below.refl W.heap.size W).alloc (Nat.le_refl _) (.cells #[.int .u32 x, .int .u8 z] 40)).alloc (by simp) (.cells #[.int .u32 y, .int .u8 v] 40))
  by_cases hzv : z ≤ v
  · have hd10 : decide (v < z) = false := decide_eq_false (by omega)
    go_enter Try.func19, Try.ntmps19
    go_wp2_with fail
    obtain ⟨V, hV⟩ : ∃ V, (W.alloc (.cells #[.int .u32 x, .int .u8 z] 40)).alloc (.cells #[.int .u32 y, .int .u8 v] 40) = V := ⟨_, rfl⟩
    have c1 : V.cell? ⟨W.heap.size, 0, none⟩ = some (.int .u32 x) := by rw [← hV]; simp
    have c2 : V.cell? ⟨W.heap.size, 1, none⟩ = some (.int .u8 z) := by rw [← hV]; simp
    have c3 : V.cell? ⟨W.heap.size + 1, 0, none⟩ = some (.int .u32 y) := by rw [← hV]; simp
    have c4 : V.cell? ⟨W.heap.size + 1, 1, none⟩ = some (.int .u8 v) := by rw [← hV]; simp
    have hs : V.heap.size = W.heap.size + 2 := by rw [← hV]; simp
    rw [hV] at HBW ⊢
    clear hV
    go_loopw [5] (fun i wr => ∃ k : Nat, k ≤ z ∧ i = .int .i64 k ∧ x / 2 ^ (z - k) = y / 2 ^ (v - k) ∧ Below V.heap.size V wr) (fun i _ => z - (intOf i).toNat)
    case atStart => exact ⟨0, Nat.zero_le _, rfl, hst.out, Below.refl _ _⟩
    case round =>
      obtain ⟨k, hkn, rfl, hag, hb⟩ := hrel
      have g1 : wr.cell? ⟨W.heap.size, 0, none⟩ = some (.int .u32 x) := (hb.cell (by simp; omega)).trans c1
      have g2 : wr.cell? ⟨W.heap.size, 1, none⟩ = some (.int .u8 z) := (hb.cell (by simp; omega)).trans c2
      have g3 : wr.cell? ⟨W.heap.size + 1, 0, none⟩ = some (.int .u32 y) := (hb.cell (by simp; omega)).trans c3
      have g4 : wr.cell? ⟨W.heap.size + 1, 1, none⟩ = some (.int .u8 v) := (hb.cell (by simp; omega)).trans c4
      have HB := Lib.hid hb
      have HA := Lib.hid hag
      have HS := Lib.hid hs
      clear hb hag c1 c2 c3 c4 hs
      by_cases hlt : k < z
      · have hkv : k < v := by omega
        obtain ⟨p, hp⟩ : ∃ p, x / 2 ^ (z - 1 - k) % 2 = p := ⟨_, rfl⟩
        obtain ⟨q, hq⟩ : ∃ q, y / 2 ^ (v - 1 - k) % 2 = q := ⟨_, rfl⟩
        have b1 := fun w => bit_any x z k w HX.out hz hlt
        have b2 := fun w => bit_any y v k w HY.out hv hkv
        rw [hp] at b1
        rw [hq] at b2
        have BB1 := Lib.hid b1
        have BB2 := Lib.hid b2
        have HP := Lib.hid hp
        have HQ := Lib.hid hq
        clear b1 b2 hp hq
        go_wp2_with fail
        go_region_held3 (fun w' => w'.cell? ⟨W.heap.size, 0, none⟩ = some (.int .u32 x) ∧ w'.cell? ⟨W.heap.size, 1, none⟩ = some (.int .u8 z) ∧ w'.cell? ⟨W.heap.size + 1, 0, none⟩ = some (.int .u32 y) ∧ w'.cell? ⟨W.heap.size + 1, 1, none⟩ = some (.int .u8 v)) (first | exact ⟨f1, f2, f3, f4⟩ | exact ⟨e1, e2, e3, e4⟩ | exact ⟨g1, g2, g3, g4⟩) (first
          | (go_at_call 24; (with_reducible refine (BB1.out _).mono ?_); rintro e w3 ⟨rfl, b3⟩; have e1 := (b3.cell (World.block_lt_of_cell? _ _ g1)).trans g1; have e2 := (b3.cell (World.block_lt_of_cell? _ _ g2)).trans g2; have e3 := (b3.cell (World.block_lt_of_cell? _ _ g3)).trans g3; have e4 := (b3.cell (World.block_lt_of_cell? _ _ g4)).trans g4; have B3 := Lib.hid (HB.out.drew.trans (b3.mono HB.out.size)); clear b3)
          | (go_at_call 24; (with_reducible refine (BB2.out _).mono ?_); rintro e w4 ⟨rfl, b4⟩; have f1 := (b4.cell (World.block_lt_of_cell? _ _ e1)).trans e1; have f2 := (b4.cell (World.block_lt_of_cell? _ _ e2)).trans e2; have f3 := (b4.cell (World.block_lt_of_cell? _ _ e3)).trans e3; have f4 := (b4.cell (World.block_lt_of_cell? _ _ e4)).trans e4; have B4 := Lib.hid (B3.out.trans (b4.mono B3.out.size)); clear b4))
        by_cases hpq : p = q
        · have hb1 : ((p : Int) != (q : Int)) = false := by rw [bne_eq_false_iff_eq]; omega
          have HPQ := Lib.hid hpq
          clear hpq
          go_wp2_with fail
          go_roundw
          case rel => exact ⟨k + 1, by omega, by go_num, beg_step x z y v k hlt hkv HA.out (by rw [HP.out, HQ.out, HPQ.out]), B4.out⟩
          case measure => simp [intOf]; omega
        · have hb1 : ((p : Int) != (q : Int)) = true := by rw [bne_iff_ne]; omega
          have hv2 := Lib.hid (begB_false (x := x) (z := z) (y := y) (v := v) (fun g => hpq (by rw [← HP.out, ← HQ.out]; exact beg_bit x z y v k hlt hzv g.2)))
          clear hpq
          go_wp2_with fail
          go_ret
          exact ⟨by rw [hv2.out]; rfl, HBW.out.trans (B4.out.mono HBW.out.size)⟩
      · obtain rfl : k = z := by omega
        have hv2 := Lib.hid (begB_true hzv (beg_end x k y v HA.out))
        go_wp2_with fail
        go_ret
        exact ⟨by rw [hv2.out]; rfl, HBW.out.trans (HB.out.mono HBW.out.size)⟩
  · have hd10 : decide (v < z) = true := decide_eq_true (by omega)
    have hv2 := Lib.hid (begB_false (x := x) (z := z) (y := y) (v := v) (fun g => hzv g.1))
    go_enter Try.func19, Try.ntmps19
    go_wp2_with fail
    go_ret
    exact ⟨by rw [hv2.out]; rfl, HBW.out⟩

end Go.Proofs.Ytgcdmgilgknneaa
