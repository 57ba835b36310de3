/- Texts of one place, one behind the other: PkF, RfN. -/
import Derived.Test.YtlanibgeafdefaaGreatDoorProg
import Derived.Test.YtlanibgeafdefaaGreatDoorLay
import Derived.WalkKit
import Derived.Lib.Hide
import Derived.IntWalk
import Derived.Lib.Strings
import Derived.Lib.Walk
import Derived.Lib.BitFns
namespace Go.Proofs.YtlanibgeafdefaaGreatDoor
open Go.RowKit M
set_option linter.unusedVariables false
def bl (x : Nat) : Nat := if x = 0 then 0 else Nat.log2 x + 1
theorem bl_le {x k : Nat} : bl x ≤ k ↔ x < 2 ^ k := by
  unfold bl
  by_cases h : x = 0
  · rw [if_pos h, h]; exact ⟨fun _ => Nat.two_pow_pos _, fun _ => Nat.zero_le _⟩
  · rw [if_neg h]
    exact Nat.log2_lt h
def nds (n : Nat) : Nat := if n = 0 then 0 else max 1 (bl (n - 1))
theorem nds_le {n k : Nat} (h0 : 1 ≤ k) : nds n ≤ k ↔ n ≤ 2 ^ k := by
  unfold nds
  by_cases h : n = 0
  · rw [if_pos h, h]; exact ⟨fun _ => Nat.zero_le _, fun _ => Nat.zero_le _⟩
  · rw [if_neg h]
    have := @bl_le (n - 1) k
    constructor
    · intro g; have := this.1 (by omega); omega
    · intro g; have := this.2 (by omega); omega
theorem tab_get (y : Int) (h0 : 0 ≤ y) (h1 : y ≤ 255) {hh : y.toNat < Lib.len8tab.size} : ((Lib.len8tab[y.toNat]'hh).toNat : Int) = (Lib.bitLen y.toNat : Int) := by
  rw [← Lib.len8_of y h0 h1]
  unfold Lib.len8
  rw [ByteArray.getElem?_lt' _ _ hh, Option.getD_some]
theorem tab_end (k : Nat) (x y : Int) (hk : k ≤ 56) (h0 : 0 ≤ y) (h1 : y ≤ 255) (hb : Lib.bitLen x.toNat = k + Lib.bitLen y.toNat) : wrap64 ((k : Int) + wrap64 (Lib.bitLen y.toNat : Int)) = (Lib.bitLen x.toNat : Int) := by
  have l := Lib.bitLen_le8' y h0 h1
  rw [IntWalk.wrap64_in (Lib.bitLen y.toNat : Int) (by omega), IntWalk.wrap64_in _ (by omega), hb]
  omega
set_option maxHeartbeats 4000000 in
set_option maxRecDepth 100000 in
theorem len64_int (x : Int) (w : World) (h0 : 0 ≤ x) (h1 : x ≤ 1099511627776) : Calls Tryz.prog 126 #[.int .u64 x] w fun e w' => e = .returned (.int .i64 (Lib.bitLen x.toNat)) ∧ w' = w := by
  go_enter Tryz.func126, Tryz.ntmps126
  go_wp2
  all_goals first
    | (go_ret
       refine ⟨congrArg (fun q => Ending.returned (.int .i64 q)) ?_, rfl⟩
       first
         | (rw [tab_get (x / 4294967296 / 65536 / 256) (by omega) (by omega)]
            exact tab_end 56 x _ (by omega) (by omega) (by omega) ((Lib.bitLen_shift56 x.toNat (by omega) (by omega)).trans (by congr 2; omega)))
         | (rw [tab_get (x / 4294967296 / 65536) (by omega) (by omega)]
            exact tab_end 48 x _ (by omega) (by omega) (by omega) ((Lib.bitLen_shift48 x.toNat (by omega) (by omega)).trans (by congr 2; omega)))
         | (rw [tab_get (x / 4294967296 / 256) (by omega) (by omega)]
            exact tab_end 40 x _ (by omega) (by omega) (by omega) ((Lib.bitLen_shift40 x.toNat (by omega) (by omega)).trans (by congr 2; omega)))
         | (rw [tab_get (x / 4294967296) (by omega) (by omega)]
            exact tab_end 32 x _ (by omega) (by omega) (by omega) ((Lib.bitLen_shift32 x.toNat (by omega) (by omega)).trans (by congr 2; omega)))
         | (rw [tab_get (x / 65536 / 256) (by omega) (by omega)]
            exact tab_end 24 x _ (by omega) (by omega) (by omega) ((Lib.bitLen_shift24 x.toNat (by omega) (by omega)).trans (by congr 2; omega)))
         | (rw [tab_get (x / 65536) (by omega) (by omega)]
            exact tab_end 16 x _ (by omega) (by omega) (by omega) ((Lib.bitLen_shift16 x.toNat (by omega) (by omega)).trans (by congr 2; omega)))
         | (rw [tab_get (x / 256) (by omega) (by omega)]
            exact tab_end 8 x _ (by omega) (by omega) (by omega) ((Lib.bitLen_shift8 x.toNat (by omega) (by omega)).trans (by congr 2; omega)))
         | (rw [tab_get x (by omega) (by omega)]
            have l := Lib.bitLen_le8' x (by omega) (by omega)
            simp only [wrap64]
            omega))
    | (exfalso
       have hs := Lib.len8tab_size
       omega)
theorem bitLen_bl (x : Nat) (h : x < 2 ^ 64) : Lib.bitLen x = bl x := by
  apply Nat.le_antisymm
  · exact Lib.bitLen_le x (bl x) (bl_le.2 h) (bl_le.1 (Nat.le_refl _))
  · refine bl_le.2 (Nat.lt_of_not_le fun g => ?_)
    have h1 := Lib.bitLen_shift (Lib.bitLen x) x g h
    have h2 : 1 ≤ x / 2 ^ Lib.bitLen x := (Nat.one_le_div_iff (Nat.two_pow_pos _)).2 g
    have h3 := Lib.bitLen_half (x / 2 ^ Lib.bitLen x) (by omega) (Nat.lt_of_le_of_lt (Nat.div_le_self _ _) h)
    omega
theorem len_any (x : Int) (w : World) (h0 : 0 ≤ x) (h1 : x ≤ 1099511627776) : Calls Tryz.prog 109 #[.int .u64 x] w fun e w' => e = .returned (.int .i64 (bl x.toNat)) ∧ w' = w := by
  have hb := Lib.hid (bitLen_bl x.toNat (by have : (2 : Nat) ^ 64 = 18446744073709551616 := rfl; omega))
  go_enter Tryz.func109, Tryz.ntmps109
  go_wp2_with fail
  refine (len64_int x _ h0 h1).mono ?_; rintro e w' ⟨rfl, rfl⟩
  rw [hb.out]
  go_wp2_with fail
  go_ret
  exact ⟨rfl, rfl⟩
theorem nds_zero {n : Int} (h : n < 1) : nds n.toNat = 0 := by
  have : n.toNat = 0 := by omega
  rw [this]; rfl
theorem needs_any (n : Int) (w : World) (h0 : -9223372036854775808 ≤ n) (h1 : n ≤ 1099511627776) : Calls Tryz.prog 93 #[.int .i64 n] w fun e w' => e = .returned (.int .i64 (nds n.toNat)) ∧ w = w' := by
  by_cases h : n < 1
  · have hv := Lib.hid (nds_zero h)
    go_enter Tryz.func93, Tryz.ntmps93
    go_wp2_with fail
    go_ret
    exact ⟨by rw [hv.out]; rfl, rfl⟩
  · obtain ⟨b, hb⟩ : ∃ b, bl (n - 1).toNat = b := ⟨_, rfl⟩
    have hle : b ≤ 41 := by rw [← hb]; exact bl_le.2 (by have : (2 : Nat) ^ 41 = 2199023255552 := rfl; omega)
    have hv := Lib.hid (show nds n.toNat = max 1 b by
      unfold nds
      rw [if_neg (by omega), ← hb]
      congr 2; omega)
    have HC := Lib.hid (len_any (n - 1) w (by omega) (by omega))
    rw [hb] at HC
    clear hb
    go_enter Tryz.func93, Tryz.ntmps93
    go_wp2_with fail
    refine HC.out.mono ?_; rintro e w' ⟨rfl, rfl⟩
    go_wp2_with fail
    go_ret
    exact ⟨congrArg (fun q => Ending.returned (.int .i64 q)) (by rw [hv.out]; omega), rfl⟩
end Go.Proofs.YtlanibgeafdefaaGreatDoor

namespace Go.Proofs.YtlanibgeafdefaaGreatDoor
open Go.RowKit M
set_option linter.unusedVariables false
theorem nds_at {n k : Nat} (h1 : 1 ≤ k) (h2 : n ≤ 2 ^ k) (h3 : 1 ≤ n) (h4 : k = 1 ∨ 2 ^ (k - 1) < n) : nds n = k := by
  have a := (nds_le h1).2 h2
  have b : 1 ≤ nds n := by unfold nds; rw [if_neg (by omega)]; exact Nat.le_max_left _ _
  by_cases q : k = 1
  · omega
  · have d := mt (nds_le (n := n) (k := k - 1) (by omega)).1 (by omega)
    omega
set_option maxHeartbeats 1000000 in
theorem rneeds_any (n : Int) (w : World) (h0 : -9223372036854775808 ≤ n) (h1 : n ≤ 1099511627776) : Calls Tryz.prog 66 #[.int .i64 n] w fun e w' => e = .returned (.int .i64 (nds n.toNat)) ∧ w = w' := by
  by_cases h : n < 1
  · have hv := Lib.hid (nds_zero h)
    go_enter Tryz.func66, Tryz.ntmps66
    go_wp2_with fail
    go_ret
    exact ⟨by rw [hv.out]; rfl, rfl⟩
  · go_enter Tryz.func66, Tryz.ntmps66
    go_wp2_with fail
    go_loop [3, 4] (fun q r => ∃ k x : Nat, q = .int .i64 k ∧ r = .int .i64 x ∧ 1 ≤ k ∧ k ≤ 41 ∧ x ≤ 2199023255552 ∧ Hid (x = 2 ^ k ∧ (k = 1 ∨ 2 ^ (k - 1) < n.toNat))) (fun q _ => 41 - (intOf q).toNat)
    case atStart => exact ⟨1, 2, rfl, rfl, by omega, by omega, by omega, Lib.hid ⟨rfl, .inl rfl⟩⟩
    case round =>
      obtain ⟨k, x, rfl, rfl, k1, k2, x2, HX⟩ := hrel
      by_cases hlt : (x : Int) < n
      · have hk : k < 40 := by
          have e := HX.out.1
          have g : (2 : Nat) ^ 40 = 1099511627776 := rfl
          have : 2 ^ k < 2 ^ 40 := by rw [← e]; omega
          exact (Nat.pow_lt_pow_iff_right (by decide)).1 this
        go_wp2_with fail
        go_round
        case rel => exact ⟨k + 1, 2 * x, by go_num, by go_num, by omega, by omega, by omega, Lib.hid ⟨by rw [HX.out.1, Nat.pow_succ]; omega, .inr (by rw [Nat.add_sub_cancel, ← HX.out.1]; omega)⟩⟩
        case measure => simp [intOf]; omega
      · have HV := Lib.hid (nds_at (n := n.toNat) k1 (by rw [← HX.out.1]; omega) (by omega) HX.out.2)
        go_wp2_with fail
        go_ret
        exact ⟨by rw [HV.out]; rfl, rfl⟩
end Go.Proofs.YtlanibgeafdefaaGreatDoor
