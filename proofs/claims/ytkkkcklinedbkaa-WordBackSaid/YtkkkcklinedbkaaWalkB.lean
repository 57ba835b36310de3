/- What Log and Up of package word, and the document's Mask, bit, Turn, Log and Up, answer, for any arguments that their kinds hold. Conditions: as each theorem names them. -/
import Derived.Test.YtkkkcklinedbkaaWalkA
namespace Go.Proofs.Ytkkkcklinedbkaa
open Go.RowKit M

theorem log_nat (N : Nat) (w : World) (hN : N < big) :
    Calls Try.prog 20 #[.int .u64 N] w fun e w' => e = .returned (.int .i64 (lg N)) ∧ w = w' := by
  go_enter Try.func20, Try.ntmps20
  go_wp2
  go_loop [0, 3] (fun a b => ∃ k : Nat, (k = 0 ∨ N / 2 ^ (k - 1) ≠ 0) ∧ a = .int .u64 ((N : Int) / 2 ^ k) ∧ b = .int .i64 ((k : Int) - 1)) (fun _ b => (64 - intOf b).toNat)
  case atStart => exact ⟨0, Or.inl rfl, by simp, rfl⟩
  case round =>
    obtain ⟨k, hk, rfl, rfl⟩ := hrel
    have HK := Lib.hid hk
    have hk64 : k ≤ 64 := by
      rcases hk with h | h
      · omega
      · have := halves_lt N (k - 1) hN h; omega
    clear hk
    by_cases hz : (N : Int) / 2 ^ k = 0
    · have hv := Lib.hid (lg_of N k (halves_zero N k hz) HK.out)
      have hb : ((N : Int) / 2 ^ k != 0) = false := by simp [hz]
      clear hz
      go_wp2
      go_ret
      exact ⟨congrArg (fun z => Ending.returned (.int .i64 z)) hv.out.symm, rfl⟩
    · have hv := Lib.hid (halves_ne N k hz)
      have hb : ((N : Int) / 2 ^ k != 0) = true := by simp [hz]
      have h4 := halves_lt N k hN hv.out
      clear hz
      go_wp2
      go_round
      case rel => exact ⟨k + 1, Or.inr hv.out, congrArg (Value.int .u64) (div_step N k), by go_num⟩
      case measure => simp [intOf]; omega

theorem up_none (n to : Int) (w : World) (h : n < 1 ∨ to < 1) :
    Calls Try.prog 22 #[.int .i64 n, .int .i64 to] w fun e w' => e = .returned (.int .i64 (up n to)) ∧ w = w' := by
  have hv := Lib.hid (show up n to = 0 by unfold up; rw [if_pos h])
  by_cases h1 : n < 1
  · clear h
    go_enter Try.func22, Try.ntmps22
    go_wp2
    go_ret
    exact ⟨congrArg (fun z => Ending.returned (.int .i64 z)) hv.out.symm, rfl⟩
  · have h2 : to < 1 := by omega
    have h3 : 1 ≤ n := by omega
    clear h h1
    go_enter Try.func22, Try.ntmps22
    go_wp2
    go_ret
    exact ⟨congrArg (fun z => Ending.returned (.int .i64 z)) hv.out.symm, rfl⟩

theorem up_some (n to : Int) (w : World) (h1 : 1 ≤ n) (h2 : 1 ≤ to) (h3 : n ≤ 9223372036854775807) (h4 : to ≤ 9223372036854775807) :
    Calls Try.prog 22 #[.int .i64 n, .int .i64 to] w fun e w' => e = .returned (.int .i64 (up n to)) ∧ w = w' := by
  have hw := up_wrap n to h1 h2 h3 h4
  have hq := up_mul_lt n to h1 h2
  have hv : up n to = if 4611686018427387904 < ((n - 1) / to + 1) * to then 0 else ((n - 1) / to + 1) * to := by unfold up; rw [if_neg (by omega)]
  by_cases h5 : 4611686018427387904 < ((n - 1) / to + 1) * to
  · rw [if_pos h5] at hv
    have HV := Lib.hid hv
    have hd : 4611686018427387904 < IntKind.u64.wrap (IntKind.u64.wrap ((n - 1) / to + 1) * to) := by rw [hw]; exact h5
    clear hv hw hq h5
    go_enter Try.func22, Try.ntmps22
    go_wp2
    go_ret
    exact ⟨congrArg (fun z => Ending.returned (.int .i64 z)) HV.out.symm, rfl⟩
  · rw [if_neg h5] at hv
    have HV : Hid (wrap64 (IntKind.u64.wrap (IntKind.u64.wrap ((n - 1) / to + 1) * to)) = up n to) := by
      rw [hw, hv]
      exact IntWalk.wrap64_in _ ⟨by omega, by omega⟩
    have hd : IntKind.u64.wrap (IntKind.u64.wrap ((n - 1) / to + 1) * to) ≤ 4611686018427387904 := by rw [hw]; omega
    clear hv hw hq h5
    go_enter Try.func22, Try.ntmps22
    go_wp2
    go_ret
    exact ⟨congrArg (fun z => Ending.returned (.int .i64 z)) HV.out, rfl⟩

theorem up_any (n to : Int) (w : World) (h3 : n ≤ 9223372036854775807) (h4 : to ≤ 9223372036854775807) :
    Calls Try.prog 22 #[.int .i64 n, .int .i64 to] w fun e w' => e = .returned (.int .i64 (up n to)) ∧ w = w' := by
  by_cases h : n < 1 ∨ to < 1
  · exact up_none n to w h
  · exact up_some n to w (by omega) (by omega) h3 h4

/- the document's answers -/
theorem rmask_any (x : Int) (w : World) :
    Calls Try.prog 17 #[.int .i64 x] w fun e w' => e = .returned (.int .u64 (mk (min x.toNat 64))) ∧ w = w' := by
  go_enter Try.func17, Try.ntmps17
  go_wp2
  go_loop [3, 4] (fun b i => ∃ k : Nat, k ≤ min x.toNat 64 ∧ i = .int .i64 k ∧ b = .int .u64 (mk k)) (fun _ i => 64 - (intOf i).toNat)
  case atStart => exact ⟨0, Nat.zero_le _, rfl, rfl⟩
  case round =>
    obtain ⟨k, hk, rfl, rfl⟩ := hrel
    by_cases ha : (k : Int) < x
    · by_cases hb : k < 64
      · have hs : Hid (IntKind.u64.wrap (IntKind.u64.wrap (2 * (mk k : Int)) + 1) = (mk (k + 1) : Int)) := mk_step k hb
        go_wp2
        go_round
        case rel => exact ⟨k + 1, by omega, by go_num, congrArg (Value.int .u64) hs.out⟩
        case measure => simp [intOf]; omega
      · obtain rfl : k = 64 := by omega
        have e : Hid (mk 64 = mk (min x.toNat 64)) := congrArg mk (by omega)
        go_wp2
        go_ret
        exact ⟨congrArg (fun z : Nat => Ending.returned (.int .u64 z)) e.out, rfl⟩
    · have e : Hid (mk k = mk (min x.toNat 64)) := congrArg mk (by omega)
      have hd : decide ((k : Int) < x) = false := decide_eq_false ha
      go_wp2
      go_ret
      exact ⟨congrArg (fun z : Nat => Ending.returned (.int .u64 z)) e.out, rfl⟩

theorem bit_nat (N K : Nat) (w : World) (hN : N < big) (hK : K ≤ 64) :
    Calls Try.prog 26 #[.int .u64 N, .int .i64 K] w fun e w' => e = .returned (.int .u64 (N / 2 ^ K % 2 : Nat)) ∧ w = w' := by
  go_enter Try.func26, Try.ntmps26
  go_wp2
  go_loop [0, 5] (fun a i => ∃ k : Nat, k ≤ K ∧ i = .int .i64 k ∧ a = .int .u64 ((N : Int) / 2 ^ k)) (fun _ i => K - (intOf i).toNat)
  case atStart => exact ⟨0, Nat.zero_le _, rfl, by simp⟩
  case round =>
    obtain ⟨k, hk, rfl, rfl⟩ := hrel
    have h1 := halves_nonneg N k
    have h2 := halves_le N k hN
    by_cases hlt : k < K
    · go_wp2
      go_round
      case rel => exact ⟨k + 1, by omega, by go_num, congrArg (Value.int .u64) (div_step N k)⟩
      case measure => simp [intOf]; omega
    · obtain rfl : k = K := by omega
      go_wp2
      go_ret
      exact ⟨congrArg (fun z : Int => Ending.returned (.int .u64 z)) (bit_val N k), rfl⟩

theorem rturn_nat (N : Nat) (x : Int) (w : World) (hN : N < big) :
    Calls Try.prog 19 #[.int .u64 N, .int .i64 x] w fun e w' => e = .returned (.int .u64 (rv N (min x.toNat 64))) ∧ w = w' := by
  go_enter Try.func19, Try.ntmps19
  go_wp2
  go_loop [5, 6] (fun t i => ∃ k : Nat, k ≤ min x.toNat 64 ∧ i = .int .i64 k ∧ t = .int .u64 (rv N k)) (fun _ i => 64 - (intOf i).toNat)
  case atStart => exact ⟨0, Nat.zero_le _, rfl, rfl⟩
  case round =>
    obtain ⟨k, hk, rfl, rfl⟩ := hrel
    by_cases ha : (k : Int) < x
    · by_cases hb : k < 64
      · have hs := Lib.hid (rturn_step N k hb)
        go_wp2_with (go_at_call 26; refine (bit_nat N k _ hN (by omega)).mono ?_; rintro e w' ⟨rfl, rfl⟩)
        go_round
        case rel => exact ⟨k + 1, by omega, by go_num, congrArg (Value.int .u64) hs.out⟩
        case measure => simp [intOf]; omega
      · obtain rfl : k = 64 := by omega
        have e : Hid (rv N 64 = rv N (min x.toNat 64)) := congrArg (rv N) (by omega)
        go_wp2_with fail
        go_ret
        exact ⟨congrArg (fun z : Nat => Ending.returned (.int .u64 z)) e.out, rfl⟩
    · have e : Hid (rv N k = rv N (min x.toNat 64)) := congrArg (rv N) (by omega)
      have hd : decide ((k : Int) < x) = false := decide_eq_false ha
      go_wp2_with fail
      go_ret
      exact ⟨congrArg (fun z : Nat => Ending.returned (.int .u64 z)) e.out, rfl⟩

theorem rlog_nat (N : Nat) (w : World) (hN : N < big) :
    Calls Try.prog 21 #[.int .u64 N] w fun e w' => e = .returned (.int .i64 (lg N)) ∧ w = w' := by
  go_enter Try.func21, Try.ntmps21
  go_wp2
  go_loop [0, 3] (fun a b => ∃ k : Nat, (k = 0 ∨ N / 2 ^ (k - 1) ≠ 0) ∧ a = .int .u64 ((N : Int) / 2 ^ k) ∧ b = .int .i64 ((k : Int) - 1)) (fun _ b => (64 - intOf b).toNat)
  case atStart => exact ⟨0, Or.inl rfl, by simp, rfl⟩
  case round =>
    obtain ⟨k, hk, rfl, rfl⟩ := hrel
    have HK := Lib.hid hk
    have hk64 : k ≤ 64 := by
      rcases hk with h | h
      · omega
      · have := halves_lt N (k - 1) hN h; omega
    clear hk
    have h1 := halves_nonneg N k
    have h2 := halves_le N k hN
    by_cases hz : (N : Int) / 2 ^ k = 0
    · have hv := Lib.hid (lg_of N k (halves_zero N k hz) HK.out)
      have hb : (N : Int) / 2 ^ k ≤ 0 := by omega
      clear hz
      go_wp2
      go_ret
      exact ⟨congrArg (fun z => Ending.returned (.int .i64 z)) hv.out.symm, rfl⟩
    · have hv := Lib.hid (halves_ne N k hz)
      have hb : 0 < (N : Int) / 2 ^ k := by omega
      have h4 := halves_lt N k hN hv.out
      clear hz
      go_wp2
      go_round
      case rel => exact ⟨k + 1, Or.inr hv.out, congrArg (Value.int .u64) (div_step N k), by go_num⟩
      case measure => simp [intOf]; omega

theorem rup_any (n to : Int) (w : World) (h3 : n ≤ 9223372036854775807) (h4 : to ≤ 9223372036854775807) :
    Calls Try.prog 23 #[.int .i64 n, .int .i64 to] w fun e w' => e = .returned (.int .i64 (up n to)) ∧ w = w' := by
  by_cases h1 : n < 1
  · have hv := Lib.hid (show up n to = 0 by unfold up; rw [if_pos (Or.inl h1)])
    go_enter Try.func23, Try.ntmps23
    go_wp2
    go_ret
    exact ⟨congrArg (fun z => Ending.returned (.int .i64 z)) hv.out.symm, rfl⟩
  by_cases h2 : to < 1
  · have hv := Lib.hid (show up n to = 0 by unfold up; rw [if_pos (Or.inr h2)])
    have h1' : 1 ≤ n := by omega
    clear h1
    go_enter Try.func23, Try.ntmps23
    go_wp2
    go_ret
    exact ⟨congrArg (fun z => Ending.returned (.int .i64 z)) hv.out.symm, rfl⟩
  have h1' : 1 ≤ n := by omega
  have h2' : 1 ≤ to := by omega
  clear h1 h2
  by_cases h5 : 4611686018427387904 < n
  · have hv := Lib.hid (up_far n to h1' h2' (Or.inl h5))
    go_enter Try.func23, Try.ntmps23
    go_wp2
    go_ret
    exact ⟨congrArg (fun z => Ending.returned (.int .i64 z)) hv.out.symm, rfl⟩
  by_cases h6 : 4611686018427387904 < to
  · have hv := Lib.hid (up_far n to h1' h2' (Or.inr h6))
    have h5' : n ≤ 4611686018427387904 := by omega
    clear h5
    go_enter Try.func23, Try.ntmps23
    go_wp2
    go_ret
    exact ⟨congrArg (fun z => Ending.returned (.int .i64 z)) hv.out.symm, rfl⟩
  have h5' : n ≤ 4611686018427387904 := by omega
  have h6' : to ≤ 4611686018427387904 := by omega
  clear h5 h6
  have hr1 := Int.emod_nonneg n (show to ≠ 0 by omega)
  have hr2 := Int.emod_lt_of_pos n (show 0 < to by omega)
  by_cases h7 : n % to = 0
  · have hv := Lib.hid (up_at0 n to h1' h2' h5' h7)
    have hb : (n % to == 0) = true := by simp [h7]
    clear h7
    go_enter Try.func23, Try.ntmps23
    go_wp2
    go_ret
    exact ⟨congrArg (fun z => Ending.returned (.int .i64 z)) hv.out.symm, rfl⟩
  · have hb : (n % to == 0) = false := by simp [h7]
    by_cases h8 : 4611686018427387904 - to < n - n % to
    · have hv := Lib.hid (up_at1 n to h1' h2' h7 h8)
      clear h7
      go_enter Try.func23, Try.ntmps23
      go_wp2
      go_ret
      exact ⟨congrArg (fun z => Ending.returned (.int .i64 z)) hv.out.symm, rfl⟩
    · have hv := Lib.hid (up_at2 n to h1' h2' h7 h8)
      have h9 : n - n % to ≤ 4611686018427387904 - to := by omega
      clear h7 h8
      go_enter Try.func23, Try.ntmps23
      go_wp2
      go_ret
      exact ⟨congrArg (fun z => Ending.returned (.int .i64 z)) hv.out.symm, rfl⟩
end Go.Proofs.Ytkkkcklinedbkaa
