/- What Get of package word, and the document's Get, answer, for any text, place and size. Conditions: as each theorem names them. -/
import Derived.Test.YtkkkcklinedbkaaWalkC
namespace Go.Proofs.Ytkkkcklinedbkaa
open Go.RowKit M

theorem get_yes (s : ByteArray) (at_ k : Nat) (w : World) (hs : s.size ≤ maxLen) (h1 : 1 ≤ k) (h8 : k ≤ 8) (ha : at_ + k ≤ s.size) :
    Calls Try.prog 12 #[.string s, .int .i64 at_, .int .i64 k] w fun e w' => e = .returned (.tuple #[.int .u64 (vl ((s.data.toList.drop at_).take k)), .bool true]) ∧ w = w' := by
  unfold maxLen at hs
  go_enter Try.func12, Try.ntmps12
  go_wp2_with (go_at_call 24; refine (isSize_yes _ _ (by omega) (by omega)).mono ?_; rintro e w' ⟨rfl, rfl⟩)
  go_loop [8, 9, 26] (fun n j i => ∃ m : Nat, m ≤ k ∧ i = .int .i64 m ∧ n = .int .u64 (vl ((s.data.toList.drop at_).take m))) (fun _ _ i => k - (intOf i).toNat)
  case atStart => exact ⟨0, Nat.zero_le _, rfl, rfl⟩
  case round =>
    obtain ⟨m, hm, rfl, rfl⟩ := hrel
    by_cases hlt : m < k
    · have h3 : 0 ≤ 8 * (m : Int) := by omega
      go_wp2_with fail
      go_round
      case rel => exact ⟨m + 1, by omega, by go_num, congrArg (Value.int .u64) (get_step s at_ m (by omega) (by omega))⟩
      case measure => simp [intOf]; omega
    · obtain rfl : m = k := by omega
      go_wp2_with fail
      go_ret2
      exact ⟨rfl, rfl⟩

theorem get_no (s : ByteArray) (a k : Int) (w : World) (hs : s.size ≤ maxLen) (h : ¬ (1 ≤ k ∧ k ≤ 8 ∧ 0 ≤ a ∧ a + k ≤ s.size)) :
    Calls Try.prog 12 #[.string s, .int .i64 a, .int .i64 k] w fun e w' => e = .returned (.tuple #[.int .u64 0, .bool false]) ∧ w = w' := by
  unfold maxLen at hs
  by_cases hk : 1 ≤ k ∧ k ≤ 8
  · obtain ⟨h1, h2⟩ := hk
    by_cases h0 : 0 ≤ a
    · have h3 : (s.size : Int) - k < a := by omega
      clear h
      go_enter Try.func12, Try.ntmps12
      go_wp2_with (go_at_call 24; refine (isSize_yes _ _ h1 h2).mono ?_; rintro e w' ⟨rfl, rfl⟩)
      go_ret2
      exact ⟨rfl, rfl⟩
    · have h3 : a < 0 := by omega
      clear h h0
      go_enter Try.func12, Try.ntmps12
      go_wp2_with (go_at_call 24; refine (isSize_yes _ _ h1 h2).mono ?_; rintro e w' ⟨rfl, rfl⟩)
      go_ret2
      exact ⟨rfl, rfl⟩
  · have hk' := Lib.hid hk
    clear h hk
    go_enter Try.func12, Try.ntmps12
    go_wp2_with (go_at_call 24; refine (isSize_no _ _ hk'.out).mono ?_; rintro e w' ⟨rfl, rfl⟩)
    go_ret2
    exact ⟨rfl, rfl⟩

theorem rget_yes (s : ByteArray) (at_ k : Nat) (w : World) (hs : s.size ≤ maxLen) (h1 : 1 ≤ k) (h8 : k ≤ 8) (ha : at_ + k ≤ s.size) :
    Calls Try.prog 13 #[.string s, .int .i64 at_, .int .i64 k] w fun e w' => e = .returned (.tuple #[.int .u64 (vl ((s.data.toList.drop at_).take k)), .bool true]) ∧ w = w' := by
  unfold maxLen at hs
  go_enter Try.func13, Try.ntmps13
  go_wp2_with fail
  go_loop [8, 9] (fun n i => ∃ m : Nat, m ≤ k ∧ i = .int .i64 ((at_ + (k - m) : Nat) : Int) ∧ n = .int .u64 (vl ((s.data.toList.drop (at_ + (k - m))).take m))) (fun _ i => (intOf i).toNat)
  case atStart => exact ⟨0, Nat.zero_le _, by go_num, rfl⟩
  case round =>
    obtain ⟨m, hm, rfl, rfl⟩ := hrel
    by_cases hlt : m < k
    · obtain ⟨j, hj⟩ : ∃ j, j = at_ + (k - (m + 1)) := ⟨_, rfl⟩
      have e1 : at_ + (k - m) = j + 1 := by omega
      have hj2 : at_ ≤ j := by omega
      have hj3 : j < s.size := by omega
      have hj' := Lib.hid hj
      rw [e1]
      clear e1 hj
      go_wp2_with fail
      go_round
      case rel =>
        refine ⟨m + 1, by omega, ?_, ?_⟩
        · rw [← hj'.out]
        · rw [← hj'.out]
          exact congrArg (Value.int .u64) (rget_step s j m hj3 (by omega))
      case measure => simp [intOf]
    · obtain rfl : m = k := by omega
      have e1 : at_ + (m - m) = at_ := by omega
      rw [e1]
      clear e1
      go_wp2_with fail
      go_ret2
      exact ⟨rfl, rfl⟩

theorem rget_no (s : ByteArray) (a k : Int) (w : World) (h : ¬ (1 ≤ k ∧ k ≤ 8 ∧ 0 ≤ a ∧ a + k ≤ s.size)) :
    Calls Try.prog 13 #[.string s, .int .i64 a, .int .i64 k] w fun e w' => e = .returned (.tuple #[.int .u64 0, .bool false]) ∧ w = w' := by
  by_cases h1 : 1 ≤ k
  · by_cases h2 : k ≤ 8
    · by_cases h0 : 0 ≤ a
      · by_cases h3 : a ≤ s.size
        · have h4 : (s.size : Int) - a < k := by omega
          clear h
          go_enter Try.func13, Try.ntmps13
          go_wp2_with fail
          go_ret2
          exact ⟨rfl, rfl⟩
        · have h4 : (s.size : Int) < a := by omega
          clear h h3
          go_enter Try.func13, Try.ntmps13
          go_wp2_with fail
          go_ret2
          exact ⟨rfl, rfl⟩
      · have h4 : a < 0 := by omega
        clear h h0
        go_enter Try.func13, Try.ntmps13
        go_wp2_with fail
        go_ret2
        exact ⟨rfl, rfl⟩
    · have h4 : 8 < k := by omega
      clear h h2
      go_enter Try.func13, Try.ntmps13
      go_wp2_with fail
      go_ret2
      exact ⟨rfl, rfl⟩
  · have h4 : k < 1 := by omega
    clear h h1
    go_enter Try.func13, Try.ntmps13
    go_wp2_with fail
    go_ret2
    exact ⟨rfl, rfl⟩

end Go.Proofs.Ytkkkcklinedbkaa
