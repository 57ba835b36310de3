/- ModsBack returns true for any argument that its kinds hold. Conditions: none. -/
import Derived.Test.YtbbfbijgclpjeaaOlD
namespace Go.Proofs.Ytbbfbijgclpjeaa
open Go Go.RowKit M O
set_option linter.unusedVariables false
set_option linter.unusedSimpArgs false

set_option maxRecDepth 1000000 in
set_option maxHeartbeats 4000000 in
theorem ModsBack_walk (a0 : Option Addr) (len0 cap0 : Nat) (z0 : List Md) (a1 : Option Addr) (len1 cap1 : Nat) (z1 : List Md) (a2 a3 : Int) (W : World) (w0 : IsMds W a0 len0 z0) (w1 : IsMds W a1 len1 z1) (w2 : (Lit.int .u8 a2).wf = true) (w3 : (Lit.int .u16 a3).wf = true) :
    Calls Try.prog 6 #[.slice a0 len0 cap0, .slice a1 len1 cap1, .int .u8 a2, .int .u16 a3] W fun e w' => e = .returned (.bool true) ∧ Below W.heap.size W w' := by
  have HV := Lib.hid alive_any
  have hLg0 := long_any a0 len0 cap0 z0 W w0
  have hLg1 := long_any a1 len1 cap1 z1 W w1
  obtain ⟨y1, y2⟩ := u8_bounds w2
  have y34 : 0 ≤ a3 ∧ a3 ≤ 65535 := by simpa [Lit.wf, IntKind.min, IntKind.max, IntKind.signed, IntKind.bits] using w3
  obtain ⟨y3, y4⟩ := y34
  clear w2 w3
  cases hlg0 : lng z0 with
  | true =>
    rw [hlg0] at hLg0
    have HLg0 := Lib.hid hLg0
    clear hLg0 hLg1 hlg0 w0 w1
    go_enter Try.func6, Try.ntmps6
    go_wp2_with (first
      | (go_at_call 10; (with_reducible refine HLg0.out.mono ?_); rintro e w' ⟨rfl, rfl⟩)
      | (go_at_call 11; (with_reducible refine (HV.out _).mono ?_); rintro e w4 ⟨rfl, b4⟩; have B4 := Lib.hid b4; clear b4))
    go_ret
    exact ⟨rfl, B4.out⟩
  | false =>
    cases hlg1 : lng z1 with
    | true =>
      rw [hlg0] at hLg0
      rw [hlg1] at hLg1
      have HLg0 := Lib.hid hLg0
      have HLg1 := Lib.hid hLg1
      clear hLg0 hLg1 hlg0 hlg1 w0 w1
      go_enter Try.func6, Try.ntmps6
      go_wp2_with (first
        | (go_at_call 10; (with_reducible refine HLg0.out.mono ?_); rintro e w' ⟨rfl, rfl⟩)
        | (go_at_call 10; (with_reducible refine HLg1.out.mono ?_); rintro e w' ⟨rfl, rfl⟩)
        | (go_at_call 11; (with_reducible refine (HV.out _).mono ?_); rintro e w4 ⟨rfl, b4⟩; have B4 := Lib.hid b4; clear b4))
      go_ret
      exact ⟨rfl, B4.out⟩
    | false =>
      by_cases hok : oks (pgn a2 : Int) z0 = true ∧ oks (pgn a2 : Int) z1 = true
      · obtain ⟨K, rfl⟩ := Int.eq_ofNat_of_zero_le y3
        exact ModsBack_good a0 len0 cap0 z0 a1 len1 cap1 z1 a2 K W w0 w1 y1 y2 (by omega) hlg0 hlg1 hok.1 hok.2
      · rw [hlg0] at hLg0
        rw [hlg1] at hLg1
        have HLg0 := Lib.hid hLg0
        have HLg1 := Lib.hid hLg1
        obtain ⟨t1, t2⟩ := lng_no hlg0
        obtain ⟨t3, t4⟩ := lng_no hlg1
        have hsh := shl_pgn a2 y1
        obtain ⟨hpg, hn1, hn2⟩ := pgn_pg a2
        obtain ⟨n, hn⟩ : ∃ n, pgn a2 = n := ⟨_, rfl⟩
        rw [hn] at hsh hpg hok hn1 hn2
        have hs0 : szs z0 ≤ 40000 := by rw [szs_tsm]; omega
        have hs1 : szs z1 ≤ 40000 := by rw [szs_tsm]; omega
        obtain ⟨X0, E0, h0⟩ : ∃ X E, encl n z0 = (X, E) := ⟨_, _, rfl⟩
        obtain ⟨X1, E1, h1⟩ : ∃ X E, encl n z1 = (X, E) := ⟨_, _, rfl⟩
        have HE0 := Lib.hid (fun w hi => encode_is n a0 len0 cap0 z0 w hi (by omega) h0)
        have HE1 := Lib.hid (fun w hi => encode_is n a1 len1 cap1 z1 w hi (by omega) h1)
        have HW0 := Lib.hid w0
        have HW1 := Lib.hid w1
        have hcase : (E0 != 0) = true ∨ ((E0 != 0) = false ∧ (E1 != 0) = true) := by
          cases q0 : oks (n : Int) z0 with
          | false =>
            rw [enc_bad q0] at h0
            cases h0
            exact .inl rfl
          | true =>
            rw [enc_good q0] at h0
            cases h0
            cases q1 : oks (n : Int) z1 with
            | false =>
              rw [enc_bad q1] at h1
              cases h1
              exact .inr ⟨rfl, rfl⟩
            | true => exact absurd ⟨q0, q1⟩ hok
        clear hLg0 hLg1 hlg0 hlg1 w0 w1 t1 t2 t3 t4 hs0 hs1 h0 h1 hok hpg
        rcases hcase with c1 | ⟨c1, c2⟩
        all_goals
          go_enter Try.func6, Try.ntmps6
          go_wp2_with (first
            | (go_at_call 10; (with_reducible refine HLg0.out.mono ?_); rintro e w' ⟨rfl, rfl⟩)
            | (go_at_call 10; (with_reducible refine HLg1.out.mono ?_); rintro e w' ⟨rfl, rfl⟩))
          clear hsh hn
          go_wp2_with (first
            | (go_at_call 12; (with_reducible refine (HE0.out _ HW0.out).mono ?_); rintro e w4 ⟨rfl, b4⟩; have B4 := Lib.hid b4; clear b4)
            | (go_at_call 12; (with_reducible refine (HE1.out _ (HW1.out.below B4.out)).mono ?_); rintro e w5 ⟨rfl, b5⟩; have B5 := Lib.hid (B4.out.trans (b5.mono B4.out.size)); clear b5)
            | (go_at_call 11; (with_reducible refine (HV.out _).mono ?_); rintro e w6 ⟨rfl, b6⟩; have B6 := Lib.hid (B5.out.trans (b6.mono B5.out.size)); clear b6))
          go_ret
          exact ⟨rfl, B6.out⟩
end Go.Proofs.Ytbbfbijgclpjeaa
