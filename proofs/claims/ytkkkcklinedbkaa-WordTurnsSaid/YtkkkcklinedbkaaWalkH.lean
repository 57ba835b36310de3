/- The walks of WordBytes and WordBits: they return true for any arguments that their kinds hold. Conditions: none. -/
import Derived.Test.YtkkkcklinedbkaaWalkG
namespace Go.Proofs.Ytkkkcklinedbkaa
open Go.RowKit M
set_option linter.unusedVariables false

theorem u64_bounds {a : Int} (h : (Lit.int .u64 a).wf = true) : 0 ≤ a ∧ a.toNat < big := by
  have g : 0 ≤ a ∧ a ≤ 18446744073709551615 := by simpa [Lit.wf, IntKind.min, IntKind.max, IntKind.signed, IntKind.bits] using h
  exact ⟨g.1, by unfold big; omega⟩
theorem i64_bounds {a : Int} (h : (Lit.int .i64 a).wf = true) : -9223372036854775808 ≤ a ∧ a ≤ 9223372036854775807 := by
  simpa [Lit.wf, IntKind.min, IntKind.max, IntKind.signed, IntKind.bits] using h

theorem WordBytes_walk (a0 a1 : Int) (a2 : ByteArray) (a3 a4 : Int) (w : World) (w0 : (Lit.int .u64 a0).wf = true) (w1 : (Lit.int .i64 a1).wf = true) (w2 : a2.size ≤ maxLen) (w3 : (Lit.int .i64 a3).wf = true) (w4 : (Lit.int .i64 a4).wf = true) :
    Calls Try.prog 3 #[.int .u64 a0, .int .i64 a1, .string a2, .int .i64 a3, .int .i64 a4] w fun e w' => e = .returned (.bool true) ∧ Below w.heap.size w w' := by
  have hn := u64_bounds w0
  have hx := i64_bounds w4
  by_cases hl : 4096 < a2.size
  · go_enter Try.func3, Try.ntmps3
    go_wp2_with fail
    refine (alive_any _).mono ?_; rintro e w' ⟨rfl, hb⟩
    go_wp2_with fail
    go_ret
    exact ⟨rfl, hb⟩
  · have hl' : a2.size ≤ 4096 := by omega
    clear hl
    go_enter Try.func3, Try.ntmps3
    go_wp2_with fail
    refine (put_any a0 a1 _ hn.1).mono ?_; rintro e W1 ⟨rfl, hb1⟩
    go_wp2_with fail
    refine (rput_any a0 a1 _ hn.1 hn.2).mono ?_; rintro e W2 ⟨rfl, hb2⟩
    go_wp2_with fail
    refine (get_any a2 a3 a1 _ w2).mono ?_; rintro e w' ⟨rfl, rfl⟩
    go_wp2_with fail
    refine (rget_any a2 a3 a1 _ w2).mono ?_; rintro e w' ⟨rfl, rfl⟩
    go_wp2_with fail
    refine (small_any a4 a1 _ hx.2).mono ?_; rintro e w' ⟨rfl, rfl⟩
    go_wp2_with fail
    refine (rsmall_any a4 a1 _ hx.2).mono ?_; rintro e W3 ⟨rfl, hb3⟩
    go_wp2_with fail
    refine (alive_any _).mono ?_; rintro e W4 ⟨rfl, hb4⟩
    go_wp2_with fail
    go_ret
    exact ⟨rfl, ((hb1.trans (hb2.mono hb1.size)).trans (hb3.mono (Nat.le_trans hb1.size hb2.size))).trans (hb4.mono (Nat.le_trans (Nat.le_trans hb1.size hb2.size) hb3.size))⟩

theorem WordBits_walk (a0 a1 a2 a3 : Int) (w : World) (w0 : (Lit.int .u64 a0).wf = true) (w1 : (Lit.int .i64 a1).wf = true) (w2 : (Lit.int .i64 a2).wf = true) (w3 : (Lit.int .i64 a3).wf = true) :
    Calls Try.prog 4 #[.int .u64 a0, .int .i64 a1, .int .i64 a2, .int .i64 a3] w fun e w' => e = .returned (.bool true) ∧ Below w.heap.size w w' := by
  have hn := u64_bounds w0
  have h2 := i64_bounds w2
  have h3 := i64_bounds w3
  go_enter Try.func4, Try.ntmps4
  go_wp2_with fail
  refine (mask_any a1 _).mono ?_; rintro e w' ⟨rfl, rfl⟩
  go_wp2_with fail
  refine (rmask_any a1 _).mono ?_; rintro e w' ⟨rfl, rfl⟩
  go_wp2_with fail
  refine (turn_any a0 a1 _ hn.1 hn.2).mono ?_; rintro e w' ⟨rfl, rfl⟩
  go_wp2_with fail
  refine (rturn_any a0 a1 _ hn.1 hn.2).mono ?_; rintro e w' ⟨rfl, rfl⟩
  go_wp2_with fail
  refine (log_any a0 _ hn.1 hn.2).mono ?_; rintro e w' ⟨rfl, rfl⟩
  go_wp2_with fail
  refine (rlog_any a0 _ hn.1 hn.2).mono ?_; rintro e w' ⟨rfl, rfl⟩
  go_wp2_with fail
  refine (up_any a2 a3 _ h2.2 h3.2).mono ?_; rintro e w' ⟨rfl, rfl⟩
  go_wp2_with fail
  refine (rup_any a2 a3 _ h2.2 h3.2).mono ?_; rintro e w' ⟨rfl, rfl⟩
  go_wp2_with fail
  refine (alive_any _).mono ?_; rintro e W4 ⟨rfl, hb4⟩
  go_wp2_with fail
  go_ret
  exact ⟨rfl, hb4⟩
end Go.Proofs.Ytkkkcklinedbkaa
