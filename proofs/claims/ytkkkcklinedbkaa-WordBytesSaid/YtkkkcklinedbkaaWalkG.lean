/- The small known case, alive, returns true in any world. Conditions: none. -/
import Derived.Test.YtkkkcklinedbkaaWalkF
import Derived.BigQuiet
import Derived.Deep.QuietTactic
namespace Go.Proofs.Ytkkkcklinedbkaa
open Go.RowKit M

theorem a_put1 (w : World) : Calls Try.prog 10 #[.int .u64 258, .int .i64 2] w fun e w' => e = .returned (.tuple #[.string ⟨#[2, 1]⟩, .bool true]) ∧ Below w.heap.size w w' := put_any 258 2 w (by decide)
theorem a_put2 (w : World) : Calls Try.prog 10 #[.int .u64 256, .int .i64 1] w fun e w' => e = .returned (.tuple #[.string ⟨#[]⟩, .bool false]) ∧ Below w.heap.size w w' := put_any 256 1 w (by decide)
theorem a_get1 (w : World) : Calls Try.prog 12 #[.string ⟨#[120, 2, 1]⟩, .int .i64 1, .int .i64 2] w fun e w' => e = .returned (.tuple #[.int .u64 258, .bool true]) ∧ w = w' := get_any _ 1 2 w (by decide)
theorem a_get2 (w : World) : Calls Try.prog 12 #[.string ⟨#[120]⟩, .int .i64 1, .int .i64 1] w fun e w' => e = .returned (.tuple #[.int .u64 0, .bool false]) ∧ w = w' := get_any _ 1 1 w (by decide)
theorem a_small (w : World) : Calls Try.prog 14 #[.int .i64 7, .int .i64 1] w fun e w' => e = .returned (.tuple #[.int .u64 7, .bool true]) ∧ w = w' := small_any 7 1 w (by decide)
theorem a_turn1 (w : World) : Calls Try.prog 18 #[.int .u64 6, .int .i64 4] w fun e w' => e = .returned (.int .u64 6) ∧ w = w' := turn_any 6 4 w (by decide) (by decide)
theorem a_turn2 (w : World) : Calls Try.prog 18 #[.int .u64 1, .int .i64 3] w fun e w' => e = .returned (.int .u64 4) ∧ w = w' := turn_any 1 3 w (by decide) (by decide)
theorem a_up (w : World) : Calls Try.prog 22 #[.int .i64 17, .int .i64 16] w fun e w' => e = .returned (.int .i64 32) ∧ w = w' := up_any 17 16 w (by decide) (by decide)
theorem a_log (w : World) : Calls Try.prog 20 #[.int .u64 1024] w fun e w' => e = .returned (.int .i64 10) ∧ w = w' := log_any 1024 w (by decide) (by decide)
theorem a_mask (w : World) : Calls Try.prog 16 #[.int .i64 3] w fun e w' => e = .returned (.int .u64 7) ∧ w = w' := mask_any 3 w

theorem alive_any (w : World) : Calls Try.prog 9 #[] w fun e w' => e = .returned (.bool true) ∧ Below w.heap.size w w' := by
  go_enter Try.func9, Try.ntmps9
  go_wp2_with fail
  refine (a_put1 _).mono ?_; rintro e w1 ⟨rfl, hb1⟩
  go_wp2_with fail
  refine (a_put2 _).mono ?_; rintro e w2 ⟨rfl, hb2⟩
  go_wp2_with fail
  refine (a_get1 _).mono ?_; rintro e w' ⟨rfl, rfl⟩
  go_wp2_with fail
  refine (a_get2 _).mono ?_; rintro e w' ⟨rfl, rfl⟩
  go_wp2_with fail
  refine (a_small _).mono ?_; rintro e w' ⟨rfl, rfl⟩
  go_wp2_with fail
  refine (a_turn1 _).mono ?_; rintro e w' ⟨rfl, rfl⟩
  go_wp2_with fail
  refine (a_turn2 _).mono ?_; rintro e w' ⟨rfl, rfl⟩
  go_wp2_with fail
  refine (a_up _).mono ?_; rintro e w' ⟨rfl, rfl⟩
  go_wp2_with fail
  refine (a_log _).mono ?_; rintro e w' ⟨rfl, rfl⟩
  go_wp2_with fail
  refine (a_mask _).mono ?_; rintro e w' ⟨rfl, rfl⟩
  go_wp2_with fail
  go_ret
  exact ⟨rfl, hb1.trans (hb2.mono hb1.size)⟩
end Go.Proofs.Ytkkkcklinedbkaa
