/- What Put and Get of package word answer. Conditions: as each theorem names them. -/
import Derived.Test.YtbbfbijgclpjeaaProg
import Derived.Deep.OwnRows
import Derived.Laws.BytesString
import Derived.Laws.Cells
import Derived.Lib.Hide
import Derived.Outline
import Derived.Test.YtbbfbijgclpjeaaMath
import Derived.Test.YtbbfbijgclpjeaaMathB
import Derived.WalkKit
namespace Go.Proofs.Ytbbfbijgclpjeaa.O
open Go Go.RowKit M

theorem isSize_yes (x : Int) (w : World) (h1 : 1 ≤ x) (h2 : x ≤ 8) :
    Calls Try.prog 48 #[.int .i64 x] w fun e w' => e = .returned (.bool true) ∧ w = w' := by
  go_enter Try.func48, Try.ntmps48
  go_wp2
  go_ret
  exact ⟨rfl, rfl⟩

theorem isSize_no (x : Int) (w : World) (h : ¬ (1 ≤ x ∧ x ≤ 8)) :
    Calls Try.prog 48 #[.int .i64 x] w fun e w' => e = .returned (.bool false) ∧ w = w' := by
  by_cases h1 : 1 ≤ x
  · have h2 : decide (x ≤ 8) = false := by simp; omega
    clear h
    go_enter Try.func48, Try.ntmps48
    go_wp2
    go_ret
    exact ⟨rfl, rfl⟩
  · have h3 : x < 1 := by omega
    clear h
    go_enter Try.func48, Try.ntmps48
    go_wp2
    go_ret
    exact ⟨rfl, rfl⟩

theorem fits_any (n x : Int) (w : World) (h0 : 0 ≤ n) (h1 : 1 ≤ x) (h8 : x ≤ 8) :
    Calls Try.prog 49 #[.int .u64 n, .int .i64 x] w fun e w' => e = .returned (.bool (decide (n.toNat < 256 ^ x.toNat))) ∧ w = w' := by
  have h3 : 0 ≤ 8 * x := by omega
  go_enter Try.func49, Try.ntmps49
  go_wp2
  go_ret
  exact ⟨congrArg (fun z => Ending.returned (.bool z)) (fits_val n x h0 (by omega)), rfl⟩

theorem zeros8 (W : World) (N : Nat) : (W.alloc (.cells #[.int .u8 0, .int .u8 0, .int .u8 0, .int .u8 0, .int .u8 0, .int .u8 0, .int .u8 0, .int .u8 0] 91)).rowIs W.heap.size 91 8
    (fun j => .int .u8 (if j < 0 then (N / 256 ^ j % 256 : Nat) else 0)) := by
  refine World.rowIs_alloc W _ _ _ ?_
  intro i hi
  have h : i < 8 := hi
  have h' : i = 0 ∨ i = 1 ∨ i = 2 ∨ i = 3 ∨ i = 4 ∨ i = 5 ∨ i = 6 ∨ i = 7 := by omega
  rcases h' with rfl | rfl | rfl | rfl | rfl | rfl | rfl | rfl <;> rfl

theorem conv_row {w : World} {b s c : Nat} {t : TypeId} {f : Nat → Int} (N : Nat) (h : w.rowIs b t 8 (fun j => .int .u8 (f j))) (hs : s ≤ 8) (hf : ∀ j, j < s → f j = ((N / 256 ^ j % 256 : Nat) : Int)) :
    (convert 61 9 (.slice (some ⟨b, 0, none⟩) s c)).run Try.prog w = .ok (.string (bstr (le N s))) w := by
  rw [run_convert_bytes_string (P := Try.prog) w 61 9 5 _ _ _ Try.underlying61 Try.underlying5 Try.underlying9]
  have hl := run_loadCells (P := Try.prog) w ⟨b, 0, none⟩ s (fun j => .int .u8 (f j)) (fun j hj => by
    have := h.cell (i := j) (by omega)
    by_cases e : j = 0
    · subst e; simpa [Addr.add] using this
    · simpa [Addr.add, e] using this)
  rw [run_bytesToString (P := Try.prog) w ⟨b, 0, none⟩ s c ((List.range s).map f) (by rw [hl]; simp [List.map_map, Function.comp_def])]
  rw [str_le N s f hf]

theorem len8 : Try.prog.arrayLen 91 = 8 := by kernel_rfl
theorem arr8 : Try.prog.underlying 91 = some (.array 8 5) := by kernel_rfl
theorem slice8 (w : World) (b k : Nat) (hk : k ≤ 8) :
    (Instr.sliceAt 91 (.pointer (some ⟨b, 0, none⟩)) none (some (.int .i64 k)) none).run Try.prog w = .ok (.slice (some ⟨b, 0, none⟩) k 8) w := by
  have h := run_sliceAt_array_h (P := Try.prog) w 91 ⟨b, 0, none⟩ (by kernel_rfl) .i64 k (by omega) (by rw [len8]; omega)
  rw [h]
  have hs : (sizeOf (Try.prog.elem 91)).run Try.prog w = .ok 1 w := by kernel_rfl
  rw [hs]
  simp [Result.andThen, slicedAt, len8, Addr.add]

theorem put_yes (N s : Nat) (w : World) (h1 : 1 ≤ s) (h8 : s ≤ 8) (hf : N < 256 ^ s) :
    Calls Try.prog 40 #[.int .u64 N, .int .i64 s] w fun e w' => e = .returned (.tuple #[.string (bstr (le N s)), .bool true]) ∧ Below w.heap.size w w' := by
  have hfit : Hid (decide ((N : Int).toNat < 256 ^ (s : Int).toNat) = true) := decide_eq_true hf
  obtain ⟨W, rfl⟩ : ∃ W : World, W = w := ⟨_, rfl⟩
  go_enter Try.func40, Try.ntmps40
  go_wp2_with (first
    | (go_at_call 48; refine (isSize_yes _ _ (by omega) (by omega)).mono ?_; rintro e w' ⟨rfl, rfl⟩)
    | (go_at_call 49; refine (fits_any _ _ _ (by omega) (by omega) (by omega)).mono ?_; rintro e w' ⟨rfl, rfl⟩; rw [hfit.out]))
  go_loopw [7, 18] (fun u i wr => ∃ k : Nat, k ≤ s ∧ i = .int .i64 k ∧ wr.rowIs W.heap.size 91 8 (fun j => .int .u8 (if j < k then (N / 256 ^ j % 256 : Nat) else 0)) ∧ Below W.heap.size W wr) (fun _ i _ => s - (intOf i).toNat)
  case atStart => exact ⟨0, Nat.zero_le _, rfl, zeros8 W N, (Below.refl _ _).alloc (Nat.le_refl _) _⟩
  case round =>
    obtain ⟨k, hk, rfl, hr, hb⟩ := hrel
    have hz := hb.size
    by_cases hlt : k < s
    · have hc := hr.cell (i := k) (by omega)
      have hfz := hr.frozen k
      have hr' := Lib.hid hr
      have hb' := Lib.hid hb
      clear hr hb
      have h3 : 0 ≤ 8 * (k : Int) := by omega
      go_wp2
      go_roundw
      case rel =>
        refine ⟨k + 1, by omega, by go_num, ((hr'.out.set k _).congr ?_), hb'.out.setCell (Nat.le_refl _) _⟩
        intro i hi
        by_cases e : i = k
        · subst e
          rw [if_pos rfl, if_pos (by omega), byte_step]
        · rw [if_neg e]
          by_cases e2 : i < k
          · rw [if_pos e2, if_pos (by omega)]
          · rw [if_neg e2, if_neg (by omega)]
      case measure => simp [intOf]; omega
    · obtain rfl : k = s := by omega
      have hconv := fun c => conv_row (c := c) N hr h8 (fun j hj => if_pos hj)
      have hb' := Lib.hid hb
      clear hr hb
      have hsl := slice8 wr W.heap.size k h8
      go_wp2
      go_ret2
      exact ⟨rfl, hb'.out⟩

theorem put_no (n x : Int) (w : World) (h0 : 0 ≤ n) (h : ¬ (1 ≤ x ∧ x ≤ 8 ∧ n.toNat < 256 ^ x.toNat)) :
    Calls Try.prog 40 #[.int .u64 n, .int .i64 x] w fun e w' => e = .returned (.tuple #[.string ⟨#[]⟩, .bool false]) ∧ w = w' := by
  by_cases hs : 1 ≤ x ∧ x ≤ 8
  · have hfit : Hid (decide (n.toNat < 256 ^ x.toNat) = false) := decide_eq_false (fun g => h ⟨hs.1, hs.2, g⟩)
    obtain ⟨h1, h2⟩ := hs
    clear h
    go_enter Try.func40, Try.ntmps40
    go_wp2_with (first
      | (go_at_call 48; refine (isSize_yes _ _ h1 h2).mono ?_; rintro e w' ⟨rfl, rfl⟩)
      | (go_at_call 49; refine (fits_any _ _ _ h0 h1 h2).mono ?_; rintro e w' ⟨rfl, rfl⟩; rw [hfit.out]))
    go_ret2
    exact ⟨rfl, rfl⟩
  · have hs' := Lib.hid hs
    clear h hs
    go_enter Try.func40, Try.ntmps40
    go_wp2_with (go_at_call 48; refine (isSize_no _ _ hs'.out).mono ?_; rintro e w' ⟨rfl, rfl⟩)
    go_ret2
    exact ⟨rfl, rfl⟩

theorem get_yes (s : ByteArray) (at_ k : Nat) (w : World) (hs : s.size ≤ maxLen) (h1 : 1 ≤ k) (h8 : k ≤ 8) (ha : at_ + k ≤ s.size) :
    Calls Try.prog 41 #[.string s, .int .i64 at_, .int .i64 k] w fun e w' => e = .returned (.tuple #[.int .u64 (vl ((s.data.toList.drop at_).take k)), .bool true]) ∧ w = w' := by
  unfold maxLen at hs
  go_enter Try.func41, Try.ntmps41
  go_wp2_with (go_at_call 48; refine (isSize_yes _ _ (by omega) (by omega)).mono ?_; rintro e w' ⟨rfl, rfl⟩)
  go_loop [8, 9, 26] (fun n j i => ∃ m : Nat, m ≤ k ∧ i = .int .i64 m ∧ n = .int .u64 (vl ((s.data.toList.drop at_).take m))) (fun _ _ i => k - (intOf i).toNat)
  case atStart => exact ⟨0, Nat.zero_le _, rfl, rfl⟩
  case round =>
    obtain ⟨m, hm, rfl, rfl⟩ := hrel
    by_cases hlt : m < k
    · have h3 : 0 ≤ 8 * (m : Int) := by omega
      go_wp2_with fail
      go_round
      case rel => exact ⟨m + 1, by omega, by go_num, congrArg (Value.int .u64) (get_step s at_ m (by omega) (by omega))⟩
      case measure => simp [intOf]; omega
    · obtain rfl : m = k := by omega
      go_wp2_with fail
      go_ret2
      exact ⟨rfl, rfl⟩

theorem get_no (s : ByteArray) (a k : Int) (w : World) (hs : s.size ≤ maxLen) (h : ¬ (1 ≤ k ∧ k ≤ 8 ∧ 0 ≤ a ∧ a + k ≤ s.size)) :
    Calls Try.prog 41 #[.string s, .int .i64 a, .int .i64 k] w fun e w' => e = .returned (.tuple #[.int .u64 0, .bool false]) ∧ w = w' := by
  unfold maxLen at hs
  by_cases hk : 1 ≤ k ∧ k ≤ 8
  · obtain ⟨h1, h2⟩ := hk
    by_cases h0 : 0 ≤ a
    · have h3 : (s.size : Int) - k < a := by omega
      clear h
      go_enter Try.func41, Try.ntmps41
      go_wp2_with (go_at_call 48; refine (isSize_yes _ _ h1 h2).mono ?_; rintro e w' ⟨rfl, rfl⟩)
      go_ret2
      exact ⟨rfl, rfl⟩
    · have h3 : a < 0 := by omega
      clear h h0
      go_enter Try.func41, Try.ntmps41
      go_wp2_with (go_at_call 48; refine (isSize_yes _ _ h1 h2).mono ?_; rintro e w' ⟨rfl, rfl⟩)
      go_ret2
      exact ⟨rfl, rfl⟩
  · have hk' := Lib.hid hk
    clear h hk
    go_enter Try.func41, Try.ntmps41
    go_wp2_with (go_at_call 48; refine (isSize_no _ _ hk'.out).mono ?_; rintro e w' ⟨rfl, rfl⟩)
    go_ret2
    exact ⟨rfl, rfl⟩

end Go.Proofs.Ytbbfbijgclpjeaa.O
