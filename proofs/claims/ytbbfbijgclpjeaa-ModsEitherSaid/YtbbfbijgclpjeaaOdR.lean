/- What Blank and pages of layer 18's laws answer. Conditions: as each theorem names them. -/
import Derived.Test.YtbbfbijgclpjeaaOdI
import Derived.Test.YtbbfbijgclpjeaaOdH
import Derived.Deep.QuietTactic
import Derived.BigQuiet
namespace Go.Proofs.Ytbbfbijgclpjeaa.O
open Go Go.RowKit M
set_option linter.unusedVariables false
set_option linter.unusedSimpArgs false

theorem madeB (w : World) (n : Nat) (hn : n ≤ 40000) : (Instr.makeSlice 61 (.int .i64 (n : Int)) (.int .i64 (n : Int))).run Try.prog w = .ok (.slice (some ⟨w.heap.size, 0, none⟩) n n) (w.alloc (.cells (madeCells #[.int .u8 0] n) 5)) := by
  obtain ⟨i, h1, h2, h3, h4⟩ := info_of byteInfo
  exact run_make_row 61 5 i _ Try.underlying61 h1 h2 h3 rfl .i64 .i64 n (by rw [h4]; omega) (by omega) w
theorem conv_row8 {w : World} {b n cp : Nat} {f : Nat → Nat} (h : w.rowIs b 5 n (fun j => .int .u8 (f j : Nat))) (hf : ∀ j, j < n → f j < 256) :
    (convert 61 9 (.slice (some ⟨b, 0, none⟩) n cp)).run Try.prog w = .ok (.string ⟨((List.range n).map fun j => UInt8.ofNat (f j)).toArray⟩) w := by
  have hl : ((List.range n).map fun j => UInt8.ofNat (f j)).length = n := by rw [List.length_map, List.length_range]
  have := run_convert_bytes_back (P := Try.prog) w 61 9 5 ⟨b, 0, none⟩ cp ((List.range n).map fun j => UInt8.ofNat (f j)) Try.underlying61 Try.underlying5 Try.underlying9 (fun i hi => by
    rw [hl] at hi
    rw [madd_at, Nat.zero_add, h.cell hi, List.getElem_map, List.getElem_range, UInt8.toNat_ofNat', Nat.mod_eq_of_lt (hf i hi)])
  rw [hl] at this
  exact this
/-- so many of one byte -/
def blk (n c : Nat) : ByteArray := bstr (List.replicate n (UInt8.ofNat c))
theorem blk_size (n c : Nat) : (blk n c).size = n := by unfold blk; rw [bstr_size, List.length_replicate]
set_option maxRecDepth 100000 in
set_option maxHeartbeats 1000000 in
theorem blank_any (n c : Nat) (W : World) (hn : n ≤ 40000) (hc : c < 256) :
    Calls Try.prog 30 #[.int .i64 n, .int .u8 c] W fun e w' => e = .returned (.string (blk n c)) ∧ Below W.heap.size W w' := by
  have hmk := madeB W n hn
  go_enter Try.func30, Try.ntmps30
  go_wp2_with fail
  clear hmk
  go_loopw [6] (fun i wr => ∃ k : Nat, k ≤ n ∧ i = .int .i64 k ∧ wr.rowIs W.heap.size 5 n (fun j => .int .u8 ((if j < k then c else 0 : Nat) : Int)) ∧ Below W.heap.size W wr) (fun i _ => n - (intOf i).toNat)
  case atStart => exact ⟨0, Nat.zero_le _, rfl, (World.rowIs_made W (.int .u8 0) n 5).congr (fun i hi => by rw [if_neg (by omega)]; rfl), (Below.refl _ _).alloc (Nat.le_refl _) _⟩
  case round =>
    obtain ⟨k, hk, rfl, hr, hbl⟩ := hrel
    by_cases hlt : k < n
    · have hs := (World.rowIs.set hr k (.int .u8 (c : Int))).congr (g := fun j => .int .u8 ((if j < k + 1 then c else 0 : Nat) : Int)) (fun j hj => by
        by_cases e : j = k
        · rw [if_pos e, if_pos (by omega)]
        · rw [if_neg e]
          by_cases c2 : j < k
          · rw [if_pos c2, if_pos (by omega)]
          · rw [if_neg c2, if_neg (by omega)])
      have hce := World.rowIs.cell hr hlt
      have hf := World.rowIs.frozen hr k
      have HS := Lib.hid hs
      have HB := Lib.hid hbl
      have d1 : decide ((k : Int) < (n : Int)) = true := decide_eq_true (by omega)
      have d1' : decide (k < n) = true := decide_eq_true hlt
      clear hr hs hbl
      go_wp2_with fail
      go_roundw
      case rel => exact ⟨k + 1, by omega, by go_num, HS.out, HB.out.setCell (p := ⟨W.heap.size, k, none⟩) (Nat.le_refl _) _⟩
      case measure => simp [intOf]; omega
    · obtain rfl : k = n := by omega
      have hcv := conv_row8 (cp := k) (f := fun _ => c) (World.rowIs.congr hr (fun j hj => by rw [if_pos hj])) (fun _ _ => hc)
      have e : ((List.range k).map fun _ => UInt8.ofNat c) = List.replicate k (UInt8.ofNat c) := by
        apply List.ext_getElem?
        intro i
        rw [List.getElem?_map]
        rcases Nat.lt_or_ge i k with q | q
        · rw [List.getElem?_range q, List.getElem?_replicate, if_pos q]; rfl
        · rw [List.getElem?_eq_none (by simp; omega), List.getElem?_replicate, if_neg (by omega)]; rfl
      simp only [e] at hcv
      change _ = Result.ok (Value.string (blk k c)) _ at hcv
      have HB := Lib.hid hbl
      clear hr hbl e
      go_wp2_with fail
      go_ret
      exact ⟨rfl, HB.out⟩

/-- a page that begins with a text -/
def pgl (n : Nat) (s : ByteArray) (c : Nat) : List UInt8 := s.data.toList.take (min s.size n) ++ (List.replicate n (UInt8.ofNat c)).drop (min s.size n)
theorem pgl_length (n : Nat) (s : ByteArray) (c : Nat) : (pgl n s c).length = n := by
  unfold pgl
  rw [List.length_append, List.length_take, List.length_drop, List.length_replicate, size_list]; omega
/-- the pages' size -/
def pgn (z : Int) : Nat := 1024 * 2 ^ (z.toNat % 5)
theorem pgn_pg (z : Int) : pg (pgn z : Int) = true ∧ 1024 ≤ pgn z ∧ pgn z ≤ 16384 := by
  unfold pgn
  have : z.toNat % 5 = 0 ∨ z.toNat % 5 = 1 ∨ z.toNat % 5 = 2 ∨ z.toNat % 5 = 3 ∨ z.toNat % 5 = 4 := by omega
  rcases this with e | e | e | e | e <;> rw [e] <;> decide
theorem pages_at (n c : Nat) (s t : ByteArray) (W : World) (hn : n ≤ 16384) (hc : c < 256) (z m : Int) (hm : (n : Int) = m) (hz : (z % 5 = 0 ∧ n = 1024 ∧ m = 1024) ∨ (z % 5 = 1 ∧ n = 2048 ∧ m = 2048) ∨ (z % 5 = 2 ∧ n = 4096 ∧ m = 4096) ∨ (z % 5 = 3 ∧ n = 8192 ∧ m = 8192) ∨ (z % 5 = 4 ∧ n = 16384 ∧ m = 16384)) (hz0 : 0 ≤ z) (hz1 : z ≤ 255) :
    Calls Try.prog 27 #[.string s, .string t, .int .u8 z, .int .u8 c] W fun e w' => e = .returned (.tuple #[.string (bstr (pgl n s c)), .string (bstr (pgl n t c))]) ∧ Below W.heap.size W w' := by
  have hB0 := fun w => blank_any n c w (by omega) hc
  rw [hm] at hB0
  have HBl := Lib.hid hB0
  clear hB0
  have hbl : (blk n c).data.toList = List.replicate n (UInt8.ofNat c) := rfl
  have hbs : (blk n c).size = n := blk_size n c
  obtain ⟨P, hP⟩ : ∃ P, blk n c = P := ⟨_, rfl⟩
  rw [hP] at hbl hbs HBl
  clear hP
  obtain ⟨X, hX⟩ : ∃ X, pgl n s c = X := ⟨_, rfl⟩
  obtain ⟨Y, hY⟩ : ∃ Y, pgl n t c = Y := ⟨_, rfl⟩
  have hXl : X.length = n := by rw [← hX, pgl_length]
  have hYl : Y.length = n := by rw [← hY, pgl_length]
  rw [hX, hY]
  have hX2 : (P.data.toList.take 0 ++ s.data.toList.take (Nat.min s.size n) ++ P.data.toList.drop (0 + Nat.min s.size n)) = X := by rw [← hX, hbl, Nat.zero_add, List.take_zero, List.nil_append]; rfl
  have hY2 : (P.data.toList.take 0 ++ t.data.toList.take (Nat.min t.size n) ++ P.data.toList.drop (0 + Nat.min t.size n)) = Y := by rw [← hY, hbl, Nat.zero_add, List.take_zero, List.nil_append]; rfl
  have hPl : P.data.toList.length = n := by rw [hbl, List.length_replicate]
  have HX2 := Lib.hid hX2
  have HY2 := Lib.hid hY2
  have HPl := Lib.hid hPl
  have HXl := Lib.hid hXl
  have HYl := Lib.hid hYl
  clear hX hY hX2 hY2 hPl hXl hYl hbl
  have key : Calls Try.prog 27 #[.string s, .string t, .int .u8 z, .int .u8 c] W fun e w' => e = .returned (.tuple #[.string (bstr X), .string (bstr Y)]) ∧ Below W.heap.size W w' := by
    clear hm
    rcases hz with ⟨q1, rfl, rfl⟩ | ⟨q1, rfl, rfl⟩ | ⟨q1, rfl, rfl⟩ | ⟨q1, rfl, rfl⟩ | ⟨q1, rfl, rfl⟩
    all_goals
      go_enter Try.func27, Try.ntmps27
      go_wp2_with (go_at_call 30; (with_reducible refine (HBl.out _).mono ?_))
      rintro e w1 ⟨rfl, b1⟩
      obtain ⟨cp1, W2, hr1, hcp1, hB1, hbl1, hs1⟩ := run_bytes w1 P
      rw [hbs] at hr1
      have Y1 := Lib.hid hB1
      have B2 := Lib.hid (b1.trans (hbl1.mono b1.size))
      have N1 := Lib.hid b1.size
      clear hB1 hbl1 hs1 b1 hcp1
      go_wp2_with (go_at_call 30; (with_reducible refine (HBl.out _).mono ?_))
      rintro e w3 ⟨rfl, b3⟩
      obtain ⟨cp3, W4, hr3, hcp3, hB3, hbl3, hs3⟩ := run_bytes w3 P
      rw [hbs] at hr3
      have Y14 := (Y1.out.below b3).below hbl3
      have B4 := B2.out.trans ((b3.trans (hbl3.mono b3.size)).mono B2.out.size)
      have hw3 : W2.heap.size ≤ w3.heap.size := b3.size
      have h1lt := Y1.out.lt
      obtain ⟨W5, hc5, y5, k5⟩ := run_cpy Y14 0 _ cp1 _ s rfl (by rw [HPl.out]; exact Nat.le_trans (Nat.le_of_eq (Nat.zero_add _)) (Nat.min_le_right _ _))
      obtain ⟨W6, hc6, y6, k6⟩ := run_cpy (hB3.kept k5 (by omega)) 0 _ cp3 _ t rfl (by rw [HPl.out]; exact Nat.le_trans (Nat.le_of_eq (Nat.zero_add _)) (Nat.min_le_right _ _))
      rw [HX2.out] at y5
      rw [HY2.out] at y6
      have y56 := y5.kept k6 (by omega)
      have hv1 := fun q => conv_byt (c := cp1) (y56.drewN q) HXl.out
      have hv2 := fun q => conv_byt (c := cp3) (y6.drewN q) HYl.out
      have n1 := N1.out
      have bs2 := B2.out.size
      have B6 := Lib.hid (fun q => ((B4.trans (k5.below B4.size (fun j hj => by subst hj; exact n1))).trans (k6.below (Nat.le_trans B4.size k5.size) (fun j hj => by subst hj; omega))).os)
      have B7 := Lib.hid (fun q => bel_n ((B4.trans (k5.below B4.size (fun j hj => by subst hj; exact n1))).trans (k6.below (Nat.le_trans B4.size k5.size) (fun j hj => by subst hj; omega))) q)
      clear B6 y5 y6 y56 k5 k6 hB3 Y14 B4 b3 hbl3 hs3 hw3 h1lt hcp3 n1 bs2
      go_wp2_with fail
      go_quiet (fail)
      go_wp2_with fail
      go_ret2
      exact ⟨rfl, B7.out _⟩
  exact key
theorem pages_any (c : Nat) (s t : ByteArray) (z : Int) (W : World) (hc : c < 256) (hz0 : 0 ≤ z) (hz1 : z ≤ 255) :
    Calls Try.prog 27 #[.string s, .string t, .int .u8 z, .int .u8 c] W fun e w' => e = .returned (.tuple #[.string (bstr (pgl (pgn z) s c)), .string (bstr (pgl (pgn z) t c))]) ∧ Below W.heap.size W w' := by
  refine pages_at (pgn z) c s t W (pgn_pg z).2.2 hc z _ rfl ?_ hz0 hz1
  unfold pgn
  have : z.toNat % 5 = 0 ∨ z.toNat % 5 = 1 ∨ z.toNat % 5 = 2 ∨ z.toNat % 5 = 3 ∨ z.toNat % 5 = 4 := by omega
  rcases this with e | e | e | e | e <;> rw [e] <;> omega
end Go.Proofs.Ytbbfbijgclpjeaa.O
