/- The document's example of layer 8: works returns true in any world. Conditions: none. -/
import Derived.Test.YtehpjhdbhhnkhaaChI
namespace Go.Proofs.Ytehpjhdbhhnkhaa
open Go Go.RowKit M
set_option linter.unusedVariables false
set_option linter.unusedSimpArgs false

/-- abcabcab -/
def wtx : ByteArray := ⟨#[97, 98, 99, 97, 98, 99, 97, 98]⟩
theorem wtx_size : wtx.size = 8 := rfl
section
variable {B F : Nat} {w : World}
theorem newW (w : World) : Calls Try.prog 8 #[.string ⟨#[97, 98, 99, 97, 98, 99, 97, 98]⟩] w fun e w' => ∃ F, e = .returned (.pointer (some ⟨F, 0, none⟩)) ∧ w.heap.size ≤ F ∧ Fd w' w.heap.size F wtx [] (-1) ∧ Below w.heap.size w w' :=
  new_any wtx w (by rw [wtx_size]; omega)
theorem findW1 (H : Fd w B F wtx [0, 1, 2] 2) : Calls Try.prog 10 #[.pointer (some ⟨F, 0, none⟩), .int .i64 3, .int .i64 9, .int .i64 9, .int .i64 2] w fun e w' => e = .returned (.agg #[.int .i64 5, .int .i64 3]) ∧ Below w.heap.size w w' := by
  have h := find_any H 3 9 9 2 (by omega)
  rw [show fnd wtx 3 9 2 (nr wtx [0, 1, 2] 3 9) (0, 0) = (5, 3) by decide +kernel] at h
  exact h
theorem findW2 (H : Fd w B F wtx [0, 1, 2] 2) : Calls Try.prog 10 #[.pointer (some ⟨F, 0, none⟩), .int .i64 3, .int .i64 9, .int .i64 9, .int .i64 5] w fun e w' => e = .returned (.agg #[.int .i64 0, .int .i64 0]) ∧ Below w.heap.size w w' := by
  have h := find_any H 3 9 9 5 (by omega)
  rw [show fnd wtx 3 9 5 (nr wtx [0, 1, 2] 3 9) (0, 0) = (0, 0) by decide +kernel] at h
  exact h
theorem placesW (H : Fd w B F wtx [0, 1, 2] 2) : Calls Try.prog 11 #[.pointer (some ⟨F, 0, none⟩), .int .i64 3, .int .i64 9] w (MadeI w 1 (fun _ => 0)) := by
  have h := places_any H 3 9 (by omega)
  rw [show nr wtx [0, 1, 2] 3 9 = [0] by decide +kernel] at h
  refine h.mono ?_
  rintro e w' ⟨v, h1, h2, h3⟩
  exact ⟨v, h1, h2.congr (fun i hi => by
    obtain rfl : i = 0 := by simp at hi; exact hi
    rfl), h3⟩
theorem rise_range (k : Nat) : ∀ p, p ∈ List.range k → p < k := fun p hp => List.mem_range.1 hp

set_option maxRecDepth 1000000 in
set_option maxHeartbeats 1000000 in
theorem works_any (W : World) : Calls Try.prog 7 #[] W fun e w' => e = .returned (.bool true) ∧ Below W.heap.size W w' := by
  go_enter Try.func7, Try.ntmps7
  go_wp2_with fail
  refine (newW _).mono ?_; rintro e w1 ⟨F, rfl, hF, H1, b1⟩
  have H1 := Lib.hid H1
  have B1 := Lib.hid b1
  clear b1
  go_wp2_with fail
  go_loopw [2] (fun i wr => ∃ k : Nat, k ≤ 3 ∧ i = .int .i64 k ∧ Fd wr W.heap.size F wtx (List.range k) ((k : Int) - 1) ∧ Below W.heap.size W wr) (fun i _ => 3 - (intOf i).toNat)
  case atStart => exact ⟨0, by omega, rfl, H1.out, B1.out⟩
  case round =>
    obtain ⟨k, hk, rfl, hf, hb⟩ := hrel
    have HF := Lib.hid hf
    have HB := Lib.hid hb
    clear hf hb
    by_cases hlt : k < 3
    · have HP := Lib.hid (put_ok HF.out k (by rw [wtx_size]; omega) (by omega) (rise_range k))
      go_wp2_with fail
      refine HP.out.mono ?_; rintro e w2 ⟨rfl, h2, b2⟩
      have H2 := Lib.hid h2
      have B2 := Lib.hid (HB.out.trans b2)
      clear h2 b2
      go_wp2_with fail
      go_roundw
      case rel => exact ⟨k + 1, by omega, by go_num, (by
        have := H2.out
        rw [← List.range_succ] at this
        rw [show (((k + 1 : Nat) : Int) - 1) = (k : Int) by omega]
        exact this), B2.out⟩
      case measure => simp [intOf]; omega
    · obtain rfl : k = 3 := by omega
      have H3 : Hid (Fd wr W.heap.size F wtx [0, 1, 2] 2) := Lib.hid HF.out
      clear HF
      go_wp2_with fail
      refine (placesW H3.out).mono ?_; rintro e w4 ⟨v, rfl, h4, b4⟩
      obtain ⟨g, cap, rfl, hg, hgl⟩ := h4.form (by omega)
      have B4 := Lib.hid (HB.out.trans (b4.mono HB.out.size))
      have H4 := Lib.hid (H3.out.below b4)
      have HI := Lib.hid h4
      clear b4 h4
      go_wp2_with fail
      refine (findW1 H4.out).mono ?_; rintro e w5 ⟨rfl, b5⟩
      have B5 := Lib.hid (B4.out.trans (b5.mono B4.out.size))
      have H5 := Lib.hid (H4.out.below b5)
      have hc := (HI.out.below b5).cell (i := 0) (by omega)
      have HL := Lib.hid (last_any H5.out)
      have HP1 := Lib.hid (put_have H5.out 2 (by omega) (by rw [wtx_size]; omega) (by omega))
      have HP2 := Lib.hid (put_arg H5.out 8 (.inr (by rw [wtx_size]; omega)))
      have HF2 := Lib.hid (findW2 H5.out)
      clear b5
      go_wp2_with fail
      refine HL.out.mono ?_; rintro e w6 ⟨rfl, rfl⟩
      go_wp2_with fail
      refine HP1.out.mono ?_; rintro e w6 ⟨rfl, rfl⟩
      go_wp2_with fail
      refine HP2.out.mono ?_; rintro e w6 ⟨rfl, rfl⟩
      go_wp2_with fail
      refine HF2.out.mono ?_; rintro e w6 ⟨rfl, b6⟩
      have B6 := Lib.hid (B5.out.trans (b6.mono B5.out.size))
      clear b6
      go_wp2_with fail
      go_ret
      exact ⟨rfl, B6.out⟩
end
end Go.Proofs.Ytehpjhdbhhnkhaa
