/- ChainNone returns true. Conditions: none. -/
import Derived.Test.YtehpjhdbhhnkhaaWks
namespace Go.Proofs.Ytehpjhdbhhnkhaa
open Go Go.RowKit M
set_option linter.unusedVariables false
set_option linter.unusedSimpArgs false

/-- the empty text -/
def etx : ByteArray := ⟨#[]⟩
theorem etx_size : etx.size = 0 := rfl
theorem newE (w : World) : Calls Try.prog 8 #[.string ⟨#[]⟩] w fun e w' => ∃ F, e = .returned (.pointer (some ⟨F, 0, none⟩)) ∧ w.heap.size ≤ F ∧ Fd w' w.heap.size F etx [] (-1) ∧ Below w.heap.size w w' :=
  new_any etx w (by rw [etx_size]; omega)
set_option maxRecDepth 1000000 in
set_option maxHeartbeats 1000000 in
theorem ChainNone_walk (a0 a1 : Int) (w : World) (w0 : (Lit.int .i64 a0).wf = true) (w1 : (Lit.int .i64 a1).wf = true) :
    Calls Try.prog 5 #[.int .i64 a0, .int .i64 a1] w fun e w' => e = .returned (.bool true) ∧ Below w.heap.size w w' := by
  clear w0 w1
  go_enter Try.func5, Try.ntmps5
  go_wp2_with fail
  refine (newE _).mono ?_; rintro e w1 ⟨F, rfl, hF, H1, b1⟩
  have H1 := Lib.hid H1
  have B1 := Lib.hid b1
  clear b1 hF
  go_wp2_with fail
  refine (put_nil a0 _).mono ?_; rintro e w2 ⟨rfl, rfl⟩
  go_wp2_with fail
  refine (find_nil a0 a1 a1 0 _).mono ?_; rintro e w3 ⟨rfl, b3⟩
  have H3 := Lib.hid (H1.out.below b3)
  have B3 := Lib.hid (B1.out.trans (b3.mono B1.out.size))
  clear b3
  go_wp2_with fail
  refine (places_nil a0 a1 _).mono ?_; rintro e w4 ⟨v, rfl, h4, b4⟩
  obtain ⟨A, c, rfl⟩ := h4.slice
  have H4 := Lib.hid (H3.out.below b4)
  have B4 := Lib.hid (B3.out.trans (b4.mono B3.out.size))
  clear b4 h4
  go_wp2_with fail
  refine (last_nil _).mono ?_; rintro e w5 ⟨rfl, rfl⟩
  have HP := Lib.hid (put_arg H4.out a0 (by rw [etx_size]; omega))
  have HF := Lib.hid (find_out H4.out a0 a1 a1 0 (by rw [etx_size]; omega))
  go_wp2_with fail
  refine HP.out.mono ?_; rintro e w5 ⟨rfl, rfl⟩
  go_wp2_with fail
  refine HF.out.mono ?_; rintro e w6 ⟨rfl, b6⟩
  have H6 := Lib.hid (H4.out.below b6)
  have B6 := Lib.hid (B4.out.trans (b6.mono B4.out.size))
  have HL := Lib.hid (places_out H6.out a0 a1 (by rw [etx_size]; omega))
  clear b6
  go_wp2_with fail
  refine HL.out.mono ?_; rintro e w7 ⟨v7, rfl, h7, b7⟩
  obtain ⟨A7, c7, rfl⟩ := h7.slice
  have B7 := Lib.hid (B6.out.trans (b7.mono B6.out.size))
  clear b7 h7
  go_wp2_with fail
  refine (works_any _).mono ?_; rintro e w8 ⟨rfl, b8⟩
  have B8 := Lib.hid (B7.out.trans (b8.mono B7.out.size))
  clear b8
  go_wp2_with fail
  go_ret
  exact ⟨rfl, B8.out⟩
end Go.Proofs.Ytehpjhdbhhnkhaa
