/- What heavy answers; the document's example of layer 10: works returns true. Conditions: as each theorem names them. -/
import Derived.Test.YthemndeljjampaaDoorPar
import Derived.Test.YthemndeljjampaaDoorTkC
namespace Go.Proofs.YthemndeljjampaaDoor
open Go Go.RowKit M
set_option linter.unusedVariables false
set_option linter.unusedSimpArgs false

theorem heavy_any (s t : ByteArray) (w : World) (hs : s.size ≤ maxLen) (hn : t.size ≤ maxLen) :
    Calls Tryd.prog 7 #[.string s, .string t] w fun e w' => e = .returned (.bool (decide (1024 < s.size ∨ 2048 < t.size))) ∧ w = w' := by
  by_cases h1 : 1024 < s.size
  · rw [decide_eq_true (Or.inl h1)]
    have d1 : decide (1024 < (s.size : Int)) = true := decide_eq_true (by omega)
    go_enter Tryd.func7, Tryd.ntmps7
    go_wp2
    go_ret
    exact ⟨rfl, rfl⟩
  · by_cases h2 : 2048 < t.size
    · rw [decide_eq_true (Or.inr h2)]
      have d1 : decide (1024 < (s.size : Int)) = false := decide_eq_false (by omega)
      have d2 : decide (2048 < (t.size : Int)) = true := decide_eq_true (by omega)
      go_enter Tryd.func7, Tryd.ntmps7
      go_wp2
      go_ret
      exact ⟨rfl, rfl⟩
    · rw [decide_eq_false (fun q => by omega)]
      have d1 : decide (1024 < (s.size : Int)) = false := decide_eq_false (by omega)
      have d2 : decide (2048 < (t.size : Int)) = false := decide_eq_false (by omega)
      go_enter Tryd.func7, Tryd.ntmps7
      go_wp2
      go_ret
      exact ⟨rfl, rfl⟩

theorem IsTks.lit4 (w : World) : IsTks (w.alloc (.cells #[.int .u8 97, .int .i64 0, .int .i64 0, .int .u8 98, .int .i64 0, .int .i64 0, .int .u8 99, .int .i64 0, .int .i64 0, .int .u8 0, .int .i64 6, .int .i64 3] 38)) (some ⟨w.heap.size, 0, none⟩) 4 [⟨97, 0, 0⟩, ⟨98, 0, 0⟩, ⟨99, 0, 0⟩, ⟨0, 6, 3⟩] := by
  refine ⟨rfl, by unfold maxLen; omega, fun c hc => by simp at hc; rcases hc with rfl | rfl | rfl | rfl <;> exact Tk.ok_of (by decide) (by decide) (by decide), .inr ⟨w.heap.size, 0, rfl, by simp, fun i c hc => ?_⟩⟩
  match i, hc with
  | 0, hc => simp at hc; subst hc; exact ⟨by simp, by simp, by simp⟩
  | 1, hc => simp at hc; subst hc; exact ⟨by simp, by simp, by simp⟩
  | 2, hc => simp at hc; subst hc; exact ⟨by simp, by simp, by simp⟩
  | 3, hc => simp at hc; subst hc; exact ⟨by simp, by simp, by simp⟩
def s9 : ByteArray := ⟨#[97, 98, 99, 97, 98, 99, 97, 98, 99]⟩
theorem ex_G : G s9 (Q.lv 6) 0 (0, 0) = [⟨97, 0, 0⟩, ⟨98, 0, 0⟩, ⟨99, 0, 0⟩, ⟨0, 6, 3⟩] := by
  have e3 : mt s9 (Q.lv 6) 3 2 = (6, 3) := by decide +kernel
  have hs : s9.size = 9 := rfl
  rw [G_lit (by rw [hs]; omega) rfl (by decide +kernel), G_lit (by rw [hs]; omega) rfl (by decide +kernel), G_lit (by rw [hs]; omega) rfl (by decide +kernel)]
  rw [G_look (by rw [hs]; omega) rfl (by rw [e3]; decide), e3]
  rw [G_stay (by rw [hs]; omega) (by decide) ⟨by decide, by rw [hs]; omega⟩ (by decide +kernel), G_end (by rw [hs]; decide)]
  decide +kernel
theorem ex_cut : cutd ⟨#[]⟩ ++ s9 = s9 ∧ (cutd ⟨#[]⟩).size = 0 := by decide +kernel
theorem ex_tok (W : World) (H : Lvs W) : Calls Tryd.prog 9 #[.string ⟨#[]⟩, .string ⟨#[97, 98, 99, 97, 98, 99, 97, 98, 99]⟩, .int .i64 6] W (TkR W [⟨97, 0, 0⟩, ⟨98, 0, 0⟩, ⟨99, 0, 0⟩, ⟨0, 6, 3⟩]) := by
  have h := tokens_any ⟨#[]⟩ s9 6 W H (by omega) (by decide) (by decide)
  rw [ex_cut.1, ex_cut.2, ex_G] at h
  exact h
theorem ex_lev (W : World) (H : Lvs W) : Calls Tryd.prog 11 #[.int .i64 4] W fun e w' => e = .returned (.tuple #[.int .i64 8, .int .i64 16, .int .i64 4, .bool true]) ∧ Below W.heap.size W w' := level_any 4 W (by omega) H

set_option maxRecDepth 1000000 in
set_option maxHeartbeats 1000000 in
theorem works_any (W : World) (H : Lvs W) : Calls Tryd.prog 8 #[] W fun e w' => e = .returned (.bool true) ∧ Below W.heap.size W w' := by
  have HH := Lib.hid H
  have HT := Lib.hid (ex_tok W H)
  have hno := tokens_no ⟨#[]⟩ ⟨#[]⟩ 10
  have HNo := Lib.hid (fun w => hno w (by omega))
  clear H hno
  go_enter Tryd.func8, Tryd.ntmps8
  go_wp2_with (first
    | (go_at_call 9; (with_reducible refine HT.out.mono ?_); rintro e w1 ⟨A, c, rfl, h1, b1⟩; have H1 := Lib.hid h1; have B1 := Lib.hid b1; clear h1 b1)
    | (go_at_call 11; (with_reducible refine (ex_lev _ (HH.out.below B1.out (Nat.le_refl _))).mono ?_); rintro e w2 ⟨rfl, b2⟩; have H2 := Lib.hid (H1.out.below b2); have B2 := Lib.hid (B1.out.trans (b2.mono B1.out.size)); clear b2)
    | (go_at_call 9; (with_reducible refine (HNo.out _).mono ?_); rintro e w3 ⟨rfl, b3⟩; have H3 := Lib.hid (H2.out.below b3); have B3 := Lib.hid (B2.out.trans (b3.mono B2.out.size)); clear b3)
    | (go_at_call 13; (refine (rsame_any A (some ⟨w3.heap.size, 0, none⟩) 4 c 4 4 _ _ _ (H3.out.below ((Below.refl _ _).alloc (Nat.le_refl _) _)) (IsTks.lit4 w3) (by omega) (by omega)).mono ?_); rintro e w4 ⟨rfl, q, rfl⟩))
  go_ret
  exact ⟨rfl, below_drewN (B3.out.alloc B3.out.size _) _⟩
end Go.Proofs.YthemndeljjampaaDoor
