/- RunsCounts returns true, over what the program's functions answer: the law. Conditions: as each theorem names them. -/
import Derived.Test.YtogbohompffcbaaDoorLwC
namespace Go.Proofs.YtogbohompffcbaaDoor.U
open Go Go.RowKit M
set_option linter.unusedVariables false
set_option linter.unusedSimpArgs false

set_option maxRecDepth 1000000 in
theorem counts_heavy {T : World → Prop} (C : Cts T) (B : Option Addr) (m d : Nat) (x : Int) (W : World) (H : T W) (hm : m ≤ maxLen) (hv : 500 < m) :
    Calls Tryd.prog 5 #[.slice B m d, .int .i8 x] W fun e w' => e = .returned (.bool true) ∧ Below W.heap.size W w' := by
  have HV := Lib.hid (heavy_any none B 0 0 m d W (by unfold maxLen; omega) hm)
  rw [decide_eq_true (Or.inr hv)] at HV
  have HW := Lib.hid (works_any C W H)
  clear C H hv
  go_enter Tryd.func5, Tryd.ntmps5
  go_wp2_with (first
    | (go_at_call 6; (with_reducible refine HV.out.mono ?_); rintro e w0 ⟨rfl, rfl⟩)
    | (go_at_call 7; (with_reducible refine HW.out.mono ?_); rintro e w7 ⟨rfl, b7⟩; have B7 := Lib.hid b7; clear b7))
  go_ret
  exact ⟨rfl, B7.out⟩

theorem counts_law {T : World → Prop} (C : Cts T) (B : Option Addr) (m d : Nat) (L : List Rn) (x : Int) (W : World) (H : T W) (hL : IsRns W B m L) (hx : -128 ≤ x ∧ x ≤ 127) :
    Calls Tryd.prog 5 #[.slice B m d, .int .i8 x] W fun e w' => e = .returned (.bool true) ∧ Below W.heap.size W w' := by
  by_cases hv : 500 < m
  · exact counts_heavy C B m d x W H hL.most hv
  · have hm : m ≤ 500 := by omega
    have htl := tot_le L
    rw [hL.leng] at htl
    have key : ∀ n, ((unp n [] L).1 = 0 ↔ fb L = true ∧ tot L = n) ∧ ((unp n [] L).1 = 0 → (unp n [] L).2.length = n) := fun n => by
      cases hf : fb L with
      | true =>
        rcases unp_tot (n := n) L [] ((fb_iff L).1 hf) with ⟨g1, g2⟩ | g
        · rw [List.length_nil, Nat.zero_add] at g1
          exact ⟨⟨fun q => ⟨rfl, g1.1 q⟩, fun q => g1.2 q.2⟩, g2⟩
        · simp at g
      | false =>
        have hb := unp_bad (n := n) L [] (fun q => by rw [(fb_iff L).2 q] at hf; cases hf)
        exact ⟨⟨fun q => absurd q hb, fun q => by cases q.1⟩, fun q => absurd q hb⟩
    have U : ∀ (n : Nat) (w : World), n ≤ 1000000 → Below W.heap.size W w → Calls Tryd.prog 10 #[.slice B m d, .int .i64 n] w (fun e w' => ∃ A c, e = .returned (.tuple #[.slice A (unp n [] L).2.length c, .int .i64 (unp n [] L).1]) ∧ Below w.heap.size w w') := fun n w hn b =>
      (C.unpack B m d L n w (C.keep H b) (hL.below b) (by omega) (by omega)).mono fun e w' ⟨A, c, q1, _, q3⟩ => ⟨A, c, q1, q3⟩
    have h1 : (fb L = true ∧ (unp (tot L) [] L).1 = 0 ∧ (unp (tot L) [] L).2.length = tot L) ∨ (fb L = false ∧ (unp (tot L) [] L).1 ≠ 0 ∧ (unp (tot L) [] L).2.length = 0) := by
      obtain ⟨k1, k2⟩ := key (tot L)
      cases hf : fb L with
      | true => exact .inl ⟨rfl, k1.2 ⟨hf, rfl⟩, k2 (k1.2 ⟨hf, rfl⟩)⟩
      | false =>
        have hn : (unp (tot L) [] L).1 ≠ 0 := fun q => by have := (k1.1 q).1; rw [hf] at this; cases this
        exact .inr ⟨rfl, hn, by rw [unp_code L [] hn]; rfl⟩
    obtain ⟨X2, Y2, h2, HU2⟩ : ∃ (X2 : Int) (Y2 : Nat), ((X2 == 0) = (fb L && (x == 0))) ∧ ∀ w, Below W.heap.size W w → Calls Tryd.prog 10 #[.slice B m d, .int .i64 ((tot L : Nat) + x)] w fun e w' => ∃ A c, e = .returned (.tuple #[.slice A Y2 c, .int .i64 X2]) ∧ Below w.heap.size w w' := by
      by_cases hneg : ((tot L : Nat) : Int) + x < 0
      · refine ⟨2, 0, ?_, fun w b => (C.unpackNo B m d _ w (C.keep H b) hneg).mono fun e w' ⟨A, c, q1, q2⟩ => ⟨A, c, q1, q2⟩⟩
        have : (x == 0) = false := by rw [beq_eq_false_iff_ne]; omega
        rw [this, Bool.and_false]; rfl
      · obtain ⟨n, hn⟩ : ∃ n : Nat, ((tot L : Nat) : Int) + x = n := ⟨(((tot L : Nat) : Int) + x).toNat, by omega⟩
        refine ⟨(unp n [] L).1, (unp n [] L).2.length, ?_, fun w b => by rw [hn]; exact U n w (by omega) b⟩
        obtain ⟨k1, _⟩ := key n
        cases hq : ((unp n [] L).1 == 0) with
        | true =>
          obtain ⟨g1, g2⟩ := k1.1 (by simpa using hq)
          rw [g1, Bool.true_and]
          exact (by rw [beq_iff_eq]; omega : (x == 0) = true).symm
        | false =>
          cases hf : fb L with
          | false => rfl
          | true =>
            rw [Bool.true_and]
            refine (?_ : (x == 0) = false).symm
            rw [beq_eq_false_iff_ne]
            intro h0
            rw [beq_eq_false_iff_ne] at hq
            exact hq (k1.2 ⟨hf, by omega⟩)
    exact counts_gen C B m d L x _ _ X2 Y2 W H hm hL hx h1 h2 (Lib.hid fun w b => U (tot L) w (by omega) b) (Lib.hid HU2)
end Go.Proofs.YtogbohompffcbaaDoor.U
