/- ParseRuns returns true for any arguments: what is the same few bytes, again and again, becomes few tokens. Conditions: none but what the levels' variable holds. -/
import Derived.Test.YthemndeljjampaaDoorPbk
import Derived.Test.YthemndeljjampaaDoorMathR
namespace Go.Proofs.YthemndeljjampaaDoor
open Go Go.RowKit M
set_option linter.unusedVariables false
set_option linter.unusedSimpArgs false

/-- a text that is a piece, again and again -/
def Reps (p s : ByteArray) : Prop := p.size ∣ s.size ∧ ∀ i, i < s.size → byt s i = byt p (i % p.size)
theorem Reps.nil (p : ByteArray) : Reps p ⟨#[]⟩ := ⟨⟨0, rfl⟩, fun i hi => absurd hi (Nat.not_lt_zero i)⟩
theorem byt_left (s t : ByteArray) (j : Nat) (hj : j < s.size) : byt (s ++ t) j = byt s j := by
  have h : ∀ u : ByteArray, ∀ i, byt u i = ((bt u).getD i 0).toNat := fun u i => rfl
  rw [h, h, bt_append, List.getD, List.getD, List.getElem?_append_left (by rw [bt_len]; exact hj)]
theorem Reps.next {p s : ByteArray} (h : Reps p s) (hp : 0 < p.size) : Reps p (s ++ p) := by
  obtain ⟨⟨m, hm⟩, h2⟩ := h
  refine ⟨⟨m + 1, by rw [ByteArray.size_append, hm, Nat.mul_add, Nat.mul_one]⟩, fun i hi => ?_⟩
  rw [ByteArray.size_append] at hi
  by_cases c : i < s.size
  · rw [byt_left s p i c]; exact h2 i c
  · obtain ⟨j, rfl⟩ : ∃ j, i = s.size + j := ⟨i - s.size, by omega⟩
    rw [byt_right, hm, Nat.mul_add_mod, Nat.mod_eq_of_lt (by omega)]
theorem Reps.per {p s : ByteArray} (h : Reps p s) (h1 : 1 ≤ p.size) (h2 : p.size ≤ 100) : Per s p.size :=
  ⟨h1, h2, fun i hi => by rw [h.2 _ hi, h.2 i (by omega), Nat.add_mod_right]⟩
theorem runs_few {p s : ByteArray} (h : Reps p s) (h1 : 1 ≤ p.size) (h2 : p.size ≤ 100) (i : Nat) (hi : i = 8 ∨ i = 9) : (l10 ⟨#[]⟩ s i).length ≤ p.size + 3 + s.size / 258 := by
  unfold l10
  rw [if_neg (by omega)]
  have hc : cutd ⟨#[]⟩ ++ s = s := by
    rw [show cutd ⟨#[]⟩ = ByteArray.empty by decide +kernel]
    exact ByteArray.empty_append
  rw [hc, show (cutd ⟨#[]⟩).size = 0 from rfl]
  have h512 : 512 ≤ (Q.lv i).d ∧ (Q.lv i).n = 258 := by rcases hi with rfl | rfl <;> decide
  have := G_few (h.per h1 h2) h512.1 h512.2 0 (0, 0) (fun h => absurd rfl h) (fun _ h => absurd rfl h) (Nat.zero_le _)
  rw [Nat.sub_zero, Nat.sub_zero] at this
  omega

set_option maxRecDepth 1000000 in
set_option maxHeartbeats 2000000 in
theorem ParseRuns_walk (a0 : ByteArray) (a1 a2 : Int) (W : World) (w0 : a0.size ≤ maxLen) (w1 : (Lit.int .u16 a1).wf = true) (w2 : (Lit.int .u8 a2).wf = true) (H : Lvs W) :
    Calls Tryd.prog 5 #[.string a0, .int .u16 a1, .int .u8 a2] W fun e w' => e = .returned (.bool true) ∧ Below W.heap.size W w' := by
  have hb := u8_bounds w2
  have hb1 : 0 ≤ a1 ∧ a1 ≤ 65535 := by simpa [Lit.wf, IntKind.min, IntKind.max, IntKind.signed, IntKind.bits] using w1
  obtain ⟨hb2, hb3⟩ := hb1
  obtain ⟨hb4, hb5⟩ := hb
  have HH := Lib.hid H
  have hm0 : a0.size ≤ 9223372036854775807 := by unfold maxLen at w0; omega
  by_cases h0 : a0.size = 0
  · have d0 : ((a0.size : Int) == 0) = true := by rw [beq_iff_eq]; omega
    have d0' : (a0.size == 0) = true := by rw [beq_iff_eq]; exact h0
    clear h0 w0 w1 w2 H
    go_enter Tryd.func5, Tryd.ntmps5
    go_wp2_with (go_at_call 8; (with_reducible refine (works_any _ HH.out).mono ?_); rintro e w2 ⟨rfl, b2⟩; have B2 := Lib.hid b2; clear b2)
    go_ret
    exact ⟨rfl, B2.out⟩
  have d0 : ((a0.size : Int) == 0) = false := by rw [beq_eq_false_iff_ne]; omega
  have d0' : (a0.size == 0) = false := by rw [beq_eq_false_iff_ne]; exact h0
  by_cases h1 : 100 < a0.size
  · have d1 : decide (100 < (a0.size : Int)) = true := decide_eq_true (by omega)
    have d1' : decide (100 < a0.size) = true := decide_eq_true h1
    clear h0 h1 w0 w1 w2 H
    go_enter Tryd.func5, Tryd.ntmps5
    go_wp2_with (go_at_call 8; (with_reducible refine (works_any _ HH.out).mono ?_); rintro e w2 ⟨rfl, b2⟩; have B2 := Lib.hid b2; clear b2)
    go_ret
    exact ⟨rfl, B2.out⟩
  have d1 : decide (100 < (a0.size : Int)) = false := decide_eq_false (by omega)
  have d1' : decide (100 < a0.size) = false := decide_eq_false h1
  obtain ⟨N, hN⟩ : ∃ N : Nat, a1 % 3000 = (N : Int) := ⟨(a1 % 3000).toNat, by omega⟩
  obtain ⟨i, hi⟩ : ∃ i : Nat, 8 + a2 % 2 = (i : Int) := ⟨(8 + a2 % 2).toNat, by omega⟩
  have HP := Lib.hid (And.intro h0 h1)
  have HI := Lib.hid (show i = 8 ∨ i = 9 by omega)
  have hN3 : N ≤ 3000 := by omega
  clear h0 h1 w0 w1 w2 H
  go_enter Tryd.func5, Tryd.ntmps5
  go_wp2_with fail
  go_loopw [8] (fun x wr => ∃ s : ByteArray, x = .string s ∧ Reps a0 s ∧ s.size < N + 100 ∧ wr = W) (fun x _ => match x with | .string s => N - s.size | _ => 0)
  case atStart => exact ⟨⟨#[]⟩, rfl, Reps.nil _, by show 0 < N + 100; omega, rfl⟩
  case round =>
    obtain ⟨s, rfl, hR, hsz, rfl⟩ := hrel
    have hap : 1 ≤ a0.size ∧ a0.size ≤ 100 := by have := HP.out; omega
    have hss : s.size + a0.size ≤ 9223372036854775807 := by omega
    by_cases hlt : s.size < N
    · have d2 : decide ((s.size : Int) < (N : Int)) = true := decide_eq_true (by omega)
      have d2' : decide (s.size < N) = true := decide_eq_true hlt
      have d3 : decide ((s.size : Int) < a1 % 3000) = true := decide_eq_true (by omega)
      have HR := Lib.hid (hR.next (by omega))
      have HS := Lib.hid (show (s ++ a0).size < N + 100 ∧ N - (s ++ a0).size < N - s.size by rw [ByteArray.size_append]; omega)
      clear hR hap hlt hsz
      go_wp2_with fail
      go_roundw
      case rel => exact ⟨s ++ a0, rfl, HR.out, HS.out.1, trivial⟩
      case measure => exact HS.out.2
    · have d2 : decide ((s.size : Int) < (N : Int)) = false := decide_eq_false (by omega)
      have d2' : decide (s.size < N) = false := decide_eq_false hlt
      have d3 : decide ((s.size : Int) < a1 % 3000) = false := decide_eq_false (by omega)
      have HT := Lib.hid (tok_all ⟨#[]⟩ s i wr HH.out (by omega) (by decide) (by omega))
      have hfew := runs_few hR hap.1 hap.2 i HI.out
      have hlen := l10_len ⟨#[]⟩ s i
      obtain ⟨L, hL⟩ : ∃ L, l10 ⟨#[]⟩ s i = L := ⟨_, rfl⟩
      unfold TkR at HT
      rw [hL] at HT hfew hlen
      obtain ⟨n, hn⟩ : ∃ n, L.length = n := ⟨_, rfl⟩
      rw [hn, ← hi] at HT
      rw [hn] at hfew hlen
      obtain ⟨q, hq⟩ : ∃ q : Nat, s.size / 258 = q := ⟨_, rfl⟩
      rw [hq] at hfew
      have hq1 : (s.size : Int) / 258 = (q : Int) := by omega
      have hq2 : (s.size : Int).tdiv 258 = (q : Int) := by rw [Int.tdiv_eq_ediv_of_nonneg (by omega)]; exact hq1
      have hqb : q ≤ 100000 := by omega
      have d4 : decide ((n : Int) ≤ (a0.size : Int) + 3 + (q : Int)) = true := decide_eq_true (by omega)
      have hab : a0.size ≤ 100 := hap.2
      have hsb : s.size ≤ 100000 := by omega
      clear hR hap hlt hsz hfew hlen hL hn hq hN hi
      go_wp2_with (first
        | (go_at_call 9; (with_reducible refine HT.out.mono ?_); rintro e w2 ⟨A, c, rfl, i2, b2⟩; have B2 := Lib.hid b2; clear i2 b2)
        | (go_at_call 8; (with_reducible refine (works_any _ (HH.out.below B2.out (Nat.le_refl _))).mono ?_); rintro e w3 ⟨rfl, b3⟩; have B3 := Lib.hid (B2.out.trans (b3.mono B2.out.size)); clear b3))
      go_ret
      exact ⟨rfl, B3.out⟩
end Go.Proofs.YthemndeljjampaaDoor
