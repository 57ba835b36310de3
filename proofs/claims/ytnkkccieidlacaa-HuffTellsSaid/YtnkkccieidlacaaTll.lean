/- HuffTells returns true for any lengths, first table, bits, number of bits. Conditions: none. -/
import Derived.Test.YtnkkccieidlacaaRhC
namespace Go.Proofs.Ytnkkccieidlacaa
open Go.RowKit M
set_option linter.unusedVariables false
set_option linter.unusedSimpArgs false

theorem i64_le {a : Int} (h : (Lit.int .i64 a).wf = true) : a ≤ 9223372036854775807 := by
  have g : -9223372036854775808 ≤ a ∧ a ≤ 9223372036854775807 := by simpa [Lit.wf, IntKind.min, IntKind.max, IntKind.signed, IntKind.bits] using h
  exact g.2

set_option maxRecDepth 1000000 in
theorem tells_far (A : Option Addr) (n c : Nat) (x y z : Int) (W : World) (hn : n ≤ maxLen) (h : 330 < n ∨ 12 < x) :
    Calls Try.prog 3 #[.slice A n c, .int .i64 x, .int .u64 y, .int .i64 z] W fun e w' => e = .returned (.bool true) ∧ Below W.heap.size W w' := by
  have hn' : n ≤ 9223372036854775807 := by unfold maxLen at hn; omega
  by_cases h1 : 330 < n
  · have hd : decide (330 < (n : Int)) = true := decide_eq_true (by omega)
    clear h
    go_enter Try.func3, Try.ntmps3
    go_wp2_with fail
    refine (alive_any _).mono ?_; rintro e w2 ⟨rfl, b2⟩
    have B2 := Lib.hid b2
    clear b2
    go_wp2_with fail
    go_ret
    exact ⟨rfl, B2.out⟩
  · have hd : decide (330 < (n : Int)) = false := decide_eq_false (by omega)
    have hd2 : decide (12 < x) = true := decide_eq_true (by omega)
    clear h
    go_enter Try.func3, Try.ntmps3
    go_wp2_with fail
    refine (alive_any _).mono ?_; rintro e w2 ⟨rfl, b2⟩
    have B2 := Lib.hid b2
    clear b2
    go_wp2_with fail
    go_ret
    exact ⟨rfl, B2.out⟩

set_option maxRecDepth 1000000 in
set_option maxHeartbeats 1000000 in
theorem tells_none (A : Option Addr) (n c : Nat) (l : Nat → Nat) (x y z : Int) (W : World) (hn : n ≤ 330) (hl : ∀ i, l i ≤ 255) (H : Nums W .u8 A n (fun i => (l i : Int))) (hx : x ≤ 12) (he : nerr l n x ≠ 0) :
    Calls Try.prog 3 #[.slice A n c, .int .i64 x, .int .u64 y, .int .i64 z] W fun e w' => e = .returned (.bool true) ∧ Below W.heap.size W w' := by
  have hd : decide (330 < (n : Int)) = false := decide_eq_false (by omega)
  have hd2 : decide (12 < x) = false := decide_eq_false (by omega)
  have hnm : n ≤ maxLen := by unfold maxLen; omega
  have hN := Lib.hid (fun w H => new_no_any A n c l x w hnm hl H he)
  have hN2 := Lib.hid (fun w H => rnewh_no A n c l x w hnm hl H he)
  have hW := Lib.hid (fun w H => writes_any A n c l w hnm hl H)
  have hW2 := Lib.hid (fun w H => rwrites_any A n c l w hnm hl H)
  have hO : outn l n ≤ 330 := by
    rcases erc_of (l := l) (n := n) with ⟨_, _, h3⟩ | ⟨_, _, h3⟩ | ⟨_, _, _, h3⟩ <;> omega
  obtain ⟨E, hE⟩ : ∃ E, nerr l n x = E := ⟨_, rfl⟩
  obtain ⟨F, hF⟩ : ∃ F, erc l n = F := ⟨_, rfl⟩
  obtain ⟨N, hNN⟩ : ∃ N, outn l n = N := ⟨_, rfl⟩
  rw [hE] at hN hN2
  rw [hF, hNN] at hW hW2
  rw [hNN] at hO
  have HH := Lib.hid H
  clear H hl he hE hF hNN
  go_enter Try.func3, Try.ntmps3
  go_wp2_with fail
  refine (hN.out _ HH.out).mono ?_; rintro e w2 ⟨rfl, b2⟩
  have B2 := Lib.hid b2
  have H2 := Lib.hid (HH.out.below b2)
  clear b2
  go_wp2_with fail
  refine (hN2.out _ H2.out).mono ?_; rintro e w3 ⟨rfl, rfl⟩
  go_wp2_with fail
  refine (hW.out _ H2.out).mono ?_; rintro e w4 ⟨A2, c2, rfl, hc1, hc2, hcd, b4, _⟩
  have B4 := Lib.hid (B2.out.trans (b4.mono B2.out.size))
  have H4 := Lib.hid (H2.out.below b4)
  have C4 := Lib.hid hcd
  clear b4 hcd
  go_wp2_with fail
  refine (hW2.out _ H4.out).mono ?_; rintro e w5 ⟨A3, c3, rfl, hd1, hd2, hdd, b5, _⟩
  have B5 := Lib.hid (B4.out.trans (b5.mono B4.out.size))
  have hS := Lib.hid (same_any A2 A3 N c2 c3 _ _ _ _ w5 (by unfold maxLen; omega) (C4.out.below b5) hdd (fun _ _ => rfl) (fun _ _ => rfl))
  clear b5 hdd
  go_wp2_with fail
  refine hS.out.mono ?_; rintro e w6 ⟨rfl, q, rfl⟩
  have B6 := Lib.hid (below_drewN B5.out q)
  go_wp2_with fail
  refine (alive_any _).mono ?_; rintro e w7 ⟨rfl, b7⟩
  have B7 := Lib.hid (B6.out.trans (b7.mono B6.out.size))
  clear b7
  go_wp2_with fail
  go_ret
  exact ⟨rfl, B7.out⟩

/-- both tables tell the same of the bits -/
theorem looks_any {l : Nat → Nat} {n f X : Nat} {z : Int} (htb : Tbl l n) (h1 : 1 ≤ f) (hf : f ≤ 15) (hX : X < big) (hz : z ≤ 9223372036854775807) (hn : n ≤ 320) : ∃ s b e : Nat,
    (∀ T p m N G D w, Hp w T p m G N D l n f n → Calls Try.prog 14 #[.pointer (some ⟨p, 0, none⟩), .int .u64 X, .int .i64 z] w fun r w' => r = .returned (.tuple #[.int .i64 s, .int .i64 b, .int .i64 e]) ∧ Below w.heap.size w w') ∧
    (∀ p A c w, Rh w p A n c l f → Calls Try.prog 15 #[.pointer (some ⟨p, 0, none⟩), .int .u64 X, .int .i64 z] w fun r w' => r = .returned (.tuple #[.int .i64 s, .int .i64 b, .int .i64 e]) ∧ Below w.heap.size w w') := by
  by_cases h0 : z < 0
  · refine ⟨0, 0, 2, fun T p m N G D w H => (hlook_arg p m X z w H.c1 h0).mono ?_, fun p A c w H => (rlook_arg _ X z w h0).mono ?_⟩
    · rintro r w' ⟨rfl, rfl⟩; exact ⟨rfl, Below.refl _ _⟩
    · rintro r w' ⟨rfl, rfl⟩; exact ⟨rfl, Below.refl _ _⟩
  · obtain ⟨h, rfl⟩ := Int.eq_ofNat_of_zero_le (show 0 ≤ z by omega)
    exact ⟨_, _, _, fun T p m N G D w H => hlook_any T p m N n f X h G D l w htb.fit h1 hf hX (by omega) H, fun p A c w H => rlook_any p A n c l f X h w htb hX (by omega) hn H⟩

set_option maxRecDepth 1000000 in
set_option maxHeartbeats 1000000 in
theorem tells_some (A : Option Addr) (n c : Nat) (l : Nat → Nat) (f X : Nat) (z : Int) (W : World) (hn : n ≤ 330) (hl : ∀ i, l i ≤ 255) (H : Nums W .u8 A n (fun i => (l i : Int))) (h1 : 1 ≤ f) (hf : f ≤ 12) (hX : X < big) (hz : z ≤ 9223372036854775807) (htb : Tbl l n) :
    Calls Try.prog 3 #[.slice A n c, .int .i64 f, .int .u64 X, .int .i64 z] W fun e w' => e = .returned (.bool true) ∧ Below W.heap.size W w' := by
  have hd : decide (330 < (n : Int)) = false := decide_eq_false (by omega)
  have hd2 : decide (12 < (f : Int)) = false := decide_eq_false (by omega)
  have h320 := htb.fit.1.1
  have hnm : n ≤ maxLen := by unfold maxLen; omega
  have hN := Lib.hid (fun w H => new_ok_any A n c l f w hl H htb h1 (by omega))
  have hN2 := Lib.hid (fun w H => rnewh_ok A n c l f w hl H htb h1 (by omega))
  have hW := Lib.hid (fun w H => writes_any A n c l w hnm hl H)
  have hW2 := Lib.hid (fun w H => rwrites_any A n c l w hnm hl H)
  obtain ⟨s, b, e, hL, hL2⟩ := looks_any (z := z) htb h1 (show f ≤ 15 by omega) hX hz h320
  have HL := Lib.hid hL
  have HL2 := Lib.hid hL2
  have hC := Lib.hid (fun T p m N G D w H => hcells_any T p m N n f G D l w htb.fit.1 h1 (by omega) H)
  have hC2 := Lib.hid (fun p A c w H => rcells_any p A n c l f w htb h1 (by omega) h320 H)
  have hO : outn l n ≤ 330 := by
    rcases erc_of (l := l) (n := n) with ⟨_, _, h3⟩ | ⟨_, _, h3⟩ | ⟨_, _, _, h3⟩ <;> omega
  obtain ⟨F, hF⟩ : ∃ F, erc l n = F := ⟨_, rfl⟩
  obtain ⟨M, hM⟩ : ∃ M, outn l n = M := ⟨_, rfl⟩
  obtain ⟨C, hCC⟩ : ∃ C, cells l n f = C := ⟨_, rfl⟩
  rw [hF, hM] at hW hW2
  rw [hM] at hO
  rw [hCC] at hC hC2
  have HH := Lib.hid H
  clear H hl htb hL hL2 hF hM hCC
  go_enter Try.func3, Try.ntmps3
  go_wp2_with fail
  refine (hN.out _ HH.out).mono ?_; rintro e w2 ⟨T, p, m, G, N, D, rfl, hp, P2, b2⟩
  have B2 := Lib.hid b2
  have H2 := Lib.hid (HH.out.below b2)
  have P2 := Lib.hid P2
  clear b2 hp
  go_wp2_with fail
  refine (hN2.out _ H2.out).mono ?_; rintro e w3 ⟨p', A', c', rfl, Q3, b3⟩
  have B3 := Lib.hid (B2.out.trans (b3.mono B2.out.size))
  have H3 := Lib.hid (H2.out.below b3)
  have P3 := Lib.hid (P2.out.below b3)
  have Q3 := Lib.hid Q3
  clear b3
  go_wp2_with fail
  refine (hW.out _ H3.out).mono ?_; rintro e w4 ⟨A2, c2, rfl, hc1, hc2, hcd, b4, _⟩
  have B4 := Lib.hid (B3.out.trans (b4.mono B3.out.size))
  have H4 := Lib.hid (H3.out.below b4)
  have P4 := Lib.hid (P3.out.below b4)
  have Q4 := Lib.hid (Q3.out.below b4)
  have C4 := Lib.hid hcd
  clear b4 hcd
  go_wp2_with fail
  refine (hW2.out _ H4.out).mono ?_; rintro e w5 ⟨A3, c3, rfl, hd1, hd2, hdd, b5, _⟩
  have B5 := Lib.hid (B4.out.trans (b5.mono B4.out.size))
  have P5 := Lib.hid (P4.out.below b5)
  have Q5 := Lib.hid (Q4.out.below b5)
  have hS := Lib.hid (same_any A2 A3 M c2 c3 _ _ _ _ w5 (by unfold maxLen; omega) (C4.out.below b5) hdd (fun _ _ => rfl) (fun _ _ => rfl))
  clear b5 hdd
  go_wp2_with fail
  refine hS.out.mono ?_; rintro e w6 ⟨rfl, q, rfl⟩
  have B6 := Lib.hid (below_drewN B5.out q)
  have P6 := Lib.hid (P5.out.below (below_drewN (Below.refl _ _) q))
  have Q6 := Lib.hid (Q5.out.below (below_drewN (Below.refl _ _) q))
  go_wp2_with fail
  refine (HL.out _ _ _ _ _ _ _ P6.out).mono ?_; rintro e w7 ⟨rfl, b7⟩
  have B7 := Lib.hid (B6.out.trans (b7.mono B6.out.size))
  have P7 := Lib.hid (P6.out.below b7)
  have Q7 := Lib.hid (Q6.out.below b7)
  clear b7
  go_wp2_with fail
  refine (HL2.out _ _ _ _ Q7.out).mono ?_; rintro e w8 ⟨rfl, b8⟩
  have B8 := Lib.hid (B7.out.trans (b8.mono B7.out.size))
  have P8 := Lib.hid (P7.out.below b8)
  have Q8 := Lib.hid (Q7.out.below b8)
  clear b8
  by_cases h7 : 7 < f
  · have d7 : decide (7 < (f : Int)) = true := decide_eq_true (by omega)
    go_wp2_with fail
    refine (alive_any _).mono ?_; rintro e w9 ⟨rfl, b9⟩
    have B9 := Lib.hid (B8.out.trans (b9.mono B8.out.size))
    clear b9
    go_wp2_with fail
    go_ret
    exact ⟨rfl, B9.out⟩
  · have d7 : decide (7 < (f : Int)) = false := decide_eq_false (by omega)
    by_cases h60 : 60 < n
    · have d6 : decide (60 < (n : Int)) = true := decide_eq_true (by omega)
      go_wp2_with fail
      refine (alive_any _).mono ?_; rintro e w9 ⟨rfl, b9⟩
      have B9 := Lib.hid (B8.out.trans (b9.mono B8.out.size))
      clear b9
      go_wp2_with fail
      go_ret
      exact ⟨rfl, B9.out⟩
    · have d6 : decide (60 < (n : Int)) = false := decide_eq_false (by omega)
      go_wp2_with fail
      refine (hC.out _ _ _ _ _ _ _ P8.out).mono ?_; rintro e w9 ⟨rfl, b9⟩
      have B9 := Lib.hid (B8.out.trans (b9.mono B8.out.size))
      have Q9 := Lib.hid (Q8.out.below b9)
      clear b9
      go_wp2_with fail
      refine (hC2.out _ _ _ _ Q9.out).mono ?_; rintro e wa ⟨rfl, ba⟩
      have Ba := Lib.hid (B9.out.trans (ba.mono B9.out.size))
      clear ba
      go_wp2_with fail
      refine (alive_any _).mono ?_; rintro e wb ⟨rfl, bb⟩
      have Bb := Lib.hid (Ba.out.trans (bb.mono Ba.out.size))
      clear bb
      go_wp2_with fail
      go_ret
      exact ⟨rfl, Bb.out⟩

theorem HuffTells_walk (a0 : Option Addr) (len0 cap0 : Nat) (z0 : List Int) (a1 a2 a3 : Int) (w : World) (w0 : IsRow .u8 w a0 len0 cap0 z0) (w1 : (Lit.int .i64 a1).wf = true) (w2 : (Lit.int .u64 a2).wf = true) (w3 : (Lit.int .i64 a3).wf = true) :
    Calls Try.prog 3 #[.slice a0 len0 cap0, .int .i64 a1, .int .u64 a2, .int .i64 a3] w fun e w' => e = .returned (.bool true) ∧ Below w.heap.size w w' := by
  have h0 := w0.most
  obtain ⟨q1, q2⟩ := w0.nat8
  obtain ⟨X, rfl, hX⟩ := u64_nat w2
  by_cases h : 330 < len0 ∨ 12 < a1
  · exact tells_far _ _ _ _ _ _ w (by omega) h
  · by_cases he : nerr (nat8 z0) len0 a1 = 0
    · have hk := nerr_ok he
      obtain ⟨f, rfl⟩ := Int.eq_ofNat_of_zero_le (show 0 ≤ a1 by omega)
      exact tells_some a0 len0 cap0 _ f X a3 w (by omega) q1 q2 (by omega) (by omega) hX (i64_le w3) hk.2
    · exact tells_none a0 len0 cap0 _ a1 _ a3 w (by omega) q1 q2 (by omega) he
end Go.Proofs.Ytnkkccieidlacaa
