/- CanonTells returns true for any lengths and counts. Conditions: none. -/
import Derived.Test.YtgcdmgilgknneaaCnH
import Derived.Test.YtgcdmgilgknneaaIsr
namespace Go.Proofs.Ytgcdmgilgknneaa
open Go.RowKit M
set_option linter.unusedVariables false

/-- is a list longer than the laws look at -/
def longB (n : Nat) : Bool := decide (400 < n)
theorem long_any (A : Option Addr) (n c : Nat) (W : World) (hn : n ≤ maxLen) :
    Calls Try.prog 8 #[.slice A n c] W fun e w' => e = .returned (.bool (longB n)) ∧ W = w' := by
  have hn' : n ≤ 9223372036854775807 := by unfold maxLen at hn; omega
  by_cases h : 400 < n
  · have hv := Lib.hid (show longB n = true from decide_eq_true h)
    have hd : decide (400 < (n : Int)) = true := decide_eq_true (by omega)
    go_enter Try.func8, Try.ntmps8
    go_wp2_with fail
    go_ret
    exact ⟨by rw [hv.out]; rfl, rfl⟩
  · have hv := Lib.hid (show longB n = false from decide_eq_false h)
    have hd : decide (400 < (n : Int)) = false := decide_eq_false (by omega)
    go_enter Try.func8, Try.ntmps8
    go_wp2_with fail
    go_ret
    exact ⟨by rw [hv.out]; rfl, rfl⟩

theorem tells_far (A B : Option Addr) (n m c d : Nat) (W : World) (hn : n ≤ maxLen) (hm : m ≤ maxLen) (h : 400 < n ∨ 400 < m) :
    Calls Try.prog 3 #[.slice A n c, .slice B m d] W fun e w' => e = .returned (.bool true) ∧ Below W.heap.size W w' := by
  have hm' : m ≤ 9223372036854775807 := by unfold maxLen at hm; omega
  by_cases h1 : 400 < n
  · have hv := Lib.hid (show longB n = true from decide_eq_true h1)
    clear h
    go_enter Try.func3, Try.ntmps3
    go_wp2_with fail
    refine (long_any A n c _ hn).mono ?_; rintro e w1 ⟨rfl, rfl⟩
    rw [hv.out]
    go_wp2_with fail
    refine (alive_any _).mono ?_; rintro e w2 ⟨rfl, b2⟩
    go_wp2_with fail
    go_ret
    exact ⟨rfl, b2⟩
  · have hv := Lib.hid (show longB n = false from decide_eq_false h1)
    have h2 : 400 < m := by omega
    have hd : decide (400 < (m : Int)) = true := decide_eq_true (by omega)
    clear h
    go_enter Try.func3, Try.ntmps3
    go_wp2_with fail
    refine (long_any A n c _ hn).mono ?_; rintro e w1 ⟨rfl, rfl⟩
    rw [hv.out]
    go_wp2_with fail
    refine (alive_any _).mono ?_; rintro e w2 ⟨rfl, b2⟩
    go_wp2_with fail
    go_ret
    exact ⟨rfl, b2⟩

set_option maxHeartbeats 1000000 in
theorem tells_ok (A B : Option Addr) (n m c d : Nat) (l : Nat → Nat) (z : Nat → Int) (W : World) (hn : n ≤ 400) (hm : m ≤ 400) (hl : ∀ i, l i ≤ 255) (H : Nums W .u8 A n (fun i => (l i : Int))) (HZ : Nums W .i64 B m z) (he : erc l n = 0) :
    Calls Try.prog 3 #[.slice A n c, .slice B m d] W fun e w' => e = .returned (.bool true) ∧ Below W.heap.size W w' := by
  have hv := Lib.hid (show longB n = false from decide_eq_false (by omega))
  have hd : decide (400 < (m : Int)) = false := decide_eq_false (by omega)
  have HN := Lib.hid (show n ≤ maxLen by unfold maxLen; omega)
  have HM := Lib.hid (show m ≤ maxLen by unfold maxLen; omega)
  have HL := Lib.hid hl
  have HA := Lib.hid H
  have HB := Lib.hid HZ
  have HE := Lib.hid he
  have HO := Lib.hid (show outn l n = n by unfold outn; rw [if_pos he])
  clear hl H HZ he
  go_enter Try.func3, Try.ntmps3
  go_wp2_with fail
  refine (long_any A n c _ HN.out).mono ?_; rintro e w0 ⟨rfl, rfl⟩
  rw [hv.out]
  go_wp2_with fail
  refine (codes_any A n c l _ HN.out HL.out HA.out).mono ?_; rintro e w1 ⟨A1, c1, rfl, m1, k1, g1, b1⟩
  rw [HO.out] at m1 g1 ⊢
  rw [HE.out]
  have G1 := Lib.hid g1
  have B1 := Lib.hid b1
  clear g1 b1
  go_wp2_with fail
  have A1' := Lib.hid (HA.out.below B1.out)
  refine (rcodes_any A n c l _ HN.out HL.out A1'.out).mono ?_; rintro e w2 ⟨A2, c2, rfl, m2, k2, g2, b2⟩
  rw [HO.out] at m2 g2 ⊢
  rw [HE.out]
  have G2 := Lib.hid g2
  have G1' := Lib.hid (G1.out.below b2)
  have B2 := Lib.hid (B1.out.trans (b2.mono B1.out.size))
  clear g2 b2
  go_wp2_with fail
  have A2' := Lib.hid (HA.out.below B2.out)
  refine (kind_any A n c l _ HN.out HL.out A2'.out).mono ?_; rintro e w3 ⟨rfl, b3⟩
  have G3 := Lib.hid (G1'.out.below b3)
  have G3' := Lib.hid (G2.out.below b3)
  have B3 := Lib.hid (B2.out.trans (b3.mono B2.out.size))
  clear b3
  go_wp2_with fail
  have A3' := Lib.hid (HA.out.below B3.out)
  refine (rkind_any A n c l _ HN.out HL.out A3'.out).mono ?_; rintro e w4 ⟨rfl, rfl⟩
  go_wp2_with fail
  refine (same_any A1 A2 n c1 c2 _ _ _ _ _ HN.out G3.out G3'.out (fun _ _ => rfl) (fun _ _ => rfl)).mono ?_; rintro e w5 ⟨rfl, q, rfl⟩
  have B5 := Lib.hid (below_drewN B3.out q)
  have G5 := Lib.hid (G3.out.drewN q)
  go_wp2_with fail
  refine (lens_any A1 n c1 _ _ _ hn G5.out).mono ?_; rintro e w6 ⟨A6, c6, rfl, m6, k6, g6, b6⟩
  have G6 := Lib.hid g6
  have B6 := Lib.hid (B5.out.trans (b6.mono B5.out.size))
  clear g6 b6
  go_wp2_with fail
  have A6' := Lib.hid (HA.out.below B6.out)
  refine (sameLens_any A6 A n c6 c _ _ _ HN.out G6.out A6'.out (fun _ _ => rfl)).mono ?_; rintro e w7 ⟨rfl, q7, rfl⟩
  have B7 := Lib.hid (below_drewN B6.out q7)
  go_wp2_with fail
  have A7' := Lib.hid (HA.out.below B7.out)
  have Z7' := Lib.hid (HB.out.below B7.out)
  refine (weighs_any A B n m c d l z _ HN.out HM.out A7'.out Z7'.out HL.out).mono ?_; rintro e w8 ⟨rfl, b8⟩
  have B8 := Lib.hid (B7.out.trans (b8.mono B7.out.size))
  clear b8
  go_wp2_with fail
  have A8' := Lib.hid (HA.out.below B8.out)
  have Z8' := Lib.hid (HB.out.below B8.out)
  refine (rweighs_any A B n m c d l z _ HN.out HM.out A8'.out Z8'.out HL.out).mono ?_; rintro e w9 ⟨rfl, b9⟩
  have B9 := Lib.hid (B8.out.trans (b9.mono B8.out.size))
  clear b9
  go_wp2_with fail
  refine (alive_any _).mono ?_; rintro e w10 ⟨rfl, b10⟩
  have B10 := Lib.hid (B9.out.trans (b10.mono B9.out.size))
  clear b10
  go_wp2_with fail
  go_ret
  exact ⟨rfl, B10.out⟩

set_option maxHeartbeats 1000000 in
theorem tells_err (A B : Option Addr) (n m c d : Nat) (l : Nat → Nat) (z : Nat → Int) (W : World) (hn : n ≤ 400) (hm : m ≤ 400) (hl : ∀ i, l i ≤ 255) (H : Nums W .u8 A n (fun i => (l i : Int))) (HZ : Nums W .i64 B m z) (E : Nat) (he : erc l n = E) (hE : E ≠ 0) :
    Calls Try.prog 3 #[.slice A n c, .slice B m d] W fun e w' => e = .returned (.bool true) ∧ Below W.heap.size W w' := by
  have hv := Lib.hid (show longB n = false from decide_eq_false (by omega))
  have hd : decide (400 < (m : Int)) = false := decide_eq_false (by omega)
  have HN := Lib.hid (show n ≤ maxLen by unfold maxLen; omega)
  have HM := Lib.hid (show m ≤ maxLen by unfold maxLen; omega)
  have HL := Lib.hid hl
  have HA := Lib.hid H
  have HB := Lib.hid HZ
  have HE := Lib.hid he
  have HO := Lib.hid (show outn l n = 0 by unfold outn; rw [if_neg (by omega)])
  have hE1 : ((E : Int) != 0) = true := by rw [bne_iff_ne]; omega
  have hE2 : ((E : Int) == 0) = false := by rw [beq_eq_false_iff_ne]; omega
  clear hl H HZ he hE
  go_enter Try.func3, Try.ntmps3
  go_wp2_with fail
  refine (long_any A n c _ HN.out).mono ?_; rintro e w0 ⟨rfl, rfl⟩
  rw [hv.out]
  go_wp2_with fail
  refine (codes_any A n c l _ HN.out HL.out HA.out).mono ?_; rintro e w1 ⟨A1, c1, rfl, m1, k1, g1, b1⟩
  rw [HO.out] at m1 g1 ⊢
  rw [HE.out]
  have G1 := Lib.hid g1
  have B1 := Lib.hid b1
  clear g1 b1
  go_wp2_with fail
  have A1' := Lib.hid (HA.out.below B1.out)
  refine (rcodes_any A n c l _ HN.out HL.out A1'.out).mono ?_; rintro e w2 ⟨A2, c2, rfl, m2, k2, g2, b2⟩
  rw [HO.out] at m2 g2 ⊢
  rw [HE.out]
  have B2 := Lib.hid (B1.out.trans (b2.mono B1.out.size))
  clear g2 b2
  go_wp2_with fail
  have A2' := Lib.hid (HA.out.below B2.out)
  refine (kind_any A n c l _ HN.out HL.out A2'.out).mono ?_; rintro e w3 ⟨rfl, b3⟩
  have B3 := Lib.hid (B2.out.trans (b3.mono B2.out.size))
  clear b3
  go_wp2_with fail
  have A3' := Lib.hid (HA.out.below B3.out)
  refine (rkind_any A n c l _ HN.out HL.out A3'.out).mono ?_; rintro e w4 ⟨rfl, rfl⟩
  go_wp2_with fail
  refine (same_any A1 A2 0 c1 c2 (fun _ => 0) (fun _ => 0) (fun _ => 0) (fun _ => 0) _ (by decide) (Cods.nil _ _ _ _) (Cods.nil _ _ _ _) (fun _ _ => rfl) (fun _ _ => rfl)).mono ?_; rintro e w5 ⟨rfl, q, rfl⟩
  have B5 := Lib.hid (below_drewN B3.out q)
  go_wp2_with fail
  have A7' := Lib.hid (HA.out.below B5.out)
  have Z7' := Lib.hid (HB.out.below B5.out)
  refine (weighs_any A B n m c d l z _ HN.out HM.out A7'.out Z7'.out HL.out).mono ?_; rintro e w8 ⟨rfl, b8⟩
  have B8 := Lib.hid (B5.out.trans (b8.mono B5.out.size))
  clear b8
  go_wp2_with fail
  have A8' := Lib.hid (HA.out.below B8.out)
  have Z8' := Lib.hid (HB.out.below B8.out)
  refine (rweighs_any A B n m c d l z _ HN.out HM.out A8'.out Z8'.out HL.out).mono ?_; rintro e w9 ⟨rfl, b9⟩
  have B9 := Lib.hid (B8.out.trans (b9.mono B8.out.size))
  clear b9
  go_wp2_with fail
  refine (alive_any _).mono ?_; rintro e w10 ⟨rfl, b10⟩
  have B10 := Lib.hid (B9.out.trans (b10.mono B9.out.size))
  clear b10
  go_wp2_with fail
  go_ret
  exact ⟨rfl, B10.out⟩

theorem CanonTells_walk (a0 : Option Addr) (len0 cap0 : Nat) (z0 : List Int) (a1 : Option Addr) (len1 cap1 : Nat) (z1 : List Int) (w : World) (w0 : IsRow .u8 w a0 len0 cap0 z0) (w1 : IsRow .i64 w a1 len1 cap1 z1) :
    Calls Try.prog 3 #[.slice a0 len0 cap0, .slice a1 len1 cap1] w fun e w' => e = .returned (.bool true) ∧ Below w.heap.size w w' := by
  have h0 := w0.most
  have h1 := w1.most
  by_cases h : 400 < len0 ∨ 400 < len1
  · exact tells_far _ _ _ _ _ _ w (by omega) (by omega) h
  · obtain ⟨q1, q2⟩ := w0.nat8
    by_cases he : erc (nat8 z0) len0 = 0
    · exact tells_ok a0 a1 len0 len1 cap0 cap1 _ _ w (by omega) (by omega) q1 q2 w1.nums he
    · exact tells_err a0 a1 len0 len1 cap0 cap1 _ _ w (by omega) (by omega) q1 q2 w1.nums _ rfl he
end Go.Proofs.Ytgcdmgilgknneaa
