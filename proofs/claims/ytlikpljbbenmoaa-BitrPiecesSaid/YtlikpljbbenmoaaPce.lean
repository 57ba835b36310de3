/- BitrPieces returns true for any arguments that their kinds hold. Conditions: none. -/
import Derived.Test.YtlikpljbbenmoaaRdF
namespace Go.Proofs.Ytlikpljbbenmoaa
open Go.RowKit M
set_option linter.unusedVariables false

theorem nb_split (s : ByteArray) (a c d : Nat) : nb s a (c + d) = nb s a c + nb s (a + c) d * 2 ^ c := by
  unfold nb
  rw [Nat.pow_add, Nat.mod_mul, Nat.div_div_eq_div_mul, ← Nat.pow_add, Nat.mul_comm (2 ^ c)]
theorem piece_or (s : ByteArray) (a c d : Nat) (h : c + d ≤ 56) : bits .or .u64 (nb s a c : Int) (IntKind.u64.wrap ((nb s (a + c) d : Int) * 2 ^ c)) = (nb s a (c + d) : Int) := by
  have h1 := nb_lt s a c
  have h2 := nb_lt s (a + c) d
  have h3 : nb s (a + c) d * 2 ^ c < 2 ^ (c + d) := by
    rw [Nat.add_comm c d, Nat.pow_add]; exact Nat.mul_lt_mul_of_pos_right h2 (Nat.two_pow_pos c)
  have h4 : 2 ^ (c + d) ≤ 2 ^ 56 := Nat.pow_le_pow_right (by decide) h
  have h5 : 2 ^ c ≤ 2 ^ 56 := Nat.pow_le_pow_right (by decide) (by omega)
  have e56 : (2 : Nat) ^ 56 = 72057594037927936 := by decide
  rw [cast_pow2, ← Int.natCast_mul, wrap_nat_lt _ (by omega), bits_or_u64_nat _ _ (by omega) (by omega), or_high _ _ _ h1, nb_split, Nat.mul_comm (2 ^ c)]

variable {w w' : World} {B p q a : Nat} {s : ByteArray}
theorem Got.other {v : Value} {r b : Nat} {e : Ending} {t : ByteArray} (h : Got w B p s v r e w') (hr : Rd w B q t b) (hn : q ≠ p) : Rd w' B q t b := hr.keep h.2.2 hn

set_option maxHeartbeats 2000000 in
theorem pieces_yes (s : ByteArray) (far size cut : Int) (at' k c d : Nat) (w : World) (hs : s.size ≤ 4096) (hf : 0 ≤ far ∧ far ≤ 65535) (hz : 0 ≤ size ∧ size ≤ 255) (hc : 0 ≤ cut ∧ cut ≤ 255)
    (hat : far % (8 * (s.size : Int) + 1) = (at' : Int)) (hk : size % 57 = (k : Int)) (hcc : cut % ((k : Int) + 1) = (c : Int)) (hd : k = c + d) (hle : at' + k ≤ 8 * s.size) :
    Calls Try.prog 5 #[.string s, .int .u16 far, .int .u8 size, .int .u8 cut] w fun e w' => e = .returned (.bool true) ∧ Below w.heap.size w w' := by
  obtain ⟨f0, f1⟩ := hf
  obtain ⟨z0, z1⟩ := hz
  obtain ⟨c0, c1⟩ := hc
  have hs8 : s.size ≤ 100000000 := by omega
  have hk56 : k ≤ 56 := by omega
  have G1 := Lib.hid (gbits_yes (s := s) (a := at') hk56 hle)
  have G2 := Lib.hid (gbits_yes (s := s) (a := at') (n := c) (by omega) (by omega))
  have G3 := Lib.hid (gbits_yes (s := s) (a := at' + c) (n := d) (by omega) (by omega))
  have GS := Lib.hid (gskip_yes (s := s) (a := 0) (n := at') (by omega))
  have hor := piece_or s at' c d (by omega)
  obtain ⟨X, hX⟩ : ∃ X, nb s at' c = X := ⟨_, rfl⟩
  obtain ⟨Y, hY⟩ : ∃ Y, nb s (at' + c) d = Y := ⟨_, rfl⟩
  obtain ⟨Z, hZ⟩ : ∃ Z, nb s at' k = Z := ⟨_, rfl⟩
  rw [hX] at hor G2
  rw [hY] at hor G3
  rw [← hd] at hor
  rw [hZ] at hor G1
  have HD := Lib.hid hd
  have HLE := Lib.hid hle
  have hkd : IntKind.i64.wrap ((k : Int) - (c : Int)) = (d : Int) := by rw [IntWalk.i64_in _ ⟨by omega, by omega⟩]; omega
  have hkd' : (k : Int) - (c : Int) = (d : Int) := by omega
  clear hX hY hZ hd
  go_enter Try.func5, Try.ntmps5
  go_wp2_with fail
  refine (rnew_any s _ (Nat.le_refl _)).mono ?_; rintro e w1 ⟨rfl, k1, r1, l1⟩
  have R1 := Lib.hid r1
  have B1 := Lib.hid (k1.below (Nat.le_refl w.heap.size) (fun _ g => g.elim))
  clear r1 k1
  go_wp2_with fail
  refine (rnew_any s _ B1.out.size).mono ?_; rintro e w2 ⟨rfl, k2, r2, l2⟩
  have A2 := Lib.hid (R1.out.same k2)
  have R2 := Lib.hid r2
  have B2 := Lib.hid (B1.out.trans (k2.below B1.out.size (fun _ g => g.elim)))
  have HN : Hid (w1.heap.size ≠ w.heap.size) := Lib.hid (by omega)
  clear r2 k2
  go_wp2_with fail
  refine (rskip_any A2.out hs8 at').mono ?_; intro e w3 g
  rw [GS.out] at g
  have o3 := g.other R2.out HN.out
  obtain ⟨rfl, a3, b3⟩ := g.next A2.out B2.out.size
  have A3 := Lib.hid a3
  have R3 := Lib.hid o3
  have B3 := Lib.hid (B2.out.trans b3)
  clear a3 o3 b3 g
  go_wp2_with fail
  refine (rskip_any R3.out hs8 at').mono ?_; intro e w4 g
  rw [GS.out] at g
  have o4 := g.other A3.out HN.out.symm
  obtain ⟨rfl, a4, b4⟩ := g.next R3.out B3.out.size
  rw [Nat.zero_add] at o4 a4
  have R4 := Lib.hid a4
  have A4 := Lib.hid o4
  have B4 := Lib.hid (B3.out.trans b4)
  clear a4 o4 b4 g
  go_wp2_with fail
  refine (rbits_any A4.out hs8 k).mono ?_; intro e w5 g
  rw [G1.out] at g
  have o5 := g.other R4.out HN.out
  obtain ⟨rfl, a5, b5⟩ := g.next A4.out B4.out.size
  have A5 := Lib.hid a5
  have R5 := Lib.hid o5
  have B5 := Lib.hid (B4.out.trans b5)
  clear a5 o5 b5 g
  go_wp2_with fail
  refine (rbits_any R5.out hs8 c).mono ?_; intro e w6 g
  rw [G2.out] at g
  have o6 := g.other A5.out HN.out.symm
  obtain ⟨rfl, a6, b6⟩ := g.next R5.out B5.out.size
  have R6 := Lib.hid a6
  have A6 := Lib.hid o6
  have B6 := Lib.hid (B5.out.trans b6)
  clear a6 o6 b6 g
  go_wp2_with fail
  refine (rbits_any R6.out hs8 d).mono ?_; intro e w7 g
  rw [G3.out] at g
  have o7 := g.other A6.out HN.out.symm
  obtain ⟨rfl, a7, b7⟩ := g.next R6.out B6.out.size
  rw [show at' + c + d = at' + k by have := HD.out; omega] at a7
  have R7 := Lib.hid a7
  have A7 := Lib.hid o7
  have B7 := Lib.hid (B6.out.trans b7)
  clear a7 o7 b7 g
  go_wp2_with fail
  refine (at_any A7.out).mono ?_; rintro e w' ⟨rfl, rfl⟩
  go_wp2_with fail
  refine (at_any R7.out).mono ?_; rintro e w' ⟨rfl, rfl⟩
  go_wp2_with fail
  refine (at_any A7.out).mono ?_; rintro e w' ⟨rfl, rfl⟩
  obtain ⟨L, hL⟩ : ∃ L, 8 * s.size - (at' + k) = L := ⟨_, rfl⟩
  have hL2 : 8 * (s.size : Int) - (at' : Int) - (k : Int) = (L : Int) := by have := HLE.out; omega
  have HL := Lib.hid hL
  clear hL
  go_wp2_with fail
  refine (left_any A7.out hs8).mono ?_; rintro e w' ⟨rfl, n8, rfl⟩
  rw [HL.out]
  have B8 := Lib.hid (B7.out.trans ((Kept.refl NoB w7).drewN n8 |>.below B7.out.size (fun _ g => g.elim)))
  go_wp2_with fail
  refine (alive_any _).mono ?_; rintro e w9 ⟨rfl, b9⟩
  have B9 := Lib.hid (B8.out.trans (b9.mono B8.out.size))
  clear b9
  go_wp2_with fail
  go_ret
  exact ⟨rfl, B9.out⟩

set_option maxHeartbeats 2000000 in
theorem pieces_end (s : ByteArray) (far size cut : Int) (at' k c : Nat) (w : World) (hs : s.size ≤ 4096) (hf : 0 ≤ far ∧ far ≤ 65535) (hz : 0 ≤ size ∧ size ≤ 255) (hc : 0 ≤ cut ∧ cut ≤ 255)
    (hat : far % (8 * (s.size : Int) + 1) = (at' : Int)) (hk : size % 57 = (k : Int)) (hcc : cut % ((k : Int) + 1) = (c : Int)) (hk56 : k ≤ 56) (h8 : at' ≤ 8 * s.size) (hle : 8 * s.size < at' + k) :
    Calls Try.prog 5 #[.string s, .int .u16 far, .int .u8 size, .int .u8 cut] w fun e w' => e = .returned (.bool true) ∧ Below w.heap.size w w' := by
  obtain ⟨f0, f1⟩ := hf
  obtain ⟨z0, z1⟩ := hz
  obtain ⟨c0, c1⟩ := hc
  have hs8 : s.size ≤ 100000000 := by omega
  have G1 := Lib.hid (gbits_end (s := s) (a := at') (x := (k : Int)) ⟨by omega, by omega⟩ (by omega))
  have GS := Lib.hid (gskip_yes (s := s) (a := 0) (n := at') (by omega))
  have hlt : 8 * (s.size : Int) - (at' : Int) < (k : Int) := by omega
  clear hle
  go_enter Try.func5, Try.ntmps5
  go_wp2_with fail
  refine (rnew_any s _ (Nat.le_refl _)).mono ?_; rintro e w1 ⟨rfl, k1, r1, l1⟩
  have R1 := Lib.hid r1
  have B1 := Lib.hid (k1.below (Nat.le_refl w.heap.size) (fun _ g => g.elim))
  clear r1 k1
  go_wp2_with fail
  refine (rnew_any s _ B1.out.size).mono ?_; rintro e w2 ⟨rfl, k2, r2, l2⟩
  have A2 := Lib.hid (R1.out.same k2)
  have R2 := Lib.hid r2
  have B2 := Lib.hid (B1.out.trans (k2.below B1.out.size (fun _ g => g.elim)))
  have HN : Hid (w1.heap.size ≠ w.heap.size) := Lib.hid (by omega)
  clear r2 k2
  go_wp2_with fail
  refine (rskip_any A2.out hs8 at').mono ?_; intro e w3 g
  rw [GS.out] at g
  have o3 := g.other R2.out HN.out
  obtain ⟨rfl, a3, b3⟩ := g.next A2.out B2.out.size
  have A3 := Lib.hid a3
  have R3 := Lib.hid o3
  have B3 := Lib.hid (B2.out.trans b3)
  clear a3 o3 b3 g
  go_wp2_with fail
  refine (rskip_any R3.out hs8 at').mono ?_; intro e w4 g
  rw [GS.out] at g
  have o4 := g.other A3.out HN.out.symm
  obtain ⟨rfl, a4, b4⟩ := g.next R3.out B3.out.size
  rw [Nat.zero_add] at o4 a4
  have R4 := Lib.hid a4
  have A4 := Lib.hid o4
  have B4 := Lib.hid (B3.out.trans b4)
  clear a4 o4 b4 g
  go_wp2_with fail
  refine (rbits_any A4.out hs8 k).mono ?_; intro e w5 g
  rw [G1.out] at g
  obtain ⟨rfl, a5, b5⟩ := g.next A4.out B4.out.size
  have A5 := Lib.hid a5
  have B5 := Lib.hid (B4.out.trans b5)
  clear a5 b5 g
  go_wp2_with fail
  refine (at_any A5.out).mono ?_; rintro e w' ⟨rfl, rfl⟩
  go_wp2_with fail
  refine (alive_any _).mono ?_; rintro e w9 ⟨rfl, b9⟩
  have B9 := Lib.hid (B5.out.trans (b9.mono B5.out.size))
  clear b9
  go_wp2_with fail
  go_ret
  exact ⟨rfl, B9.out⟩

theorem u16_bounds {a : Int} (h : (Lit.int .u16 a).wf = true) : 0 ≤ a ∧ a ≤ 65535 := by simpa [Lit.wf, IntKind.min, IntKind.max, IntKind.signed, IntKind.bits] using h

theorem BitrPieces_walk (a0 : ByteArray) (a1 a2 a3 : Int) (w : World) (w0 : a0.size ≤ maxLen) (w1 : (Lit.int .u16 a1).wf = true) (w2 : (Lit.int .u8 a2).wf = true) (w3 : (Lit.int .u8 a3).wf = true) :
    Calls Try.prog 5 #[.string a0, .int .u16 a1, .int .u8 a2, .int .u8 a3] w fun e w' => e = .returned (.bool true) ∧ Below w.heap.size w w' := by
  have b1 := u16_bounds w1
  have b2 := u8_bounds w2
  have b3 := u8_bounds w3
  by_cases hs : a0.size ≤ 4096
  · obtain ⟨at', hat⟩ := Int.eq_ofNat_of_zero_le (show 0 ≤ a1 % (8 * (a0.size : Int) + 1) from Int.emod_nonneg _ (by omega))
    obtain ⟨k, hk⟩ := Int.eq_ofNat_of_zero_le (show 0 ≤ a2 % 57 by omega)
    obtain ⟨c, hc⟩ := Int.eq_ofNat_of_zero_le (show 0 ≤ a3 % ((k : Int) + 1) from Int.emod_nonneg _ (by omega))
    have h1 : (at' : Int) < 8 * (a0.size : Int) + 1 := by rw [← hat]; exact Int.emod_lt_of_pos _ (by omega)
    have h2 : (c : Int) < (k : Int) + 1 := by rw [← hc]; exact Int.emod_lt_of_pos _ (by omega)
    by_cases hle : at' + k ≤ 8 * a0.size
    · exact pieces_yes a0 a1 a2 a3 at' k c (k - c) w hs b1 b2 b3 hat hk hc (by omega) hle
    · exact pieces_end a0 a1 a2 a3 at' k c w hs b1 b2 b3 hat hk hc (by omega) (by omega) (by omega)
  · have hs' : 4096 < a0.size := by omega
    clear hs b1 b2 b3 w0 w1 w2 w3
    go_enter Try.func5, Try.ntmps5
    go_wp2_with fail
    refine (alive_any _).mono ?_; rintro e w9 ⟨rfl, b9⟩
    go_wp2_with fail
    go_ret
    exact ⟨rfl, b9⟩
end Go.Proofs.Ytlikpljbbenmoaa
