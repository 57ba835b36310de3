/- BitrWhole returns true for any arguments that their kinds hold. Conditions: none. -/
import Derived.Test.YtlikpljbbenmoaaCal
namespace Go.Proofs.Ytlikpljbbenmoaa
open Go.RowKit M
set_option linter.unusedVariables false
variable {w w' : World} {B p q a : Nat} {s : ByteArray}

theorem tx_byte (s : ByteArray) (i : Nat) (h : i < s.size) : tx s / 256 ^ i % 256 = s[i].toNat := by
  unfold tx
  rw [← vl_drop]
  have hl : i < s.data.toList.length := by rw [size_list]; exact h
  rw [List.drop_eq_getElem_cons hl]
  simp only [vl]
  have hb := (s.data.toList[i]).toNat_lt
  have e : s.data.toList[i] = s[i] := byte_at s i h
  rw [← e]
  omega
theorem bit_byte (s : ByteArray) (i k : Nat) (h : i < s.size) (hk : k < 8) : nb s (8 * i + k) 1 = s[i].toNat / 2 ^ k % 2 := by
  rw [← tx_byte s i h]
  unfold nb
  rw [Nat.pow_add, ← Nat.div_div_eq_div_mul, ← p256', show (256 : Nat) = 2 ^ k * 2 ^ (8 - k) by rw [← Nat.pow_add, show k + (8 - k) = 8 by omega], Nat.mod_mul_right_div_self, show 8 - k = 1 + (7 - k) by omega, Nat.pow_add, Nat.mod_mul_right_mod]

/-- What is behind a call, whatever it answers. -/
theorem gbits_ge (s : ByteArray) (a : Nat) (x : Int) : a ≤ (gbits s a x).2.2 := by
  unfold gbits; split
  · split <;> simp
  · simp
theorem gskip_ge (s : ByteArray) (a : Nat) (x : Int) : a ≤ (gskip s a x).2 := by
  unfold gskip; split
  · split <;> simp
  · simp
theorem galign_ge (a : Nat) : a ≤ galign a := by unfold galign; omega
theorem gbytes_ge (s : ByteArray) (a : Nat) (x : Int) : a ≤ (gbytes s a x).2.2 := by
  unfold gbytes; split
  · split
    · show a ≤ 8 * _; omega
    · simp
  · simp

theorem bit_and (b k : Nat) (hb : b < 256) : bits .and .u64 (IntKind.u64.wrap (b : Int) / 2 ^ k) 1 = ((b / 2 ^ k % 2 : Nat) : Int) := by
  have h : b / 2 ^ k ≤ b := Nat.div_le_self _ _
  rw [wrap_nat_lt _ (by omega), cast_pow2, ← Int.natCast_ediv]
  have := bits_and_u64_nat (b / 2 ^ k) 1 (by omega) (by decide)
  rw [and_one] at this
  exact this

def Far (B p : Nat) (s : ByteArray) (a : Nat) (w w' : World) : Prop := ∃ a', a ≤ a' ∧ Rd w' B p s a' ∧ Below B w w'
theorem Got.far {v : Value} {r : Nat} {e : Ending} (h : Got w B p s v r e w') (hr : Rd w B p s a) (hB : B ≤ w.heap.size) (ha : a ≤ r) : e = .returned v ∧ Far B p s a w w' :=
  ⟨h.1, r, ha, h.2.1, (h.next hr hB).2.2⟩

theorem bits_far (h : Rd w B p s a) (hs : s.size ≤ 100000000) (hB : B ≤ w.heap.size) (x : Int) :
    Calls Try.prog 22 #[.pointer (some ⟨p, 0, none⟩), .int .i64 x] w fun e w' => (∃ (y : Nat) (z : Int), e = .returned (.tuple #[.int .u64 y, .int .i64 z])) ∧ Far B p s a w w' :=
  (rbits_any h hs x).mono fun e w' g => ⟨⟨_, _, g.1⟩, (g.far h hB (gbits_ge _ _ _)).2⟩
theorem peek_far (h : Rd w B p s a) (hs : s.size ≤ 100000000) (hB : B ≤ w.heap.size) (x : Int) :
    Calls Try.prog 21 #[.pointer (some ⟨p, 0, none⟩), .int .i64 x] w fun e w' => (∃ (y : Nat) (z : Int), e = .returned (.tuple #[.int .u64 y, .int .i64 z])) ∧ Far B p s a w w' :=
  (rpeek_any h hs x).mono fun e w' g => ⟨⟨_, _, g.1⟩, (g.far h hB (Nat.le_refl _)).2⟩
theorem skip_far (h : Rd w B p s a) (hs : s.size ≤ 100000000) (hB : B ≤ w.heap.size) (x : Int) :
    Calls Try.prog 23 #[.pointer (some ⟨p, 0, none⟩), .int .i64 x] w fun e w' => (∃ z : Int, e = .returned (.int .i64 z)) ∧ Far B p s a w w' :=
  (rskip_any h hs x).mono fun e w' g => ⟨⟨_, g.1⟩, (g.far h hB (gskip_ge _ _ _)).2⟩
theorem bytes_far (h : Rd w B p s a) (hs : s.size ≤ 100000000) (hB : B ≤ w.heap.size) (x : Int) :
    Calls Try.prog 20 #[.pointer (some ⟨p, 0, none⟩), .int .i64 x] w fun e w' => (∃ (y : ByteArray) (z : Int), e = .returned (.tuple #[.string y, .int .i64 z])) ∧ Far B p s a w w' :=
  (rbytes_any' h hs x).mono fun e w' g => ⟨⟨_, _, g.1⟩, (g.far h hB (gbytes_ge _ _ _)).2⟩
theorem align_far (h : Rd w B p s a) (hs : s.size ≤ 100000000) (hB : B ≤ w.heap.size) :
    Calls Try.prog 24 #[.pointer (some ⟨p, 0, none⟩)] w fun e w' => e = .returned (.tuple #[]) ∧ Far B p s a w w' :=
  (ralign_any' h hs).mono fun e w' g => ⟨g.1, (g.far h hB (galign_ge _)).2⟩

set_option maxRecDepth 100000 in
set_option maxHeartbeats 4000000 in
theorem whole_yes (s : ByteArray) (ao : Option Addr) (len cap : Nat) (cs : List Ca) (w : World) (hs : s.size ≤ 512) (hl : len ≤ 100) (hc : IsCas w ao len cs) :
    Calls Try.prog 7 #[.string s, .slice ao len cap] w fun e w' => e = .returned (.bool true) ∧ Below w.heap.size w w' := by
  have hs8 : s.size ≤ 100000000 := by omega
  have HC := Lib.hid hc
  clear hc
  go_enter Try.func7, Try.ntmps7
  go_wp2_with fail
  refine (rnew_any s _ (Nat.le_refl _)).mono ?_; rintro e w1 ⟨rfl, k1, r1, l1⟩
  have R1 := Lib.hid r1
  have B1 := Lib.hid (k1.below (Nat.le_refl w.heap.size) (fun _ g => g.elim))
  clear r1 k1
  go_wp2_with fail
  go_loopw [6] (fun i wr => ∃ j : Nat, j ≤ s.size ∧ i = .int .i64 j ∧ Rd wr w.heap.size w.heap.size s (8 * j) ∧ Below w.heap.size w wr) (fun i _ => s.size - (intOf i).toNat)
  case atStart => exact ⟨0, Nat.zero_le _, rfl, R1.out, B1.out⟩
  case round =>
    obtain ⟨j, hj, rfl, hr, hb⟩ := hrel
    have HR := Lib.hid hr
    have HB := Lib.hid hb
    clear hr hb
    by_cases hlt : j < s.size
    · have hlt' : decide (j < s.size) = true := decide_eq_true hlt
      go_wp2_with fail
      go_loopw [7] (fun i wi => ∃ k : Nat, k ≤ 8 ∧ i = .int .i64 k ∧ Rd wi w.heap.size w.heap.size s (8 * j + k) ∧ Below w.heap.size w wi) (fun i _ => 8 - (intOf i).toNat)
      case atStart => exact ⟨0, Nat.zero_le _, rfl, HR.out, HB.out⟩
      case round =>
        obtain ⟨k, hk, rfl, hr, hb⟩ := hrel
        have HR2 := Lib.hid hr
        have HB2 := Lib.hid hb
        clear hr hb
        by_cases hk8 : k < 8
        · have hk' : decide ((k : Int) < 8) = true := by simp; omega
          go_wp2_with fail
          refine (rbits_any HR2.out hs8 1).mono ?_; intro e w3 g
          rw [show (1 : Int) = ((1 : Nat) : Int) from rfl, gbits_yes (by decide) (by omega), bit_byte s j k hlt hk8] at g
          have hbit := bit_and s[j].toNat k s[j].toNat_lt
          obtain ⟨X, hX⟩ : ∃ X : Nat, s[j].toNat / 2 ^ k % 2 = X := ⟨_, rfl⟩
          rw [hX] at g hbit
          obtain ⟨rfl, r3, b3⟩ := g.next HR2.out HB2.out.size
          have R3 := Lib.hid r3
          have B3 := Lib.hid (HB2.out.trans b3)
          clear r3 b3 g hX
          go_wp2_with fail
          go_roundw
          case rel => exact ⟨k + 1, by omega, by go_num, R3.out, B3.out⟩
          case measure => simp [intOf]; omega
        · obtain rfl : k = 8 := by omega
          go_wp2_with fail
          go_roundw
          case rel => exact ⟨j + 1, by omega, by go_num, HR2.out, HB2.out⟩
          case measure => simp [intOf]; omega
    · obtain rfl : j = s.size := by omega
      have hlt' : decide (s.size < s.size) = false := decide_eq_false (by omega)
      go_wp2_with fail
      refine (rnew_any s _ HB.out.size).mono ?_; rintro e w2 ⟨rfl, k2, r2, l2⟩
      have R2 := Lib.hid r2
      have B2 := Lib.hid (HB.out.trans (k2.below HB.out.size (fun _ g => g.elim)))
      obtain ⟨q, hq⟩ : ∃ q, wr.heap.size = q := ⟨_, rfl⟩
      rw [hq] at R2 ⊢
      clear r2 k2 hlt' l2 hq
      go_wp2_with fail
      go_loopw [11] (fun i wi => ∃ k : Nat, k ≤ len ∧ i = .int .i64 k ∧ (∃ a, Rd wi w.heap.size q s a) ∧ Below w.heap.size w wi) (fun i _ => len - (intOf i).toNat)
      case atStart => exact ⟨0, Nat.zero_le _, rfl, ⟨_, R2.out⟩, B2.out⟩
      case round =>
        obtain ⟨k, hk, rfl, ⟨a, hr⟩, hb⟩ := hrel
        have HR2 := Lib.hid hr
        have HB2 := Lib.hid hb
        clear hr hb
        by_cases hkl : k < len
        · have hk' : decide (k < len) = true := decide_eq_true hkl
          have hcl := (HC.out.below HB2.out)
          have hcs : k < cs.length := by rw [hcl.leng]; exact hkl
          rcases hcl.cells with h0 | ⟨b', o, rfl, hbw, hcell⟩
          · omega
          · have hcc := hcell k cs[k] (List.getElem?_eq_getElem hcs)
            have hok := hcl.good cs[k] (List.getElem_mem hcs)
            have hd := hcc.d
            have hn := hcc.n
            generalize cs[k] = c at *
            have d0 := hok.d.1
            have d1 := hok.d.2
            have n0 := hok.n.1
            have n1 := hok.n.2
            clear hcl hcell hcc hok
            by_cases h3 : c.d % 8 = 3
            · have s3 : (c.d % 8 == 3) = true := by simp [h3]
              have s4 : (c.d % 8 == 4) = false := by simp [h3]
              have s5 : (c.d % 8 == 5) = false := by simp [h3]
              have s6 : (c.d % 8 == 6) = false := by simp [h3]
              have s7 : (c.d % 8 == 7) = false := by simp [h3]
              clear h3
              go_wp2_with fail
              refine (at_any HR2.out).mono ?_; rintro e w' ⟨rfl, rfl⟩
              go_wp2_with fail
              refine (peek_far HR2.out hs8 HB2.out.size c.n).mono ?_; rintro e w3 ⟨⟨y, z, rfl⟩, a', ha', r3, b3⟩
              have R3 := Lib.hid r3
              have B3 := Lib.hid (HB2.out.trans b3)
              obtain ⟨L, hL⟩ : ∃ L, 8 * s.size - a' = L := ⟨_, rfl⟩
              have hL2 : (a' : Int) + (L : Int) = 8 * (s.size : Int) := by have := r3.le; omega
              have HL := Lib.hid hL
              have hL3 : (L : Int) ≤ 4096 := by omega
              have hL4 : a' ≤ 4096 := by omega
              clear r3 b3 hL hd hn HR2 HB2
              go_wp2_with fail
              refine (at_any R3.out).mono ?_; rintro e w' ⟨rfl, rfl⟩
              go_wp2_with fail
              refine (at_any R3.out).mono ?_; rintro e w' ⟨rfl, rfl⟩
              go_wp2_with fail
              refine (left_any R3.out hs8).mono ?_; rintro e w' ⟨rfl, n4, rfl⟩
              rw [HL.out]
              go_wp2_with fail
              refine (left_any (R3.out.drewN n4) hs8).mono ?_; rintro e w' ⟨rfl, n5, rfl⟩
              rw [HL.out]
              go_wp2_with fail
              go_roundw
              case rel => exact ⟨k + 1, by omega, by go_num, ⟨_, R3.out.drewN _⟩, B3.out.trans ((Kept.refl NoB w3).drewN _ |>.below B3.out.size (fun _ g => g.elim))⟩
              case measure => simp [intOf]; omega
            by_cases h4 : c.d % 8 = 4
            · have s3 : (c.d % 8 == 3) = false := by simp [h4]
              have s4 : (c.d % 8 == 4) = true := by simp [h4]
              have s5 : (c.d % 8 == 5) = false := by simp [h4]
              have s6 : (c.d % 8 == 6) = false := by simp [h4]
              have s7 : (c.d % 8 == 7) = false := by simp [h4]
              clear h3
              clear h4
              go_wp2_with fail
              refine (at_any HR2.out).mono ?_; rintro e w' ⟨rfl, rfl⟩
              go_wp2_with fail
              refine (skip_far HR2.out hs8 HB2.out.size c.n).mono ?_; rintro e w3 ⟨⟨z, rfl⟩, a', ha', r3, b3⟩
              have R3 := Lib.hid r3
              have B3 := Lib.hid (HB2.out.trans b3)
              obtain ⟨L, hL⟩ : ∃ L, 8 * s.size - a' = L := ⟨_, rfl⟩
              have hL2 : (a' : Int) + (L : Int) = 8 * (s.size : Int) := by have := r3.le; omega
              have HL := Lib.hid hL
              have hL3 : (L : Int) ≤ 4096 := by omega
              have hL4 : a' ≤ 4096 := by omega
              clear r3 b3 hL hd hn HR2 HB2
              go_wp2_with fail
              refine (at_any R3.out).mono ?_; rintro e w' ⟨rfl, rfl⟩
              go_wp2_with fail
              refine (at_any R3.out).mono ?_; rintro e w' ⟨rfl, rfl⟩
              go_wp2_with fail
              refine (left_any R3.out hs8).mono ?_; rintro e w' ⟨rfl, n4, rfl⟩
              rw [HL.out]
              go_wp2_with fail
              refine (left_any (R3.out.drewN n4) hs8).mono ?_; rintro e w' ⟨rfl, n5, rfl⟩
              rw [HL.out]
              go_wp2_with fail
              go_roundw
              case rel => exact ⟨k + 1, by omega, by go_num, ⟨_, R3.out.drewN _⟩, B3.out.trans ((Kept.refl NoB w3).drewN _ |>.below B3.out.size (fun _ g => g.elim))⟩
              case measure => simp [intOf]; omega
            by_cases h5 : c.d % 8 = 5
            · have s3 : (c.d % 8 == 3) = false := by simp [h5]
              have s4 : (c.d % 8 == 4) = false := by simp [h5]
              have s5 : (c.d % 8 == 5) = true := by simp [h5]
              have s6 : (c.d % 8 == 6) = false := by simp [h5]
              have s7 : (c.d % 8 == 7) = false := by simp [h5]
              clear h3
              clear h4
              clear h5
              go_wp2_with fail
              refine (at_any HR2.out).mono ?_; rintro e w' ⟨rfl, rfl⟩
              go_wp2_with fail
              refine (align_far HR2.out hs8 HB2.out.size).mono ?_; rintro e w3 ⟨rfl, a', ha', r3, b3⟩
              have R3 := Lib.hid r3
              have B3 := Lib.hid (HB2.out.trans b3)
              obtain ⟨L, hL⟩ : ∃ L, 8 * s.size - a' = L := ⟨_, rfl⟩
              have hL2 : (a' : Int) + (L : Int) = 8 * (s.size : Int) := by have := r3.le; omega
              have HL := Lib.hid hL
              have hL3 : (L : Int) ≤ 4096 := by omega
              have hL4 : a' ≤ 4096 := by omega
              clear r3 b3 hL hd hn HR2 HB2
              go_wp2_with fail
              refine (at_any R3.out).mono ?_; rintro e w' ⟨rfl, rfl⟩
              go_wp2_with fail
              refine (at_any R3.out).mono ?_; rintro e w' ⟨rfl, rfl⟩
              go_wp2_with fail
              refine (left_any R3.out hs8).mono ?_; rintro e w' ⟨rfl, n4, rfl⟩
              rw [HL.out]
              go_wp2_with fail
              refine (left_any (R3.out.drewN n4) hs8).mono ?_; rintro e w' ⟨rfl, n5, rfl⟩
              rw [HL.out]
              go_wp2_with fail
              go_roundw
              case rel => exact ⟨k + 1, by omega, by go_num, ⟨_, R3.out.drewN _⟩, B3.out.trans ((Kept.refl NoB w3).drewN _ |>.below B3.out.size (fun _ g => g.elim))⟩
              case measure => simp [intOf]; omega
            by_cases h6 : c.d % 8 = 6
            · have s3 : (c.d % 8 == 3) = false := by simp [h6]
              have s4 : (c.d % 8 == 4) = false := by simp [h6]
              have s5 : (c.d % 8 == 5) = false := by simp [h6]
              have s6 : (c.d % 8 == 6) = true := by simp [h6]
              have s7 : (c.d % 8 == 7) = false := by simp [h6]
              clear h3
              clear h4
              clear h5
              clear h6
              go_wp2_with fail
              refine (at_any HR2.out).mono ?_; rintro e w' ⟨rfl, rfl⟩
              go_wp2_with fail
              refine (bytes_far HR2.out hs8 HB2.out.size c.n).mono ?_; rintro e w3 ⟨⟨y, z, rfl⟩, a', ha', r3, b3⟩
              have R3 := Lib.hid r3
              have B3 := Lib.hid (HB2.out.trans b3)
              obtain ⟨L, hL⟩ : ∃ L, 8 * s.size - a' = L := ⟨_, rfl⟩
              have hL2 : (a' : Int) + (L : Int) = 8 * (s.size : Int) := by have := r3.le; omega
              have HL := Lib.hid hL
              have hL3 : (L : Int) ≤ 4096 := by omega
              have hL4 : a' ≤ 4096 := by omega
              clear r3 b3 hL hd hn HR2 HB2
              go_wp2_with fail
              refine (at_any R3.out).mono ?_; rintro e w' ⟨rfl, rfl⟩
              go_wp2_with fail
              refine (at_any R3.out).mono ?_; rintro e w' ⟨rfl, rfl⟩
              go_wp2_with fail
              refine (left_any R3.out hs8).mono ?_; rintro e w' ⟨rfl, n4, rfl⟩
              rw [HL.out]
              go_wp2_with fail
              refine (left_any (R3.out.drewN n4) hs8).mono ?_; rintro e w' ⟨rfl, n5, rfl⟩
              rw [HL.out]
              go_wp2_with fail
              go_roundw
              case rel => exact ⟨k + 1, by omega, by go_num, ⟨_, R3.out.drewN _⟩, B3.out.trans ((Kept.refl NoB w3).drewN _ |>.below B3.out.size (fun _ g => g.elim))⟩
              case measure => simp [intOf]; omega
            by_cases h7 : c.d % 8 = 7
            · have s3 : (c.d % 8 == 3) = false := by simp [h7]
              have s4 : (c.d % 8 == 4) = false := by simp [h7]
              have s5 : (c.d % 8 == 5) = false := by simp [h7]
              have s6 : (c.d % 8 == 6) = false := by simp [h7]
              have s7 : (c.d % 8 == 7) = true := by simp [h7]
              clear h3
              clear h4
              clear h5
              clear h6
              clear h7
              go_wp2_with fail
              refine (at_any HR2.out).mono ?_; rintro e w' ⟨rfl, rfl⟩
              go_wp2_with fail
              refine (bytes_far HR2.out hs8 HB2.out.size c.n).mono ?_; rintro e w3 ⟨⟨y, z, rfl⟩, a', ha', r3, b3⟩
              have R3 := Lib.hid r3
              have B3 := Lib.hid (HB2.out.trans b3)
              obtain ⟨L, hL⟩ : ∃ L, 8 * s.size - a' = L := ⟨_, rfl⟩
              have hL2 : (a' : Int) + (L : Int) = 8 * (s.size : Int) := by have := r3.le; omega
              have HL := Lib.hid hL
              have hL3 : (L : Int) ≤ 4096 := by omega
              have hL4 : a' ≤ 4096 := by omega
              clear r3 b3 hL hd hn HR2 HB2
              go_wp2_with fail
              refine (at_any R3.out).mono ?_; rintro e w' ⟨rfl, rfl⟩
              go_wp2_with fail
              refine (at_any R3.out).mono ?_; rintro e w' ⟨rfl, rfl⟩
              go_wp2_with fail
              refine (left_any R3.out hs8).mono ?_; rintro e w' ⟨rfl, n4, rfl⟩
              rw [HL.out]
              go_wp2_with fail
              refine (left_any (R3.out.drewN n4) hs8).mono ?_; rintro e w' ⟨rfl, n5, rfl⟩
              rw [HL.out]
              go_wp2_with fail
              go_roundw
              case rel => exact ⟨k + 1, by omega, by go_num, ⟨_, R3.out.drewN _⟩, B3.out.trans ((Kept.refl NoB w3).drewN _ |>.below B3.out.size (fun _ g => g.elim))⟩
              case measure => simp [intOf]; omega
            have s3 : (c.d % 8 == 3) = false := by simp [h3]
            have s4 : (c.d % 8 == 4) = false := by simp [h4]
            have s5 : (c.d % 8 == 5) = false := by simp [h5]
            have s6 : (c.d % 8 == 6) = false := by simp [h6]
            have s7 : (c.d % 8 == 7) = false := by simp [h7]
            clear h3
            clear h4
            clear h5
            clear h6
            clear h7
            go_wp2_with fail
            refine (at_any HR2.out).mono ?_; rintro e w' ⟨rfl, rfl⟩
            go_wp2_with fail
            refine (bits_far HR2.out hs8 HB2.out.size c.n).mono ?_; rintro e w3 ⟨⟨y, z, rfl⟩, a', ha', r3, b3⟩
            have R3 := Lib.hid r3
            have B3 := Lib.hid (HB2.out.trans b3)
            obtain ⟨L, hL⟩ : ∃ L, 8 * s.size - a' = L := ⟨_, rfl⟩
            have hL2 : (a' : Int) + (L : Int) = 8 * (s.size : Int) := by have := r3.le; omega
            have HL := Lib.hid hL
            have hL3 : (L : Int) ≤ 4096 := by omega
            have hL4 : a' ≤ 4096 := by omega
            clear r3 b3 hL hd hn HR2 HB2
            go_wp2_with fail
            refine (at_any R3.out).mono ?_; rintro e w' ⟨rfl, rfl⟩
            go_wp2_with fail
            refine (at_any R3.out).mono ?_; rintro e w' ⟨rfl, rfl⟩
            go_wp2_with fail
            refine (left_any R3.out hs8).mono ?_; rintro e w' ⟨rfl, n4, rfl⟩
            rw [HL.out]
            go_wp2_with fail
            refine (left_any (R3.out.drewN n4) hs8).mono ?_; rintro e w' ⟨rfl, n5, rfl⟩
            rw [HL.out]
            go_wp2_with fail
            go_roundw
            case rel => exact ⟨k + 1, by omega, by go_num, ⟨_, R3.out.drewN _⟩, B3.out.trans ((Kept.refl NoB w3).drewN _ |>.below B3.out.size (fun _ g => g.elim))⟩
            case measure => simp [intOf]; omega
        · obtain rfl : k = len := by omega
          have hk' : decide (k < k) = false := decide_eq_false (by omega)
          go_wp2_with fail
          refine (alive_any _).mono ?_; rintro e w9 ⟨rfl, b9⟩
          have B9 := Lib.hid (HB2.out.trans (b9.mono HB2.out.size))
          clear b9
          go_wp2_with fail
          go_ret
          exact ⟨rfl, B9.out⟩
end Go.Proofs.Ytlikpljbbenmoaa
