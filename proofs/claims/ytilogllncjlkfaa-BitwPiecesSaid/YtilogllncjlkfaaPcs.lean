/- The walk of BitwPieces: it returns true for any arguments that their kinds hold. Conditions: none. -/
import Derived.Test.YtilogllncjlkfaaDuo
namespace Go.Proofs.Ytilogllncjlkfaa
open Go.RowKit M
set_option linter.unusedVariables false

set_option maxRecDepth 100000 in
theorem pieces_go (a1 a2 a3 : Int) (s : ByteArray) (N K C A M X Y D : Nat) (w : World) (h1 : 0 ≤ a1 ∧ a1 ≤ 255) (h2 : 0 ≤ a2 ∧ a2 ≤ 255) (h3 : 0 ≤ a3 ∧ a3 ≤ 255) (hs : s.size ≤ 1024) (hK : a1 % 57 = (K : Int)) (hK56 : K ≤ 56) (hC : a2 % ((K : Int) + 1) = (C : Int)) (hCK : C ≤ K) (hA : a3 % 20 = (A : Int)) (hA20 : A < 20)
    (hM : bits .and .u64 (N : Int) (mk K : Int) = (M : Int)) (hX : bits .and .u64 (M : Int) (mk C : Int) = (X : Int)) (hY : (M : Int) / 2 ^ C = (Y : Int)) (hD : (K : Int) - (C : Int) = (D : Int)) (hN : N < big)
    (bM : Hid (M < 2 ^ K)) (bX : Hid (X < 2 ^ C)) (bY : Hid (Y < 2 ^ D)) (hsum : Hid (∀ V L, V + X * 2 ^ L + Y * 2 ^ (L + C) = V + M * 2 ^ L)) :
    Calls Try.prog 4 #[.int .u64 N, .int .u8 a1, .int .u8 a2, .int .u8 a3, .string s] w fun e w' => e = .returned (.bool true) ∧ Below w.heap.size w w' := by
  go_enter Try.func4, Try.ntmps4
  go_wp2_with fail
  refine (mask_nat K _ (by omega)).mono ?_; rintro e w' ⟨rfl, rfl⟩
  go_wp2_with fail
  refine (new_any 4096 _ (Nat.le_refl _)).mono ?_; rintro e w1 ⟨rfl, k1, r1, l1⟩
  go_wp2_with fail
  refine (new_any 4096 _ k1.size).mono ?_; rintro e w2 ⟨rfl, k2, r2, l2⟩
  have D0 := Lib.hid (duo_new (Nat.le_refl _) k1 r1 l1 k2 r2)
  clear k1 r1 l1 k2 r2 l2
  generalize hpb : w1.heap.size = pb at *
  generalize hpa : w.heap.size = pa at *
  have HPA := Lib.hid hpa
  clear hpb hpa
  have D1 : Hid (Duo w2 pa pa pb 4096 4096 0 0 0 0 ∧ Below pa w w2) := D0
  clear D0
  go_wp2_with fail
  go_loopw [15] (fun i wr => ∃ (k V : Nat), k ≤ A ∧ i = .int .i64 k ∧ Duo wr pa pa pb 4096 4096 V k V k ∧ Below pa w wr) (fun i _ => A - (intOf i).toNat)
  case atStart => exact ⟨0, 0, Nat.zero_le _, rfl, D1.out.1, D1.out.2⟩
  case round =>
    obtain ⟨k, V, hk, rfl, hd, hb⟩ := hrel
    have DD := Lib.hid hd
    have HB := Lib.hid hb
    clear hd hb D1
    by_cases hlt : k < A
    · have hlt' : decide (k < A) = true := decide_eq_true hlt
      obtain ⟨b, hb⟩ : ∃ b : Nat, (k : Int) % 2 = (b : Int) := ⟨k % 2, by omega⟩
      have hb1 : b ≤ 1 := by omega
      go_wp2_with fail
      refine (duo_bits_a DD.out (b : Int) 1 (by omega) (by omega) 0 (V + b * 2 ^ k) (k + 1) (bitsR_yes (s := 1) (by decide) (by simp; omega) (by omega))).mono ?_; rintro e w3 ⟨rfl, d3, b3⟩
      have D3 := Lib.hid d3
      have B3 := Lib.hid (HB.out.trans b3)
      clear d3 b3
      go_wp2_with fail
      refine (duo_bits_b D3.out (b : Int) 1 (by omega) (by omega) 0 (V + b * 2 ^ k) (k + 1) (bitsR_yes (s := 1) (by decide) (by simp; omega) (by omega))).mono ?_; rintro e w4 ⟨rfl, d4, b4⟩
      have D4 := Lib.hid d4
      have B4 := Lib.hid (B3.out.trans b4)
      clear d4 b4
      go_wp2_with fail
      go_roundw
      case rel => exact ⟨k + 1, V + b * 2 ^ k, by omega, by go_num, D4.out, B4.out⟩
      case measure => simp [intOf]; omega
    · have hlt' : decide (k < A) = false := decide_eq_false hlt
      have hk20 : k < 20 := by omega
      clear hk hlt
      go_wp2_with fail
      refine (duo_bits_a DD.out (M : Int) (K : Int) (by omega) (by omega) 0 (V + M * 2 ^ k) (k + K) (bitsR_yes hK56 (by have := bM.out; simpa using this) (by omega))).mono ?_; rintro e w3 ⟨rfl, d3, b3⟩
      have D3 := Lib.hid d3
      have B3 := Lib.hid (HB.out.trans b3)
      clear d3 b3
      go_wp2_with fail
      refine (mask_nat C _ (by omega)).mono ?_; rintro e w' ⟨rfl, rfl⟩
      go_wp2_with fail
      refine (duo_bits_b D3.out (X : Int) (C : Int) (by omega) (by omega) 0 (V + X * 2 ^ k) (k + C) (bitsR_yes (by omega) (by have := bX.out; simpa using this) (by omega))).mono ?_; rintro e w4 ⟨rfl, d4, b4⟩
      have D4 := Lib.hid d4
      have B4 := Lib.hid (B3.out.trans b4)
      clear d4 b4
      go_wp2_with fail
      have hkc : k + C + D = k + K := by omega
      refine (duo_bits_b D4.out (Y : Int) (D : Int) (by omega) (by omega) 0 (V + M * 2 ^ k) (k + K) ((bitsR_yes (by omega) (by have := bY.out; simpa using this) (by omega)).trans (by rw [hkc, Int.toNat_natCast, hsum.out V k]))).mono ?_; rintro e w5 ⟨rfl, d5, b5⟩
      have hL76 : k + K ≤ 76 := by omega
      generalize k + K = L1 at *
      generalize V + M * 2 ^ k = V1 at *
      have D5 := Lib.hid d5
      have B5 := Lib.hid (B4.out.trans b5)
      clear d5 b5 hkc
      obtain ⟨T1, hT1⟩ : ∃ T, textR V1 L1 = T := ⟨_, rfl⟩
      have HT := Lib.hid hT1
      clear hT1 D3 D4
      go_wp2_with fail
      refine (duo_text_a D5.out (by omega)).mono ?_; rintro e w6 ⟨rfl, d6, b6⟩
      rw [HT.out]
      have D6 := Lib.hid d6
      have B6 := Lib.hid (B5.out.trans b6)
      clear d6 b6
      go_wp2_with fail
      refine (duo_text_b D6.out (by omega)).mono ?_; rintro e w7 ⟨rfl, d7, b7⟩
      rw [HT.out]
      have D7 := Lib.hid d7
      have B7 := Lib.hid (B6.out.trans b7)
      clear d7 b7
      go_wp2_with fail
      refine (duo_len_a D7.out (by omega)).mono ?_; rintro e w8 ⟨rfl, d8, b8⟩
      have D8 := Lib.hid d8
      have B8 := Lib.hid (B7.out.trans b8)
      clear d8 b8
      go_wp2_with fail
      refine (duo_len_b D8.out (by omega)).mono ?_; rintro e w9 ⟨rfl, d9, b9⟩
      have D9 := Lib.hid d9
      have B9 := Lib.hid (B8.out.trans b9)
      clear d9 b9
      go_wp2_with fail
      refine (duo_bytes_a D9.out s (by omega) (by omega) 0 _ _ (bytesR_yes (by omega))).mono ?_; rintro e w10 ⟨rfl, d10, b10⟩
      have D10 := Lib.hid d10
      have B10 := Lib.hid (B9.out.trans b10)
      clear d10 b10
      go_wp2_with fail
      refine (duo_align_b D10.out (by omega)).mono ?_; rintro e w11 ⟨rfl, d11, b11⟩
      have hA8 : alignL L1 ≤ 84 := by have := align_lt L1; omega
      generalize alignL L1 = A8 at *
      generalize hV2 : V1 + vl s.data.toList * 2 ^ A8 = V2 at *
      have HV2 := Lib.hid hV2
      have D11 := Lib.hid d11
      have B11 := Lib.hid (B10.out.trans b11)
      clear d11 b11 hV2 D5 D6 D7 D8 D9 D10
      go_wp2_with fail
      go_loopw [20] (fun i wr => ∃ (j : Nat), j ≤ s.size ∧ i = .int .i64 j ∧ Duo wr pa pa pb 4096 4096 V2 (A8 + 8 * s.size) (V1 + vl (s.data.toList.take j) * 2 ^ A8) (A8 + 8 * j) ∧ Below pa w wr) (fun i _ => s.size - (intOf i).toNat)
      case atStart => exact ⟨0, Nat.zero_le _, rfl, by simpa [vl] using D11.out, B11.out⟩
      case round =>
        obtain ⟨j, hj, rfl, hd, hb⟩ := hrel
        have DD := Lib.hid hd
        have HB := Lib.hid hb
        clear hd hb D11
        by_cases hlt : j < s.size
        · have hlt' : decide (j < s.size) = true := decide_eq_true hlt
          go_wp2_with fail
          have hb8 := s[j].toNat_lt
          have hbm := byte_more V1 A8 j s hlt
          rw [wrap_nat_lt _ (by omega)]
          generalize s[j].toNat = b at *
          refine (duo_bits_b DD.out (b : Int) 8 (by omega) (by omega) 0 (V1 + vl (s.data.toList.take (j + 1)) * 2 ^ A8) (A8 + 8 * (j + 1)) ((bitsR_yes (s := 8) (by decide) (by simpa using hb8) (by omega)).trans (by rw [Int.toNat_natCast, hbm, show A8 + 8 * j + 8 = A8 + 8 * (j + 1) by omega]))).mono ?_; rintro e w12 ⟨rfl, d12, b12⟩
          have D12 := Lib.hid d12
          have B12 := Lib.hid (HB.out.trans b12)
          clear d12 b12 hbm hb8
          go_wp2_with fail
          go_roundw
          case rel => exact ⟨j + 1, by omega, by go_num, D12.out, B12.out⟩
          case measure => simp [intOf]; omega
        · obtain rfl : j = s.size := by omega
          have hd : Duo wr pa pa pb 4096 4096 V2 (A8 + 8 * s.size) V2 (A8 + 8 * s.size) := by
            have := DD.out
            rwa [vl_take_all, HV2.out] at this
          obtain ⟨T2, hT2⟩ : ∃ T, textR V2 (A8 + 8 * s.size) = T := ⟨_, rfl⟩
          have HT2 := Lib.hid hT2
          have D12 := Lib.hid hd
          clear hd hT2
          go_wp2_with fail
          refine (duo_text_a D12.out (by omega)).mono ?_; rintro e w13 ⟨rfl, d13, b13⟩
          rw [HT2.out]
          have D13 := Lib.hid d13
          have B13 := Lib.hid (HB.out.trans b13)
          clear d13 b13
          go_wp2_with fail
          refine (duo_text_b D13.out (by omega)).mono ?_; rintro e w14 ⟨rfl, d14, b14⟩
          rw [HT2.out]
          have D14 := Lib.hid d14
          have B14 := Lib.hid (B13.out.trans b14)
          clear d14 b14
          go_wp2_with fail
          refine (alive_any _).mono ?_; rintro e w15 ⟨rfl, b15⟩
          have B15 := Lib.hid (B14.out.trans (b15.mono D14.out.base))
          clear b15
          go_wp2_with fail
          go_ret
          exact ⟨rfl, by rw [HPA.out]; exact B15.out⟩

theorem BitwPieces_walk (a0 a1 a2 a3 : Int) (a4 : ByteArray) (w : World) (w0 : (Lit.int .u64 a0).wf = true) (w1 : (Lit.int .u8 a1).wf = true) (w2 : (Lit.int .u8 a2).wf = true) (w3 : (Lit.int .u8 a3).wf = true) (w4 : a4.size ≤ maxLen) :
    Calls Try.prog 4 #[.int .u64 a0, .int .u8 a1, .int .u8 a2, .int .u8 a3, .string a4] w fun e w' => e = .returned (.bool true) ∧ Below w.heap.size w w' := by
  by_cases hl : 1024 < a4.size
  · go_enter Try.func4, Try.ntmps4
    go_wp2_with fail
    refine (alive_any _).mono ?_; rintro e w' ⟨rfl, hb⟩
    go_wp2_with fail
    go_ret
    exact ⟨rfl, hb⟩
  · have hn := u64_bounds w0
    have h1 := u8_bounds w1
    have h2 := u8_bounds w2
    have h3 := u8_bounds w3
    obtain ⟨N, rfl⟩ := Int.eq_ofNat_of_zero_le hn.1
    have hN := hn.2
    rw [Int.toNat_natCast] at hN
    obtain ⟨K, hK⟩ : ∃ K : Nat, a1 % 57 = K := ⟨(a1 % 57).toNat, by omega⟩
    have hK56 : K ≤ 56 := by omega
    have hm1 := Int.emod_nonneg a2 (show (K : Int) + 1 ≠ 0 by omega)
    have hm2 := Int.emod_lt_of_pos a2 (show 0 < (K : Int) + 1 by omega)
    obtain ⟨C, hC⟩ := Int.eq_ofNat_of_zero_le hm1
    have hCK : C ≤ K := by omega
    obtain ⟨A, hA⟩ : ∃ A : Nat, a3 % 20 = A := ⟨(a3 % 20).toNat, by omega⟩
    have bM : N % 2 ^ K < 2 ^ K := Nat.mod_lt _ (Nat.two_pow_pos K)
    have hMb : N % 2 ^ K < big := mod_big N _ hN
    refine pieces_go a1 a2 a3 a4 N K C A (N % 2 ^ K) (N % 2 ^ K % 2 ^ C) (N % 2 ^ K / 2 ^ C) (K - C) w h1 h2 h3 (by omega) hK hK56 hC hCK hA (by omega) (and_mask N K hN (by omega)) (and_mask _ C hMb (by omega)) ?_ (by omega) hN bM (Nat.mod_lt _ (Nat.two_pow_pos C)) ?_ ?_
    · rw [cast_pow2, ← Int.natCast_ediv]
    · show _ < _
      apply Nat.div_lt_of_lt_mul
      rw [← Nat.pow_add, show C + (K - C) = K by omega]
      exact bM
    · intro V L
      generalize N % 2 ^ K = M
      have h := Nat.mod_add_div M (2 ^ C)
      rw [Nat.add_assoc]
      congr 1
      conv => rhs; rw [← h]
      rw [Nat.add_mul, Nat.pow_add]
      congr 1
      rw [Nat.mul_comm (2 ^ L), ← Nat.mul_assoc, Nat.mul_comm (M / 2 ^ C)]
end Go.Proofs.Ytilogllncjlkfaa
