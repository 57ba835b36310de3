/- What the document's Look of layer 7 answers. Conditions: as each theorem names them. -/
import Derived.Test.YtnkkccieidlacaaRhA
namespace Go.Proofs.Ytnkkccieidlacaa
open Go.RowKit M
set_option linter.unusedVariables false
set_option linter.unusedSimpArgs false

theorem rlook_arg (v : Value) (X x : Int) (W : World) (hx : x < 0) :
    Calls Try.prog 15 #[v, .int .u64 X, .int .i64 x] W fun e w' => e = .returned (.tuple #[.int .i64 0, .int .i64 0, .int .i64 2]) ∧ W = w' := by
  go_enter Try.func15, Try.ntmps15
  go_wp2_with fail
  go_ret3
  exact ⟨rfl, rfl⟩

set_option maxRecDepth 1000000 in
set_option maxHeartbeats 1000000 in
theorem rlook_any (p : Nat) (A : Option Addr) (n c : Nat) (l : Nat → Nat) (f X h : Nat) (W : World) (htb : Tbl l n) (hX : X < big) (hh : h ≤ 9223372036854775807) (hn : n ≤ 320) (HRh : Rh W p A n c l f) :
    Calls Try.prog 15 #[.pointer (some ⟨p, 0, none⟩), .int .u64 X, .int .i64 h] W fun e w' => e = .returned (.tuple #[.int .i64 (lk l n X h).1, .int .i64 (lk l n X h).2.1, .int .i64 (lk l n X h).2.2]) ∧ Below W.heap.size W w' := by
  have HF := Lib.hid htb.fit
  have HH := Lib.hid HRh
  have HLY := Lib.hid (fun i hi hft hle => lk_yes (X := X) (h := h) (i := i) htb.fit hi hft hle)
  have HLR := Lib.hid (fun hno => lk_rest (X := X) (h := h) htb hno)
  clear HRh htb
  by_cases h15 : 15 < h
  · obtain ⟨H, hH⟩ : ∃ H, min h 15 = H := ⟨_, rfl⟩
    have hH15 : H = 15 := by omega
    rw [hH] at HLY HLR
    have d15 : decide (15 < (h : Int)) = true := decide_eq_true (by omega)
    clear hH
    go_enter Try.func15, Try.ntmps15
    go_wp2_with fail
    rw [show (15 : Int) = (H : Int) by omega]
    have hHle : H ≤ 15 := by omega
    clear hH15 h15
    go_loopw [9, 10] (fun v9 v10 wr => ∃ k : Nat, ∃ S0 : Bool, k ≤ n ∧ v10 = .int .i64 k ∧ v9 = .bool S0 ∧ som l n X H k = S0 ∧ (∀ i, i < k → fts l n X H i → ¬ l i ≤ H) ∧ Below W.heap.size W wr) (fun _ v10 _ => n - (intOf v10).toNat)
    case atStart => exact ⟨0, false, Nat.zero_le _, rfl, rfl, rfl, fun i hi => absurd hi (by omega), Below.refl _ _⟩
    case round =>
      obtain ⟨k, S0, hkn, rfl, rfl, hS0, hno, hb⟩ := hrel
      have HS0 := Lib.hid hS0
      have HNO := Lib.hid hno
      have HB := Lib.hid hb
      have hbs := hb.size
      have p0 := (hb.cell (World.block_lt_of_cell? _ _ HH.out.c0)).trans HH.out.c0
      clear hS0 hno hb
      by_cases hlt : k < n
      · obtain ⟨b0, o0, rfl, hbs0, hcc⟩ := HH.out.cods (by omega)
        have g1 := (HB.out.cell (p := ⟨b0, o0 + k * 2, none⟩) hbs0).trans (hcc k hlt).1
        have g2 := (HB.out.cell (p := ⟨b0, o0 + k * 2 + 1, none⟩) hbs0).trans (hcc k hlt).2
        have hz15 := HF.out.1.2 k hlt
        have hcs := cod_small HF.out.1 HF.out.2 hlt
        have HRV := Lib.hid (show ∀ j, j < l k → rc l n k / 2 ^ j % 2 = cod l n k / 2 ^ (l k - 1 - j) % 2 from fun j hj => rv_bit hj)
        have HFT := Lib.hid (show fts l n X H k ↔ (l k ≠ 0 ∧ X % 2 ^ min (l k) H = rc l n k % 2 ^ min (l k) H) from Iff.rfl)
        have hkk : ((k : Int)).toNat = k := by omega
        obtain ⟨R, hR⟩ : ∃ R, rc l n k = R := ⟨_, rfl⟩
        obtain ⟨y, hy⟩ : ∃ y, cod l n k = y := ⟨_, rfl⟩
        obtain ⟨z, hz⟩ : ∃ z, l k = z := ⟨_, rfl⟩
        rw [hR, hy, hz] at HRV
        rw [hR, hz] at HFT
        rw [hy] at g1 hcs
        rw [hz] at g2 hz15
        have HZ := Lib.hid hz
        clear hcc hR hy hz
        go_wp2_with fail
        have RC := Lib.hid (R2.new wr 52 (.int .u32 y) (.int .u8 z))
        have BC := Lib.hid ((Below.refl wr.heap.size wr).alloc (Nat.le_refl _) (.cells #[.int .u32 y, .int .u8 z] 52))
        go_loopw [12, 13] (fun v12 v13 w3 => ∃ j : Nat, ∃ b : Bool, j ≤ min z H ∧ v13 = .int .i64 j ∧ v12 = .bool b ∧ (b = true ↔ (z ≠ 0 ∧ X % 2 ^ j = R % 2 ^ j)) ∧ Below (wr.heap.size + 1) (wr.alloc (.cells #[.int .u32 y, .int .u8 z] 52)) w3) (fun _ v13 _ => min z H - (intOf v13).toNat)
        case atStart => exact ⟨0, _, Nat.zero_le _, rfl, rfl, by simp [Nat.mod_one]; omega, Below.refl _ _⟩
        case round =>
          obtain ⟨j, b, hj, rfl, rfl, hbi, hb3⟩ := hrel
          have HBI := Lib.hid hbi
          have B3 := Lib.hid hb3
          have rc3 := RC.out.below hb3 (by omega)
          have q0 := rc3.at0
          have q1 := rc3.at1
          have hs3 := hb3.size
          have hs3' := hs3
          have BA := Lib.hid (HB.out.trans (Below.trans (BC.out.mono (by omega)) (hb3.mono (by omega))))
          clear hbi hb3 rc3
          by_cases hjz : j < z
          · have dz : decide ((j : Int) < (z : Int)) = true := decide_eq_true (by omega)
            have dz2 : decide (j < z) = true := decide_eq_true hjz
            by_cases hjH : j < H
            · have dH : decide ((j : Int) < (H : Int)) = true := decide_eq_true (by omega)
              have dH2 : decide (j < H) = true := decide_eq_true hjH
              cases b with
              | true =>
                have hrv := HRV.out j hjz
                have HBT := Lib.hid (fun w => bit_any y z j w (by omega) hz15 hjz)
                have HXB := Lib.hid (fun w => rbit_any X j w hX (by omega))
                have HMN := Lib.hid (mod_next (a := X) (b := R) (k := j))
                rw [hrv] at HMN
                obtain ⟨bt, hbt⟩ : ∃ bt, y / 2 ^ (z - 1 - j) % 2 = bt := ⟨_, rfl⟩
                obtain ⟨xb, hxb⟩ : ∃ xb, X / 2 ^ j % 2 = xb := ⟨_, rfl⟩
                rw [hbt] at HBT HMN
                rw [hxb] at HXB HMN
                clear hrv hbt hxb
                go_wp2_with fail
                refine (HBT.out _).mono ?_; rintro e w4 ⟨rfl, b4⟩
                have B4 := Lib.hid (B3.out.trans (b4.mono (by simp at hs3; omega)))
                clear b4
                go_wp2_with fail
                refine (HXB.out _).mono ?_; rintro e w5 ⟨rfl, rfl⟩
                go_wp2_with fail
                go_roundw
                case rel =>
                  refine ⟨j + 1, _, by omega, by go_num, rfl, ?_, B4.out⟩
                  have h1 := HBI.out.1 (by first | rfl | trivial)
                  constructor
                  · intro h
                    have h2 : bt = xb := by
                      have h3 : (bt : Int) = (xb : Int) := by simpa using h
                      omega
                    exact ⟨h1.1, HMN.out.2 ⟨h1.2, h2.symm⟩⟩
                  · intro h
                    have := (HMN.out.1 h.2).2
                    rw [this]; simp
                case measure => simp [intOf]; omega
              | false =>
                go_wp2_with fail
                go_roundw
                case rel =>
                  refine ⟨j + 1, false, by omega, by go_num, rfl, ?_, B3.out⟩
                  constructor
                  · intro h; cases h
                  · intro h
                    exact HBI.out.2 ⟨h.1, mod_less h.2 (by omega)⟩
                case measure => simp [intOf]; omega
            · obtain rfl : j = H := by omega
              have dH : decide ((j : Int) < (j : Int)) = false := decide_eq_false (by omega)
              have dzH : decide ((z : Int) ≤ (j : Int)) = false := decide_eq_false (by omega)
              have dzH2 : decide (z ≤ j) = false := decide_eq_false (by omega)
              have hmin : min z j = j := by omega
              rw [hmin] at HFT
              have hfts : decide (fts l n X j k) = b := by
                cases b with
                | true => exact decide_eq_true (HFT.out.2 (HBI.out.1 rfl))
                | false => exact decide_eq_false (fun h => by have := HBI.out.2 (HFT.out.1 h); cases this)
              have hsom : som l n X j (k + 1) = (som l n X j k || decide (fts l n X j k)) := rfl
              rw [HS0.out, hfts] at hsom
              have HSM := Lib.hid hsom
              have HNZ := Lib.hid (show ¬ l k ≤ j by rw [HZ.out]; omega)
              clear hfts hsom
              cases b <;> cases S0
              all_goals (
                go_wp2_with fail
                go_roundw
                case rel =>
                  refine ⟨k + 1, _, by omega, by go_num, rfl, HSM.out, fun i hi hf => ?_, BA.out⟩
                  by_cases e : i = k
                  · rw [e]; exact HNZ.out
                  · exact HNO.out i (by omega) hf
                case measure => simp [intOf]; omega)
          · obtain rfl : j = z := by omega
            have dz : decide ((j : Int) < (j : Int)) = false := decide_eq_false (by omega)
            have dzH : decide ((j : Int) ≤ (H : Int)) = true := decide_eq_true (by omega)
            have dzH2 : decide (j ≤ H) = true := decide_eq_true (by omega)
            have hmin : min j H = j := by omega
            rw [hmin] at HFT
            cases b with
            | true =>
              have hlk := HLY.out k hlt (HFT.out.2 (HBI.out.1 rfl)) (by rw [HZ.out]; omega)
              rw [HZ.out] at hlk
              have HLK := Lib.hid hlk
              clear hlk
              go_wp2_with fail
              go_quiet (fail)
              go_wp2_with fail
              go_ret3
              exact ⟨by rw [HLK.out]; rfl, below_drewN BA.out _⟩
            | false =>
              have hfts : decide (fts l n X H k) = false := decide_eq_false (fun h => by have := HBI.out.2 (HFT.out.1 h); cases this)
              have hsom : som l n X H (k + 1) = (som l n X H k || decide (fts l n X H k)) := rfl
              rw [HS0.out, hfts] at hsom
              have HSM := Lib.hid hsom
              have HNF := Lib.hid (of_decide_eq_false hfts)
              clear hfts hsom
              cases S0
              all_goals (
                go_wp2_with fail
                go_roundw
                case rel =>
                  refine ⟨k + 1, _, by omega, by go_num, rfl, HSM.out, fun i hi hf => ?_, BA.out⟩
                  by_cases e : i = k
                  · rw [e] at hf; exact absurd hf HNF.out
                  · exact HNO.out i (by omega) hf
                case measure => simp [intOf]; omega)
      · obtain rfl : k = n := by omega
        have hrest := HLR.out HNO.out
        rw [HS0.out] at hrest
        cases S0
        all_goals (
          have HRS := Lib.hid hrest
          clear hrest
          go_wp2_with fail
          go_ret3
          exact ⟨by rw [HRS.out]; rfl, HB.out⟩)
  · obtain ⟨H, hH⟩ : ∃ H, min h 15 = H := ⟨_, rfl⟩
    rw [hH] at HLY HLR
    have hHh : H = h := by omega
    subst hHh
    have d15 : decide (15 < (H : Int)) = false := decide_eq_false (by omega)
    have hHle : H ≤ 15 := by omega
    clear hH h15
    go_enter Try.func15, Try.ntmps15
    go_wp2_with fail
    go_loopw [9, 10] (fun v9 v10 wr => ∃ k : Nat, ∃ S0 : Bool, k ≤ n ∧ v10 = .int .i64 k ∧ v9 = .bool S0 ∧ som l n X H k = S0 ∧ (∀ i, i < k → fts l n X H i → ¬ l i ≤ H) ∧ Below W.heap.size W wr) (fun _ v10 _ => n - (intOf v10).toNat)
    case atStart => exact ⟨0, false, Nat.zero_le _, rfl, rfl, rfl, fun i hi => absurd hi (by omega), Below.refl _ _⟩
    case round =>
      obtain ⟨k, S0, hkn, rfl, rfl, hS0, hno, hb⟩ := hrel
      have HS0 := Lib.hid hS0
      have HNO := Lib.hid hno
      have HB := Lib.hid hb
      have hbs := hb.size
      have p0 := (hb.cell (World.block_lt_of_cell? _ _ HH.out.c0)).trans HH.out.c0
      clear hS0 hno hb
      by_cases hlt : k < n
      · obtain ⟨b0, o0, rfl, hbs0, hcc⟩ := HH.out.cods (by omega)
        have g1 := (HB.out.cell (p := ⟨b0, o0 + k * 2, none⟩) hbs0).trans (hcc k hlt).1
        have g2 := (HB.out.cell (p := ⟨b0, o0 + k * 2 + 1, none⟩) hbs0).trans (hcc k hlt).2
        have hz15 := HF.out.1.2 k hlt
        have hcs := cod_small HF.out.1 HF.out.2 hlt
        have HRV := Lib.hid (show ∀ j, j < l k → rc l n k / 2 ^ j % 2 = cod l n k / 2 ^ (l k - 1 - j) % 2 from fun j hj => rv_bit hj)
        have HFT := Lib.hid (show fts l n X H k ↔ (l k ≠ 0 ∧ X % 2 ^ min (l k) H = rc l n k % 2 ^ min (l k) H) from Iff.rfl)
        have hkk : ((k : Int)).toNat = k := by omega
        obtain ⟨R, hR⟩ : ∃ R, rc l n k = R := ⟨_, rfl⟩
        obtain ⟨y, hy⟩ : ∃ y, cod l n k = y := ⟨_, rfl⟩
        obtain ⟨z, hz⟩ : ∃ z, l k = z := ⟨_, rfl⟩
        rw [hR, hy, hz] at HRV
        rw [hR, hz] at HFT
        rw [hy] at g1 hcs
        rw [hz] at g2 hz15
        have HZ := Lib.hid hz
        clear hcc hR hy hz
        go_wp2_with fail
        have RC := Lib.hid (R2.new wr 52 (.int .u32 y) (.int .u8 z))
        have BC := Lib.hid ((Below.refl wr.heap.size wr).alloc (Nat.le_refl _) (.cells #[.int .u32 y, .int .u8 z] 52))
        go_loopw [12, 13] (fun v12 v13 w3 => ∃ j : Nat, ∃ b : Bool, j ≤ min z H ∧ v13 = .int .i64 j ∧ v12 = .bool b ∧ (b = true ↔ (z ≠ 0 ∧ X % 2 ^ j = R % 2 ^ j)) ∧ Below (wr.heap.size + 1) (wr.alloc (.cells #[.int .u32 y, .int .u8 z] 52)) w3) (fun _ v13 _ => min z H - (intOf v13).toNat)
        case atStart => exact ⟨0, _, Nat.zero_le _, rfl, rfl, by simp [Nat.mod_one]; omega, Below.refl _ _⟩
        case round =>
          obtain ⟨j, b, hj, rfl, rfl, hbi, hb3⟩ := hrel
          have HBI := Lib.hid hbi
          have B3 := Lib.hid hb3
          have rc3 := RC.out.below hb3 (by omega)
          have q0 := rc3.at0
          have q1 := rc3.at1
          have hs3 := hb3.size
          have hs3' := hs3
          have BA := Lib.hid (HB.out.trans (Below.trans (BC.out.mono (by omega)) (hb3.mono (by omega))))
          clear hbi hb3 rc3
          by_cases hjz : j < z
          · have dz : decide ((j : Int) < (z : Int)) = true := decide_eq_true (by omega)
            have dz2 : decide (j < z) = true := decide_eq_true hjz
            by_cases hjH : j < H
            · have dH : decide ((j : Int) < (H : Int)) = true := decide_eq_true (by omega)
              have dH2 : decide (j < H) = true := decide_eq_true hjH
              cases b with
              | true =>
                have hrv := HRV.out j hjz
                have HBT := Lib.hid (fun w => bit_any y z j w (by omega) hz15 hjz)
                have HXB := Lib.hid (fun w => rbit_any X j w hX (by omega))
                have HMN := Lib.hid (mod_next (a := X) (b := R) (k := j))
                rw [hrv] at HMN
                obtain ⟨bt, hbt⟩ : ∃ bt, y / 2 ^ (z - 1 - j) % 2 = bt := ⟨_, rfl⟩
                obtain ⟨xb, hxb⟩ : ∃ xb, X / 2 ^ j % 2 = xb := ⟨_, rfl⟩
                rw [hbt] at HBT HMN
                rw [hxb] at HXB HMN
                clear hrv hbt hxb
                go_wp2_with fail
                refine (HBT.out _).mono ?_; rintro e w4 ⟨rfl, b4⟩
                have B4 := Lib.hid (B3.out.trans (b4.mono (by simp at hs3; omega)))
                clear b4
                go_wp2_with fail
                refine (HXB.out _).mono ?_; rintro e w5 ⟨rfl, rfl⟩
                go_wp2_with fail
                go_roundw
                case rel =>
                  refine ⟨j + 1, _, by omega, by go_num, rfl, ?_, B4.out⟩
                  have h1 := HBI.out.1 (by first | rfl | trivial)
                  constructor
                  · intro h
                    have h2 : bt = xb := by
                      have h3 : (bt : Int) = (xb : Int) := by simpa using h
                      omega
                    exact ⟨h1.1, HMN.out.2 ⟨h1.2, h2.symm⟩⟩
                  · intro h
                    have := (HMN.out.1 h.2).2
                    rw [this]; simp
                case measure => simp [intOf]; omega
              | false =>
                go_wp2_with fail
                go_roundw
                case rel =>
                  refine ⟨j + 1, false, by omega, by go_num, rfl, ?_, B3.out⟩
                  constructor
                  · intro h; cases h
                  · intro h
                    exact HBI.out.2 ⟨h.1, mod_less h.2 (by omega)⟩
                case measure => simp [intOf]; omega
            · obtain rfl : j = H := by omega
              have dH : decide ((j : Int) < (j : Int)) = false := decide_eq_false (by omega)
              have dzH : decide ((z : Int) ≤ (j : Int)) = false := decide_eq_false (by omega)
              have dzH2 : decide (z ≤ j) = false := decide_eq_false (by omega)
              have hmin : min z j = j := by omega
              rw [hmin] at HFT
              have hfts : decide (fts l n X j k) = b := by
                cases b with
                | true => exact decide_eq_true (HFT.out.2 (HBI.out.1 rfl))
                | false => exact decide_eq_false (fun h => by have := HBI.out.2 (HFT.out.1 h); cases this)
              have hsom : som l n X j (k + 1) = (som l n X j k || decide (fts l n X j k)) := rfl
              rw [HS0.out, hfts] at hsom
              have HSM := Lib.hid hsom
              have HNZ := Lib.hid (show ¬ l k ≤ j by rw [HZ.out]; omega)
              clear hfts hsom
              cases b <;> cases S0
              all_goals (
                go_wp2_with fail
                go_roundw
                case rel =>
                  refine ⟨k + 1, _, by omega, by go_num, rfl, HSM.out, fun i hi hf => ?_, BA.out⟩
                  by_cases e : i = k
                  · rw [e]; exact HNZ.out
                  · exact HNO.out i (by omega) hf
                case measure => simp [intOf]; omega)
          · obtain rfl : j = z := by omega
            have dz : decide ((j : Int) < (j : Int)) = false := decide_eq_false (by omega)
            have dzH : decide ((j : Int) ≤ (H : Int)) = true := decide_eq_true (by omega)
            have dzH2 : decide (j ≤ H) = true := decide_eq_true (by omega)
            have hmin : min j H = j := by omega
            rw [hmin] at HFT
            cases b with
            | true =>
              have hlk := HLY.out k hlt (HFT.out.2 (HBI.out.1 rfl)) (by rw [HZ.out]; omega)
              rw [HZ.out] at hlk
              have HLK := Lib.hid hlk
              clear hlk
              go_wp2_with fail
              go_quiet (fail)
              go_wp2_with fail
              go_ret3
              exact ⟨by rw [HLK.out]; rfl, below_drewN BA.out _⟩
            | false =>
              have hfts : decide (fts l n X H k) = false := decide_eq_false (fun h => by have := HBI.out.2 (HFT.out.1 h); cases this)
              have hsom : som l n X H (k + 1) = (som l n X H k || decide (fts l n X H k)) := rfl
              rw [HS0.out, hfts] at hsom
              have HSM := Lib.hid hsom
              have HNF := Lib.hid (of_decide_eq_false hfts)
              clear hfts hsom
              cases S0
              all_goals (
                go_wp2_with fail
                go_roundw
                case rel =>
                  refine ⟨k + 1, _, by omega, by go_num, rfl, HSM.out, fun i hi hf => ?_, BA.out⟩
                  by_cases e : i = k
                  · rw [e] at hf; exact absurd hf HNF.out
                  · exact HNO.out i (by omega) hf
                case measure => simp [intOf]; omega)
      · obtain rfl : k = n := by omega
        have hrest := HLR.out HNO.out
        rw [HS0.out] at hrest
        cases S0
        all_goals (
          have HRS := Lib.hid hrest
          clear hrest
          go_wp2_with fail
          go_ret3
          exact ⟨by rw [HRS.out]; rfl, HB.out⟩)
end Go.Proofs.Ytnkkccieidlacaa
