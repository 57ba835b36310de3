/- What the document's Cells of layer 7 answers. Conditions: as each theorem names them. -/
import Derived.Test.YtnkkccieidlacaaRhB
namespace Go.Proofs.Ytnkkccieidlacaa
open Go.RowKit M
set_option linter.unusedVariables false
set_option linter.unusedSimpArgs false

/-- so many cells have the first table and those of its first rows -/
def part (l : Nat → Nat) (n f r : Nat) : Nat := 2 ^ f + sm (fun b => cl l n f b f) r
theorem part_le {l : Nat → Nat} {n f r P : Nat} (hf : f ≤ 15) (hm : May l n) (hP : 2 ^ f = P) (hr : r ≤ P) : part l n f r ≤ 1073774592 := by
  have h1 : 2 ^ f ≤ 2 ^ 15 := Nat.pow_le_pow_right (by omega) hf
  have h2 := sm_le (g := fun b => cl l n f b f) r (fun i _ => cl_le hf hm)
  have h3 : r * 32768 ≤ 2 ^ 15 * 32768 := Nat.mul_le_mul_right _ (by omega)
  unfold part
  omega
theorem part_next {l : Nat → Nat} {n f r G N : Nat} (h1 : 1 ≤ f) (hg : lgs l n f r n = G) (hN : part l n f r = N) : part l n f (r + 1) = if 0 < G then N + 2 ^ G else N := by
  have h := lgs_cl (l := l) (n := n) (b := r) h1
  rw [hg] at h
  have e : part l n f (r + 1) = part l n f r + cl l n f r f := by simp only [part, sm]; omega
  rw [e, h, hN]
  by_cases g : 0 < G
  · rw [if_pos g, if_pos g]
  · rw [if_neg g, if_neg g]; rfl
theorem part_zero {l : Nat → Nat} {n f : Nat} (hf : f ≤ 15) : (Value.int .i64 (wrap64 (2 ^ f)) : Value) = .int .i64 ((part l n f 0 : Nat) : Int) := by
  rw [pow_wrap hf]; rfl
theorem part_all {l : Nat → Nat} {n f P : Nat} (hP : 2 ^ f = P) : part l n f P = cells l n f := by
  rw [← hP]; rfl
theorem add_pow {N G : Nat} (hG : G ≤ 15) (hN : N ≤ 1073774592) : wrap64 ((N : Int) + wrap64 (2 ^ G)) = ((N + 2 ^ G : Nat) : Int) := by
  have h1 : 2 ^ G ≤ 2 ^ 15 := Nat.pow_le_pow_right (by omega) hG
  rw [pow_wrap hG]
  generalize 2 ^ G = a at h1 ⊢
  rw [IntWalk.wrap64_in _ ⟨by omega, by omega⟩, ← Int.natCast_add]
theorem row_in {r f P : Nat} (hf : f ≤ 15) (hP : 2 ^ f = P) (hr : r < P) : decide ((r : Int) < wrap64 (2 ^ f)) = true := by
  rw [pow_wrap hf, hP]; exact decide_eq_true (by omega)
theorem row_out {f P : Nat} (hf : f ≤ 15) (hP : 2 ^ f = P) : decide ((P : Int) < wrap64 (2 ^ f)) = false := by
  rw [pow_wrap hf, hP]; exact decide_eq_false (by omega)

set_option maxRecDepth 1000000 in
set_option maxHeartbeats 1000000 in
theorem rcells_any (p : Nat) (A : Option Addr) (n c : Nat) (l : Nat → Nat) (f : Nat) (W : World) (htb : Tbl l n) (h1 : 1 ≤ f) (hf : f ≤ 15) (hn : n ≤ 320) (HRh : Rh W p A n c l f) :
    Calls Try.prog 17 #[.pointer (some ⟨p, 0, none⟩)] W fun e w' => e = .returned (.int .i64 (cells l n f)) ∧ Below W.heap.size W w' := by
  have HF := Lib.hid htb.fit
  have HH := Lib.hid HRh
  have q1 := HRh.c1
  have P32 : 2 ^ f ≤ 32768 := Nat.pow_le_pow_right (by omega) hf
  obtain ⟨P, hP⟩ : ∃ P, 2 ^ f = P := ⟨_, rfl⟩
  rw [hP] at P32
  have HP := Lib.hid hP
  clear HRh htb hP
  go_enter Try.func17, Try.ntmps17
  go_wp2_with fail
  go_loopw [3, 4] (fun v3 v4 wr => ∃ r N : Nat, r ≤ P ∧ v4 = .int .i64 r ∧ v3 = .int .i64 N ∧ part l n f r = N ∧ Below W.heap.size W wr) (fun _ v4 _ => P - (intOf v4).toNat)
  case atStart => exact ⟨0, _, Nat.zero_le _, rfl, part_zero hf, rfl, Below.refl _ _⟩
  case round =>
    obtain ⟨r, N, hrP, rfl, rfl, hpt, hb⟩ := hrel
    have HPT := Lib.hid hpt
    have HB := Lib.hid hb
    have HN := Lib.hid (show N ≤ 1073774592 from hpt ▸ part_le hf HF.out.1 HP.out hrP)
    have hbs := hb.size
    have p1 := (hb.cell (World.block_lt_of_cell? _ _ HH.out.c1)).trans HH.out.c1
    clear hpt hb
    by_cases hlt : r < P
    · have din := row_in hf HP.out hlt
      have hr32 : r < 32768 := by omega
      go_wp2_with fail
      go_loopw [5, 6] (fun v5 v6 wm => ∃ k G : Nat, k ≤ n ∧ v6 = .int .i64 k ∧ v5 = .int .i64 G ∧ lgs l n f r k = G ∧ Below W.heap.size W wm) (fun _ v6 _ => n - (intOf v6).toNat)
      case atStart => exact ⟨0, 0, Nat.zero_le _, rfl, rfl, rfl, HB.out⟩
      case round =>
        obtain ⟨k, G, hkn, rfl, rfl, hG, hbm⟩ := hrel
        have HG := Lib.hid hG
        have HBM := Lib.hid hbm
        have hbms := hbm.size
        have hG15 : G ≤ 15 := hG ▸ lgs_le k (fun i hi => HF.out.1.2 i (by omega))
        have m0 := (hbm.cell (World.block_lt_of_cell? _ _ HH.out.c0)).trans HH.out.c0
        have m1 := (hbm.cell (World.block_lt_of_cell? _ _ HH.out.c1)).trans HH.out.c1
        have mlt := World.block_lt_of_cell? _ _ m1
        clear hG hbm
        by_cases hkl : k < n
        · obtain ⟨b0, o0, rfl, hbs0, hcc⟩ := HH.out.cods (by omega)
          have g1 := (HBM.out.cell (p := ⟨b0, o0 + k * 2, none⟩) hbs0).trans (hcc k hkl).1
          have g2 := (HBM.out.cell (p := ⟨b0, o0 + k * 2 + 1, none⟩) hbs0).trans (hcc k hkl).2
          have hz15 := HF.out.1.2 k hkl
          have hcs := cod_small HF.out.1 HF.out.2 hkl
          have HRV := Lib.hid (show ∀ j, j < l k → rc l n k / 2 ^ j % 2 = cod l n k / 2 ^ (l k - 1 - j) % 2 from fun j hj => rv_bit hj)
          have HLG := Lib.hid (show lgs l n f r (k + 1) = if f < l k ∧ rc l n k % 2 ^ f = r then max (lgs l n f r k) (l k - f) else lgs l n f r k from rfl)
          have hkk : ((k : Int)).toNat = k := by omega
          obtain ⟨R, hR⟩ : ∃ R, rc l n k = R := ⟨_, rfl⟩
          obtain ⟨y, hy⟩ : ∃ y, cod l n k = y := ⟨_, rfl⟩
          obtain ⟨z, hz⟩ : ∃ z, l k = z := ⟨_, rfl⟩
          rw [hR, hy, hz] at HRV
          rw [hR, hz, HG.out] at HLG
          rw [hy] at g1 hcs
          rw [hz] at g2 hz15
          clear hcc hR hy hz
          go_wp2_with fail
          have RC := Lib.hid (R2.new wr 52 (.int .u32 y) (.int .u8 z))
          have BC := Lib.hid ((Below.refl wr.heap.size wr).alloc (Nat.le_refl _) (.cells #[.int .u32 y, .int .u8 z] 52))
          go_quiet (fail)
          go_wp2_with fail
          go_loopw [8, 9] (fun v8 v9 w3 => ∃ j : Nat, ∃ b : Bool, j ≤ f ∧ v9 = .int .i64 j ∧ v8 = .bool b ∧ (b = true ↔ (f < z ∧ R % 2 ^ j = r % 2 ^ j)) ∧ Below (wr.heap.size + 1) (wr.alloc (.cells #[.int .u32 y, .int .u8 z] 52)) w3) (fun _ v9 _ => f - (intOf v9).toNat)
          case atStart => exact ⟨0, _, Nat.zero_le _, rfl, rfl, by simp [Nat.mod_one], below_drewN (Below.refl _ _) _⟩
          case round =>
            obtain ⟨j, b, hj, rfl, rfl, hbi, hb3⟩ := hrel
            have HBI := Lib.hid hbi
            have B3 := Lib.hid hb3
            have rc3 := RC.out.below hb3 (by omega)
            have q0 := rc3.at0
            have q1 := rc3.at1
            have hs3 := hb3.size
            have u1 := (hb3.cell (p := ⟨p, 1, none⟩) (by simp; omega)).trans ((BC.out.cell mlt).trans m1)
            have BA := Lib.hid (HBM.out.trans (Below.trans (BC.out.mono (by omega)) (hb3.mono (by omega))))
            clear hbi hb3 rc3
            by_cases hjf : j < f
            · have df : decide ((j : Int) < (f : Int)) = true := decide_eq_true (by omega)
              have df2 : decide (j < f) = true := decide_eq_true hjf
              cases b with
              | true =>
                have hfz : f < z := (HBI.out.1 rfl).1
                have hrv := HRV.out j (by omega)
                have HBT := Lib.hid (fun w => bit_any y z j w (by omega) hz15 (by omega))
                have HXB := Lib.hid (fun w => rbit_any r j w (by unfold big; omega) (by omega))
                have HMN := Lib.hid (mod_next (a := R) (b := r) (k := j))
                rw [hrv] at HMN
                obtain ⟨bt, hbt⟩ : ∃ bt, y / 2 ^ (z - 1 - j) % 2 = bt := ⟨_, rfl⟩
                obtain ⟨xb, hxb⟩ : ∃ xb, r / 2 ^ j % 2 = xb := ⟨_, rfl⟩
                rw [hbt] at HBT HMN
                rw [hxb] at HXB HMN
                clear hrv hbt hxb hfz
                go_wp2_with fail
                refine (HBT.out _).mono ?_; rintro e w4 ⟨rfl, b4⟩
                have B4 := Lib.hid (B3.out.trans (b4.mono (by simp at hs3; omega)))
                clear b4
                go_wp2_with fail
                refine (HXB.out _).mono ?_; rintro e w5 ⟨rfl, rfl⟩
                go_wp2_with fail
                go_roundw
                case rel =>
                  refine ⟨j + 1, _, by omega, by go_num, rfl, ?_, B4.out⟩
                  have h1 := HBI.out.1 (by first | rfl | trivial)
                  constructor
                  · intro h
                    have h2 : bt = xb := by
                      have h3 : (bt : Int) = (xb : Int) := by simpa using h
                      omega
                    exact ⟨h1.1, HMN.out.2 ⟨h1.2, h2⟩⟩
                  · intro h
                    have := (HMN.out.1 h.2).2
                    rw [this]; simp
                case measure => simp [intOf]; omega
              | false =>
                have hno : ¬ (f < z ∧ R % 2 ^ f = r) := fun h => by
                  have := HBI.out.2 ⟨h.1, by
                    have e := HP.out
                    have h3 : R % 2 ^ f = r % 2 ^ f := by rw [h.2, e, Nat.mod_eq_of_lt hlt]
                    exact mod_less h3 (by omega)⟩
                  cases this
                rw [if_neg hno] at HLG
                clear hno
                go_wp2_with fail
                go_roundw
                case rel => exact ⟨k + 1, G, by omega, by go_num, rfl, HLG.out, BA.out⟩
                case measure => simp [intOf]; omega
            · obtain rfl : j = f := by omega
              have df : decide ((j : Int) < (j : Int)) = false := decide_eq_false (by omega)
              have e0 := HP.out
              cases b with
              | true =>
                have hh := HBI.out.1 rfl
                rw [e0, Nat.mod_eq_of_lt hlt] at hh
                have HFZ := Lib.hid hh.1
                rw [e0, if_pos hh] at HLG
                obtain ⟨M, hM⟩ : ∃ M, max G (z - j) = M := ⟨_, rfl⟩
                rw [hM] at HLG
                clear e0 hh
                have HM := Lib.hid hM
                clear hM
                go_wp2_with fail
                go_quiet (fail)
                go_wp2_with fail
                go_roundw
                case rel => exact ⟨k + 1, M, by omega, by go_num, by have := HM.out; have := HFZ.out; congr 1; omega, HLG.out, below_drewN BA.out _⟩
                case measure => simp [intOf]; omega
              | false =>
                have hno : ¬ (j < z ∧ R % 2 ^ j = r) := fun h => by
                  have := HBI.out.2 ⟨h.1, by rw [h.2, e0, Nat.mod_eq_of_lt hlt]⟩
                  cases this
                rw [if_neg hno] at HLG
                clear hno e0
                go_wp2_with fail
                go_roundw
                case rel => exact ⟨k + 1, G, by omega, by go_num, rfl, HLG.out, BA.out⟩
                case measure => simp [intOf]; omega
        · obtain rfl : k = n := by omega
          have HNX := Lib.hid (part_next h1 HG.out HPT.out)
          by_cases h0 : 0 < G
          · have d0 : decide (0 < (G : Int)) = true := decide_eq_true (by omega)
            rw [if_pos h0] at HNX
            have HAP := Lib.hid (add_pow hG15 HN.out)
            go_wp2_with fail
            go_roundw
            case rel => exact ⟨r + 1, N + 2 ^ G, by omega, by go_num, by rw [HAP.out], HNX.out, HBM.out⟩
            case measure => simp [intOf]; omega
          · obtain rfl : G = 0 := by omega
            rw [if_neg h0] at HNX
            go_wp2_with fail
            go_roundw
            case rel => exact ⟨r + 1, N, by omega, by go_num, rfl, HNX.out, HBM.out⟩
            case measure => simp [intOf]; omega
    · obtain rfl : r = P := by omega
      have dout := row_out hf HP.out
      have hend := HPT.out
      rw [part_all HP.out] at hend
      have HE := Lib.hid hend
      clear hend
      go_wp2_with fail
      go_ret
      exact ⟨by rw [HE.out]; rfl, HB.out⟩
end Go.Proofs.Ytnkkccieidlacaa
