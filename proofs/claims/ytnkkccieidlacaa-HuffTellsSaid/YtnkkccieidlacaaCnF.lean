/- What the document's Kind of package canon answers. Conditions: as each theorem names them. -/
import Derived.Test.YtnkkccieidlacaaCnD
namespace Go.Proofs.Ytnkkccieidlacaa
open Go.RowKit M
set_option linter.unusedVariables false

theorem pow_next (x j : Nat) (h : x ≤ j) : 2 ^ (j + 1 - x) = 2 * 2 ^ (j - x) := by rw [show j + 1 - x = (j - x) + 1 by omega, Nat.pow_succ]; omega
theorem rkind_end {l : Nat → Nat} {n : Nat} (hm : May l n) {g a z : Nat} (hg : weight l n = g) (ha : nz l n = a) (hz : lst l n = z) :
    kind l n = if a = 0 then 0 else if 32768 < g then 4 else if g = 32768 then 2 else if a = 1 ∧ z = 1 then 1 else 3 := by
  rw [kind_ref hm, hg, ha, hz]

set_option maxRecDepth 1000000 in
set_option maxHeartbeats 1000000 in
theorem rkind_any (A : Option Addr) (n c : Nat) (l : Nat → Nat) (W : World) (hn : n ≤ maxLen) (hl : ∀ i, l i ≤ 255) (H : Nums W .u8 A n (fun i => (l i : Int))) :
    Calls Try.prog 32 #[.slice A n c] W fun e w' => e = .returned (.int .u8 (kind l n)) ∧ W = w' := by
  have hn' : n ≤ 9223372036854775807 := by unfold maxLen at hn; omega
  have HL := Lib.hid hl
  have HH := Lib.hid H
  clear H hn hl
  by_cases h320 : n ≤ 320
  · go_enter Try.func32, Try.ntmps32
    go_wp2
    go_loop [3, 4, 5, 6] (fun g a z i => ∃ k : Nat, k ≤ n ∧ i = .int .i64 k ∧ g = .int .i64 (weight l k) ∧ a = .int .i64 (nz l k) ∧ z = .int .u8 (lst l k) ∧ Hid (∀ j, j < k → l j ≤ 15)) (fun _ _ _ i => n - (intOf i).toNat)
    case atStart => exact ⟨0, Nat.zero_le _, rfl, rfl, rfl, rfl, Lib.hid (fun j hj => by omega)⟩
    case round =>
      obtain ⟨k, hkn, rfl, rfl, rfl, rfl, hsm⟩ := hrel
      have w1 := weight_le l k
      have w2 := nz_le l k
      have w3 := lst_le k hsm.out
      obtain ⟨g, hg⟩ : ∃ g, weight l k = g := ⟨_, rfl⟩
      obtain ⟨a, ha⟩ : ∃ a, nz l k = a := ⟨_, rfl⟩
      obtain ⟨z, hz⟩ : ∃ z, lst l k = z := ⟨_, rfl⟩
      rw [hg] at w1 ⊢
      rw [ha] at w2 ⊢
      rw [hz] at w3 ⊢
      have HG := Lib.hid hg
      have HA := Lib.hid ha
      have HZ := Lib.hid hz
      clear hg ha hz
      by_cases hlt : k < n
      · obtain ⟨b, o, rfl, hb, hc⟩ := HH.out (by omega)
        have hcell : W.cell? ⟨b, o + k, none⟩ = some (.int .u8 (l k)) := hc k hlt
        have h255 := HL.out k
        obtain ⟨x, hx⟩ : ∃ x, l k = x := ⟨_, rfl⟩
        rw [hx] at hcell h255
        have HX := Lib.hid hx
        clear hc hx
        by_cases h15 : x ≤ 15
        · by_cases h0 : x = 0
          · have hx0 : ((x : Int) == 0) = true := by rw [beq_iff_eq]; omega
            have H0 := Lib.hid h0
            clear h0
            go_wp2
            go_round
            case rel =>
              have e0 : l k = 0 := HX.out.trans H0.out
              refine ⟨k + 1, by omega, by go_num, ?_, ?_, ?_, Lib.hid (fun j hj => ?_)⟩
              · simp only [weight]; rw [HG.out, e0]; rfl
              · simp only [nz]; rw [HA.out, if_pos e0]; rfl
              · simp only [lst]; rw [HZ.out, if_pos e0]
              · by_cases e : j = k
                · rw [e, e0]; omega
                · exact hsm.out j (by omega)
            case measure => simp [intOf]; omega
          · have hx0 : ((x : Int) == 0) = false := by rw [beq_eq_false_iff_ne]; omega
            have H0 := Lib.hid h0
            clear h0
            go_wp2
            go_loop [7, 8] (fun w j => ∃ m : Nat, x ≤ m ∧ m ≤ 15 ∧ j = .int .i64 m ∧ w = .int .i64 ((2 ^ (m - x) : Nat) : Int)) (fun _ j => 15 - (intOf j).toNat)
            case atStart => exact ⟨x, Nat.le_refl _, h15, rfl, by rw [Nat.sub_self]; rfl⟩
            case round =>
              obtain ⟨m, hxm, hm15, rfl, rfl⟩ := hrel
              have hpw : 2 ^ (m - x) ≤ 2 ^ 15 := Nat.pow_le_pow_right (by omega) (by omega)
              have hpn := Lib.hid (pow_next x m hxm)
              obtain ⟨v, hv⟩ : ∃ v, 2 ^ (m - x) = v := ⟨_, rfl⟩
              rw [hv] at hpw ⊢
              have HV := Lib.hid hv
              clear hv
              by_cases hlm : m < 15
              · go_wp2
                go_round
                case rel => exact ⟨m + 1, by omega, by omega, by go_num, congrArg (Value.int .i64) (by rw [hpn.out, HV.out]; omega)⟩
                case measure => simp [intOf]; omega
              · obtain rfl : m = 15 := by omega
                go_wp2
                go_round
                case rel =>
                  have e0 : ¬ l k = 0 := fun q => H0.out (HX.out ▸ q)
                  refine ⟨k + 1, by omega, by go_num, ?_, ?_, ?_, Lib.hid (fun j hj => ?_)⟩
                  · simp only [weight]; rw [HG.out]; unfold wt; rw [if_neg e0, HX.out, HV.out]; go_num
                  · simp only [nz]; rw [HA.out, if_neg e0]; go_num
                  · simp only [lst]; rw [if_neg e0, HX.out]
                  · by_cases e : j = k
                    · rw [e, HX.out]; exact h15
                    · exact hsm.out j (by omega)
                case measure => simp [intOf]; omega
        · have hv := Lib.hid (kind_bad (l := l) (n := n) (fun q => h15 (by rw [← HX.out]; exact q.2 k hlt)))
          go_wp2
          go_ret
          exact ⟨by rw [hv.out]; rfl, rfl⟩
      · obtain rfl : k = n := by omega
        have hk := rkind_end ⟨h320, hsm.out⟩ HG.out HA.out HZ.out
        by_cases e0 : a = 0
        · rw [if_pos e0] at hk
          have d0 : ((a : Int) == 0) = true := by rw [beq_iff_eq]; omega
          have HK := Lib.hid hk
          clear hk e0
          go_wp2
          go_ret
          exact ⟨by rw [HK.out]; rfl, rfl⟩
        rw [if_neg e0] at hk
        by_cases e1 : 32768 < g
        · rw [if_pos e1] at hk
          have d0 : ((a : Int) == 0) = false := by rw [beq_eq_false_iff_ne]; omega
          have d1 : decide (32768 < (g : Int)) = true := decide_eq_true (by omega)
          have HK := Lib.hid hk
          clear hk e0
          go_wp2
          go_ret
          exact ⟨by rw [HK.out]; rfl, rfl⟩
        rw [if_neg e1] at hk
        by_cases e2 : g = 32768
        · rw [if_pos e2] at hk
          have d0 : ((a : Int) == 0) = false := by rw [beq_eq_false_iff_ne]; omega
          have d1 : decide (32768 < (g : Int)) = false := decide_eq_false (by omega)
          have d2 : ((g : Int) == 32768) = true := by rw [beq_iff_eq]; omega
          have HK := Lib.hid hk
          clear hk e0 e2
          go_wp2
          go_ret
          exact ⟨by rw [HK.out]; rfl, rfl⟩
        rw [if_neg e2] at hk
        by_cases e3 : a = 1
        · by_cases e4 : z = 1
          · rw [if_pos ⟨e3, e4⟩] at hk
            have d0 : ((a : Int) == 0) = false := by rw [beq_eq_false_iff_ne]; omega
            have d1 : decide (32768 < (g : Int)) = false := decide_eq_false (by omega)
            have d2 : ((g : Int) == 32768) = false := by rw [beq_eq_false_iff_ne]; omega
            have d3 : ((a : Int) == 1) = true := by rw [beq_iff_eq]; omega
            have d4 : ((z : Int) == 1) = true := by rw [beq_iff_eq]; omega
            have HK := Lib.hid hk
            clear hk e0 e2 e3 e4
            go_wp2
            go_ret
            exact ⟨by rw [HK.out]; rfl, rfl⟩
          · rw [if_neg (fun q => e4 q.2)] at hk
            have d0 : ((a : Int) == 0) = false := by rw [beq_eq_false_iff_ne]; omega
            have d1 : decide (32768 < (g : Int)) = false := decide_eq_false (by omega)
            have d2 : ((g : Int) == 32768) = false := by rw [beq_eq_false_iff_ne]; omega
            have d3 : ((a : Int) == 1) = true := by rw [beq_iff_eq]; omega
            have d4 : ((z : Int) == 1) = false := by rw [beq_eq_false_iff_ne]; omega
            have HK := Lib.hid hk
            clear hk e0 e2 e3 e4
            go_wp2
            go_ret
            exact ⟨by rw [HK.out]; rfl, rfl⟩
        · rw [if_neg (fun q => e3 q.1)] at hk
          have d0 : ((a : Int) == 0) = false := by rw [beq_eq_false_iff_ne]; omega
          have d1 : decide (32768 < (g : Int)) = false := decide_eq_false (by omega)
          have d2 : ((g : Int) == 32768) = false := by rw [beq_eq_false_iff_ne]; omega
          have d3 : ((a : Int) == 1) = false := by rw [beq_eq_false_iff_ne]; omega
          have HK := Lib.hid hk
          clear hk e0 e2 e3
          go_wp2
          go_ret
          exact ⟨by rw [HK.out]; rfl, rfl⟩
  · have hv := Lib.hid (kind_bad (l := l) (n := n) (fun q => h320 q.1))
    go_enter Try.func32, Try.ntmps32
    go_wp2
    go_ret
    exact ⟨by rw [hv.out]; rfl, rfl⟩

end Go.Proofs.Ytnkkccieidlacaa
