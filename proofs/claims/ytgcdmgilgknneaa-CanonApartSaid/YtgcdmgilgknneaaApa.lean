/- CanonApart returns true for any lengths. Conditions: none. -/
import Derived.Test.YtgcdmgilgknneaaTel
import Derived.Test.YtgcdmgilgknneaaCnE
import Derived.Test.YtgcdmgilgknneaaDrw
namespace Go.Proofs.Ytgcdmgilgknneaa
open Go.RowKit M
set_option linter.unusedVariables false

set_option maxRecDepth 1000000 in
theorem apart_far (A : Option Addr) (n c : Nat) (W : World) (hn : n ≤ maxLen) (h : 60 < n) :
    Calls Try.prog 4 #[.slice A n c] W fun e w' => e = .returned (.bool true) ∧ Below W.heap.size W w' := by
  have hn' : n ≤ 9223372036854775807 := by unfold maxLen at hn; omega
  have hd : decide (60 < (n : Int)) = true := decide_eq_true (by omega)
  go_enter Try.func4, Try.ntmps4
  go_wp2_with fail
  refine (alive_any _).mono ?_; rintro e w2 ⟨rfl, b2⟩
  go_wp2_with fail
  go_ret
  exact ⟨rfl, b2⟩

set_option maxHeartbeats 8000000 in
set_option maxRecDepth 1000000 in
theorem apart_over (A : Option Addr) (n c : Nat) (l : Nat → Nat) (W : World) (hn : n ≤ 60) (hl : ∀ i, l i ≤ 255) (H : Nums W .u8 A n (fun i => (l i : Int))) (hk : kind l n = 4) :
    Calls Try.prog 4 #[.slice A n c] W fun e w' => e = .returned (.bool true) ∧ Below W.heap.size W w' := by
  have hd : decide (60 < (n : Int)) = false := decide_eq_false (by omega)
  have HN := Lib.hid (show n ≤ maxLen by unfold maxLen; omega)
  have HL := Lib.hid hl
  have HA := Lib.hid H
  have HK := Lib.hid hk
  clear hl H hk
  go_enter Try.func4, Try.ntmps4
  go_wp2_with fail
  refine (codes_over_any A n c l _ HN.out HL.out HA.out (fun _ => 0) (fun _ => 0) HK.out).mono ?_; rintro e w1 ⟨A1, c1, rfl, m1, k1, g1, b1⟩
  have B1 := Lib.hid b1
  have A1' := Lib.hid (HA.out.below b1)
  clear g1 b1
  go_wp2_with fail
  refine (kind_any A n c l _ HN.out HL.out A1'.out).mono ?_; rintro e w2 ⟨rfl, b2⟩
  rw [HK.out]
  have B2 := Lib.hid (B1.out.trans (b2.mono B1.out.size))
  clear b2
  go_wp2_with fail
  refine (alive_any _).mono ?_; rintro e w3 ⟨rfl, b3⟩
  have B3 := Lib.hid (B2.out.trans (b3.mono B2.out.size))
  clear b3
  go_wp2_with fail
  go_ret
  exact ⟨rfl, B3.out⟩
set_option maxHeartbeats 8000000 in
set_option maxRecDepth 1000000 in
theorem apart_bad (A : Option Addr) (n c : Nat) (l : Nat → Nat) (W : World) (hn : n ≤ 60) (hl : ∀ i, l i ≤ 255) (H : Nums W .u8 A n (fun i => (l i : Int))) (hk : kind l n = 5) :
    Calls Try.prog 4 #[.slice A n c] W fun e w' => e = .returned (.bool true) ∧ Below W.heap.size W w' := by
  have hd : decide (60 < (n : Int)) = false := decide_eq_false (by omega)
  have HN := Lib.hid (show n ≤ maxLen by unfold maxLen; omega)
  have HL := Lib.hid hl
  have HA := Lib.hid H
  have HK := Lib.hid hk
  clear hl H hk
  go_enter Try.func4, Try.ntmps4
  go_wp2_with fail
  refine (codes_bad_any A n c l _ HN.out HL.out HA.out (fun _ => 0) (fun _ => 0) HK.out).mono ?_; rintro e w1 ⟨A1, c1, rfl, m1, k1, g1, b1⟩
  have B1 := Lib.hid b1
  have A1' := Lib.hid (HA.out.below b1)
  clear g1 b1
  go_wp2_with fail
  refine (kind_any A n c l _ HN.out HL.out A1'.out).mono ?_; rintro e w2 ⟨rfl, b2⟩
  rw [HK.out]
  have B2 := Lib.hid (B1.out.trans (b2.mono B1.out.size))
  have A2' := Lib.hid (A1'.out.below b2)
  clear b2
  go_wp2_with fail
  refine (kind_any A n c l _ HN.out HL.out A2'.out).mono ?_; rintro e w3 ⟨rfl, b3⟩
  rw [HK.out]
  have B3 := Lib.hid (B2.out.trans (b3.mono B2.out.size))
  clear b3
  go_wp2_with fail
  refine (alive_any _).mono ?_; rintro e w4 ⟨rfl, b4⟩
  have B4 := Lib.hid (B3.out.trans (b4.mono B3.out.size))
  clear b4
  go_wp2_with fail
  go_ret
  exact ⟨rfl, B4.out⟩

set_option maxHeartbeats 8000000 in
set_option maxRecDepth 1000000 in
theorem apart_ok (A : Option Addr) (n c : Nat) (l : Nat → Nat) (W : World) (hn : n ≤ 60) (hl : ∀ i, l i ≤ 255) (H : Nums W .u8 A n (fun i => (l i : Int))) (h5 : kind l n ≠ 5) (h4 : kind l n ≠ 4) :
    Calls Try.prog 4 #[.slice A n c] W fun e w' => e = .returned (.bool true) ∧ Below W.heap.size W w' := by
  obtain ⟨hm, hw⟩ := kind_fits h5 h4
  have he : erc l n = 0 := by unfold erc; rw [if_neg (by omega), if_neg (by omega)]
  have hd : decide (60 < (n : Int)) = false := decide_eq_false (by omega)
  have HN := Lib.hid (show n ≤ maxLen by unfold maxLen; omega)
  have HL := Lib.hid hl
  have HA := Lib.hid H
  have HE := Lib.hid he
  have HO := Lib.hid (show outn l n = n by unfold outn; rw [if_pos he])
  have HM := Lib.hid hm
  have HW := Lib.hid hw
  clear hl H he hm hw h5 h4
  go_enter Try.func4, Try.ntmps4
  go_wp2_with fail
  refine (codes_any A n c l _ HN.out HL.out HA.out).mono ?_; rintro e w1 ⟨A1, c1, rfl, m1, k1, g1, b1⟩
  rw [HO.out] at m1 g1 ⊢
  rw [HE.out]
  have G1 := Lib.hid g1
  have B1 := Lib.hid b1
  have L1 := Lib.hid (HA.out.below b1)
  clear g1 b1
  go_wp2_with fail
  go_loopw [5] (fun i wr => ∃ k : Nat, k ≤ n ∧ i = .int .i64 k ∧ Below w1.heap.size w1 wr) (fun i _ => n - (intOf i).toNat)
  case atStart => exact ⟨0, Nat.zero_le _, rfl, Below.refl _ _⟩
  case round =>
    obtain ⟨i, hin, rfl, hb⟩ := hrel
    by_cases hlt : i < n
    · obtain ⟨b, o, rfl, hbs, hc⟩ := G1.out (by omega)
      obtain ⟨b2, o2, rfl, hbs2, hc2⟩ := L1.out (by omega)
      have g1 := (hb.cell hbs).trans (hc i hlt).1
      have g2 := (hb.cell hbs).trans (hc i hlt).2
      have g3 : wr.cell? ⟨b2, o2 + i, none⟩ = some (.int .u8 (l i)) := (hb.cell hbs2).trans (hc2 i hlt)
      have h15 := HM.out.2 i hlt
      have hyz := cod_fit HM.out HW.out hlt
      have hy0 : l i = 0 → cod l n i = 0 := fun q => by unfold cod; rw [if_pos q]
      obtain ⟨z, hz⟩ : ∃ z, l i = z := ⟨_, rfl⟩
      obtain ⟨y, hy⟩ : ∃ y, cod l n i = y := ⟨_, rfl⟩
      rw [hz] at g2 g3 h15 hyz hy0
      rw [hy] at g1 hyz hy0
      have HZ := Lib.hid hz
      have HY := Lib.hid hy
      have HYZ := Lib.hid hyz
      have HC := Lib.hid hc
      have HC2 := Lib.hid hc2
      have HB := Lib.hid hb
      have HI : Hid (∀ wr : World, Below w1.heap.size w1 wr → wr.cell? ⟨b, o + i * 2, none⟩ = some (.int .u32 y) ∧ wr.cell? ⟨b, o + i * 2 + 1, none⟩ = some (.int .u8 z) ∧ wr.cell? ⟨b2, o2 + i, none⟩ = some (.int .u8 z)) := Lib.hid (fun wr hb => by
        have q1 := (hb.cell hbs).trans (hc i hlt).1
        have q2 := (hb.cell hbs).trans (hc i hlt).2
        have q3 : wr.cell? ⟨b2, o2 + i, none⟩ = some (.int .u8 (l i)) := (hb.cell hbs2).trans (hc2 i hlt)
        rw [hz] at q2 q3
        rw [hy] at q1
        exact ⟨q1, q2, q3⟩)
      have hii : ((i : Int)).toNat = i := by omega
      have zw : IntKind.u64.wrap (z : Int) = (z : Int) := by rw [IntKind.wrap_u64]; omega
      have d15 : decide (15 < (z : Int)) = false := decide_eq_false (by omega)
      clear hz hy hyz hc hc2 hb
      by_cases h0 : z = 0
      · have e0 := hy0 h0
        have dz : ((z : Int) == 0) = true := by rw [beq_iff_eq]; omega
        have dp : decide (0 < (z : Int)) = false := decide_eq_false (by omega)
        have dpn : decide (0 < z) = false := decide_eq_false (by omega)
        have dy : ((y : Int) != 0) = false := by rw [bne_eq_false_iff_eq]; omega
        clear hy0 h0 e0
        go_wp2_with fail
        go_quiet (fail)
        have HB2 := Lib.hid (below_drewN HB.out nq)
        go_wp2_with fail
        go_loopw [6] (fun j wr => ∃ k : Nat, k ≤ n ∧ j = .int .i64 k ∧ Below w1.heap.size w1 wr) (fun j _ => n - (intOf j).toNat)
        case atStart => exact ⟨0, Nat.zero_le _, rfl, HB2.out⟩
        case round =>
          clear HB HB2 g1 g2 g3
          obtain ⟨k, hkn, rfl, hb⟩ := hrel
          have hkk : ((k : Int)).toNat = k := by omega
          obtain ⟨g1, g2, g3⟩ := HI.out _ hb
          have HB := Lib.hid hb
          clear hb
          by_cases hltk : k < n
          · by_cases hik : k = i
            · have dk : ((k : Int) == (i : Int)) = true := by rw [beq_iff_eq]; omega
              clear hik
              go_wp2_with fail
              go_roundw
              case rel => exact ⟨k + 1, by omega, by go_num, HB.out⟩
              case measure => simp [intOf]; omega
            · have dk : ((k : Int) == (i : Int)) = false := by rw [beq_eq_false_iff_ne]; omega
              clear hik
              go_wp2_with fail
              go_roundw
              case rel => exact ⟨k + 1, by omega, by go_num, HB.out⟩
              case measure => simp [intOf]; omega
          · obtain rfl : k = n := by omega
            go_wp2_with fail
            go_roundw
            case rel => exact ⟨i + 1, by omega, by go_num, HB.out⟩
            case measure => simp [intOf]; omega
      · have hsh : y / 2 ^ z = 0 := Nat.div_eq_of_lt HYZ.out
        have dsh : ((y : Int) / 2 ^ z != 0) = false := by
          have e : (y : Int) / 2 ^ z = ((y / 2 ^ z : Nat) : Int) := by push_cast; rfl
          rw [e, hsh]; rfl
        have dz : ((z : Int) == 0) = false := by rw [beq_eq_false_iff_ne]; omega
        have dp : decide (0 < (z : Int)) = true := decide_eq_true (by omega)
        have dpn : decide (0 < z) = true := decide_eq_true (by omega)
        clear hy0 hsh
        go_wp2_with fail
        go_quiet (fail)
        have HB2 := Lib.hid (below_drewN HB.out nq)
        go_wp2_with fail
        clear dsh
        go_loopw [6] (fun j wr => ∃ k : Nat, k ≤ n ∧ j = .int .i64 k ∧ Below w1.heap.size w1 wr) (fun j _ => n - (intOf j).toNat)
        case atStart => exact ⟨0, Nat.zero_le _, rfl, HB2.out⟩
        case round =>
          clear HB HB2 g1 g2 g3
          obtain ⟨k, hkn, rfl, hb⟩ := hrel
          have hkk : ((k : Int)).toNat = k := by omega
          obtain ⟨g1, g2, g3⟩ := HI.out _ hb
          by_cases hltk : k < n
          · have g4 := (hb.cell hbs).trans (HC.out k hltk).1
            have g5 := (hb.cell hbs).trans (HC.out k hltk).2
            have g6 : wr.cell? ⟨b2, o2 + k, none⟩ = some (.int .u8 (l k)) := (hb.cell hbs2).trans (HC2.out k hltk)
            have h15' := HM.out.2 k hltk
            have hyz' := cod_fit HM.out HW.out hltk
            have hiz : l i ≠ 0 := by rw [HZ.out]; exact h0
            have far1 : l i < l k → cod l n i < cod l n k / 2 ^ (l k - l i) := fun q => cod_far hlt hiz q
            have ris1 : l i = l k → i < k → cod l n i < cod l n k := fun q1 q2 => cod_rise hiz q1 q2
            have ris2 : l i = l k → k < i → cod l n k < cod l n i := fun q1 q2 => cod_rise (by rw [← q1]; exact hiz) q1.symm q2
            obtain ⟨z', hz'⟩ : ∃ z', l k = z' := ⟨_, rfl⟩
            obtain ⟨y', hy'⟩ : ∃ y', cod l n k = y' := ⟨_, rfl⟩
            rw [HZ.out, hz', HY.out, hy'] at far1
            rw [HZ.out, hz', HY.out, hy'] at ris1 ris2
            rw [hz'] at g5 g6 h15' hyz'
            rw [hy'] at g4 hyz'
            have HB := Lib.hid hb
            have HZ' := Lib.hid hz'
            have HY' := Lib.hid hy'
            clear hb hz' hy' hiz
            by_cases hik : k = i
            · have dk : ((k : Int) == (i : Int)) = true := by rw [beq_iff_eq]; omega
              clear hik far1 ris1 ris2 hyz'
              go_wp2_with fail
              go_roundw
              case rel => exact ⟨k + 1, by omega, by go_num, HB.out⟩
              case measure => simp [intOf]; omega
            · have dk : ((k : Int) == (i : Int)) = false := by rw [beq_eq_false_iff_ne]; omega
              by_cases h0' : z' = 0
              · have dz' : ((z' : Int) == 0) = true := by rw [beq_iff_eq]; omega
                clear hik far1 ris1 ris2 hyz' h0'
                go_wp2_with fail
                go_roundw
                case rel => exact ⟨k + 1, by omega, by go_num, HB.out⟩
                case measure => simp [intOf]; omega
              · have dz' : ((z' : Int) == 0) = false := by rw [beq_eq_false_iff_ne]; omega
                have hbeg : begB y z y' z' = false := begB_false (fun q => by
                  obtain ⟨q1, q2⟩ := q
                  rcases Nat.lt_or_ge z z' with q3 | q3
                  · have := far1 q3; omega
                  · have q4 : z = z' := by omega
                    rw [q4, Nat.sub_self, Nat.pow_zero, Nat.div_one] at q2
                    rcases Nat.lt_or_ge i k with q5 | q5
                    · have := ris1 q4 q5; omega
                    · have := ris2 q4 (by omega); omega)
                have r1 := fun w => begins_any y z y' z' w HYZ.out hyz' h15 h15'
                rw [hbeg] at r1
                have R1 : Hid (∀ w, Calls Try.prog 19 #[.agg #[.int .u32 y, .int .u8 z], .agg #[.int .u32 y', .int .u8 z']] w fun e w' => e = .returned (.bool false) ∧ Below w.heap.size w w') := Lib.hid r1
                have F1 := Lib.hid far1
                have S1 := Lib.hid ris1
                have S2 := Lib.hid ris2
                clear hbeg r1 far1 ris1 ris2 hyz'
                by_cases heq : z = z'
                · subst heq
                  have S1 := Lib.hid (S1.out rfl)
                  have S2 := Lib.hid (S2.out rfl)
                  have dlz : decide (z < z) = false := decide_eq_false (by omega)
                  rcases Nat.lt_or_ge i k with hik2 | hik2
                  · have dyy : decide (y < y') = true := decide_eq_true (S1.out hik2)
                    have dik : decide (i < k) = true := decide_eq_true hik2
                    clear hik h0 h0'
                    go_wp2_with fail
                    go_region_held3 (fun w' => w'.cell? ⟨b, o + i * 2, none⟩ = some (.int .u32 y) ∧ w'.cell? ⟨b, o + i * 2 + 1, none⟩ = some (.int .u8 z) ∧ w'.cell? ⟨b2, o2 + i, none⟩ = some (.int .u8 z) ∧ w'.cell? ⟨b, o + k * 2, none⟩ = some (.int .u32 y') ∧ w'.cell? ⟨b, o + k * 2 + 1, none⟩ = some (.int .u8 z) ∧ w'.cell? ⟨b2, o2 + k, none⟩ = some (.int .u8 z)) (first | exact ⟨e1, e2, e3, e4, e5, e6⟩ | exact ⟨g1, g2, g3, g4, g5, g6⟩) (first
                      | (go_at_call 19; (with_reducible refine (R1.out _).mono ?_); rintro e w3 ⟨rfl, b3⟩; have e1 := (b3.cell (World.block_lt_of_cell? _ _ g1)).trans g1; have e2 := (b3.cell (World.block_lt_of_cell? _ _ g2)).trans g2; have e3 := (b3.cell (World.block_lt_of_cell? _ _ g3)).trans g3; have e4 := (b3.cell (World.block_lt_of_cell? _ _ g4)).trans g4; have e5 := (b3.cell (World.block_lt_of_cell? _ _ g5)).trans g5; have e6 := (b3.cell (World.block_lt_of_cell? _ _ g6)).trans g6; have B3 := Lib.hid (HB.out.drew.trans (b3.mono HB.out.size)); clear b3))
                    go_wp2_with fail
                    go_quiet (fail)
                    have B4 := Lib.hid (below_drewN B3.out nq)
                    go_wp2_with fail
                    go_roundw
                    case rel => exact ⟨k + 1, by omega, by go_num, B4.out⟩
                    case measure => simp [intOf]; omega
                  · have dyy : decide (y < y') = false := decide_eq_false (by have := S2.out (by omega); omega)
                    have dik : decide (i < k) = false := decide_eq_false (by omega)
                    clear hik h0 h0'
                    go_wp2_with fail
                    go_region_held3 (fun w' => w'.cell? ⟨b, o + i * 2, none⟩ = some (.int .u32 y) ∧ w'.cell? ⟨b, o + i * 2 + 1, none⟩ = some (.int .u8 z) ∧ w'.cell? ⟨b2, o2 + i, none⟩ = some (.int .u8 z) ∧ w'.cell? ⟨b, o + k * 2, none⟩ = some (.int .u32 y') ∧ w'.cell? ⟨b, o + k * 2 + 1, none⟩ = some (.int .u8 z) ∧ w'.cell? ⟨b2, o2 + k, none⟩ = some (.int .u8 z)) (first | exact ⟨e1, e2, e3, e4, e5, e6⟩ | exact ⟨g1, g2, g3, g4, g5, g6⟩) (first
                      | (go_at_call 19; (with_reducible refine (R1.out _).mono ?_); rintro e w3 ⟨rfl, b3⟩; have e1 := (b3.cell (World.block_lt_of_cell? _ _ g1)).trans g1; have e2 := (b3.cell (World.block_lt_of_cell? _ _ g2)).trans g2; have e3 := (b3.cell (World.block_lt_of_cell? _ _ g3)).trans g3; have e4 := (b3.cell (World.block_lt_of_cell? _ _ g4)).trans g4; have e5 := (b3.cell (World.block_lt_of_cell? _ _ g5)).trans g5; have e6 := (b3.cell (World.block_lt_of_cell? _ _ g6)).trans g6; have B3 := Lib.hid (HB.out.drew.trans (b3.mono HB.out.size)); clear b3))
                    go_wp2_with fail
                    go_quiet (fail)
                    have B4 := Lib.hid (below_drewN B3.out nq)
                    go_wp2_with fail
                    go_roundw
                    case rel => exact ⟨k + 1, by omega, by go_num, B4.out⟩
                    case measure => simp [intOf]; omega
                · have deqn : (z == z') = false := by rw [beq_eq_false_iff_ne]; exact heq
                  have deq : ((z : Int) == (z' : Int)) = false := by rw [beq_eq_false_iff_ne]; omega
                  by_cases hlz : z < z'
                  · have dlz : decide (z < z') = true := decide_eq_true hlz
                    obtain ⟨d, hd1⟩ : ∃ d, z' - z = d := ⟨_, rfl⟩
                    have hd2 : d ≤ 15 := by omega
                    have hd3 : (z' : Int) - (z : Int) = (d : Int) := by omega
                    have hd4 : IntKind.u8.wrap (d : Int) = (d : Int) := by rw [IntKind.wrap_u8]; omega
                    have hd5 : IntKind.u64.wrap (d : Int) = (d : Int) := by rw [IntKind.wrap_u64]; omega
                    have hd6 : (0 : Int) ≤ (d : Int) := by omega
                    have dge : decide ((y' : Int) / 2 ^ d ≤ (y : Int)) = false := decide_eq_false (by
                      have := F1.out hlz
                      rw [hd1] at this
                      have e : (y' : Int) / 2 ^ d = ((y' / 2 ^ d : Nat) : Int) := by push_cast; rfl
                      rw [e]; omega)
                    clear hik h0 h0' hd1
                    go_wp2_with fail
                    refine take_region (fun w' => w'.cell? ⟨b, o + i * 2, none⟩ = some (.int .u32 y) ∧ w'.cell? ⟨b, o + i * 2 + 1, none⟩ = some (.int .u8 z) ∧ w'.cell? ⟨b2, o2 + i, none⟩ = some (.int .u8 z) ∧ w'.cell? ⟨b, o + k * 2, none⟩ = some (.int .u32 y') ∧ w'.cell? ⟨b, o + k * 2 + 1, none⟩ = some (.int .u8 z') ∧ w'.cell? ⟨b2, o2 + k, none⟩ = some (.int .u8 z')) ⟨g1, g2, g3, g4, g5, g6⟩ (fun h0 => ?_)
                    first
                    | (refine take_no (i := 0) (d := some 121) rfl rfl (by kernel_rfl) (by kernel_rfl) (by kernel_rfl) (fun _ _ _ h => h) (by rfl) h0 ?_; (try simp only [Act.put, List.setIfInBounds_toArray, List.set_cons_zero, List.set_cons_succ]))
                    | (refine take_op (i := 0) (d := some 121) (v := ?_) rfl rfl (by kernel_rfl) (by kernel_rfl) (by kernel_rfl) (fun _ _ _ h => h) (by rfl) (fun w hSw => ?_) h0 ?_; rotate_left; (focus ((try dsimp only at hSw); go_simp; (try with_reducible rfl))); (try simp only [Act.put, List.setIfInBounds_toArray, List.set_cons_zero, List.set_cons_succ]))
                    first
                    | (refine take_no (i := 1) (d := some 122) rfl rfl (by kernel_rfl) (by kernel_rfl) (by kernel_rfl) (fun _ _ _ h => h) (by rfl) h0 ?_; (try simp only [Act.put, List.setIfInBounds_toArray, List.set_cons_zero, List.set_cons_succ]))
                    | (refine take_op (i := 1) (d := some 122) (v := ?_) rfl rfl (by kernel_rfl) (by kernel_rfl) (by kernel_rfl) (fun _ _ _ h => h) (by rfl) (fun w hSw => ?_) h0 ?_; rotate_left; (focus ((try dsimp only at hSw); go_simp; (try with_reducible rfl))); (try simp only [Act.put, List.setIfInBounds_toArray, List.set_cons_zero, List.set_cons_succ]))
                    first
                    | (refine take_no (i := 2) (d := some 123) rfl rfl (by kernel_rfl) (by kernel_rfl) (by kernel_rfl) (fun _ _ _ h => h) (by rfl) h0 ?_; (try simp only [Act.put, List.setIfInBounds_toArray, List.set_cons_zero, List.set_cons_succ]))
                    | (refine take_op (i := 2) (d := some 123) (v := ?_) rfl rfl (by kernel_rfl) (by kernel_rfl) (by kernel_rfl) (fun _ _ _ h => h) (by rfl) (fun w hSw => ?_) h0 ?_; rotate_left; (focus ((try dsimp only at hSw); go_simp; (try with_reducible rfl))); (try simp only [Act.put, List.setIfInBounds_toArray, List.set_cons_zero, List.set_cons_succ]))
                    first
                    | (refine take_no (i := 3) (d := some 124) rfl rfl (by kernel_rfl) (by kernel_rfl) (by kernel_rfl) (fun _ _ _ h => h) (by rfl) h0 ?_; (try simp only [Act.put, List.setIfInBounds_toArray, List.set_cons_zero, List.set_cons_succ]))
                    | (refine take_op (i := 3) (d := some 124) (v := ?_) rfl rfl (by kernel_rfl) (by kernel_rfl) (by kernel_rfl) (fun _ _ _ h => h) (by rfl) (fun w hSw => ?_) h0 ?_; rotate_left; (focus ((try dsimp only at hSw); go_simp; (try with_reducible rfl))); (try simp only [Act.put, List.setIfInBounds_toArray, List.set_cons_zero, List.set_cons_succ]))
                    first
                    | (refine take_no (i := 4) (d := some 125) rfl rfl (by kernel_rfl) (by kernel_rfl) (by kernel_rfl) (fun _ _ _ h => h) (by rfl) h0 ?_; (try simp only [Act.put, List.setIfInBounds_toArray, List.set_cons_zero, List.set_cons_succ]))
                    | (refine take_op (i := 4) (d := some 125) (v := ?_) rfl rfl (by kernel_rfl) (by kernel_rfl) (by kernel_rfl) (fun _ _ _ h => h) (by rfl) (fun w hSw => ?_) h0 ?_; rotate_left; (focus ((try dsimp only at hSw); go_simp; (try with_reducible rfl))); (try simp only [Act.put, List.setIfInBounds_toArray, List.set_cons_zero, List.set_cons_succ]))
                    first
                    | (refine take_no (i := 5) (d := some 126) rfl rfl (by kernel_rfl) (by kernel_rfl) (by kernel_rfl) (fun _ _ _ h => h) (by rfl) h0 ?_; (try simp only [Act.put, List.setIfInBounds_toArray, List.set_cons_zero, List.set_cons_succ]))
                    | (refine take_op (i := 5) (d := some 126) (v := ?_) rfl rfl (by kernel_rfl) (by kernel_rfl) (by kernel_rfl) (fun _ _ _ h => h) (by rfl) (fun w hSw => ?_) h0 ?_; rotate_left; (focus ((try dsimp only at hSw); go_simp; (try with_reducible rfl))); (try simp only [Act.put, List.setIfInBounds_toArray, List.set_cons_zero, List.set_cons_succ]))
                    first
                    | (refine take_no (i := 6) (d := some 127) rfl rfl (by kernel_rfl) (by kernel_rfl) (by kernel_rfl) (fun _ _ _ h => h) (by rfl) h0 ?_; (try simp only [Act.put, List.setIfInBounds_toArray, List.set_cons_zero, List.set_cons_succ]))
                    | (refine take_op (i := 6) (d := some 127) (v := ?_) rfl rfl (by kernel_rfl) (by kernel_rfl) (by kernel_rfl) (fun _ _ _ h => h) (by rfl) (fun w hSw => ?_) h0 ?_; rotate_left; (focus ((try dsimp only at hSw); go_simp; (try with_reducible rfl))); (try simp only [Act.put, List.setIfInBounds_toArray, List.set_cons_zero, List.set_cons_succ]))
                    first
                    | (refine take_no (i := 7) (d := some 128) rfl rfl (by kernel_rfl) (by kernel_rfl) (by kernel_rfl) (fun _ _ _ h => h) (by rfl) h0 ?_; (try simp only [Act.put, List.setIfInBounds_toArray, List.set_cons_zero, List.set_cons_succ]))
                    | (refine take_op (i := 7) (d := some 128) (v := ?_) rfl rfl (by kernel_rfl) (by kernel_rfl) (by kernel_rfl) (fun _ _ _ h => h) (by rfl) (fun w hSw => ?_) h0 ?_; rotate_left; (focus ((try dsimp only at hSw); go_simp; (try with_reducible rfl))); (try simp only [Act.put, List.setIfInBounds_toArray, List.set_cons_zero, List.set_cons_succ]))
                    refine take_call (i := 8) (by kernel_rfl) rfl (fun K hK => ?_)
                    go_simp
                    refine (R1.out _).mono ?_; rintro e w3 ⟨rfl, b3⟩
                    have e1 := (b3.cell (World.block_lt_of_cell? _ _ g1)).trans g1
                    have e2 := (b3.cell (World.block_lt_of_cell? _ _ g2)).trans g2
                    have e3 := (b3.cell (World.block_lt_of_cell? _ _ g3)).trans g3
                    have e4 := (b3.cell (World.block_lt_of_cell? _ _ g4)).trans g4
                    have e5 := (b3.cell (World.block_lt_of_cell? _ _ g5)).trans g5
                    have e6 := (b3.cell (World.block_lt_of_cell? _ _ g6)).trans g6
                    have B3 := Lib.hid (HB.out.drew.trans (b3.mono HB.out.size))
                    clear b3
                    refine hK.out _ _ ⟨e1, e2, e3, e4, e5, e6⟩ (fun h1 => ?_)
                    clear hK K h0
                    (try simp only [Act.put, List.setIfInBounds_toArray, List.set_cons_zero, List.set_cons_succ])
                    first
                    | (refine take_no (i := 9) (d := some 130) rfl rfl (by kernel_rfl) (by kernel_rfl) (by kernel_rfl) (fun _ _ _ h => h) (by rfl) h1 ?_; (try simp only [Act.put, List.setIfInBounds_toArray, List.set_cons_zero, List.set_cons_succ]))
                    | (refine take_op (i := 9) (d := some 130) (v := ?_) rfl rfl (by kernel_rfl) (by kernel_rfl) (by kernel_rfl) (fun _ _ _ h => h) (by rfl) (fun w hSw => ?_) h1 ?_; rotate_left; (focus ((try dsimp only at hSw); go_simp; (try with_reducible rfl))); (try simp only [Act.put, List.setIfInBounds_toArray, List.set_cons_zero, List.set_cons_succ]))
                    first
                    | (refine take_no (i := 10) (d := some 131) rfl rfl (by kernel_rfl) (by kernel_rfl) (by kernel_rfl) (fun _ _ _ h => h) (by rfl) h1 ?_; (try simp only [Act.put, List.setIfInBounds_toArray, List.set_cons_zero, List.set_cons_succ]))
                    | (refine take_op (i := 10) (d := some 131) (v := ?_) rfl rfl (by kernel_rfl) (by kernel_rfl) (by kernel_rfl) (fun _ _ _ h => h) (by rfl) (fun w hSw => ?_) h1 ?_; rotate_left; (focus ((try dsimp only at hSw); go_simp; (try with_reducible rfl))); (try simp only [Act.put, List.setIfInBounds_toArray, List.set_cons_zero, List.set_cons_succ]))
                    first
                    | (refine take_no (i := 11) (d := some 132) rfl rfl (by kernel_rfl) (by kernel_rfl) (by kernel_rfl) (fun _ _ _ h => h) (by rfl) h1 ?_; (try simp only [Act.put, List.setIfInBounds_toArray, List.set_cons_zero, List.set_cons_succ]))
                    | (refine take_op (i := 11) (d := some 132) (v := ?_) rfl rfl (by kernel_rfl) (by kernel_rfl) (by kernel_rfl) (fun _ _ _ h => h) (by rfl) (fun w hSw => ?_) h1 ?_; rotate_left; (focus ((try dsimp only at hSw); go_simp; (try with_reducible rfl))); (try simp only [Act.put, List.setIfInBounds_toArray, List.set_cons_zero, List.set_cons_succ]))
                    first
                    | (refine take_no (i := 12) (d := some 133) rfl rfl (by kernel_rfl) (by kernel_rfl) (by kernel_rfl) (fun _ _ _ h => h) (by rfl) h1 ?_; (try simp only [Act.put, List.setIfInBounds_toArray, List.set_cons_zero, List.set_cons_succ]))
                    | (refine take_op (i := 12) (d := some 133) (v := ?_) rfl rfl (by kernel_rfl) (by kernel_rfl) (by kernel_rfl) (fun _ _ _ h => h) (by rfl) (fun w hSw => ?_) h1 ?_; rotate_left; (focus ((try dsimp only at hSw); go_simp; (try with_reducible rfl))); (try simp only [Act.put, List.setIfInBounds_toArray, List.set_cons_zero, List.set_cons_succ]))
                    first
                    | (refine take_no (i := 13) (d := some 134) rfl rfl (by kernel_rfl) (by kernel_rfl) (by kernel_rfl) (fun _ _ _ h => h) (by rfl) h1 ?_; (try simp only [Act.put, List.setIfInBounds_toArray, List.set_cons_zero, List.set_cons_succ]))
                    | (refine take_op (i := 13) (d := some 134) (v := ?_) rfl rfl (by kernel_rfl) (by kernel_rfl) (by kernel_rfl) (fun _ _ _ h => h) (by rfl) (fun w hSw => ?_) h1 ?_; rotate_left; (focus ((try dsimp only at hSw); go_simp; (try with_reducible rfl))); (try simp only [Act.put, List.setIfInBounds_toArray, List.set_cons_zero, List.set_cons_succ]))
                    first
                    | (refine take_no (i := 14) (d := some 135) rfl rfl (by kernel_rfl) (by kernel_rfl) (by kernel_rfl) (fun _ _ _ h => h) (by rfl) h1 ?_; (try simp only [Act.put, List.setIfInBounds_toArray, List.set_cons_zero, List.set_cons_succ]))
                    | (refine take_op (i := 14) (d := some 135) (v := ?_) rfl rfl (by kernel_rfl) (by kernel_rfl) (by kernel_rfl) (fun _ _ _ h => h) (by rfl) (fun w hSw => ?_) h1 ?_; rotate_left; (focus ((try dsimp only at hSw); go_simp; (try with_reducible rfl))); (try simp only [Act.put, List.setIfInBounds_toArray, List.set_cons_zero, List.set_cons_succ]))
                    first
                    | (refine take_no (i := 15) (d := some 136) rfl rfl (by kernel_rfl) (by kernel_rfl) (by kernel_rfl) (fun _ _ _ h => h) (by rfl) h1 ?_; (try simp only [Act.put, List.setIfInBounds_toArray, List.set_cons_zero, List.set_cons_succ]))
                    | (refine take_op (i := 15) (d := some 136) (v := ?_) rfl rfl (by kernel_rfl) (by kernel_rfl) (by kernel_rfl) (fun _ _ _ h => h) (by rfl) (fun w hSw => ?_) h1 ?_; rotate_left; (focus ((try dsimp only at hSw); go_simp; (try with_reducible rfl))); (try simp only [Act.put, List.setIfInBounds_toArray, List.set_cons_zero, List.set_cons_succ]))
                    first
                    | (refine take_no (i := 16) (d := some 137) rfl rfl (by kernel_rfl) (by kernel_rfl) (by kernel_rfl) (fun _ _ _ h => h) (by rfl) h1 ?_; (try simp only [Act.put, List.setIfInBounds_toArray, List.set_cons_zero, List.set_cons_succ]))
                    | (refine take_op (i := 16) (d := some 137) (v := ?_) rfl rfl (by kernel_rfl) (by kernel_rfl) (by kernel_rfl) (fun _ _ _ h => h) (by rfl) (fun w hSw => ?_) h1 ?_; rotate_left; (focus ((try dsimp only at hSw); go_simp; (try with_reducible rfl))); (try simp only [Act.put, List.setIfInBounds_toArray, List.set_cons_zero, List.set_cons_succ]))
                    first
                    | (refine take_no (i := 17) (d := some 138) rfl rfl (by kernel_rfl) (by kernel_rfl) (by kernel_rfl) (fun _ _ _ h => h) (by rfl) h1 ?_; (try simp only [Act.put, List.setIfInBounds_toArray, List.set_cons_zero, List.set_cons_succ]))
                    | (refine take_op (i := 17) (d := some 138) (v := ?_) rfl rfl (by kernel_rfl) (by kernel_rfl) (by kernel_rfl) (fun _ _ _ h => h) (by rfl) (fun w hSw => ?_) h1 ?_; rotate_left; (focus ((try dsimp only at hSw); go_simp; (try with_reducible rfl))); (try simp only [Act.put, List.setIfInBounds_toArray, List.set_cons_zero, List.set_cons_succ]))
                    first
                    | (refine take_no (i := 18) (d := some 139) rfl rfl (by kernel_rfl) (by kernel_rfl) (by kernel_rfl) (fun _ _ _ h => h) (by rfl) h1 ?_; (try simp only [Act.put, List.setIfInBounds_toArray, List.set_cons_zero, List.set_cons_succ]))
                    | (refine take_op (i := 18) (d := some 139) (v := ?_) rfl rfl (by kernel_rfl) (by kernel_rfl) (by kernel_rfl) (fun _ _ _ h => h) (by rfl) (fun w hSw => ?_) h1 ?_; rotate_left; (focus ((try dsimp only at hSw); go_simp; (try with_reducible rfl))); (try simp only [Act.put, List.setIfInBounds_toArray, List.set_cons_zero, List.set_cons_succ]))
                    first
                    | (refine take_no (i := 19) (d := some 140) rfl rfl (by kernel_rfl) (by kernel_rfl) (by kernel_rfl) (fun _ _ _ h => h) (by rfl) h1 ?_; (try simp only [Act.put, List.setIfInBounds_toArray, List.set_cons_zero, List.set_cons_succ]))
                    | (refine take_op (i := 19) (d := some 140) (v := ?_) rfl rfl (by kernel_rfl) (by kernel_rfl) (by kernel_rfl) (fun _ _ _ h => h) (by rfl) (fun w hSw => ?_) h1 ?_; rotate_left; (focus ((try dsimp only at hSw); go_simp; (try with_reducible rfl))); (try simp only [Act.put, List.setIfInBounds_toArray, List.set_cons_zero, List.set_cons_succ]))
                    first
                    | (refine take_no (i := 20) (d := some 141) rfl rfl (by kernel_rfl) (by kernel_rfl) (by kernel_rfl) (fun _ _ _ h => h) (by rfl) h1 ?_; (try simp only [Act.put, List.setIfInBounds_toArray, List.set_cons_zero, List.set_cons_succ]))
                    | (refine take_op (i := 20) (d := some 141) (v := ?_) rfl rfl (by kernel_rfl) (by kernel_rfl) (by kernel_rfl) (fun _ _ _ h => h) (by rfl) (fun w hSw => ?_) h1 ?_; rotate_left; (focus ((try dsimp only at hSw); go_simp; (try with_reducible rfl))); (try simp only [Act.put, List.setIfInBounds_toArray, List.set_cons_zero, List.set_cons_succ]))
                    first
                    | (refine take_no (i := 21) (d := some 142) rfl rfl (by kernel_rfl) (by kernel_rfl) (by kernel_rfl) (fun _ _ _ h => h) (by rfl) h1 ?_; (try simp only [Act.put, List.setIfInBounds_toArray, List.set_cons_zero, List.set_cons_succ]))
                    | (refine take_op (i := 21) (d := some 142) (v := ?_) rfl rfl (by kernel_rfl) (by kernel_rfl) (by kernel_rfl) (fun _ _ _ h => h) (by rfl) (fun w hSw => ?_) h1 ?_; rotate_left; (focus ((try dsimp only at hSw); go_simp; (try with_reducible rfl))); (try simp only [Act.put, List.setIfInBounds_toArray, List.set_cons_zero, List.set_cons_succ]))
                    first
                    | (refine take_no (i := 22) (d := some 143) rfl rfl (by kernel_rfl) (by kernel_rfl) (by kernel_rfl) (fun _ _ _ h => h) (by rfl) h1 ?_; (try simp only [Act.put, List.setIfInBounds_toArray, List.set_cons_zero, List.set_cons_succ]))
                    | (refine take_op (i := 22) (d := some 143) (v := ?_) rfl rfl (by kernel_rfl) (by kernel_rfl) (by kernel_rfl) (fun _ _ _ h => h) (by rfl) (fun w hSw => ?_) h1 ?_; rotate_left; (focus ((try dsimp only at hSw); go_simp; (try with_reducible rfl))); (try simp only [Act.put, List.setIfInBounds_toArray, List.set_cons_zero, List.set_cons_succ]))
                    first
                    | (refine take_no (i := 23) (d := some 144) rfl rfl (by kernel_rfl) (by kernel_rfl) (by kernel_rfl) (fun _ _ _ h => h) (by rfl) h1 ?_; (try simp only [Act.put, List.setIfInBounds_toArray, List.set_cons_zero, List.set_cons_succ]))
                    | (refine take_op (i := 23) (d := some 144) (v := ?_) rfl rfl (by kernel_rfl) (by kernel_rfl) (by kernel_rfl) (fun _ _ _ h => h) (by rfl) (fun w hSw => ?_) h1 ?_; rotate_left; (focus ((try dsimp only at hSw); go_simp; (try with_reducible rfl))); (try simp only [Act.put, List.setIfInBounds_toArray, List.set_cons_zero, List.set_cons_succ]))
                    first
                    | (refine take_no (i := 24) (d := some 145) rfl rfl (by kernel_rfl) (by kernel_rfl) (by kernel_rfl) (fun _ _ _ h => h) (by rfl) h1 ?_; (try simp only [Act.put, List.setIfInBounds_toArray, List.set_cons_zero, List.set_cons_succ]))
                    | (refine take_op (i := 24) (d := some 145) (v := ?_) rfl rfl (by kernel_rfl) (by kernel_rfl) (by kernel_rfl) (fun _ _ _ h => h) (by rfl) (fun w hSw => ?_) h1 ?_; rotate_left; (focus ((try dsimp only at hSw); go_simp; (try with_reducible rfl))); (try simp only [Act.put, List.setIfInBounds_toArray, List.set_cons_zero, List.set_cons_succ]))
                    first
                    | (refine take_no (i := 25) (d := some 146) rfl rfl (by kernel_rfl) (by kernel_rfl) (by kernel_rfl) (fun _ _ _ h => h) (by rfl) h1 ?_; (try simp only [Act.put, List.setIfInBounds_toArray, List.set_cons_zero, List.set_cons_succ]))
                    | (refine take_op (i := 25) (d := some 146) (v := ?_) rfl rfl (by kernel_rfl) (by kernel_rfl) (by kernel_rfl) (fun _ _ _ h => h) (by rfl) (fun w hSw => ?_) h1 ?_; rotate_left; (focus ((try dsimp only at hSw); go_simp; (try with_reducible rfl))); (try simp only [Act.put, List.setIfInBounds_toArray, List.set_cons_zero, List.set_cons_succ]))
                    first
                    | (refine take_no (i := 26) (d := some 147) rfl rfl (by kernel_rfl) (by kernel_rfl) (by kernel_rfl) (fun _ _ _ h => h) (by rfl) h1 ?_; (try simp only [Act.put, List.setIfInBounds_toArray, List.set_cons_zero, List.set_cons_succ]))
                    | (refine take_op (i := 26) (d := some 147) (v := ?_) rfl rfl (by kernel_rfl) (by kernel_rfl) (by kernel_rfl) (fun _ _ _ h => h) (by rfl) (fun w hSw => ?_) h1 ?_; rotate_left; (focus ((try dsimp only at hSw); go_simp; (try with_reducible rfl))); (try simp only [Act.put, List.setIfInBounds_toArray, List.set_cons_zero, List.set_cons_succ]))
                    first
                    | (refine take_no (i := 27) (d := some 148) rfl rfl (by kernel_rfl) (by kernel_rfl) (by kernel_rfl) (fun _ _ _ h => h) (by rfl) h1 ?_; (try simp only [Act.put, List.setIfInBounds_toArray, List.set_cons_zero, List.set_cons_succ]))
                    | (refine take_op (i := 27) (d := some 148) (v := ?_) rfl rfl (by kernel_rfl) (by kernel_rfl) (by kernel_rfl) (fun _ _ _ h => h) (by rfl) (fun w hSw => ?_) h1 ?_; rotate_left; (focus ((try dsimp only at hSw); go_simp; (try with_reducible rfl))); (try simp only [Act.put, List.setIfInBounds_toArray, List.set_cons_zero, List.set_cons_succ]))
                    first
                    | (refine take_no (i := 28) (d := some 149) rfl rfl (by kernel_rfl) (by kernel_rfl) (by kernel_rfl) (fun _ _ _ h => h) (by rfl) h1 ?_; (try simp only [Act.put, List.setIfInBounds_toArray, List.set_cons_zero, List.set_cons_succ]))
                    | (refine take_op (i := 28) (d := some 149) (v := ?_) rfl rfl (by kernel_rfl) (by kernel_rfl) (by kernel_rfl) (fun _ _ _ h => h) (by rfl) (fun w hSw => ?_) h1 ?_; rotate_left; (focus ((try dsimp only at hSw); go_simp; (try with_reducible rfl))); (try simp only [Act.put, List.setIfInBounds_toArray, List.set_cons_zero, List.set_cons_succ]))
                    first
                    | (refine take_no (i := 29) (d := some 150) rfl rfl (by kernel_rfl) (by kernel_rfl) (by kernel_rfl) (fun _ _ _ h => h) (by rfl) h1 ?_; (try simp only [Act.put, List.setIfInBounds_toArray, List.set_cons_zero, List.set_cons_succ]))
                    | (refine take_op (i := 29) (d := some 150) (v := ?_) rfl rfl (by kernel_rfl) (by kernel_rfl) (by kernel_rfl) (fun _ _ _ h => h) (by rfl) (fun w hSw => ?_) h1 ?_; rotate_left; (focus ((try dsimp only at hSw); go_simp; (try with_reducible rfl))); (try simp only [Act.put, List.setIfInBounds_toArray, List.set_cons_zero, List.set_cons_succ]))
                    first
                    | (refine take_no (i := 30) (d := some 151) rfl rfl (by kernel_rfl) (by kernel_rfl) (by kernel_rfl) (fun _ _ _ h => h) (by rfl) h1 ?_; (try simp only [Act.put, List.setIfInBounds_toArray, List.set_cons_zero, List.set_cons_succ]))
                    | (refine take_op (i := 30) (d := some 151) (v := ?_) rfl rfl (by kernel_rfl) (by kernel_rfl) (by kernel_rfl) (fun _ _ _ h => h) (by rfl) (fun w hSw => ?_) h1 ?_; rotate_left; (focus ((try dsimp only at hSw); go_simp; (try with_reducible rfl))); (try simp only [Act.put, List.setIfInBounds_toArray, List.set_cons_zero, List.set_cons_succ]))
                    first
                    | (refine take_no (i := 31) (d := some 152) rfl rfl (by kernel_rfl) (by kernel_rfl) (by kernel_rfl) (fun _ _ _ h => h) (by rfl) h1 ?_; (try simp only [Act.put, List.setIfInBounds_toArray, List.set_cons_zero, List.set_cons_succ]))
                    | (refine take_op (i := 31) (d := some 152) (v := ?_) rfl rfl (by kernel_rfl) (by kernel_rfl) (by kernel_rfl) (fun _ _ _ h => h) (by rfl) (fun w hSw => ?_) h1 ?_; rotate_left; (focus ((try dsimp only at hSw); go_simp; (try with_reducible rfl))); (try simp only [Act.put, List.setIfInBounds_toArray, List.set_cons_zero, List.set_cons_succ]))
                    first
                    | (refine take_no (i := 32) (d := some 153) rfl rfl (by kernel_rfl) (by kernel_rfl) (by kernel_rfl) (fun _ _ _ h => h) (by rfl) h1 ?_; (try simp only [Act.put, List.setIfInBounds_toArray, List.set_cons_zero, List.set_cons_succ]))
                    | (refine take_op (i := 32) (d := some 153) (v := ?_) rfl rfl (by kernel_rfl) (by kernel_rfl) (by kernel_rfl) (fun _ _ _ h => h) (by rfl) (fun w hSw => ?_) h1 ?_; rotate_left; (focus ((try dsimp only at hSw); go_simp; (try with_reducible rfl))); (try simp only [Act.put, List.setIfInBounds_toArray, List.set_cons_zero, List.set_cons_succ]))
                    first
                    | (refine take_no (i := 33) (d := some 154) rfl rfl (by kernel_rfl) (by kernel_rfl) (by kernel_rfl) (fun _ _ _ h => h) (by rfl) h1 ?_; (try simp only [Act.put, List.setIfInBounds_toArray, List.set_cons_zero, List.set_cons_succ]))
                    | (refine take_op (i := 33) (d := some 154) (v := ?_) rfl rfl (by kernel_rfl) (by kernel_rfl) (by kernel_rfl) (fun _ _ _ h => h) (by rfl) (fun w hSw => ?_) h1 ?_; rotate_left; (focus ((try dsimp only at hSw); go_simp; (try with_reducible rfl))); (try simp only [Act.put, List.setIfInBounds_toArray, List.set_cons_zero, List.set_cons_succ]))
                    first
                    | (refine take_no (i := 34) (d := some 155) rfl rfl (by kernel_rfl) (by kernel_rfl) (by kernel_rfl) (fun _ _ _ h => h) (by rfl) h1 ?_; (try simp only [Act.put, List.setIfInBounds_toArray, List.set_cons_zero, List.set_cons_succ]))
                    | (refine take_op (i := 34) (d := some 155) (v := ?_) rfl rfl (by kernel_rfl) (by kernel_rfl) (by kernel_rfl) (fun _ _ _ h => h) (by rfl) (fun w hSw => ?_) h1 ?_; rotate_left; (focus ((try dsimp only at hSw); go_simp; (try with_reducible rfl))); (try simp only [Act.put, List.setIfInBounds_toArray, List.set_cons_zero, List.set_cons_succ]))
                    first
                    | (refine take_no (i := 35) (d := some 156) rfl rfl (by kernel_rfl) (by kernel_rfl) (by kernel_rfl) (fun _ _ _ h => h) (by rfl) h1 ?_; (try simp only [Act.put, List.setIfInBounds_toArray, List.set_cons_zero, List.set_cons_succ]))
                    | (refine take_op (i := 35) (d := some 156) (v := ?_) rfl rfl (by kernel_rfl) (by kernel_rfl) (by kernel_rfl) (fun _ _ _ h => h) (by rfl) (fun w hSw => ?_) h1 ?_; rotate_left; (focus ((try dsimp only at hSw); go_simp; (try with_reducible rfl))); (try simp only [Act.put, List.setIfInBounds_toArray, List.set_cons_zero, List.set_cons_succ]))
                    first
                    | (refine take_no (i := 36) (d := some 157) rfl rfl (by kernel_rfl) (by kernel_rfl) (by kernel_rfl) (fun _ _ _ h => h) (by rfl) h1 ?_; (try simp only [Act.put, List.setIfInBounds_toArray, List.set_cons_zero, List.set_cons_succ]))
                    | (refine take_op (i := 36) (d := some 157) (v := ?_) rfl rfl (by kernel_rfl) (by kernel_rfl) (by kernel_rfl) (fun _ _ _ h => h) (by rfl) (fun w hSw => ?_) h1 ?_; rotate_left; (focus ((try dsimp only at hSw); go_simp; (try with_reducible rfl))); (try simp only [Act.put, List.setIfInBounds_toArray, List.set_cons_zero, List.set_cons_succ]))
                    refine wpAnyH_done (by kernel_rfl) ?_ _
                    clear h1
                    go_wp2_with fail
                    go_quiet (fail)
                    have B4 := Lib.hid (below_drewN B3.out nq)
                    go_wp2_with fail
                    go_roundw
                    case rel => exact ⟨k + 1, by omega, by go_num, B4.out⟩
                    case measure => simp [intOf]; omega
                  · have dlz : decide (z < z') = false := decide_eq_false hlz
                    clear hik h0 h0'
                    go_wp2_with fail
                    refine take_region (fun w' => w'.cell? ⟨b, o + i * 2, none⟩ = some (.int .u32 y) ∧ w'.cell? ⟨b, o + i * 2 + 1, none⟩ = some (.int .u8 z) ∧ w'.cell? ⟨b2, o2 + i, none⟩ = some (.int .u8 z) ∧ w'.cell? ⟨b, o + k * 2, none⟩ = some (.int .u32 y') ∧ w'.cell? ⟨b, o + k * 2 + 1, none⟩ = some (.int .u8 z') ∧ w'.cell? ⟨b2, o2 + k, none⟩ = some (.int .u8 z')) ⟨g1, g2, g3, g4, g5, g6⟩ (fun h0 => ?_)
                    first
                    | (refine take_no (i := 0) (d := some 121) rfl rfl (by kernel_rfl) (by kernel_rfl) (by kernel_rfl) (fun _ _ _ h => h) (by rfl) h0 ?_; (try simp only [Act.put, List.setIfInBounds_toArray, List.set_cons_zero, List.set_cons_succ]))
                    | (refine take_op (i := 0) (d := some 121) (v := ?_) rfl rfl (by kernel_rfl) (by kernel_rfl) (by kernel_rfl) (fun _ _ _ h => h) (by rfl) (fun w hSw => ?_) h0 ?_; rotate_left; (focus ((try dsimp only at hSw); go_simp; (try with_reducible rfl))); (try simp only [Act.put, List.setIfInBounds_toArray, List.set_cons_zero, List.set_cons_succ]))
                    first
                    | (refine take_no (i := 1) (d := some 122) rfl rfl (by kernel_rfl) (by kernel_rfl) (by kernel_rfl) (fun _ _ _ h => h) (by rfl) h0 ?_; (try simp only [Act.put, List.setIfInBounds_toArray, List.set_cons_zero, List.set_cons_succ]))
                    | (refine take_op (i := 1) (d := some 122) (v := ?_) rfl rfl (by kernel_rfl) (by kernel_rfl) (by kernel_rfl) (fun _ _ _ h => h) (by rfl) (fun w hSw => ?_) h0 ?_; rotate_left; (focus ((try dsimp only at hSw); go_simp; (try with_reducible rfl))); (try simp only [Act.put, List.setIfInBounds_toArray, List.set_cons_zero, List.set_cons_succ]))
                    first
                    | (refine take_no (i := 2) (d := some 123) rfl rfl (by kernel_rfl) (by kernel_rfl) (by kernel_rfl) (fun _ _ _ h => h) (by rfl) h0 ?_; (try simp only [Act.put, List.setIfInBounds_toArray, List.set_cons_zero, List.set_cons_succ]))
                    | (refine take_op (i := 2) (d := some 123) (v := ?_) rfl rfl (by kernel_rfl) (by kernel_rfl) (by kernel_rfl) (fun _ _ _ h => h) (by rfl) (fun w hSw => ?_) h0 ?_; rotate_left; (focus ((try dsimp only at hSw); go_simp; (try with_reducible rfl))); (try simp only [Act.put, List.setIfInBounds_toArray, List.set_cons_zero, List.set_cons_succ]))
                    first
                    | (refine take_no (i := 3) (d := some 124) rfl rfl (by kernel_rfl) (by kernel_rfl) (by kernel_rfl) (fun _ _ _ h => h) (by rfl) h0 ?_; (try simp only [Act.put, List.setIfInBounds_toArray, List.set_cons_zero, List.set_cons_succ]))
                    | (refine take_op (i := 3) (d := some 124) (v := ?_) rfl rfl (by kernel_rfl) (by kernel_rfl) (by kernel_rfl) (fun _ _ _ h => h) (by rfl) (fun w hSw => ?_) h0 ?_; rotate_left; (focus ((try dsimp only at hSw); go_simp; (try with_reducible rfl))); (try simp only [Act.put, List.setIfInBounds_toArray, List.set_cons_zero, List.set_cons_succ]))
                    first
                    | (refine take_no (i := 4) (d := some 125) rfl rfl (by kernel_rfl) (by kernel_rfl) (by kernel_rfl) (fun _ _ _ h => h) (by rfl) h0 ?_; (try simp only [Act.put, List.setIfInBounds_toArray, List.set_cons_zero, List.set_cons_succ]))
                    | (refine take_op (i := 4) (d := some 125) (v := ?_) rfl rfl (by kernel_rfl) (by kernel_rfl) (by kernel_rfl) (fun _ _ _ h => h) (by rfl) (fun w hSw => ?_) h0 ?_; rotate_left; (focus ((try dsimp only at hSw); go_simp; (try with_reducible rfl))); (try simp only [Act.put, List.setIfInBounds_toArray, List.set_cons_zero, List.set_cons_succ]))
                    first
                    | (refine take_no (i := 5) (d := some 126) rfl rfl (by kernel_rfl) (by kernel_rfl) (by kernel_rfl) (fun _ _ _ h => h) (by rfl) h0 ?_; (try simp only [Act.put, List.setIfInBounds_toArray, List.set_cons_zero, List.set_cons_succ]))
                    | (refine take_op (i := 5) (d := some 126) (v := ?_) rfl rfl (by kernel_rfl) (by kernel_rfl) (by kernel_rfl) (fun _ _ _ h => h) (by rfl) (fun w hSw => ?_) h0 ?_; rotate_left; (focus ((try dsimp only at hSw); go_simp; (try with_reducible rfl))); (try simp only [Act.put, List.setIfInBounds_toArray, List.set_cons_zero, List.set_cons_succ]))
                    first
                    | (refine take_no (i := 6) (d := some 127) rfl rfl (by kernel_rfl) (by kernel_rfl) (by kernel_rfl) (fun _ _ _ h => h) (by rfl) h0 ?_; (try simp only [Act.put, List.setIfInBounds_toArray, List.set_cons_zero, List.set_cons_succ]))
                    | (refine take_op (i := 6) (d := some 127) (v := ?_) rfl rfl (by kernel_rfl) (by kernel_rfl) (by kernel_rfl) (fun _ _ _ h => h) (by rfl) (fun w hSw => ?_) h0 ?_; rotate_left; (focus ((try dsimp only at hSw); go_simp; (try with_reducible rfl))); (try simp only [Act.put, List.setIfInBounds_toArray, List.set_cons_zero, List.set_cons_succ]))
                    first
                    | (refine take_no (i := 7) (d := some 128) rfl rfl (by kernel_rfl) (by kernel_rfl) (by kernel_rfl) (fun _ _ _ h => h) (by rfl) h0 ?_; (try simp only [Act.put, List.setIfInBounds_toArray, List.set_cons_zero, List.set_cons_succ]))
                    | (refine take_op (i := 7) (d := some 128) (v := ?_) rfl rfl (by kernel_rfl) (by kernel_rfl) (by kernel_rfl) (fun _ _ _ h => h) (by rfl) (fun w hSw => ?_) h0 ?_; rotate_left; (focus ((try dsimp only at hSw); go_simp; (try with_reducible rfl))); (try simp only [Act.put, List.setIfInBounds_toArray, List.set_cons_zero, List.set_cons_succ]))
                    refine take_call (i := 8) (by kernel_rfl) rfl (fun K hK => ?_)
                    go_simp
                    refine (R1.out _).mono ?_; rintro e w3 ⟨rfl, b3⟩
                    have e1 := (b3.cell (World.block_lt_of_cell? _ _ g1)).trans g1
                    have e2 := (b3.cell (World.block_lt_of_cell? _ _ g2)).trans g2
                    have e3 := (b3.cell (World.block_lt_of_cell? _ _ g3)).trans g3
                    have e4 := (b3.cell (World.block_lt_of_cell? _ _ g4)).trans g4
                    have e5 := (b3.cell (World.block_lt_of_cell? _ _ g5)).trans g5
                    have e6 := (b3.cell (World.block_lt_of_cell? _ _ g6)).trans g6
                    have B3 := Lib.hid (HB.out.drew.trans (b3.mono HB.out.size))
                    clear b3
                    refine hK.out _ _ ⟨e1, e2, e3, e4, e5, e6⟩ (fun h1 => ?_)
                    clear hK K h0
                    (try simp only [Act.put, List.setIfInBounds_toArray, List.set_cons_zero, List.set_cons_succ])
                    first
                    | (refine take_no (i := 9) (d := some 130) rfl rfl (by kernel_rfl) (by kernel_rfl) (by kernel_rfl) (fun _ _ _ h => h) (by rfl) h1 ?_; (try simp only [Act.put, List.setIfInBounds_toArray, List.set_cons_zero, List.set_cons_succ]))
                    | (refine take_op (i := 9) (d := some 130) (v := ?_) rfl rfl (by kernel_rfl) (by kernel_rfl) (by kernel_rfl) (fun _ _ _ h => h) (by rfl) (fun w hSw => ?_) h1 ?_; rotate_left; (focus ((try dsimp only at hSw); go_simp; (try with_reducible rfl))); (try simp only [Act.put, List.setIfInBounds_toArray, List.set_cons_zero, List.set_cons_succ]))
                    first
                    | (refine take_no (i := 10) (d := some 131) rfl rfl (by kernel_rfl) (by kernel_rfl) (by kernel_rfl) (fun _ _ _ h => h) (by rfl) h1 ?_; (try simp only [Act.put, List.setIfInBounds_toArray, List.set_cons_zero, List.set_cons_succ]))
                    | (refine take_op (i := 10) (d := some 131) (v := ?_) rfl rfl (by kernel_rfl) (by kernel_rfl) (by kernel_rfl) (fun _ _ _ h => h) (by rfl) (fun w hSw => ?_) h1 ?_; rotate_left; (focus ((try dsimp only at hSw); go_simp; (try with_reducible rfl))); (try simp only [Act.put, List.setIfInBounds_toArray, List.set_cons_zero, List.set_cons_succ]))
                    first
                    | (refine take_no (i := 11) (d := some 132) rfl rfl (by kernel_rfl) (by kernel_rfl) (by kernel_rfl) (fun _ _ _ h => h) (by rfl) h1 ?_; (try simp only [Act.put, List.setIfInBounds_toArray, List.set_cons_zero, List.set_cons_succ]))
                    | (refine take_op (i := 11) (d := some 132) (v := ?_) rfl rfl (by kernel_rfl) (by kernel_rfl) (by kernel_rfl) (fun _ _ _ h => h) (by rfl) (fun w hSw => ?_) h1 ?_; rotate_left; (focus ((try dsimp only at hSw); go_simp; (try with_reducible rfl))); (try simp only [Act.put, List.setIfInBounds_toArray, List.set_cons_zero, List.set_cons_succ]))
                    first
                    | (refine take_no (i := 12) (d := some 133) rfl rfl (by kernel_rfl) (by kernel_rfl) (by kernel_rfl) (fun _ _ _ h => h) (by rfl) h1 ?_; (try simp only [Act.put, List.setIfInBounds_toArray, List.set_cons_zero, List.set_cons_succ]))
                    | (refine take_op (i := 12) (d := some 133) (v := ?_) rfl rfl (by kernel_rfl) (by kernel_rfl) (by kernel_rfl) (fun _ _ _ h => h) (by rfl) (fun w hSw => ?_) h1 ?_; rotate_left; (focus ((try dsimp only at hSw); go_simp; (try with_reducible rfl))); (try simp only [Act.put, List.setIfInBounds_toArray, List.set_cons_zero, List.set_cons_succ]))
                    first
                    | (refine take_no (i := 13) (d := some 134) rfl rfl (by kernel_rfl) (by kernel_rfl) (by kernel_rfl) (fun _ _ _ h => h) (by rfl) h1 ?_; (try simp only [Act.put, List.setIfInBounds_toArray, List.set_cons_zero, List.set_cons_succ]))
                    | (refine take_op (i := 13) (d := some 134) (v := ?_) rfl rfl (by kernel_rfl) (by kernel_rfl) (by kernel_rfl) (fun _ _ _ h => h) (by rfl) (fun w hSw => ?_) h1 ?_; rotate_left; (focus ((try dsimp only at hSw); go_simp; (try with_reducible rfl))); (try simp only [Act.put, List.setIfInBounds_toArray, List.set_cons_zero, List.set_cons_succ]))
                    first
                    | (refine take_no (i := 14) (d := some 135) rfl rfl (by kernel_rfl) (by kernel_rfl) (by kernel_rfl) (fun _ _ _ h => h) (by rfl) h1 ?_; (try simp only [Act.put, List.setIfInBounds_toArray, List.set_cons_zero, List.set_cons_succ]))
                    | (refine take_op (i := 14) (d := some 135) (v := ?_) rfl rfl (by kernel_rfl) (by kernel_rfl) (by kernel_rfl) (fun _ _ _ h => h) (by rfl) (fun w hSw => ?_) h1 ?_; rotate_left; (focus ((try dsimp only at hSw); go_simp; (try with_reducible rfl))); (try simp only [Act.put, List.setIfInBounds_toArray, List.set_cons_zero, List.set_cons_succ]))
                    first
                    | (refine take_no (i := 15) (d := some 136) rfl rfl (by kernel_rfl) (by kernel_rfl) (by kernel_rfl) (fun _ _ _ h => h) (by rfl) h1 ?_; (try simp only [Act.put, List.setIfInBounds_toArray, List.set_cons_zero, List.set_cons_succ]))
                    | (refine take_op (i := 15) (d := some 136) (v := ?_) rfl rfl (by kernel_rfl) (by kernel_rfl) (by kernel_rfl) (fun _ _ _ h => h) (by rfl) (fun w hSw => ?_) h1 ?_; rotate_left; (focus ((try dsimp only at hSw); go_simp; (try with_reducible rfl))); (try simp only [Act.put, List.setIfInBounds_toArray, List.set_cons_zero, List.set_cons_succ]))
                    first
                    | (refine take_no (i := 16) (d := some 137) rfl rfl (by kernel_rfl) (by kernel_rfl) (by kernel_rfl) (fun _ _ _ h => h) (by rfl) h1 ?_; (try simp only [Act.put, List.setIfInBounds_toArray, List.set_cons_zero, List.set_cons_succ]))
                    | (refine take_op (i := 16) (d := some 137) (v := ?_) rfl rfl (by kernel_rfl) (by kernel_rfl) (by kernel_rfl) (fun _ _ _ h => h) (by rfl) (fun w hSw => ?_) h1 ?_; rotate_left; (focus ((try dsimp only at hSw); go_simp; (try with_reducible rfl))); (try simp only [Act.put, List.setIfInBounds_toArray, List.set_cons_zero, List.set_cons_succ]))
                    first
                    | (refine take_no (i := 17) (d := some 138) rfl rfl (by kernel_rfl) (by kernel_rfl) (by kernel_rfl) (fun _ _ _ h => h) (by rfl) h1 ?_; (try simp only [Act.put, List.setIfInBounds_toArray, List.set_cons_zero, List.set_cons_succ]))
                    | (refine take_op (i := 17) (d := some 138) (v := ?_) rfl rfl (by kernel_rfl) (by kernel_rfl) (by kernel_rfl) (fun _ _ _ h => h) (by rfl) (fun w hSw => ?_) h1 ?_; rotate_left; (focus ((try dsimp only at hSw); go_simp; (try with_reducible rfl))); (try simp only [Act.put, List.setIfInBounds_toArray, List.set_cons_zero, List.set_cons_succ]))
                    first
                    | (refine take_no (i := 18) (d := some 139) rfl rfl (by kernel_rfl) (by kernel_rfl) (by kernel_rfl) (fun _ _ _ h => h) (by rfl) h1 ?_; (try simp only [Act.put, List.setIfInBounds_toArray, List.set_cons_zero, List.set_cons_succ]))
                    | (refine take_op (i := 18) (d := some 139) (v := ?_) rfl rfl (by kernel_rfl) (by kernel_rfl) (by kernel_rfl) (fun _ _ _ h => h) (by rfl) (fun w hSw => ?_) h1 ?_; rotate_left; (focus ((try dsimp only at hSw); go_simp; (try with_reducible rfl))); (try simp only [Act.put, List.setIfInBounds_toArray, List.set_cons_zero, List.set_cons_succ]))
                    first
                    | (refine take_no (i := 19) (d := some 140) rfl rfl (by kernel_rfl) (by kernel_rfl) (by kernel_rfl) (fun _ _ _ h => h) (by rfl) h1 ?_; (try simp only [Act.put, List.setIfInBounds_toArray, List.set_cons_zero, List.set_cons_succ]))
                    | (refine take_op (i := 19) (d := some 140) (v := ?_) rfl rfl (by kernel_rfl) (by kernel_rfl) (by kernel_rfl) (fun _ _ _ h => h) (by rfl) (fun w hSw => ?_) h1 ?_; rotate_left; (focus ((try dsimp only at hSw); go_simp; (try with_reducible rfl))); (try simp only [Act.put, List.setIfInBounds_toArray, List.set_cons_zero, List.set_cons_succ]))
                    first
                    | (refine take_no (i := 20) (d := some 141) rfl rfl (by kernel_rfl) (by kernel_rfl) (by kernel_rfl) (fun _ _ _ h => h) (by rfl) h1 ?_; (try simp only [Act.put, List.setIfInBounds_toArray, List.set_cons_zero, List.set_cons_succ]))
                    | (refine take_op (i := 20) (d := some 141) (v := ?_) rfl rfl (by kernel_rfl) (by kernel_rfl) (by kernel_rfl) (fun _ _ _ h => h) (by rfl) (fun w hSw => ?_) h1 ?_; rotate_left; (focus ((try dsimp only at hSw); go_simp; (try with_reducible rfl))); (try simp only [Act.put, List.setIfInBounds_toArray, List.set_cons_zero, List.set_cons_succ]))
                    first
                    | (refine take_no (i := 21) (d := some 142) rfl rfl (by kernel_rfl) (by kernel_rfl) (by kernel_rfl) (fun _ _ _ h => h) (by rfl) h1 ?_; (try simp only [Act.put, List.setIfInBounds_toArray, List.set_cons_zero, List.set_cons_succ]))
                    | (refine take_op (i := 21) (d := some 142) (v := ?_) rfl rfl (by kernel_rfl) (by kernel_rfl) (by kernel_rfl) (fun _ _ _ h => h) (by rfl) (fun w hSw => ?_) h1 ?_; rotate_left; (focus ((try dsimp only at hSw); go_simp; (try with_reducible rfl))); (try simp only [Act.put, List.setIfInBounds_toArray, List.set_cons_zero, List.set_cons_succ]))
                    first
                    | (refine take_no (i := 22) (d := some 143) rfl rfl (by kernel_rfl) (by kernel_rfl) (by kernel_rfl) (fun _ _ _ h => h) (by rfl) h1 ?_; (try simp only [Act.put, List.setIfInBounds_toArray, List.set_cons_zero, List.set_cons_succ]))
                    | (refine take_op (i := 22) (d := some 143) (v := ?_) rfl rfl (by kernel_rfl) (by kernel_rfl) (by kernel_rfl) (fun _ _ _ h => h) (by rfl) (fun w hSw => ?_) h1 ?_; rotate_left; (focus ((try dsimp only at hSw); go_simp; (try with_reducible rfl))); (try simp only [Act.put, List.setIfInBounds_toArray, List.set_cons_zero, List.set_cons_succ]))
                    first
                    | (refine take_no (i := 23) (d := some 144) rfl rfl (by kernel_rfl) (by kernel_rfl) (by kernel_rfl) (fun _ _ _ h => h) (by rfl) h1 ?_; (try simp only [Act.put, List.setIfInBounds_toArray, List.set_cons_zero, List.set_cons_succ]))
                    | (refine take_op (i := 23) (d := some 144) (v := ?_) rfl rfl (by kernel_rfl) (by kernel_rfl) (by kernel_rfl) (fun _ _ _ h => h) (by rfl) (fun w hSw => ?_) h1 ?_; rotate_left; (focus ((try dsimp only at hSw); go_simp; (try with_reducible rfl))); (try simp only [Act.put, List.setIfInBounds_toArray, List.set_cons_zero, List.set_cons_succ]))
                    first
                    | (refine take_no (i := 24) (d := some 145) rfl rfl (by kernel_rfl) (by kernel_rfl) (by kernel_rfl) (fun _ _ _ h => h) (by rfl) h1 ?_; (try simp only [Act.put, List.setIfInBounds_toArray, List.set_cons_zero, List.set_cons_succ]))
                    | (refine take_op (i := 24) (d := some 145) (v := ?_) rfl rfl (by kernel_rfl) (by kernel_rfl) (by kernel_rfl) (fun _ _ _ h => h) (by rfl) (fun w hSw => ?_) h1 ?_; rotate_left; (focus ((try dsimp only at hSw); go_simp; (try with_reducible rfl))); (try simp only [Act.put, List.setIfInBounds_toArray, List.set_cons_zero, List.set_cons_succ]))
                    first
                    | (refine take_no (i := 25) (d := some 146) rfl rfl (by kernel_rfl) (by kernel_rfl) (by kernel_rfl) (fun _ _ _ h => h) (by rfl) h1 ?_; (try simp only [Act.put, List.setIfInBounds_toArray, List.set_cons_zero, List.set_cons_succ]))
                    | (refine take_op (i := 25) (d := some 146) (v := ?_) rfl rfl (by kernel_rfl) (by kernel_rfl) (by kernel_rfl) (fun _ _ _ h => h) (by rfl) (fun w hSw => ?_) h1 ?_; rotate_left; (focus ((try dsimp only at hSw); go_simp; (try with_reducible rfl))); (try simp only [Act.put, List.setIfInBounds_toArray, List.set_cons_zero, List.set_cons_succ]))
                    first
                    | (refine take_no (i := 26) (d := some 147) rfl rfl (by kernel_rfl) (by kernel_rfl) (by kernel_rfl) (fun _ _ _ h => h) (by rfl) h1 ?_; (try simp only [Act.put, List.setIfInBounds_toArray, List.set_cons_zero, List.set_cons_succ]))
                    | (refine take_op (i := 26) (d := some 147) (v := ?_) rfl rfl (by kernel_rfl) (by kernel_rfl) (by kernel_rfl) (fun _ _ _ h => h) (by rfl) (fun w hSw => ?_) h1 ?_; rotate_left; (focus ((try dsimp only at hSw); go_simp; (try with_reducible rfl))); (try simp only [Act.put, List.setIfInBounds_toArray, List.set_cons_zero, List.set_cons_succ]))
                    first
                    | (refine take_no (i := 27) (d := some 148) rfl rfl (by kernel_rfl) (by kernel_rfl) (by kernel_rfl) (fun _ _ _ h => h) (by rfl) h1 ?_; (try simp only [Act.put, List.setIfInBounds_toArray, List.set_cons_zero, List.set_cons_succ]))
                    | (refine take_op (i := 27) (d := some 148) (v := ?_) rfl rfl (by kernel_rfl) (by kernel_rfl) (by kernel_rfl) (fun _ _ _ h => h) (by rfl) (fun w hSw => ?_) h1 ?_; rotate_left; (focus ((try dsimp only at hSw); go_simp; (try with_reducible rfl))); (try simp only [Act.put, List.setIfInBounds_toArray, List.set_cons_zero, List.set_cons_succ]))
                    first
                    | (refine take_no (i := 28) (d := some 149) rfl rfl (by kernel_rfl) (by kernel_rfl) (by kernel_rfl) (fun _ _ _ h => h) (by rfl) h1 ?_; (try simp only [Act.put, List.setIfInBounds_toArray, List.set_cons_zero, List.set_cons_succ]))
                    | (refine take_op (i := 28) (d := some 149) (v := ?_) rfl rfl (by kernel_rfl) (by kernel_rfl) (by kernel_rfl) (fun _ _ _ h => h) (by rfl) (fun w hSw => ?_) h1 ?_; rotate_left; (focus ((try dsimp only at hSw); go_simp; (try with_reducible rfl))); (try simp only [Act.put, List.setIfInBounds_toArray, List.set_cons_zero, List.set_cons_succ]))
                    first
                    | (refine take_no (i := 29) (d := some 150) rfl rfl (by kernel_rfl) (by kernel_rfl) (by kernel_rfl) (fun _ _ _ h => h) (by rfl) h1 ?_; (try simp only [Act.put, List.setIfInBounds_toArray, List.set_cons_zero, List.set_cons_succ]))
                    | (refine take_op (i := 29) (d := some 150) (v := ?_) rfl rfl (by kernel_rfl) (by kernel_rfl) (by kernel_rfl) (fun _ _ _ h => h) (by rfl) (fun w hSw => ?_) h1 ?_; rotate_left; (focus ((try dsimp only at hSw); go_simp; (try with_reducible rfl))); (try simp only [Act.put, List.setIfInBounds_toArray, List.set_cons_zero, List.set_cons_succ]))
                    first
                    | (refine take_no (i := 30) (d := some 151) rfl rfl (by kernel_rfl) (by kernel_rfl) (by kernel_rfl) (fun _ _ _ h => h) (by rfl) h1 ?_; (try simp only [Act.put, List.setIfInBounds_toArray, List.set_cons_zero, List.set_cons_succ]))
                    | (refine take_op (i := 30) (d := some 151) (v := ?_) rfl rfl (by kernel_rfl) (by kernel_rfl) (by kernel_rfl) (fun _ _ _ h => h) (by rfl) (fun w hSw => ?_) h1 ?_; rotate_left; (focus ((try dsimp only at hSw); go_simp; (try with_reducible rfl))); (try simp only [Act.put, List.setIfInBounds_toArray, List.set_cons_zero, List.set_cons_succ]))
                    first
                    | (refine take_no (i := 31) (d := some 152) rfl rfl (by kernel_rfl) (by kernel_rfl) (by kernel_rfl) (fun _ _ _ h => h) (by rfl) h1 ?_; (try simp only [Act.put, List.setIfInBounds_toArray, List.set_cons_zero, List.set_cons_succ]))
                    | (refine take_op (i := 31) (d := some 152) (v := ?_) rfl rfl (by kernel_rfl) (by kernel_rfl) (by kernel_rfl) (fun _ _ _ h => h) (by rfl) (fun w hSw => ?_) h1 ?_; rotate_left; (focus ((try dsimp only at hSw); go_simp; (try with_reducible rfl))); (try simp only [Act.put, List.setIfInBounds_toArray, List.set_cons_zero, List.set_cons_succ]))
                    first
                    | (refine take_no (i := 32) (d := some 153) rfl rfl (by kernel_rfl) (by kernel_rfl) (by kernel_rfl) (fun _ _ _ h => h) (by rfl) h1 ?_; (try simp only [Act.put, List.setIfInBounds_toArray, List.set_cons_zero, List.set_cons_succ]))
                    | (refine take_op (i := 32) (d := some 153) (v := ?_) rfl rfl (by kernel_rfl) (by kernel_rfl) (by kernel_rfl) (fun _ _ _ h => h) (by rfl) (fun w hSw => ?_) h1 ?_; rotate_left; (focus ((try dsimp only at hSw); go_simp; (try with_reducible rfl))); (try simp only [Act.put, List.setIfInBounds_toArray, List.set_cons_zero, List.set_cons_succ]))
                    first
                    | (refine take_no (i := 33) (d := some 154) rfl rfl (by kernel_rfl) (by kernel_rfl) (by kernel_rfl) (fun _ _ _ h => h) (by rfl) h1 ?_; (try simp only [Act.put, List.setIfInBounds_toArray, List.set_cons_zero, List.set_cons_succ]))
                    | (refine take_op (i := 33) (d := some 154) (v := ?_) rfl rfl (by kernel_rfl) (by kernel_rfl) (by kernel_rfl) (fun _ _ _ h => h) (by rfl) (fun w hSw => ?_) h1 ?_; rotate_left; (focus ((try dsimp only at hSw); go_simp; (try with_reducible rfl))); (try simp only [Act.put, List.setIfInBounds_toArray, List.set_cons_zero, List.set_cons_succ]))
                    first
                    | (refine take_no (i := 34) (d := some 155) rfl rfl (by kernel_rfl) (by kernel_rfl) (by kernel_rfl) (fun _ _ _ h => h) (by rfl) h1 ?_; (try simp only [Act.put, List.setIfInBounds_toArray, List.set_cons_zero, List.set_cons_succ]))
                    | (refine take_op (i := 34) (d := some 155) (v := ?_) rfl rfl (by kernel_rfl) (by kernel_rfl) (by kernel_rfl) (fun _ _ _ h => h) (by rfl) (fun w hSw => ?_) h1 ?_; rotate_left; (focus ((try dsimp only at hSw); go_simp; (try with_reducible rfl))); (try simp only [Act.put, List.setIfInBounds_toArray, List.set_cons_zero, List.set_cons_succ]))
                    first
                    | (refine take_no (i := 35) (d := some 156) rfl rfl (by kernel_rfl) (by kernel_rfl) (by kernel_rfl) (fun _ _ _ h => h) (by rfl) h1 ?_; (try simp only [Act.put, List.setIfInBounds_toArray, List.set_cons_zero, List.set_cons_succ]))
                    | (refine take_op (i := 35) (d := some 156) (v := ?_) rfl rfl (by kernel_rfl) (by kernel_rfl) (by kernel_rfl) (fun _ _ _ h => h) (by rfl) (fun w hSw => ?_) h1 ?_; rotate_left; (focus ((try dsimp only at hSw); go_simp; (try with_reducible rfl))); (try simp only [Act.put, List.setIfInBounds_toArray, List.set_cons_zero, List.set_cons_succ]))
                    first
                    | (refine take_no (i := 36) (d := some 157) rfl rfl (by kernel_rfl) (by kernel_rfl) (by kernel_rfl) (fun _ _ _ h => h) (by rfl) h1 ?_; (try simp only [Act.put, List.setIfInBounds_toArray, List.set_cons_zero, List.set_cons_succ]))
                    | (refine take_op (i := 36) (d := some 157) (v := ?_) rfl rfl (by kernel_rfl) (by kernel_rfl) (by kernel_rfl) (fun _ _ _ h => h) (by rfl) (fun w hSw => ?_) h1 ?_; rotate_left; (focus ((try dsimp only at hSw); go_simp; (try with_reducible rfl))); (try simp only [Act.put, List.setIfInBounds_toArray, List.set_cons_zero, List.set_cons_succ]))
                    refine wpAnyH_done (by kernel_rfl) ?_ _
                    clear h1
                    go_wp2_with fail
                    go_quiet (fail)
                    have B4 := Lib.hid (below_drewN B3.out nq)
                    go_wp2_with fail
                    go_roundw
                    case rel => exact ⟨k + 1, by omega, by go_num, B4.out⟩
                    case measure => simp [intOf]; omega
          · obtain rfl : k = n := by omega
            have HB := Lib.hid hb
            clear hb
            go_wp2_with fail
            go_roundw
            case rel => exact ⟨i + 1, by omega, by go_num, HB.out⟩
            case measure => simp [intOf]; omega
    · obtain rfl : i = n := by omega
      have HB := Lib.hid (B1.out.trans (hb.mono B1.out.size))
      clear hb
      go_wp2_with fail
      refine (alive_any _).mono ?_; rintro e w3 ⟨rfl, b3⟩
      have B3 := Lib.hid (HB.out.trans (b3.mono HB.out.size))
      clear b3
      go_wp2_with fail
      go_ret
      exact ⟨rfl, B3.out⟩

theorem CanonApart_walk (a0 : Option Addr) (len0 cap0 : Nat) (z0 : List Int) (w : World) (w0 : IsRow .u8 w a0 len0 cap0 z0) :
    Calls Try.prog 4 #[.slice a0 len0 cap0] w fun e w' => e = .returned (.bool true) ∧ Below w.heap.size w w' := by
  have h0 := w0.most
  by_cases h : 60 < len0
  · exact apart_far _ _ _ w (by omega) h
  · obtain ⟨q1, q2⟩ := w0.nat8
    by_cases h5 : kind (nat8 z0) len0 = 5
    · exact apart_bad a0 len0 cap0 _ w (by omega) q1 q2 h5
    · by_cases h4 : kind (nat8 z0) len0 = 4
      · exact apart_over a0 len0 cap0 _ w (by omega) q1 q2 h4
      · exact apart_ok a0 len0 cap0 _ w (by omega) q1 q2 h5 h4
end Go.Proofs.Ytgcdmgilgknneaa
