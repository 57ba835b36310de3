/- ModsTells returns true for any argument that its kinds hold. Conditions: none. -/
import Derived.Test.YtbbfbijgclpjeaaOdS
import Derived.Deep.RegionHeld3
namespace Go.Proofs.Ytbbfbijgclpjeaa
open Go Go.RowKit M O
set_option linter.unusedVariables false
set_option linter.unusedSimpArgs false

namespace O
theorem lng_no {L : List Md} (h : lng L = false) : tsm L ≤ 32768 ∧ L.length ≤ 100 := by
  unfold lng at h
  rw [decide_eq_false_iff_not] at h
  omega
end O

set_option maxRecDepth 1000000 in
set_option maxHeartbeats 4000000 in
theorem ModsTells_walk (a0 : Int) (a1 : Option Addr) (len1 cap1 : Nat) (z1 : List Md) (a2 : ByteArray) (W : World) (w0 : (Lit.int .i64 a0).wf = true) (w1 : IsMds W a1 len1 z1) (w2 : a2.size ≤ maxLen) :
    Calls Try.prog 3 #[.int .i64 a0, .slice a1 len1 cap1, .string a2] W fun e w' => e = .returned (.bool true) ∧ Below W.heap.size W w' := by
  unfold maxLen at w2
  have HV := Lib.hid alive_any
  have HH := Lib.hid w1
  have hLg := long_any a1 len1 cap1 z1 W w1
  have hl := w1.leng
  clear w0
  cases hlg : lng z1 with
  | true =>
    rw [hlg] at hLg
    have HLg := Lib.hid hLg
    clear hLg hlg w1 hl
    go_enter Try.func3, Try.ntmps3
    go_wp2_with (first
      | (go_at_call 10; (with_reducible refine HLg.out.mono ?_); rintro e w' ⟨rfl, rfl⟩)
      | (go_at_call 11; (with_reducible refine (HV.out _).mono ?_); rintro e w4 ⟨rfl, b4⟩; have B4 := Lib.hid b4; clear b4))
    go_ret
    exact ⟨rfl, B4.out⟩
  | false =>
    rw [hlg] at hLg
    have HLg := Lib.hid hLg
    obtain ⟨hts, hle⟩ := lng_no hlg
    clear hLg hlg
    by_cases h2 : 16385 < a2.size
    · have d2 : decide (16385 < (a2.size : Int)) = true := decide_eq_true (by omega)
      have d2' : decide (16385 < a2.size) = true := decide_eq_true h2
      clear h2 w1 hl
      go_enter Try.func3, Try.ntmps3
      go_wp2_with (first
        | (go_at_call 10; (with_reducible refine HLg.out.mono ?_); rintro e w' ⟨rfl, rfl⟩)
        | (go_at_call 11; (with_reducible refine (HV.out _).mono ?_); rintro e w4 ⟨rfl, b4⟩; have B4 := Lib.hid b4; clear b4))
      go_ret
      exact ⟨rfl, B4.out⟩
    · have d2 : decide (16385 < (a2.size : Int)) = false := decide_eq_false (by omega)
      have d2' : decide (16385 < a2.size) = false := decide_eq_false h2
      have hsz : szs z1 ≤ 10000000 := by rw [szs_tsm]; omega
      obtain ⟨X, E, hXE⟩ : ∃ X E, encl a0 z1 = (X, E) := ⟨_, _, rfl⟩
      obtain ⟨Y, F, hYF⟩ : ∃ X F, apl a2.data.toList z1 = (X, F) := ⟨_, _, rfl⟩
      have he := fun w (hi : IsMds w a1 len1 z1) => encode_any a0 a1 len1 cap1 z1 w hi hsz
      have he' := fun w (hi : IsMds w a1 len1 z1) => rencode_any a0 a1 len1 cap1 z1 w hi hsz
      have ha := fun w (hi : IsMds w a1 len1 z1) => apply_any a2 a1 len1 cap1 z1 w hi (by omega)
      have ha' := fun w (hi : IsMds w a1 len1 z1) => rapply_any a2 a1 len1 cap1 z1 w hi (by omega)
      rw [hXE] at he he'
      rw [hYF] at ha ha'
      obtain ⟨SX, hSX⟩ : ∃ S, bstr X = S := ⟨_, rfl⟩
      obtain ⟨SY, hSY⟩ : ∃ S, bstr Y = S := ⟨_, rfl⟩
      simp only [hSX] at he he'
      simp only [hSY] at ha ha'
      have HE := Lib.hid he
      have HE' := Lib.hid he'
      have HA := Lib.hid ha
      have HA' := Lib.hid ha'
      have HZ := Lib.hid (fun w (hi : IsMds w a1 len1 z1) => size_any a1 len1 cap1 z1 w hi (by omega))
      have HZ' := Lib.hid (fun w (hi : IsMds w a1 len1 z1) => rsize_any a1 len1 cap1 z1 w hi (by omega))
      obtain ⟨sz, hszz⟩ : ∃ s, szs z1 = s := ⟨_, rfl⟩
      simp only [hszz] at HZ HZ'
      have HP := Lib.hid (page_any a0)
      have HP' := Lib.hid (rpage_any a0)
      obtain ⟨pz, hpz⟩ : ∃ p, pg a0 = p := ⟨_, rfl⟩
      simp only [hpz] at HP HP'
      have HL := Lib.hid hl
      have hm := w1.most
      unfold maxLen at hm
      clear h2 w1 hl he he' ha ha' hXE hYF hSX hSY hsz hszz hpz hts hle
      go_enter Try.func3, Try.ntmps3
      go_wp2_with (first
        | (go_at_call 10; (with_reducible refine HLg.out.mono ?_); rintro e w' ⟨rfl, rfl⟩)
        | (go_at_call 12; (with_reducible refine (HE.out _ HH.out).mono ?_); rintro e w4 ⟨rfl, b4⟩; have B4 := Lib.hid b4; clear b4)
        | (go_at_call 13; (with_reducible refine (HE'.out _ (HH.out.below B4.out)).mono ?_); rintro e w5 ⟨rfl, b5⟩; have B5 := Lib.hid (B4.out.trans (b5.mono B4.out.size)); clear b5)
        | (go_at_call 14; (with_reducible refine (HA.out _ (HH.out.below B5.out)).mono ?_); rintro e w6 ⟨rfl, b6⟩; have B6 := Lib.hid (B5.out.trans (b6.mono B5.out.size)); clear b6)
        | (go_at_call 15; (with_reducible refine (HA'.out _ (HH.out.below B6.out)).mono ?_); rintro e w7 ⟨rfl, b7⟩; have B7 := Lib.hid (B6.out.trans (b7.mono B6.out.size)); clear b7))
      go_loopw [15] (fun i wr => ∃ k : Nat, k ≤ len1 ∧ i = .int .i64 k ∧ Below W.heap.size W wr) (fun i _ => len1 - (intOf i).toNat)
      case atStart => exact ⟨0, Nat.zero_le _, rfl, B7.out⟩
      case round =>
        obtain ⟨k, hk, rfl, hb⟩ := hrel
        have HB := Lib.hid hb
        by_cases hlt : k < len1
        · obtain ⟨b, o, rfl, hbl, hc⟩ := (HH.out.below hb).at (by omega)
          obtain ⟨c0, c1⟩ := hc k hlt
          have hgo := good_at HH.out hlt
          obtain ⟨m, hm'⟩ : ∃ m, z1.getD k default = m := ⟨_, rfl⟩
          rw [hm'] at c0 c1 hgo
          obtain ⟨p, s⟩ := m
          simp only at c0 c1
          have hM := fun w => may_any a0 p s w hgo.s
          have hM' := fun w => rmay_any a0 p s w hgo.s
          obtain ⟨mz, hmz⟩ : ∃ z, may a0 ⟨p, s⟩ = z := ⟨_, rfl⟩
          simp only [hmz] at hM hM'
          have HM := Lib.hid hM
          have HM' := Lib.hid hM'
          have d1 : decide ((k : Int) < (len1 : Int)) = true := decide_eq_true (by omega)
          have d1' : decide (k < len1) = true := decide_eq_true hlt
          clear hc hm' hb hgo hbl hM hM' hmz
          go_wp2_with fail
          go_region_held3 (fun w' => w'.cell? ⟨b, o + k * 2, none⟩ = some (.int .i64 p) ∧ w'.cell? ⟨b, o + k * 2 + 1, none⟩ = some (.string s)) (first | exact ⟨m0, m1⟩ | exact ⟨l0, l1⟩ | exact ⟨c0, c1⟩) (first
            | (go_at_call 16; (with_reducible refine (HM.out _).mono ?_); rintro e w8 ⟨rfl, b8⟩; have l0 := (b8.cell (p := ⟨b, o + k * 2, none⟩) (World.block_lt_of_cell? _ _ c0)).trans c0; have l1 := (b8.cell (p := ⟨b, o + k * 2 + 1, none⟩) (World.block_lt_of_cell? _ _ c1)).trans c1; have B8 := Lib.hid (HB.out.drew.trans (b8.mono HB.out.size)); clear b8)
            | (go_at_call 17; (with_reducible refine (HM'.out _).mono ?_); rintro e w9 ⟨rfl, b9⟩; have m0 := (b9.cell (p := ⟨b, o + k * 2, none⟩) (World.block_lt_of_cell? _ _ l0)).trans l0; have m1 := (b9.cell (p := ⟨b, o + k * 2 + 1, none⟩) (World.block_lt_of_cell? _ _ l1)).trans l1; have B9 := Lib.hid (B8.out.trans (b9.mono B8.out.size)); clear b9))
          go_wp2_with fail
          go_roundw
          case rel => exact ⟨k + 1, by omega, by go_num, B9.out⟩
          case measure => simp [intOf]; omega
        · obtain rfl : k = len1 := by omega
          have d1 : decide ((k : Int) < (k : Int)) = false := decide_eq_false (by omega)
          clear hb
          go_wp2_with (first
            | (go_at_call 18; (with_reducible refine (HP.out _).mono ?_); rintro e w' ⟨rfl, rfl⟩)
            | (go_at_call 19; (with_reducible refine (HP'.out _).mono ?_); rintro e w' ⟨rfl, rfl⟩)
            | (go_at_call 20; (with_reducible refine (HZ.out _ (HH.out.below HB.out)).mono ?_); rintro e w8 ⟨rfl, b8⟩; have B8 := Lib.hid (HB.out.trans (b8.mono HB.out.size)); clear b8)
            | (go_at_call 21; (with_reducible refine (HZ'.out _ (HH.out.below B8.out)).mono ?_); rintro e w9 ⟨rfl, b9⟩; have B9 := Lib.hid (B8.out.trans (b9.mono B8.out.size)); clear b9)
            | (go_at_call 11; (with_reducible refine (HV.out _).mono ?_); rintro e w10 ⟨rfl, b10⟩; have B10 := Lib.hid (B9.out.trans (b10.mono B9.out.size)); clear b10))
          go_ret
          exact ⟨rfl, B10.out⟩
end Go.Proofs.Ytbbfbijgclpjeaa
