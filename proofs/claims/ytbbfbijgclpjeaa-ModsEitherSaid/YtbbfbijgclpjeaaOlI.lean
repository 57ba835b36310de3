/- ModsEither returns true for any argument that its kinds hold. Conditions: none. -/
import Derived.Test.YtbbfbijgclpjeaaOlE
namespace Go.Proofs.Ytbbfbijgclpjeaa
open Go Go.RowKit M O
set_option linter.unusedVariables false
set_option linter.unusedSimpArgs false

namespace O
/-- a test on a place: by both forms -/
structure Tst (p i : Nat) (b : Bool) : Prop where
  a : decide ((p : Int) ≤ (i : Int)) = b
  b : decide (p ≤ i) = b
structure Tlt (i q : Nat) (b : Bool) : Prop where
  a : decide ((i : Int) < (q : Int)) = b
  b : decide (i < q) = b
theorem tst (p i : Nat) : Tst p i (decide (p ≤ i)) := ⟨by
  by_cases h : p ≤ i
  · rw [decide_eq_true h, decide_eq_true (by omega)]
  · rw [decide_eq_false h, decide_eq_false (by omega)], rfl⟩
theorem tlt (i q : Nat) : Tlt i q (decide (i < q)) := ⟨by
  by_cases h : i < q
  · rw [decide_eq_true h, decide_eq_true (by omega)]
  · rw [decide_eq_false h, decide_eq_false (by omega)], rfl⟩
end O

set_option maxRecDepth 1000000 in
set_option maxHeartbeats 8000000 in
theorem ModsEither_good (a0 : ByteArray) (P1 P2 : Nat) (s1 s2 : ByteArray) (F : Nat) (W : World) (h0 : a0.size ≤ 1024) (h1 : s1.size ≤ 1024) (h2 : s2.size ≤ 1024) (hF : F < 256) (g1 : Md.ok ⟨P1, s1⟩) (g2 : Md.ok ⟨P2, s2⟩) (m1 : may 1024 ⟨(P1 : Int), s1⟩ = true) (m2 : may 1024 ⟨(P2 : Int), s2⟩ = true) :
    Calls Try.prog 7 #[.string a0, .agg #[.int .i64 P1, .string s1], .agg #[.int .i64 P2, .string s2], .int .u8 F] W fun e w' => e = .returned (.bool true) ∧ Below W.heap.size W w' := by
  have HV := Lib.hid alive_any
  have c1 : decide (1024 < (a0.size : Int)) = false := decide_eq_false (by omega)
  have c2 : decide (1024 < a0.size) = false := decide_eq_false (by omega)
  have c3 : decide (1024 < (s1.size : Int)) = false := decide_eq_false (by omega)
  have c4 : decide (1024 < s1.size) = false := decide_eq_false (by omega)
  have c5 : decide (1024 < (s2.size : Int)) = false := decide_eq_false (by omega)
  have c6 : decide (1024 < s2.size) = false := decide_eq_false (by omega)
  have hpp := fun w => pages0 F a0 ⟨#[]⟩ w hF
  obtain ⟨PA, hA⟩ : ∃ P, bstr (pgl 1024 a0 F) = P := ⟨_, rfl⟩
  obtain ⟨PE, hE⟩ : ∃ P, bstr (pgl 1024 ⟨#[]⟩ F) = P := ⟨_, rfl⟩
  have hAs : PA.size = 1024 := by rw [← hA, bstr_size, pgl_length]
  rw [hA, hE] at hpp
  have HPP := Lib.hid hpp
  have hM1 := fun w => may_any 1024 P1 s1 w g1.s
  have hM2 := fun w => may_any 1024 P2 s2 w g2.s
  rw [m1] at hM1
  rw [m2] at hM2
  have HM1 := Lib.hid hM1
  have HM2 := Lib.hid hM2
  obtain ⟨BA, BB, ei⟩ := ei_of hAs m1 m2
  have HA1 := Lib.hid (show ∀ w : World, Calls Try.prog 14 #[.string PA, .slice (some ⟨w.heap.size, 0, none⟩) 2 2] (w.alloc (.cells #[.int .i64 P1, .string s1, .int .i64 P2, .string s2] 34)) fun e w' => e = .returned (.tuple #[.string BA, .int .i64 0]) ∧ Below (w.alloc (.cells #[.int .i64 P1, .string s1, .int .i64 P2, .string s2] 34)).heap.size (w.alloc (.cells #[.int .i64 P1, .string s1, .int .i64 P2, .string s2] 34)) w' from fun w => by
    have := apply_is PA (some ⟨w.heap.size, 0, none⟩) 2 2 _ _ (IsMds.lit2 w P1 s1 P2 s2 g1 g2) (by omega) ei.ea
    rwa [bstr_data] at this)
  have HA2 := Lib.hid (show ∀ w : World, Calls Try.prog 14 #[.string PA, .slice (some ⟨w.heap.size, 0, none⟩) 2 2] (w.alloc (.cells #[.int .i64 P2, .string s2, .int .i64 P1, .string s1] 34)) fun e w' => e = .returned (.tuple #[.string BB, .int .i64 0]) ∧ Below (w.alloc (.cells #[.int .i64 P2, .string s2, .int .i64 P1, .string s1] 34)).heap.size (w.alloc (.cells #[.int .i64 P2, .string s2, .int .i64 P1, .string s1] 34)) w' from fun w => by
    have := apply_is PA (some ⟨w.heap.size, 0, none⟩) 2 2 _ _ (IsMds.lit2 w P2 s2 P1 s1 g2 g1) (by omega) ei.eb
    rwa [bstr_data] at this)
  have HB0 := Lib.hid (((Below.refl W.heap.size W).alloc (Nat.le_refl _) (.cells #[.int .i64 P1, .string s1] 34)).alloc (by simp) (.cells #[.int .i64 P2, .string s2] 34))
  have HBx := Lib.hid (fun w hb => box_of W P1 P2 s1 s2 w hb)
  obtain ⟨q1, hq1⟩ : ∃ q, P1 + s1.size = q := ⟨_, rfl⟩
  obtain ⟨q2, hq2⟩ : ∃ q, P2 + s2.size = q := ⟨_, rfl⟩
  obtain ⟨z1, z2, pa, sa, sb, _, _, xa, xb, ap, st⟩ := ei
  rw [hq1] at z1 xb ap
  rw [hq2] at z2 xa ap
  have e1 : (P1 : Int) + (s1.size : Int) = (q1 : Int) := by omega
  have e2 : (P2 : Int) + (s2.size : Int) = (q2 : Int) := by omega
  have e1' : IntKind.i64.wrap ((P1 : Int) + (s1.size : Int)) = (q1 : Int) := by rw [IntWalk.i64_in _ ⟨by omega, by omega⟩]; omega
  have e2' : IntKind.i64.wrap ((P2 : Int) + (s2.size : Int)) = (q2 : Int) := by rw [IntWalk.i64_in _ ⟨by omega, by omega⟩]; omega
  have n1 : decide ((P1 : Int) < 0) = false := decide_eq_false (by omega)
  have n2 : decide ((P2 : Int) < 0) = false := decide_eq_false (by omega)
  have n3 : decide (1024 < (P1 : Int)) = false := decide_eq_false (by omega)
  have n3' : decide (1024 < P1) = false := decide_eq_false (by omega)
  have n4 : decide (1024 < (P2 : Int)) = false := decide_eq_false (by omega)
  have n4' : decide (1024 < P2) = false := decide_eq_false (by omega)
  have l1 : ((BA.size : Int) != 1024) = false := by rw [sa]; rfl
  have l1' : (BA.size != 1024) = false := by rw [sa]; rfl
  have l2 : ((BB.size : Int) != 1024) = false := by rw [sb]; rfl
  have l2' : (BB.size != 1024) = false := by rw [sb]; rfl
  have i1 : (if (1024 : Int) < (q1 : Int) then (1024 : Int) else (q1 : Int)) = (q1 : Int) := if_neg (by omega)
  have i1' : (if 1024 < q1 then (1024 : Int) else (q1 : Int)) = (q1 : Int) := if_neg (by omega)
  have i2 : (if (1024 : Int) < (q2 : Int) then (1024 : Int) else (q2 : Int)) = (q2 : Int) := if_neg (by omega)
  have i2' : (if 1024 < q2 then (1024 : Int) else (q2 : Int)) = (q2 : Int) := if_neg (by omega)
  have i3 : (if (q1 : Int) < 1024 then (q1 : Int) else 1024) = (q1 : Int) := by split <;> omega
  have i3' : (if q1 < 1024 then (q1 : Int) else 1024) = (q1 : Int) := by split <;> omega
  have i4 : (if (q2 : Int) < 1024 then (q2 : Int) else 1024) = (q2 : Int) := by split <;> omega
  have i4' : (if q2 < 1024 then (q2 : Int) else 1024) = (q2 : Int) := by split <;> omega
  have o1 : min (q1 : Int) 1024 = (q1 : Int) := by omega
  have o2 : min (q2 : Int) 1024 = (q2 : Int) := by omega
  have r1 : P1 ≤ q1 := by omega
  have r2 : P2 ≤ q2 := by omega
  have r3 : q2 ≤ BA.size := by omega
  have r4 : q1 ≤ BB.size := by omega
  have b1 : P1 ≤ 1024 := by omega
  have b2 : P2 ≤ 1024 := by omega
  have hap : (Tst q1 P2 true ∧ (BA.toList == BB.toList) = true) ∨ (Tst q1 P2 false ∧ Tst q2 P1 true ∧ (BA.toList == BB.toList) = true) ∨ (Tst q1 P2 false ∧ Tst q2 P1 false) := by
    have f1 := tst q1 P2
    have f2 := tst q2 P1
    by_cases k1 : q1 ≤ P2
    · rw [decide_eq_true k1] at f1
      exact .inl ⟨f1, by rw [ap (.inl k1)]; simp⟩
    · rw [decide_eq_false k1] at f1
      by_cases k2 : q2 ≤ P1
      · rw [decide_eq_true k2] at f2
        exact .inr (.inl ⟨f1, f2, by rw [ap (.inr k2)]; simp⟩)
      · rw [decide_eq_false k2] at f2
        exact .inr (.inr ⟨f1, f2⟩)
  have HSt := Lib.hid (show ∀ i (h : i < BA.size) (h' : i < PA.size), ¬ (P1 ≤ i ∧ i < q1) → ¬ (P2 ≤ i ∧ i < q2) → (BA[i]'h).toNat = (PA[i]'h').toNat from fun i h h' k1 k2 => st i h h' (by rw [hq1]; exact k1) (by rw [hq2]; exact k2))
  have HPa := Lib.hid pa
  have HSa := Lib.hid sa
  have sbb : BA.size ≤ 1024 := by omega
  have spp : PA.size ≤ 1024 := by omega
  have sbc : BB.size ≤ 1024 := by omega
  clear hA hE hpp hAs hM1 hM2 m1 m2 g1 g2 z1 z2 pa sa sb ap st hq1 hq2
  have X1 := Lib.hid xa
  have X2 := Lib.hid xb
  have Q0 := Lib.hid e1
  have Q1 := Lib.hid e2
  have Q2 := Lib.hid e1'
  have Q3 := Lib.hid e2'
  have Q4 := Lib.hid i1
  have Q5 := Lib.hid i1'
  have Q6 := Lib.hid i2
  have Q7 := Lib.hid i2'
  have Q8 := Lib.hid i3
  have Q9 := Lib.hid i3'
  have Q10 := Lib.hid i4
  have Q11 := Lib.hid i4'
  have Q12 := Lib.hid o1
  have Q13 := Lib.hid o2
  have Q14 := Lib.hid r1
  have Q15 := Lib.hid r2
  have Q16 := Lib.hid r3
  have Q17 := Lib.hid r4
  have Q18 := Lib.hid hap
  clear xa xb e1 e2 e1' e2' i1 i1' i2 i2' i3 i3' i4 i4' o1 o2 r1 r2 r3 r4 hap
  go_enter Try.func7, Try.ntmps7
  go_wp2_with (first
    | (go_at_call 27; (with_reducible refine (HPP.out _).mono ?_); rintro e w4 ⟨rfl, b4⟩; have D4 := Lib.hid b4; have B4 := Lib.hid (HB0.out.trans (b4.mono HB0.out.size)); obtain ⟨u0, u1, u2, u3⟩ := HBx.out _ b4; clear b4)
    | (go_at_call 16; (with_reducible refine (HM1.out _).mono ?_); rintro e w5 ⟨rfl, b5⟩; have D5 := Lib.hid (D4.out.trans (b5.mono D4.out.size)); have B5 := Lib.hid (B4.out.trans (b5.mono B4.out.size)); obtain ⟨v0, v1, v2, v3⟩ := HBx.out _ D5.out; clear b5 u0 u1 u2 u3)
    | (go_at_call 16; (with_reducible refine (HM2.out _).mono ?_); rintro e w6 ⟨rfl, b6⟩; have D6 := Lib.hid (D5.out.trans (b6.mono D5.out.size)); have B6 := Lib.hid (B5.out.trans (b6.mono B5.out.size)); obtain ⟨x0, x1, x2, x3⟩ := HBx.out _ D6.out; clear b6 v0 v1 v2 v3)
    | (go_at_call 14; (with_reducible refine (HA1.out _).mono ?_); rintro e w7 ⟨rfl, b7⟩; have D7 := Lib.hid ((D6.out.alloc D6.out.size _).trans (b7.mono (Nat.le_trans D6.out.size (by rw [World.size_alloc]; omega)))); have B7 := Lib.hid ((B6.out.alloc B6.out.size _).trans (b7.mono (Nat.le_trans B6.out.size (by rw [World.size_alloc]; omega)))); obtain ⟨y0, y1, y2, y3⟩ := HBx.out _ D7.out; clear b7 x0 x1 x2 x3)
    | (go_at_call 14; (with_reducible refine (HA2.out _).mono ?_)))
  rintro e w8 ⟨rfl, b8⟩
  have D8 := (D7.out.alloc D7.out.size _).trans (b8.mono (Nat.le_trans D7.out.size (by rw [World.size_alloc]; omega)))
  have B8 := Lib.hid ((B7.out.alloc B7.out.size _).trans (b8.mono (Nat.le_trans B7.out.size (by rw [World.size_alloc]; omega))))
  obtain ⟨t0, t1, t2, t3⟩ := HBx.out _ D8
  clear b8 D8 y0 y1 y2 y3 c1 c2 c3 c4 c5 c6
  have e1 := Q0.out
  have e2 := Q1.out
  have e1' := Q2.out
  have e2' := Q3.out
  have i1 := Q4.out
  have i1' := Q5.out
  have i2 := Q6.out
  have i2' := Q7.out
  have i3 := Q8.out
  have i3' := Q9.out
  have i4 := Q10.out
  have i4' := Q11.out
  have o1 := Q12.out
  have o2 := Q13.out
  have r1 := Q14.out
  have r2 := Q15.out
  have r3 := Q16.out
  have r4 := Q17.out
  have xa := X1.out
  have xb := X2.out
  rcases Q18.out with ⟨⟨u1, u2⟩, u3⟩ | ⟨⟨u1, u2⟩, ⟨u3, u4⟩, u5⟩ | ⟨⟨u1, u2⟩, ⟨u3, u4⟩⟩
  · go_wp2_with fail
    go_quiet (fail)
    go_wp2_with fail
    clear xa xb i1 i1' i2 i2' i3 i3' i4 i4' o1 o2 r3 r4
    go_loopw [18] (fun i wr => ∃ k : Nat, k ≤ 1024 ∧ i = .int .i64 k ∧ ∃ q, wr = w8.drewN q) (fun i _ => 1024 - (intOf i).toNat)
    case atStart => exact ⟨0, Nat.zero_le _, rfl, _, rfl⟩
    case round =>
      obtain ⟨k, hk, rfl, q, rfl⟩ := hrel
      by_cases hlt : k < 1024
      · have d1 : decide ((k : Int) < 1024) = true := decide_eq_true (by omega)
        have d1' : decide (k < 1024) = true := decide_eq_true hlt
        by_cases hA : P1 ≤ k
        · by_cases hA2 : k < q1
          · have a1 : decide ((P1 : Int) ≤ (k : Int)) = true := decide_eq_true (by omega)
            have a1' : decide (P1 ≤ k) = true := decide_eq_true (by omega)
            have a2 : decide ((k : Int) < (q1 : Int)) = true := decide_eq_true (by omega)
            have a2' : decide (k < q1) = true := decide_eq_true (by omega)
            go_wp2_with fail
            go_quiet (fail)
            go_wp2_with fail
            go_roundw
            case rel => exact ⟨k + 1, by omega, by go_num, _, rfl⟩
            case measure => simp [intOf]; omega
          · have a1 : decide ((P1 : Int) ≤ (k : Int)) = true := decide_eq_true (by omega)
            have a1' : decide (P1 ≤ k) = true := decide_eq_true (by omega)
            have a2 : decide ((k : Int) < (q1 : Int)) = false := decide_eq_false (by omega)
            have a2' : decide (k < q1) = false := decide_eq_false (by omega)
            by_cases hB : P2 ≤ k
            · by_cases hB2 : k < q2
              · have b1 : decide ((P2 : Int) ≤ (k : Int)) = true := decide_eq_true (by omega)
                have b1' : decide (P2 ≤ k) = true := decide_eq_true (by omega)
                have b2 : decide ((k : Int) < (q2 : Int)) = true := decide_eq_true (by omega)
                have b2' : decide (k < q2) = true := decide_eq_true (by omega)
                go_wp2_with fail
                go_quiet (fail)
                go_wp2_with fail
                go_roundw
                case rel => exact ⟨k + 1, by omega, by go_num, _, rfl⟩
                case measure => simp [intOf]; omega
              · have b1 : decide ((P2 : Int) ≤ (k : Int)) = true := decide_eq_true (by omega)
                have b1' : decide (P2 ≤ k) = true := decide_eq_true (by omega)
                have b2 : decide ((k : Int) < (q2 : Int)) = false := decide_eq_false (by omega)
                have b2' : decide (k < q2) = false := decide_eq_false (by omega)
                have hkb : k < BA.size := by have := HSa.out; omega
                have hka : k < PA.size := by have := HPa.out; omega
                have hv := HSt.out k hkb hka (by omega) (by omega)
                obtain ⟨xv, hxv⟩ : ∃ x, (PA[k]'hka).toNat = x := ⟨_, rfl⟩
                rw [hxv] at hv
                go_wp2_with fail
                go_quiet (fail)
                go_wp2_with fail
                go_roundw
                case rel => exact ⟨k + 1, by omega, by go_num, _, rfl⟩
                case measure => simp [intOf]; omega
            · have b1 : decide ((P2 : Int) ≤ (k : Int)) = false := decide_eq_false (by omega)
              have b1' : decide (P2 ≤ k) = false := decide_eq_false (by omega)
              have hkb : k < BA.size := by have := HSa.out; omega
              have hka : k < PA.size := by have := HPa.out; omega
              have hv := HSt.out k hkb hka (by omega) (by omega)
              obtain ⟨xv, hxv⟩ : ∃ x, (PA[k]'hka).toNat = x := ⟨_, rfl⟩
              rw [hxv] at hv
              go_wp2_with fail
              go_quiet (fail)
              go_wp2_with fail
              go_roundw
              case rel => exact ⟨k + 1, by omega, by go_num, _, rfl⟩
              case measure => simp [intOf]; omega
        · have a1 : decide ((P1 : Int) ≤ (k : Int)) = false := decide_eq_false (by omega)
          have a1' : decide (P1 ≤ k) = false := decide_eq_false (by omega)
          by_cases hB : P2 ≤ k
          · by_cases hB2 : k < q2
            · have b1 : decide ((P2 : Int) ≤ (k : Int)) = true := decide_eq_true (by omega)
              have b1' : decide (P2 ≤ k) = true := decide_eq_true (by omega)
              have b2 : decide ((k : Int) < (q2 : Int)) = true := decide_eq_true (by omega)
              have b2' : decide (k < q2) = true := decide_eq_true (by omega)
              go_wp2_with fail
              go_quiet (fail)
              go_wp2_with fail
              go_roundw
              case rel => exact ⟨k + 1, by omega, by go_num, _, rfl⟩
              case measure => simp [intOf]; omega
            · have b1 : decide ((P2 : Int) ≤ (k : Int)) = true := decide_eq_true (by omega)
              have b1' : decide (P2 ≤ k) = true := decide_eq_true (by omega)
              have b2 : decide ((k : Int) < (q2 : Int)) = false := decide_eq_false (by omega)
              have b2' : decide (k < q2) = false := decide_eq_false (by omega)
              have hkb : k < BA.size := by have := HSa.out; omega
              have hka : k < PA.size := by have := HPa.out; omega
              have hv := HSt.out k hkb hka (by omega) (by omega)
              obtain ⟨xv, hxv⟩ : ∃ x, (PA[k]'hka).toNat = x := ⟨_, rfl⟩
              rw [hxv] at hv
              go_wp2_with fail
              go_quiet (fail)
              go_wp2_with fail
              go_roundw
              case rel => exact ⟨k + 1, by omega, by go_num, _, rfl⟩
              case measure => simp [intOf]; omega
          · have b1 : decide ((P2 : Int) ≤ (k : Int)) = false := decide_eq_false (by omega)
            have b1' : decide (P2 ≤ k) = false := decide_eq_false (by omega)
            have hkb : k < BA.size := by have := HSa.out; omega
            have hka : k < PA.size := by have := HPa.out; omega
            have hv := HSt.out k hkb hka (by omega) (by omega)
            obtain ⟨xv, hxv⟩ : ∃ x, (PA[k]'hka).toNat = x := ⟨_, rfl⟩
            rw [hxv] at hv
            go_wp2_with fail
            go_quiet (fail)
            go_wp2_with fail
            go_roundw
            case rel => exact ⟨k + 1, by omega, by go_num, _, rfl⟩
            case measure => simp [intOf]; omega
      · obtain rfl : k = 1024 := by omega
        have d1 : decide (((1024 : Nat) : Int) < 1024) = false := by decide
        have BQ := Lib.hid (bel_n B8.out q)
        go_wp2_with (go_at_call 11; (with_reducible refine (HV.out _).mono ?_); rintro e w9 ⟨rfl, b9⟩; have B9 := Lib.hid (BQ.out.trans (b9.mono BQ.out.size)); clear b9)
        go_ret
        exact ⟨rfl, B9.out⟩
  · go_wp2_with fail
    go_quiet (fail)
    go_wp2_with fail
    clear xa xb i1 i1' i2 i2' i3 i3' i4 i4' o1 o2 r3 r4
    go_loopw [18] (fun i wr => ∃ k : Nat, k ≤ 1024 ∧ i = .int .i64 k ∧ ∃ q, wr = w8.drewN q) (fun i _ => 1024 - (intOf i).toNat)
    case atStart => exact ⟨0, Nat.zero_le _, rfl, _, rfl⟩
    case round =>
      obtain ⟨k, hk, rfl, q, rfl⟩ := hrel
      by_cases hlt : k < 1024
      · have d1 : decide ((k : Int) < 1024) = true := decide_eq_true (by omega)
        have d1' : decide (k < 1024) = true := decide_eq_true hlt
        by_cases hA : P1 ≤ k
        · by_cases hA2 : k < q1
          · have a1 : decide ((P1 : Int) ≤ (k : Int)) = true := decide_eq_true (by omega)
            have a1' : decide (P1 ≤ k) = true := decide_eq_true (by omega)
            have a2 : decide ((k : Int) < (q1 : Int)) = true := decide_eq_true (by omega)
            have a2' : decide (k < q1) = true := decide_eq_true (by omega)
            go_wp2_with fail
            go_quiet (fail)
            go_wp2_with fail
            go_roundw
            case rel => exact ⟨k + 1, by omega, by go_num, _, rfl⟩
            case measure => simp [intOf]; omega
          · have a1 : decide ((P1 : Int) ≤ (k : Int)) = true := decide_eq_true (by omega)
            have a1' : decide (P1 ≤ k) = true := decide_eq_true (by omega)
            have a2 : decide ((k : Int) < (q1 : Int)) = false := decide_eq_false (by omega)
            have a2' : decide (k < q1) = false := decide_eq_false (by omega)
            by_cases hB : P2 ≤ k
            · by_cases hB2 : k < q2
              · have b1 : decide ((P2 : Int) ≤ (k : Int)) = true := decide_eq_true (by omega)
                have b1' : decide (P2 ≤ k) = true := decide_eq_true (by omega)
                have b2 : decide ((k : Int) < (q2 : Int)) = true := decide_eq_true (by omega)
                have b2' : decide (k < q2) = true := decide_eq_true (by omega)
                go_wp2_with fail
                go_quiet (fail)
                go_wp2_with fail
                go_roundw
                case rel => exact ⟨k + 1, by omega, by go_num, _, rfl⟩
                case measure => simp [intOf]; omega
              · have b1 : decide ((P2 : Int) ≤ (k : Int)) = true := decide_eq_true (by omega)
                have b1' : decide (P2 ≤ k) = true := decide_eq_true (by omega)
                have b2 : decide ((k : Int) < (q2 : Int)) = false := decide_eq_false (by omega)
                have b2' : decide (k < q2) = false := decide_eq_false (by omega)
                have hkb : k < BA.size := by have := HSa.out; omega
                have hka : k < PA.size := by have := HPa.out; omega
                have hv := HSt.out k hkb hka (by omega) (by omega)
                obtain ⟨xv, hxv⟩ : ∃ x, (PA[k]'hka).toNat = x := ⟨_, rfl⟩
                rw [hxv] at hv
                go_wp2_with fail
                go_quiet (fail)
                go_wp2_with fail
                go_roundw
                case rel => exact ⟨k + 1, by omega, by go_num, _, rfl⟩
                case measure => simp [intOf]; omega
            · have b1 : decide ((P2 : Int) ≤ (k : Int)) = false := decide_eq_false (by omega)
              have b1' : decide (P2 ≤ k) = false := decide_eq_false (by omega)
              have hkb : k < BA.size := by have := HSa.out; omega
              have hka : k < PA.size := by have := HPa.out; omega
              have hv := HSt.out k hkb hka (by omega) (by omega)
              obtain ⟨xv, hxv⟩ : ∃ x, (PA[k]'hka).toNat = x := ⟨_, rfl⟩
              rw [hxv] at hv
              go_wp2_with fail
              go_quiet (fail)
              go_wp2_with fail
              go_roundw
              case rel => exact ⟨k + 1, by omega, by go_num, _, rfl⟩
              case measure => simp [intOf]; omega
        · have a1 : decide ((P1 : Int) ≤ (k : Int)) = false := decide_eq_false (by omega)
          have a1' : decide (P1 ≤ k) = false := decide_eq_false (by omega)
          by_cases hB : P2 ≤ k
          · by_cases hB2 : k < q2
            · have b1 : decide ((P2 : Int) ≤ (k : Int)) = true := decide_eq_true (by omega)
              have b1' : decide (P2 ≤ k) = true := decide_eq_true (by omega)
              have b2 : decide ((k : Int) < (q2 : Int)) = true := decide_eq_true (by omega)
              have b2' : decide (k < q2) = true := decide_eq_true (by omega)
              go_wp2_with fail
              go_quiet (fail)
              go_wp2_with fail
              go_roundw
              case rel => exact ⟨k + 1, by omega, by go_num, _, rfl⟩
              case measure => simp [intOf]; omega
            · have b1 : decide ((P2 : Int) ≤ (k : Int)) = true := decide_eq_true (by omega)
              have b1' : decide (P2 ≤ k) = true := decide_eq_true (by omega)
              have b2 : decide ((k : Int) < (q2 : Int)) = false := decide_eq_false (by omega)
              have b2' : decide (k < q2) = false := decide_eq_false (by omega)
              have hkb : k < BA.size := by have := HSa.out; omega
              have hka : k < PA.size := by have := HPa.out; omega
              have hv := HSt.out k hkb hka (by omega) (by omega)
              obtain ⟨xv, hxv⟩ : ∃ x, (PA[k]'hka).toNat = x := ⟨_, rfl⟩
              rw [hxv] at hv
              go_wp2_with fail
              go_quiet (fail)
              go_wp2_with fail
              go_roundw
              case rel => exact ⟨k + 1, by omega, by go_num, _, rfl⟩
              case measure => simp [intOf]; omega
          · have b1 : decide ((P2 : Int) ≤ (k : Int)) = false := decide_eq_false (by omega)
            have b1' : decide (P2 ≤ k) = false := decide_eq_false (by omega)
            have hkb : k < BA.size := by have := HSa.out; omega
            have hka : k < PA.size := by have := HPa.out; omega
            have hv := HSt.out k hkb hka (by omega) (by omega)
            obtain ⟨xv, hxv⟩ : ∃ x, (PA[k]'hka).toNat = x := ⟨_, rfl⟩
            rw [hxv] at hv
            go_wp2_with fail
            go_quiet (fail)
            go_wp2_with fail
            go_roundw
            case rel => exact ⟨k + 1, by omega, by go_num, _, rfl⟩
            case measure => simp [intOf]; omega
      · obtain rfl : k = 1024 := by omega
        have d1 : decide (((1024 : Nat) : Int) < 1024) = false := by decide
        have BQ := Lib.hid (bel_n B8.out q)
        go_wp2_with (go_at_call 11; (with_reducible refine (HV.out _).mono ?_); rintro e w9 ⟨rfl, b9⟩; have B9 := Lib.hid (BQ.out.trans (b9.mono BQ.out.size)); clear b9)
        go_ret
        exact ⟨rfl, B9.out⟩
  · go_wp2_with fail
    go_quiet (fail)
    go_wp2_with fail
    clear xa xb i1 i1' i2 i2' i3 i3' i4 i4' o1 o2 r3 r4
    go_loopw [18] (fun i wr => ∃ k : Nat, k ≤ 1024 ∧ i = .int .i64 k ∧ ∃ q, wr = w8.drewN q) (fun i _ => 1024 - (intOf i).toNat)
    case atStart => exact ⟨0, Nat.zero_le _, rfl, _, rfl⟩
    case round =>
      obtain ⟨k, hk, rfl, q, rfl⟩ := hrel
      by_cases hlt : k < 1024
      · have d1 : decide ((k : Int) < 1024) = true := decide_eq_true (by omega)
        have d1' : decide (k < 1024) = true := decide_eq_true hlt
        by_cases hA : P1 ≤ k
        · by_cases hA2 : k < q1
          · have a1 : decide ((P1 : Int) ≤ (k : Int)) = true := decide_eq_true (by omega)
            have a1' : decide (P1 ≤ k) = true := decide_eq_true (by omega)
            have a2 : decide ((k : Int) < (q1 : Int)) = true := decide_eq_true (by omega)
            have a2' : decide (k < q1) = true := decide_eq_true (by omega)
            go_wp2_with fail
            go_quiet (fail)
            go_wp2_with fail
            go_roundw
            case rel => exact ⟨k + 1, by omega, by go_num, _, rfl⟩
            case measure => simp [intOf]; omega
          · have a1 : decide ((P1 : Int) ≤ (k : Int)) = true := decide_eq_true (by omega)
            have a1' : decide (P1 ≤ k) = true := decide_eq_true (by omega)
            have a2 : decide ((k : Int) < (q1 : Int)) = false := decide_eq_false (by omega)
            have a2' : decide (k < q1) = false := decide_eq_false (by omega)
            by_cases hB : P2 ≤ k
            · by_cases hB2 : k < q2
              · have b1 : decide ((P2 : Int) ≤ (k : Int)) = true := decide_eq_true (by omega)
                have b1' : decide (P2 ≤ k) = true := decide_eq_true (by omega)
                have b2 : decide ((k : Int) < (q2 : Int)) = true := decide_eq_true (by omega)
                have b2' : decide (k < q2) = true := decide_eq_true (by omega)
                go_wp2_with fail
                go_quiet (fail)
                go_wp2_with fail
                go_roundw
                case rel => exact ⟨k + 1, by omega, by go_num, _, rfl⟩
                case measure => simp [intOf]; omega
              · have b1 : decide ((P2 : Int) ≤ (k : Int)) = true := decide_eq_true (by omega)
                have b1' : decide (P2 ≤ k) = true := decide_eq_true (by omega)
                have b2 : decide ((k : Int) < (q2 : Int)) = false := decide_eq_false (by omega)
                have b2' : decide (k < q2) = false := decide_eq_false (by omega)
                have hkb : k < BA.size := by have := HSa.out; omega
                have hka : k < PA.size := by have := HPa.out; omega
                have hv := HSt.out k hkb hka (by omega) (by omega)
                obtain ⟨xv, hxv⟩ : ∃ x, (PA[k]'hka).toNat = x := ⟨_, rfl⟩
                rw [hxv] at hv
                go_wp2_with fail
                go_quiet (fail)
                go_wp2_with fail
                go_roundw
                case rel => exact ⟨k + 1, by omega, by go_num, _, rfl⟩
                case measure => simp [intOf]; omega
            · have b1 : decide ((P2 : Int) ≤ (k : Int)) = false := decide_eq_false (by omega)
              have b1' : decide (P2 ≤ k) = false := decide_eq_false (by omega)
              have hkb : k < BA.size := by have := HSa.out; omega
              have hka : k < PA.size := by have := HPa.out; omega
              have hv := HSt.out k hkb hka (by omega) (by omega)
              obtain ⟨xv, hxv⟩ : ∃ x, (PA[k]'hka).toNat = x := ⟨_, rfl⟩
              rw [hxv] at hv
              go_wp2_with fail
              go_quiet (fail)
              go_wp2_with fail
              go_roundw
              case rel => exact ⟨k + 1, by omega, by go_num, _, rfl⟩
              case measure => simp [intOf]; omega
        · have a1 : decide ((P1 : Int) ≤ (k : Int)) = false := decide_eq_false (by omega)
          have a1' : decide (P1 ≤ k) = false := decide_eq_false (by omega)
          by_cases hB : P2 ≤ k
          · by_cases hB2 : k < q2
            · have b1 : decide ((P2 : Int) ≤ (k : Int)) = true := decide_eq_true (by omega)
              have b1' : decide (P2 ≤ k) = true := decide_eq_true (by omega)
              have b2 : decide ((k : Int) < (q2 : Int)) = true := decide_eq_true (by omega)
              have b2' : decide (k < q2) = true := decide_eq_true (by omega)
              go_wp2_with fail
              go_quiet (fail)
              go_wp2_with fail
              go_roundw
              case rel => exact ⟨k + 1, by omega, by go_num, _, rfl⟩
              case measure => simp [intOf]; omega
            · have b1 : decide ((P2 : Int) ≤ (k : Int)) = true := decide_eq_true (by omega)
              have b1' : decide (P2 ≤ k) = true := decide_eq_true (by omega)
              have b2 : decide ((k : Int) < (q2 : Int)) = false := decide_eq_false (by omega)
              have b2' : decide (k < q2) = false := decide_eq_false (by omega)
              have hkb : k < BA.size := by have := HSa.out; omega
              have hka : k < PA.size := by have := HPa.out; omega
              have hv := HSt.out k hkb hka (by omega) (by omega)
              obtain ⟨xv, hxv⟩ : ∃ x, (PA[k]'hka).toNat = x := ⟨_, rfl⟩
              rw [hxv] at hv
              go_wp2_with fail
              go_quiet (fail)
              go_wp2_with fail
              go_roundw
              case rel => exact ⟨k + 1, by omega, by go_num, _, rfl⟩
              case measure => simp [intOf]; omega
          · have b1 : decide ((P2 : Int) ≤ (k : Int)) = false := decide_eq_false (by omega)
            have b1' : decide (P2 ≤ k) = false := decide_eq_false (by omega)
            have hkb : k < BA.size := by have := HSa.out; omega
            have hka : k < PA.size := by have := HPa.out; omega
            have hv := HSt.out k hkb hka (by omega) (by omega)
            obtain ⟨xv, hxv⟩ : ∃ x, (PA[k]'hka).toNat = x := ⟨_, rfl⟩
            rw [hxv] at hv
            go_wp2_with fail
            go_quiet (fail)
            go_wp2_with fail
            go_roundw
            case rel => exact ⟨k + 1, by omega, by go_num, _, rfl⟩
            case measure => simp [intOf]; omega
      · obtain rfl : k = 1024 := by omega
        have d1 : decide (((1024 : Nat) : Int) < 1024) = false := by decide
        have BQ := Lib.hid (bel_n B8.out q)
        go_wp2_with (go_at_call 11; (with_reducible refine (HV.out _).mono ?_); rintro e w9 ⟨rfl, b9⟩; have B9 := Lib.hid (BQ.out.trans (b9.mono BQ.out.size)); clear b9)
        go_ret
        exact ⟨rfl, B9.out⟩
end Go.Proofs.Ytbbfbijgclpjeaa
