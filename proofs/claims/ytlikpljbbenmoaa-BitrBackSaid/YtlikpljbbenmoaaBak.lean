/- BitrBack returns true for any pieces that their kinds hold. Conditions: none. -/
import Derived.Test.YtlikpljbbenmoaaHvp
import Derived.Test.YtlikpljbbenmoaaMathP
import Derived.Deep.RegionWith
namespace Go.Proofs.Ytlikpljbbenmoaa
open Go.RowKit M
set_option linter.unusedVariables false

/-- What pieces become. -/
def pcx (x : Nat × Nat) (c : Pc) : Nat × Nat := pcw x c.t c.n.toNat (c.z.toNat % 57) c.s
def pcf (l : List Pc) : Nat × Nat := l.foldl pcx (0, 0)
theorem pcf_succ (l : List Pc) (k : Nat) (h : k < l.length) : pcf (l.take (k + 1)) = pcx (pcf (l.take k)) l[k] := by
  unfold pcf
  rw [List.take_succ_eq_append_getElem h, List.foldl_append]
  rfl
theorem fold_lt : ∀ (l : List Pc) (x : Nat × Nat), x.1 < 2 ^ x.2 → (l.foldl pcx x).1 < 2 ^ (l.foldl pcx x).2
  | [], x, h => h
  | c :: r, x, h => fold_lt r (pcx x c) (pcw_lt x h _ _ _ _)
theorem pcf_lt (l : List Pc) : (pcf l).1 < 2 ^ (pcf l).2 := fold_lt l (0, 0) (by decide)
theorem fold_begins : ∀ (l : List Pc) (x : Nat × Nat), x.1 < 2 ^ x.2 → Begins (l.foldl pcx x).1 (l.foldl pcx x).2 x.1 x.2
  | [], x, h => ⟨Nat.mod_eq_of_lt h, Nat.le_refl _⟩
  | c :: r, x, h => (fold_begins r (pcx x c) (pcw_lt x h _ _ _ _)).step h
theorem pcf_begins (l : List Pc) (k : Nat) : Begins (pcf l).1 (pcf l).2 (pcf (l.take k)).1 (pcf (l.take k)).2 := by
  have h : pcf l = (l.drop k).foldl pcx (pcf (l.take k)) := by
    unfold pcf
    rw [← List.foldl_append, List.take_append_drop]
  rw [h]
  exact fold_begins _ _ (pcf_lt _)
theorem pcf_len (l : List Pc) : ∀ k, k ≤ l.length → (pcf (l.take k)).2 ≤ 64 * k + 8 * szs (l.take k)
  | 0, _ => by simp [pcf]
  | k + 1, h => by
    have h1 := pcf_len l k (by omega)
    rw [pcf_succ l k (by omega), szs_take_succ l k (by omega)]
    have h2 := pcw_len (pcf (l.take k)) l[k].t l[k].n.toNat (l[k].z.toNat % 57) l[k].s (by omega)
    unfold pcx
    omega
theorem not_heavy {cs : List Pc} (h : heavyB cs = false) : szs cs ≤ 4096 ∧ cs.length ≤ 300 := by
  have := of_decide_eq_false h
  omega
theorem szs_in {c : Pc} : ∀ {l : List Pc}, c ∈ l → c.s.size ≤ szs l
  | x :: r, h => by
    have e : szs (x :: r) = x.s.size + szs r := by simp [szs]
    rcases List.mem_cons.1 h with rfl | g
    · omega
    · have := szs_in g; omega
theorem Did.next {w w' : World} {B p V0 L0 : Nat} {S : Nat → Prop} {most : Int} {r : Int × Nat × Nat} {e : Ending} (h : Did w B p S most r e w') (hw : Wt w B p S most V0 L0) (hB : B ≤ w.heap.size) (a : Int) (V L : Nat) (hr : r = (a, V, L)) :
    e = .returned (.int .i64 a) ∧ (∃ S', Wt w' B p S' most V L) ∧ Below B w w' := by
  subst hr
  obtain ⟨he, S', h1, h2, _⟩ := h
  exact ⟨he, ⟨S', h1⟩, h2.below hB (fun j hj => (hw.lt hj).1)⟩

set_option maxHeartbeats 4000000 in
set_option maxRecDepth 100000 in
theorem back_go (ao : Option Addr) (len cap : Nat) (cs : List Pc) (w : World) (hl : IsPcs w ao len cs) (hh : heavyB cs = false) :
    Calls Try.prog 4 #[.slice ao len cap] w fun e w' => e = .returned (.bool true) ∧ Below w.heap.size w w' := by
  have HL := Lib.hid hl
  have HH := Lib.hid hh
  have hlm : len ≤ 300 := by have := (not_heavy hh).2; have := hl.leng; omega
  clear hl hh
  go_enter Try.func4, Try.ntmps4
  go_wp2_with fail
  refine (heavy_any HL.out false HH.out).mono ?_; rintro e w' ⟨rfl, rfl⟩
  go_wp2_with fail
  refine (new_any 16384 _ (Nat.le_refl _)).mono ?_; rintro e w1 ⟨rfl, k1, r1, l1⟩
  have R1 := Lib.hid r1
  have B1 := Lib.hid (k1.below (Nat.le_refl w.heap.size) (fun _ g => g.elim))
  clear r1 k1
  go_wp2_with fail
  go_loopw [4] (fun i wr => ∃ k : Nat, k ≤ len ∧ i = .int .i64 k ∧ (∃ S, Wt wr w.heap.size w.heap.size S 16384 (pcf (cs.take k)).1 (pcf (cs.take k)).2) ∧ Below w.heap.size w wr) (fun i _ => len - (intOf i).toNat)
  case atStart => exact ⟨0, Nat.zero_le _, rfl, ⟨_, R1.out⟩, B1.out⟩
  case round =>
    obtain ⟨k, hk, rfl, ⟨S, hr⟩, hb⟩ := hrel
    have HR := Lib.hid hr
    have HB := Lib.hid hb
    have HC := Lib.hid (HL.out.below hb)
    clear hr hb R1 B1
    by_cases hlt : k < len
    · have hlt' : decide (k < len) = true := decide_eq_true hlt
      have hkl : k < cs.length := by rw [HC.out.leng]; exact hlt
      have hok := HC.out.good cs[k] (List.getElem_mem hkl)
      have hsz := Nat.le_trans (szs_in (List.getElem_mem hkl)) (not_heavy HH.out).1
      have hlen := pcf_len cs k (by omega)
      have hszk : szs (cs.take k) ≤ 4096 := Nat.le_trans (szs_take_le cs k) (not_heavy HH.out).1
      have HN := Lib.hid (pcf_succ cs k hkl)
      rcases HC.out.cells with h0 | ⟨b', o, rfl, hbw, hcell⟩
      · omega
      · have hcs := hcell k cs[k] (List.getElem?_eq_getElem hkl)
        generalize cs[k] = c at *
        obtain ⟨V, hV⟩ : ∃ V, (pcf (cs.take k)).1 = V := ⟨_, rfl⟩
        obtain ⟨L, hL⟩ : ∃ L, (pcf (cs.take k)).2 = L := ⟨_, rfl⟩
        have hVL : pcf (cs.take k) = (V, L) := by rw [← hV, ← hL]
        rw [hV, hL] at HR
        rw [hVL] at HN
        rw [hL] at hlen
        have hL9 : L ≤ 60000 := by omega
        have q0 := hcs.n
        have q1 := hcs.z
        have q2 := hcs.t
        have q3 := hcs.s
        have z0 := hok.z.1
        have z1 := hok.z.2
        have n0 := hok.n.1
        have HNB := Lib.hid hok.n.2
        have k1 : (k : Int) < (len : Int) := by omega
        have k2 : 0 ≤ (k : Int) := by omega
        obtain ⟨N, hN⟩ := Int.eq_ofNat_of_zero_le n0
        obtain ⟨Z, hZ⟩ := Int.eq_ofNat_of_zero_le z0
        cases c with
        | mk cn cz ct csx =>
        simp only at *
        subst hN hZ
        obtain ⟨K, hK⟩ : ∃ K, Z % 57 = K := ⟨_, rfl⟩
        have hZK : (Z : Int) % 57 = (K : Int) := by omega
        have hK56 : K ≤ 56 := by omega
        have hand := and_mask N K (by have := HNB.out; simpa using this) (by omega)
        obtain ⟨X, hX⟩ : ∃ X, N % 2 ^ K = X := ⟨_, rfl⟩
        rw [hX] at hand
        have HXL := Lib.hid (show X < 2 ^ K by rw [← hX]; exact Nat.mod_lt _ (Nat.two_pow_pos K))
        unfold pcx at HN
        simp only [Int.toNat_natCast] at HN
        rw [hK] at HN
        have HX := Lib.hid hX
        have HW := Lib.hid (HR.out.keep ((Kept.refl NoB wr).drew) (fun _ _ g => g))
        have HBW := Lib.hid HB.out.drew
        clear hV hL hVL hlen hszk hcs hcell hok n0 hK hX
        cases ct with
        | true =>
          clear hand
          go_wp2_with fail
          refine (bytes_any HR.out csx (by omega) (by omega)).mono ?_; intro e w3 g
          obtain ⟨rfl, ⟨S3, r3⟩, b3⟩ := g.next HR.out HB.out.size 0 _ _ (bytesR_yes (by omega))
          have R3 := Lib.hid r3
          have B3 := Lib.hid (HB.out.trans b3)
          clear g r3 b3
          go_wp2_with fail
          go_roundw
          case rel => exact ⟨k + 1, by omega, by go_num, ⟨S3, by rw [HN.out]; exact R3.out⟩, B3.out⟩
          case measure => simp [intOf]; omega
        | false =>
          go_wp2_with fail
          go_region_with (first
            | (go_at_call 18; refine (mask_nat K _ (by omega)).mono ?_; rintro e w' ⟨rfl, rfl⟩)
            | (go_at_call 17; refine (bits_any HW.out (X : Int) (K : Int) (by omega) (by omega)).mono ?_; intro e w3 g; obtain ⟨rfl, ⟨S3, r3⟩, b3⟩ := g.next HW.out HBW.out.size 0 (V + X * 2 ^ L) (L + K) (bitsR_yes hK56 (by have := HXL.out; simpa using this) (by omega)); have R3 := Lib.hid r3; have B3 := Lib.hid (HBW.out.trans b3); clear g r3 b3))
          all_goals
            go_wp2_with fail
            go_roundw
            case rel => exact ⟨k + 1, by omega, by go_num, ⟨S3, by rw [HN.out, ← HX.out] at *; exact R3.out⟩, B3.out⟩
            case measure => simp [intOf]; omega
    · obtain rfl : k = len := by omega
      have hlt' : decide (k < k) = false := decide_eq_false (by omega)
      have HT0 := Lib.hid (show cs.take k = cs from List.take_of_length_le (by rw [HC.out.leng]; exact Nat.le_refl _))
      have hlen := pcf_len cs k (by rw [HC.out.leng]; exact Nat.le_refl _)
      have hszk : szs (cs.take k) ≤ 4096 := Nat.le_trans (szs_take_le cs k) (not_heavy HH.out).1
      rw [HT0.out] at HR hlen hszk
      obtain ⟨V, hV⟩ : ∃ V, (pcf cs).1 = V := ⟨_, rfl⟩
      obtain ⟨L, hL⟩ : ∃ L, (pcf cs).2 = L := ⟨_, rfl⟩
      have hlt2 := pcf_lt cs
      have HBE := Lib.hid (pcf_begins cs)
      rw [hV, hL] at HR hlt2 HBE
      rw [hL] at hlen
      have HVL := Lib.hid hlt2
      have HLL := Lib.hid (show (pcf (cs.take k)).2 = L by rw [HT0.out]; exact hL)
      have hL9 : L ≤ 60000 := by omega
      clear hV hL hlt2 hlen hszk hlt hk
      go_wp2_with fail
      refine (text_any HR.out (by omega)).mono ?_; rintro e w3 ⟨rfl, k3⟩
      have B3 := Lib.hid (HB.out.trans (k3.below HB.out.size (fun _ g => g.elim)))
      obtain ⟨T, hT⟩ : ∃ T, textR V L = T := ⟨_, rfl⟩
      have hTs : T.size = (L + 7) / 8 := by rw [← hT]; exact text_size V L
      have hT8 : T.size ≤ 10000 := by omega
      rw [hT]
      have HT := Lib.hid hT
      have HTS := Lib.hid hTs
      clear k3 hT hTs
      go_wp2_with fail
      refine (rnew_any T _ B3.out.size).mono ?_; rintro e w4 ⟨rfl, k4, r4, l4⟩
      have R4 := Lib.hid r4
      have B4 := Lib.hid (B3.out.trans (k4.below B3.out.size (fun _ g => g.elim)))
      generalize w3.heap.size = q at *
      clear r4 k4 l4 hlt' HR HB B3
      go_wp2_with fail
      go_loopw [8] (fun i wi => ∃ j : Nat, j ≤ k ∧ i = .int .i64 j ∧ Rd wi w.heap.size q T (pcf (cs.take j)).2 ∧ Below w.heap.size w wi) (fun i _ => k - (intOf i).toNat)
      case atStart => exact ⟨0, Nat.zero_le _, rfl, R4.out, B4.out⟩
      case round =>
        obtain ⟨j, hj, rfl, hr, hb⟩ := hrel
        have HR := Lib.hid hr
        have HB := Lib.hid hb
        have HCC := Lib.hid (HL.out.below hb)
        clear hr hb R4 B4 HC
        by_cases hlt : j < k
        · have hlt' : decide (j < k) = true := decide_eq_true hlt
          have hkl : j < cs.length := by rw [HCC.out.leng]; exact hlt
          have hok := HCC.out.good cs[j] (List.getElem_mem hkl)
          have hsz := Nat.le_trans (szs_in (List.getElem_mem hkl)) (not_heavy HH.out).1
          have HN := Lib.hid (pcf_succ cs j hkl)
          have hbe := HBE.out (j + 1)
          have hv1 := pcf_lt (cs.take j)
          rw [HN.out] at hbe
          rcases HCC.out.cells with h0 | ⟨b', o, rfl, hbw, hcell⟩
          · omega
          · have hb0 : b' < w.heap.size := by
              rcases HL.out.cells with h0 | ⟨b2, o2, e2, hb2, _⟩
              · omega
              · simp only [Option.some.injEq, Addr.mk.injEq, and_true] at e2
                rw [e2.1]; exact hb2
            have hcs := hcell j cs[j] (List.getElem?_eq_getElem hkl)
            generalize cs[j] = c at *
            obtain ⟨V1, hV⟩ : ∃ V, (pcf (cs.take j)).1 = V := ⟨_, rfl⟩
            obtain ⟨L1, hL⟩ : ∃ L, (pcf (cs.take j)).2 = L := ⟨_, rfl⟩
            have hVL : pcf (cs.take j) = (V1, L1) := by rw [← hV, ← hL]
            rw [hL] at HR
            rw [hVL] at HN hbe
            rw [hV, hL] at hv1
            have q0 := hcs.n
            have q1 := hcs.z
            have q2 := hcs.t
            have q3 := hcs.s
            have z0 := hok.z.1
            have z1 := hok.z.2
            have n0 := hok.n.1
            have HNB := Lib.hid hok.n.2
            have k1 : (j : Int) < (k : Int) := by omega
            have k2 : 0 ≤ (j : Int) := by omega
            obtain ⟨N, hN⟩ := Int.eq_ofNat_of_zero_le n0
            obtain ⟨Z, hZ⟩ := Int.eq_ofNat_of_zero_le z0
            cases c with
            | mk cn cz ct csx =>
            simp only at *
            subst hN hZ
            obtain ⟨K, hK⟩ : ∃ K, Z % 57 = K := ⟨_, rfl⟩
            have hZK : (Z : Int) % 57 = (K : Int) := by omega
            have hK56 : K ≤ 56 := by omega
            have hand := and_mask N K (by have := HNB.out; simpa using this) (by omega)
            obtain ⟨X, hX⟩ : ∃ X, N % 2 ^ K = X := ⟨_, rfl⟩
            rw [hX] at hand
            unfold pcx at HN hbe
            simp only [Int.toNat_natCast] at HN hbe
            rw [hK] at HN hbe
            have HX := Lib.hid hX
            have HE := Lib.hid hbe
            have HV1 := Lib.hid hv1
            clear hV hL hVL hcs hcell hok n0 hK hX hbe hv1
            cases ct with
            | true =>
              clear hand
              have hroom : (L1 + 7) / 8 + csx.size ≤ T.size := by
                have h1 : alignL L1 + 8 * csx.size ≤ L := HE.out.2
                have h2 := HTS.out
                unfold alignL at h1
                omega
              have HS := Lib.hid (show T.extract ((L1 + 7) / 8) ((L1 + 7) / 8 + csx.size) = csx by
                rw [← HT.out]
                exact extract_text V L _ csx (by rw [← HTS.out]; exact hroom) (HE.out.text HV1.out))
              have HP := Lib.hid (show 8 * ((L1 + 7) / 8 + csx.size) = (pcf (cs.take (j + 1))).2 by
                rw [HN.out]; show _ = alignL L1 + 8 * csx.size; unfold alignL; omega)
              go_wp2_with fail
              refine (rbytes_yes HR.out (by omega) csx.size hroom).mono ?_; intro e w5 g
              rw [HS.out, HP.out] at g
              obtain ⟨rfl, r5, b5⟩ := g.next HR.out HB.out.size
              have R5 := Lib.hid r5
              have B5 := Lib.hid (HB.out.trans b5)
              have q3' := (b5.cell (p := ⟨b', o + j * 4 + 3, none⟩) hb0).trans q3
              clear g r5 b5 hroom
              go_wp2_with fail
              go_roundw
              case rel => exact ⟨j + 1, by omega, by go_num, R5.out, B5.out⟩
              case measure => simp [intOf]; omega
            | false =>
              have hroom : L1 + K ≤ 8 * T.size := by
                have h1 : L1 + K ≤ L := HE.out.2
                have h2 := HTS.out
                omega
              have HS := Lib.hid (show nb T L1 K = X by
                rw [← HT.out, nb_text V L _ _ HVL.out, ← HX.out]
                exact HE.out.num HV1.out)
              have HM := Lib.hid (show min K (8 * T.size - L1) = K by omega)
              have HP := Lib.hid (show L1 + K = (pcf (cs.take (j + 1))).2 by rw [HN.out]; rfl)
              have HRM := Lib.hid hroom
              clear hroom
              go_wp2_with fail
              refine (rpeek_yes HR.out (by omega) K hK56).mono ?_; intro e w5 g
              rw [HM.out, HS.out] at g
              obtain ⟨rfl, r5, b5⟩ := g.next HR.out HB.out.size
              have R5 := Lib.hid r5
              have B5 := Lib.hid (HB.out.trans b5)
              have HB5 := Lib.hid b5
              clear g r5 b5
              go_wp2_with fail
              refine (rbits_yes R5.out (by omega) K hK56 HRM.out).mono ?_; intro e w6 g
              rw [HS.out, HP.out] at g
              obtain ⟨rfl, r6, b6⟩ := g.next R5.out B5.out.size
              have R6 := Lib.hid r6
              have B6 := Lib.hid (B5.out.trans b6)
              have p0 := ((HB5.out.trans b6).cell (p := ⟨b', o + j * 4, none⟩) hb0).trans q0
              clear g r6 b6 q0 q1 q2 q3
              go_wp2_with fail
              go_quiet ((go_at_call 18; exact Calls.quiet_of_same ((mask_nat K _ (by omega)).mono (by rintro e w' ⟨rfl, rfl⟩; exact ⟨rfl, rfl⟩))))
              go_wp2_with fail
              go_roundw
              case rel => exact ⟨j + 1, by omega, by go_num, R6.out.drewN _, B6.out.trans ((Kept.refl NoB w6).drewN _ |>.below B6.out.size (fun _ g => g.elim))⟩
              case measure => simp [intOf]; omega
        · obtain rfl : j = k := by omega
          have hlt' : decide (j < j) = false := decide_eq_false (by omega)
          rw [HLL.out] at HR
          obtain ⟨R, hR⟩ : ∃ R, 8 * T.size - L = R := ⟨_, rfl⟩
          have hR7 : R < 8 := by have := HTS.out; omega
          have hRm : (R : Int) % 8 = (R : Int) := by omega
          have hRm' : IntKind.i64.wrap ((R : Int) % 8) = (R : Int) := by rw [IntWalk.i64_in _ ⟨by omega, by omega⟩]; omega
          have HRR := Lib.hid hR
          have HZ := Lib.hid (show nb T L R = 0 by rw [← HT.out]; exact rest_zero V L R HVL.out)
          have HE := Lib.hid (show L + R ≤ 8 * T.size by have := HTS.out; omega)
          clear hR hlt
          go_wp2_with fail
          refine (left_any HR.out (by omega)).mono ?_; rintro e w' ⟨rfl, n5, rfl⟩
          rw [HRR.out]
          have R5 := Lib.hid (HR.out.drewN n5)
          have B5 := Lib.hid (HB.out.trans ((Kept.refl NoB _).drewN n5 |>.below HB.out.size (fun _ g => g.elim)))
          go_wp2_with fail
          refine (rbits_yes R5.out (by omega) R (by omega) HE.out).mono ?_; intro e w6 g
          rw [HZ.out] at g
          obtain ⟨rfl, r6, b6⟩ := g.next R5.out B5.out.size
          have B6 := Lib.hid (B5.out.trans b6)
          clear g r6 b6
          go_wp2_with fail
          refine (alive_any _).mono ?_; rintro e w9 ⟨rfl, b9⟩
          have B9 := Lib.hid (B6.out.trans (b9.mono B6.out.size))
          clear b9
          go_wp2_with fail
          go_ret
          exact ⟨rfl, B9.out⟩

theorem BitrBack_walk (a0 : Option Addr) (len0 cap0 : Nat) (z0 : List Pc) (w : World) (w0 : IsPcs w a0 len0 z0) :
    Calls Try.prog 4 #[.slice a0 len0 cap0] w fun e w' => e = .returned (.bool true) ∧ Below w.heap.size w w' := by
  cases hh : heavyB z0 with
  | false => exact back_go a0 len0 cap0 z0 w w0 hh
  | true =>
    have HH := Lib.hid hh
    have H0 := Lib.hid w0
    clear hh w0
    go_enter Try.func4, Try.ntmps4
    go_wp2_with fail
    refine (heavy_any H0.out true HH.out).mono ?_; rintro e w' ⟨rfl, rfl⟩
    go_wp2_with fail
    refine (alive_any _).mono ?_; rintro e w' ⟨rfl, hb⟩
    go_wp2_with fail
    go_ret
    exact ⟨rfl, hb⟩
end Go.Proofs.Ytlikpljbbenmoaa
