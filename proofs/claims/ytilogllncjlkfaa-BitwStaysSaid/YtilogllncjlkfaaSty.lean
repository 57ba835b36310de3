/- The walk of BitwStays: it returns true for any arguments that their kinds hold. Conditions: none. -/
import Derived.Test.YtilogllncjlkfaaRom
import Derived.Test.YtilogllncjlkfaaMathS
namespace Go.Proofs.Ytilogllncjlkfaa
open Go.RowKit M
set_option linter.unusedVariables false

set_option maxHeartbeats 4000000 in
set_option maxRecDepth 100000 in
theorem stays_go (m : Nat) (ao : Option Addr) (len cap : Nat) (cs : List Cl) (w : World) (hm : m ≤ 255) (hl : IsCalls w ao len cs) (hh : heavyB cs = false) :
    Calls Try.prog 5 #[.int .u8 m, .slice ao len cap] w fun e w' => e = .returned (.bool true) ∧ Below w.heap.size w w' := by
  have HL := Lib.hid hl
  have HH := Lib.hid hh
  have hlm : len ≤ 9223372036854775807 := hl.most
  clear hl hh
  go_enter Try.func5, Try.ntmps5
  go_wp2_with fail
  refine (heavy_any HL.out false HH.out).mono ?_; rintro e w' ⟨rfl, rfl⟩
  go_wp2_with fail
  refine (new_any (m : Int) _ (Nat.le_refl _)).mono ?_; rintro e w1 ⟨rfl, k1, r1, l1⟩
  rw [show max 0 (m : Int) = (m : Int) by omega] at r1
  have b1 := k1.below (Nat.le_refl w.heap.size) (fun _ g => g.elim)
  generalize hpa : w.heap.size = pa at *
  have D1 := Lib.hid r1
  have B1 := Lib.hid b1
  have HPA := Lib.hid hpa
  clear hpa k1 r1 l1 b1
  have t00 : textR 0 0 = ⟨#[]⟩ := by decide +kernel
  have T00 := Lib.hid t00
  clear t00
  go_wp2_with fail
  go_loopw [6, 7, 8] (fun was n i wr => ∃ (k V L : Nat) (S : Nat → Prop), k ≤ len ∧ i = .int .i64 k ∧ was = .string (textR V L) ∧ n = .int .i64 L ∧ (L + 7) / 8 ≤ m ∧ Wt wr pa pa S m V L ∧ Below pa w wr) (fun _ _ i _ => len - (intOf i).toNat)
  case atStart => exact ⟨0, 0, 0, _, Nat.zero_le _, rfl, by rw [T00.out], rfl, Nat.zero_le _, D1.out, B1.out⟩
  case round =>
    obtain ⟨k, V, L, S, hk, rfl, rfl, rfl, hLm, hd, hb⟩ := hrel
    have DD := Lib.hid hd
    have HB := Lib.hid hb
    have HC := Lib.hid (HL.out.below (by rw [HPA.out]; exact hb))
    clear hd hb D1
    by_cases hlt : k < len
    · have hlt' : decide (k < len) = true := decide_eq_true hlt
      have hkl : k < cs.length := by rw [HC.out.leng]; exact hlt
      have hc := HC.out.good cs[k] (List.getElem_mem hkl)
      have hmem := List.getElem_mem hkl
      rcases HC.out.cells with h0 | ⟨b, o, rfl, hbw, hcell⟩
      · omega
      · have hcs := hcell k cs[k] (List.getElem?_eq_getElem hkl)
        generalize cs[k] = c at *
        have q0 := hcs.d
        have q1 := hcs.n
        have q2 := hcs.z
        have q3 := hcs.s
        have c0 := hc.d
        have c1 := hc.n
        have c2 := hc.z
        have c3 := hc.s
        clear hcs hc hcell
        have hs4 : c.s.size ≤ 4096 := Nat.le_trans (szs_mem hmem) (light HH.out).1
        have hL9 : L ≤ 2040 := by omega
        obtain ⟨E, V1, L1, hE⟩ : ∃ E V1 L1, callR m V L c.d c.n c.z c.s = (E, V1, L1) := ⟨_, _, _, rfl⟩
        have hst := stays_step m V L c.d c.n c.z c.s hLm E V1 L1 hE
        have hL19 : L1 ≤ 2040 := by omega
        obtain ⟨T0, hT0⟩ : ∃ T, textR V L = T := ⟨_, rfl⟩
        obtain ⟨T1, hT1⟩ : ∃ T, textR V1 L1 = T := ⟨_, rfl⟩
        have HT0 := Lib.hid hT0
        have HT1 := Lib.hid hT1
        have HST := Lib.hid hst
        have k2 : Kept NoB wr (wr.alloc (.cells #[.int .u8 c.d, .int .u64 c.n, .int .i64 c.z, .string c.s] 32)) := (Kept.refl NoB wr).alloc _
        have p0 : (wr.alloc (.cells #[.int .u8 c.d, .int .u64 c.n, .int .i64 c.z, .string c.s] 32)).cell? ⟨wr.heap.size, 0, none⟩ = some (.int .u8 c.d) := by simp
        have p1 : (wr.alloc (.cells #[.int .u8 c.d, .int .u64 c.n, .int .i64 c.z, .string c.s] 32)).cell? ⟨wr.heap.size, 1, none⟩ = some (.int .u64 c.n) := by simp
        have p2 : (wr.alloc (.cells #[.int .u8 c.d, .int .u64 c.n, .int .i64 c.z, .string c.s] 32)).cell? ⟨wr.heap.size, 2, none⟩ = some (.int .i64 c.z) := by simp
        have p3 : (wr.alloc (.cells #[.int .u8 c.d, .int .u64 c.n, .int .i64 c.z, .string c.s] 32)).cell? ⟨wr.heap.size, 3, none⟩ = some (.string c.s) := by simp
        have D2 := Lib.hid (DD.out.next (by have := HB.out.size; have := DD.out.base; omega) k2).1
        have B2 := Lib.hid (HB.out.trans (DD.out.next (by have := DD.out.base; omega) k2).2)
        have HE := Lib.hid hE
        clear hE hmem hst k2
        rw [HT0.out]
        rcases (show c.d % 8 = 5 ∨ c.d % 8 = 6 ∨ c.d % 8 = 7 ∨ (c.d % 8 ≠ 5 ∧ c.d % 8 ≠ 6 ∧ c.d % 8 ≠ 7) by omega) with h5 | h6 | h7 | ⟨g5, g6, g7⟩
        · have s5 : (c.d % 8 == 5) = true := by simp [h5]
          have ha := Lib.hid ((callR_5 h5).symm.trans HE.out)
          clear h5
          go_wp2_with fail
          refine (align_any D2.out (by omega)).mono ?_; intro e w3 d3
          obtain ⟨rfl, ⟨S3, d3⟩, b3⟩ := d3.next D2.out D2.out.base E V1 L1 ha.out
          have D3 := Lib.hid d3
          have B3 := Lib.hid (B2.out.trans b3)
          clear d3 b3 p0 p1 p2 p3 q0 q1 q2 q3
          go_wp2_with fail
          refine (text_any D3.out (by omega)).mono ?_; rintro e w4 ⟨rfl, k4⟩
          rw [HT1.out]
          have D4 := Lib.hid (D3.out.next D3.out.base k4).1
          have B4 := Lib.hid (B3.out.trans (D3.out.next D3.out.base k4).2)
          clear k4
          go_wp2_with fail
          refine (wlen_any D4.out (by omega)).mono ?_; rintro e w5 ⟨rfl, k5⟩
          have D5 := Lib.hid (D4.out.next D4.out.base k5).1
          have B5 := Lib.hid (B4.out.trans (D4.out.next D4.out.base k5).2)
          clear k5
          obtain ⟨z1, hz1⟩ : ∃ z, T1.size = z := ⟨_, rfl⟩
          obtain ⟨z0, hz0⟩ : ∃ z, T0.size = z := ⟨_, rfl⟩
          obtain ⟨P1, hP1⟩ : ∃ P, L1 + 7 = P := ⟨_, rfl⟩
          obtain ⟨q, hq⟩ : ∃ q, L / 8 = q := ⟨_, rfl⟩
          have e1 : z1 = (L1 + 7) / 8 := by rw [← hz1, ← HT1.out]; exact text_size V1 L1
          have e0 : z0 = (L + 7) / 8 := by rw [← hz0, ← HT0.out]; exact text_size V L
          have hm1 := HST.out.1
          have hLL := HST.out.2.1
          have hwP : IntKind.i64.wrap ((L1 : Int) + 7) = (P1 : Int) := by rw [IntWalk.i64_in _ ⟨by omega, by omega⟩]; omega
          have hwz : IntKind.i64.wrap (z1 : Int) = (z1 : Int) := by rw [IntWalk.i64_in _ ⟨by omega, by omega⟩]
          have hwm : IntKind.i64.wrap (m : Int) = (m : Int) := by rw [IntWalk.i64_in _ ⟨by omega, by omega⟩]
          have hwq : IntKind.i64.wrap (q : Int) = (q : Int) := by rw [IntWalk.i64_in _ ⟨by omega, by omega⟩]
          have hPq : (P1 : Int) / 8 = (z1 : Int) := by omega
          have hLq : (L : Int) / 8 = (q : Int) := by omega
          have g1 : decide (m < z1) = false := decide_eq_false (by omega)
          have g2 : decide (L1 < L) = false := decide_eq_false (by omega)
          have g3 : decide (z1 < z0) = false := decide_eq_false (by omega)
          have q1 : q ≤ z1 := by omega
          have q0 : q ≤ z0 := by omega
          have hex : T1.extract 0 q = T0.extract 0 q := by
            obtain ⟨x, hx⟩ := HST.out.2.2.1
            rw [← take_extract, ← take_extract, ← HT1.out, ← HT0.out, text_take (by omega), text_take (by omega), hx, le_same (by omega)]
          obtain ⟨r, hr⟩ : ∃ r, L % 8 = r := ⟨_, rfl⟩
          have hLr : (L : Int) % 8 = (r : Int) := by omega
          have hwr : IntKind.i64.wrap (r : Int) = (r : Int) := by rw [IntWalk.i64_in _ ⟨by omega, by omega⟩]
          have hbit : ∀ (h1 : q < T1.size) (h0 : q < T0.size), bits .and .u64 (T1[q].toNat : Int) (mk r : Int) = (T0[q].toNat : Int) := by
            subst hT1 hT0
            intro h1 h0
            obtain ⟨x, hx⟩ := HST.out.2.2.1
            have hV := DD.out.val
            rw [text_at h1, text_at h0, and_mask _ r (by unfold big; omega) (by omega), hx, ← hr, ← hq, rest_same hV]
          have HBT := Lib.hid hbit
          have hr8 : r < 8 := by omega
          have hqz0 : r ≠ 0 → q < z0 := by intro g; omega
          have hqz1 : r ≠ 0 → q < z1 := by intro g; omega
          have HQ0 := Lib.hid hqz0
          have HQ1 := Lib.hid hqz1
          have HZ1 := Lib.hid e1
          have HZ0 := Lib.hid e0
          have HP := Lib.hid hP1
          have HQ := Lib.hid hq
          clear e1 e0 hP1 hq hr hbit hqz0 hqz1 hT1 hT0
          rcases HST.out.2.2.2 with hE0 | ⟨hE1, hE2, hE3⟩
          · subst hE0
            go_wp2_with fail
            go_quiet (fail)
            go_wp2_with fail
            by_cases hr0 : r = 0
            · subst hr0
              go_quiet (fail)
              go_wp2_with fail
              go_roundw
              case rel => exact ⟨k + 1, V1, L1, S3, by omega, by go_num, by rw [HT1.out], rfl, HST.out.1, (D5.out.keep ((Kept.refl NoB w5).drewN _) (fun _ _ g => g)), B5.out.trans (((Kept.refl NoB w5).drewN _).below D5.out.base (fun _ g => g.elim))⟩
              case measure => simp [intOf]; omega
            · have hrb : ((r : Int) != 0) = true := by rw [bne_iff_ne]; omega
              have i0 : (q : Int) < (z0 : Int) := by have := HQ0.out hr0; omega
              have i1 : (q : Int) < (z1 : Int) := by have := HQ1.out hr0; omega
              have i2 : 0 ≤ (q : Int) := by omega
              go_quiet ((go_at_call 16; exact (mask_nat r _ (by omega)).mono (fun _ _ hq => ⟨hq.1, _, hq.2.symm⟩)))
              have j1 : q < T1.size := by rw [hz1]; exact HQ1.out hr0
              have j0 : q < T0.size := by rw [hz0]; exact HQ0.out hr0
              have w1' := wrap_nat_lt T1[q].toNat (by have := T1[q].toNat_lt; omega)
              have w0' := wrap_nat_lt T0[q].toNat (by have := T0[q].toNat_lt; omega)
              have hfin : (bits .and .u64 (IntKind.u64.wrap (T1[q].toNat : Int)) (mk r : Int) != IntKind.u64.wrap (T0[q].toNat : Int)) = false := by rw [w1', w0', HBT.out j1 j0]; simp
              rw [hfin]
              clear hfin w1' w0' j1 j0
              go_wp2_with fail
              go_roundw
              case rel => exact ⟨k + 1, V1, L1, S3, by omega, by go_num, by rw [HT1.out], rfl, HST.out.1, (D5.out.keep ((Kept.refl NoB w5).drewN _) (fun _ _ g => g)), B5.out.trans (((Kept.refl NoB w5).drewN _).below D5.out.base (fun _ g => g.elim))⟩
              case measure => simp [intOf]; omega
          · subst hE2 hE3
            obtain rfl : T1 = T0 := HT1.out.symm.trans HT0.out
            obtain rfl : z1 = z0 := hz1.symm.trans hz0
            have hE0 : (E != 0) = true := by simp [hE1]
            have HE1 := Lib.hid hE1
            clear hE1 hex
            go_wp2_with fail
            go_quiet (fail)
            go_wp2_with fail
            by_cases hr0 : r = 0
            · subst hr0
              go_quiet (fail)
              go_wp2_with fail
              go_roundw
              case rel => exact ⟨k + 1, V1, L1, S3, by omega, by go_num, by rw [HT1.out], rfl, HST.out.1, (D5.out.keep ((Kept.refl NoB w5).drewN _) (fun _ _ g => g)), B5.out.trans (((Kept.refl NoB w5).drewN _).below D5.out.base (fun _ g => g.elim))⟩
              case measure => simp [intOf]; omega
            · have hrb : ((r : Int) != 0) = true := by rw [bne_iff_ne]; omega
              have i0 : (q : Int) < (z1 : Int) := by have := HQ1.out hr0; omega
              have i1 : (q : Int) < (z1 : Int) := by have := HQ1.out hr0; omega
              have i2 : 0 ≤ (q : Int) := by omega
              go_quiet ((go_at_call 16; exact (mask_nat r _ (by omega)).mono (fun _ _ hq => ⟨hq.1, _, hq.2.symm⟩)))
              have j1 : q < T1.size := by rw [hz1]; exact HQ1.out hr0
              have j0 : q < T1.size := by rw [hz1]; exact HQ1.out hr0
              have w1' := wrap_nat_lt T1[q].toNat (by have := T1[q].toNat_lt; omega)
              have w0' := wrap_nat_lt T1[q].toNat (by have := T1[q].toNat_lt; omega)
              have hfin : (bits .and .u64 (IntKind.u64.wrap (T1[q].toNat : Int)) (mk r : Int) != IntKind.u64.wrap (T1[q].toNat : Int)) = false := by rw [w1', HBT.out j1 j0]; simp
              rw [hfin]
              clear hfin w1' w0' j1 j0
              go_wp2_with fail
              go_roundw
              case rel => exact ⟨k + 1, V1, L1, S3, by omega, by go_num, by rw [HT1.out], rfl, HST.out.1, (D5.out.keep ((Kept.refl NoB w5).drewN _) (fun _ _ g => g)), B5.out.trans (((Kept.refl NoB w5).drewN _).below D5.out.base (fun _ g => g.elim))⟩
              case measure => simp [intOf]; omega
        · have s5 : (c.d % 8 == 5) = false := by simp [h6]
          have s6 : (c.d % 8 == 6) = true := by simp [h6]
          have ha := Lib.hid ((callR_67 (.inl h6)).symm.trans HE.out)
          clear h6
          go_wp2_with fail
          refine (bytes_any D2.out c.s (by omega) (by omega)).mono ?_; intro e w3 d3
          obtain ⟨rfl, ⟨S3, d3⟩, b3⟩ := d3.next D2.out D2.out.base E V1 L1 ha.out
          have D3 := Lib.hid d3
          have B3 := Lib.hid (B2.out.trans b3)
          clear d3 b3 p0 p1 p2 p3 q0 q1 q2 q3
          go_wp2_with fail
          refine (text_any D3.out (by omega)).mono ?_; rintro e w4 ⟨rfl, k4⟩
          rw [HT1.out]
          have D4 := Lib.hid (D3.out.next D3.out.base k4).1
          have B4 := Lib.hid (B3.out.trans (D3.out.next D3.out.base k4).2)
          clear k4
          go_wp2_with fail
          refine (wlen_any D4.out (by omega)).mono ?_; rintro e w5 ⟨rfl, k5⟩
          have D5 := Lib.hid (D4.out.next D4.out.base k5).1
          have B5 := Lib.hid (B4.out.trans (D4.out.next D4.out.base k5).2)
          clear k5
          obtain ⟨z1, hz1⟩ : ∃ z, T1.size = z := ⟨_, rfl⟩
          obtain ⟨z0, hz0⟩ : ∃ z, T0.size = z := ⟨_, rfl⟩
          obtain ⟨P1, hP1⟩ : ∃ P, L1 + 7 = P := ⟨_, rfl⟩
          obtain ⟨q, hq⟩ : ∃ q, L / 8 = q := ⟨_, rfl⟩
          have e1 : z1 = (L1 + 7) / 8 := by rw [← hz1, ← HT1.out]; exact text_size V1 L1
          have e0 : z0 = (L + 7) / 8 := by rw [← hz0, ← HT0.out]; exact text_size V L
          have hm1 := HST.out.1
          have hLL := HST.out.2.1
          have hwP : IntKind.i64.wrap ((L1 : Int) + 7) = (P1 : Int) := by rw [IntWalk.i64_in _ ⟨by omega, by omega⟩]; omega
          have hwz : IntKind.i64.wrap (z1 : Int) = (z1 : Int) := by rw [IntWalk.i64_in _ ⟨by omega, by omega⟩]
          have hwm : IntKind.i64.wrap (m : Int) = (m : Int) := by rw [IntWalk.i64_in _ ⟨by omega, by omega⟩]
          have hwq : IntKind.i64.wrap (q : Int) = (q : Int) := by rw [IntWalk.i64_in _ ⟨by omega, by omega⟩]
          have hPq : (P1 : Int) / 8 = (z1 : Int) := by omega
          have hLq : (L : Int) / 8 = (q : Int) := by omega
          have g1 : decide (m < z1) = false := decide_eq_false (by omega)
          have g2 : decide (L1 < L) = false := decide_eq_false (by omega)
          have g3 : decide (z1 < z0) = false := decide_eq_false (by omega)
          have q1 : q ≤ z1 := by omega
          have q0 : q ≤ z0 := by omega
          have hex : T1.extract 0 q = T0.extract 0 q := by
            obtain ⟨x, hx⟩ := HST.out.2.2.1
            rw [← take_extract, ← take_extract, ← HT1.out, ← HT0.out, text_take (by omega), text_take (by omega), hx, le_same (by omega)]
          obtain ⟨r, hr⟩ : ∃ r, L % 8 = r := ⟨_, rfl⟩
          have hLr : (L : Int) % 8 = (r : Int) := by omega
          have hwr : IntKind.i64.wrap (r : Int) = (r : Int) := by rw [IntWalk.i64_in _ ⟨by omega, by omega⟩]
          have hbit : ∀ (h1 : q < T1.size) (h0 : q < T0.size), bits .and .u64 (T1[q].toNat : Int) (mk r : Int) = (T0[q].toNat : Int) := by
            subst hT1 hT0
            intro h1 h0
            obtain ⟨x, hx⟩ := HST.out.2.2.1
            have hV := DD.out.val
            rw [text_at h1, text_at h0, and_mask _ r (by unfold big; omega) (by omega), hx, ← hr, ← hq, rest_same hV]
          have HBT := Lib.hid hbit
          have hr8 : r < 8 := by omega
          have hqz0 : r ≠ 0 → q < z0 := by intro g; omega
          have hqz1 : r ≠ 0 → q < z1 := by intro g; omega
          have HQ0 := Lib.hid hqz0
          have HQ1 := Lib.hid hqz1
          have HZ1 := Lib.hid e1
          have HZ0 := Lib.hid e0
          have HP := Lib.hid hP1
          have HQ := Lib.hid hq
          clear e1 e0 hP1 hq hr hbit hqz0 hqz1 hT1 hT0
          rcases HST.out.2.2.2 with hE0 | ⟨hE1, hE2, hE3⟩
          · subst hE0
            go_wp2_with fail
            go_quiet (fail)
            go_wp2_with fail
            by_cases hr0 : r = 0
            · subst hr0
              go_quiet (fail)
              go_wp2_with fail
              go_roundw
              case rel => exact ⟨k + 1, V1, L1, S3, by omega, by go_num, by rw [HT1.out], rfl, HST.out.1, (D5.out.keep ((Kept.refl NoB w5).drewN _) (fun _ _ g => g)), B5.out.trans (((Kept.refl NoB w5).drewN _).below D5.out.base (fun _ g => g.elim))⟩
              case measure => simp [intOf]; omega
            · have hrb : ((r : Int) != 0) = true := by rw [bne_iff_ne]; omega
              have i0 : (q : Int) < (z0 : Int) := by have := HQ0.out hr0; omega
              have i1 : (q : Int) < (z1 : Int) := by have := HQ1.out hr0; omega
              have i2 : 0 ≤ (q : Int) := by omega
              go_quiet ((go_at_call 16; exact (mask_nat r _ (by omega)).mono (fun _ _ hq => ⟨hq.1, _, hq.2.symm⟩)))
              have j1 : q < T1.size := by rw [hz1]; exact HQ1.out hr0
              have j0 : q < T0.size := by rw [hz0]; exact HQ0.out hr0
              have w1' := wrap_nat_lt T1[q].toNat (by have := T1[q].toNat_lt; omega)
              have w0' := wrap_nat_lt T0[q].toNat (by have := T0[q].toNat_lt; omega)
              have hfin : (bits .and .u64 (IntKind.u64.wrap (T1[q].toNat : Int)) (mk r : Int) != IntKind.u64.wrap (T0[q].toNat : Int)) = false := by rw [w1', w0', HBT.out j1 j0]; simp
              rw [hfin]
              clear hfin w1' w0' j1 j0
              go_wp2_with fail
              go_roundw
              case rel => exact ⟨k + 1, V1, L1, S3, by omega, by go_num, by rw [HT1.out], rfl, HST.out.1, (D5.out.keep ((Kept.refl NoB w5).drewN _) (fun _ _ g => g)), B5.out.trans (((Kept.refl NoB w5).drewN _).below D5.out.base (fun _ g => g.elim))⟩
              case measure => simp [intOf]; omega
          · subst hE2 hE3
            obtain rfl : T1 = T0 := HT1.out.symm.trans HT0.out
            obtain rfl : z1 = z0 := hz1.symm.trans hz0
            have hE0 : (E != 0) = true := by simp [hE1]
            have HE1 := Lib.hid hE1
            clear hE1 hex
            go_wp2_with fail
            go_quiet (fail)
            go_wp2_with fail
            by_cases hr0 : r = 0
            · subst hr0
              go_quiet (fail)
              go_wp2_with fail
              go_roundw
              case rel => exact ⟨k + 1, V1, L1, S3, by omega, by go_num, by rw [HT1.out], rfl, HST.out.1, (D5.out.keep ((Kept.refl NoB w5).drewN _) (fun _ _ g => g)), B5.out.trans (((Kept.refl NoB w5).drewN _).below D5.out.base (fun _ g => g.elim))⟩
              case measure => simp [intOf]; omega
            · have hrb : ((r : Int) != 0) = true := by rw [bne_iff_ne]; omega
              have i0 : (q : Int) < (z1 : Int) := by have := HQ1.out hr0; omega
              have i1 : (q : Int) < (z1 : Int) := by have := HQ1.out hr0; omega
              have i2 : 0 ≤ (q : Int) := by omega
              go_quiet ((go_at_call 16; exact (mask_nat r _ (by omega)).mono (fun _ _ hq => ⟨hq.1, _, hq.2.symm⟩)))
              have j1 : q < T1.size := by rw [hz1]; exact HQ1.out hr0
              have j0 : q < T1.size := by rw [hz1]; exact HQ1.out hr0
              have w1' := wrap_nat_lt T1[q].toNat (by have := T1[q].toNat_lt; omega)
              have w0' := wrap_nat_lt T1[q].toNat (by have := T1[q].toNat_lt; omega)
              have hfin : (bits .and .u64 (IntKind.u64.wrap (T1[q].toNat : Int)) (mk r : Int) != IntKind.u64.wrap (T1[q].toNat : Int)) = false := by rw [w1', HBT.out j1 j0]; simp
              rw [hfin]
              clear hfin w1' w0' j1 j0
              go_wp2_with fail
              go_roundw
              case rel => exact ⟨k + 1, V1, L1, S3, by omega, by go_num, by rw [HT1.out], rfl, HST.out.1, (D5.out.keep ((Kept.refl NoB w5).drewN _) (fun _ _ g => g)), B5.out.trans (((Kept.refl NoB w5).drewN _).below D5.out.base (fun _ g => g.elim))⟩
              case measure => simp [intOf]; omega
        · have s5 : (c.d % 8 == 5) = false := by simp [h7]
          have s6 : (c.d % 8 == 6) = false := by simp [h7]
          have s7 : (c.d % 8 == 7) = true := by simp [h7]
          have ha := Lib.hid ((callR_67 (.inr h7)).symm.trans HE.out)
          clear h7
          go_wp2_with fail
          refine (bytes_any D2.out c.s (by omega) (by omega)).mono ?_; intro e w3 d3
          obtain ⟨rfl, ⟨S3, d3⟩, b3⟩ := d3.next D2.out D2.out.base E V1 L1 ha.out
          have D3 := Lib.hid d3
          have B3 := Lib.hid (B2.out.trans b3)
          clear d3 b3 p0 p1 p2 p3 q0 q1 q2 q3
          go_wp2_with fail
          refine (text_any D3.out (by omega)).mono ?_; rintro e w4 ⟨rfl, k4⟩
          rw [HT1.out]
          have D4 := Lib.hid (D3.out.next D3.out.base k4).1
          have B4 := Lib.hid (B3.out.trans (D3.out.next D3.out.base k4).2)
          clear k4
          go_wp2_with fail
          refine (wlen_any D4.out (by omega)).mono ?_; rintro e w5 ⟨rfl, k5⟩
          have D5 := Lib.hid (D4.out.next D4.out.base k5).1
          have B5 := Lib.hid (B4.out.trans (D4.out.next D4.out.base k5).2)
          clear k5
          obtain ⟨z1, hz1⟩ : ∃ z, T1.size = z := ⟨_, rfl⟩
          obtain ⟨z0, hz0⟩ : ∃ z, T0.size = z := ⟨_, rfl⟩
          obtain ⟨P1, hP1⟩ : ∃ P, L1 + 7 = P := ⟨_, rfl⟩
          obtain ⟨q, hq⟩ : ∃ q, L / 8 = q := ⟨_, rfl⟩
          have e1 : z1 = (L1 + 7) / 8 := by rw [← hz1, ← HT1.out]; exact text_size V1 L1
          have e0 : z0 = (L + 7) / 8 := by rw [← hz0, ← HT0.out]; exact text_size V L
          have hm1 := HST.out.1
          have hLL := HST.out.2.1
          have hwP : IntKind.i64.wrap ((L1 : Int) + 7) = (P1 : Int) := by rw [IntWalk.i64_in _ ⟨by omega, by omega⟩]; omega
          have hwz : IntKind.i64.wrap (z1 : Int) = (z1 : Int) := by rw [IntWalk.i64_in _ ⟨by omega, by omega⟩]
          have hwm : IntKind.i64.wrap (m : Int) = (m : Int) := by rw [IntWalk.i64_in _ ⟨by omega, by omega⟩]
          have hwq : IntKind.i64.wrap (q : Int) = (q : Int) := by rw [IntWalk.i64_in _ ⟨by omega, by omega⟩]
          have hPq : (P1 : Int) / 8 = (z1 : Int) := by omega
          have hLq : (L : Int) / 8 = (q : Int) := by omega
          have g1 : decide (m < z1) = false := decide_eq_false (by omega)
          have g2 : decide (L1 < L) = false := decide_eq_false (by omega)
          have g3 : decide (z1 < z0) = false := decide_eq_false (by omega)
          have q1 : q ≤ z1 := by omega
          have q0 : q ≤ z0 := by omega
          have hex : T1.extract 0 q = T0.extract 0 q := by
            obtain ⟨x, hx⟩ := HST.out.2.2.1
            rw [← take_extract, ← take_extract, ← HT1.out, ← HT0.out, text_take (by omega), text_take (by omega), hx, le_same (by omega)]
          obtain ⟨r, hr⟩ : ∃ r, L % 8 = r := ⟨_, rfl⟩
          have hLr : (L : Int) % 8 = (r : Int) := by omega
          have hwr : IntKind.i64.wrap (r : Int) = (r : Int) := by rw [IntWalk.i64_in _ ⟨by omega, by omega⟩]
          have hbit : ∀ (h1 : q < T1.size) (h0 : q < T0.size), bits .and .u64 (T1[q].toNat : Int) (mk r : Int) = (T0[q].toNat : Int) := by
            subst hT1 hT0
            intro h1 h0
            obtain ⟨x, hx⟩ := HST.out.2.2.1
            have hV := DD.out.val
            rw [text_at h1, text_at h0, and_mask _ r (by unfold big; omega) (by omega), hx, ← hr, ← hq, rest_same hV]
          have HBT := Lib.hid hbit
          have hr8 : r < 8 := by omega
          have hqz0 : r ≠ 0 → q < z0 := by intro g; omega
          have hqz1 : r ≠ 0 → q < z1 := by intro g; omega
          have HQ0 := Lib.hid hqz0
          have HQ1 := Lib.hid hqz1
          have HZ1 := Lib.hid e1
          have HZ0 := Lib.hid e0
          have HP := Lib.hid hP1
          have HQ := Lib.hid hq
          clear e1 e0 hP1 hq hr hbit hqz0 hqz1 hT1 hT0
          rcases HST.out.2.2.2 with hE0 | ⟨hE1, hE2, hE3⟩
          · subst hE0
            go_wp2_with fail
            go_quiet (fail)
            go_wp2_with fail
            by_cases hr0 : r = 0
            · subst hr0
              go_quiet (fail)
              go_wp2_with fail
              go_roundw
              case rel => exact ⟨k + 1, V1, L1, S3, by omega, by go_num, by rw [HT1.out], rfl, HST.out.1, (D5.out.keep ((Kept.refl NoB w5).drewN _) (fun _ _ g => g)), B5.out.trans (((Kept.refl NoB w5).drewN _).below D5.out.base (fun _ g => g.elim))⟩
              case measure => simp [intOf]; omega
            · have hrb : ((r : Int) != 0) = true := by rw [bne_iff_ne]; omega
              have i0 : (q : Int) < (z0 : Int) := by have := HQ0.out hr0; omega
              have i1 : (q : Int) < (z1 : Int) := by have := HQ1.out hr0; omega
              have i2 : 0 ≤ (q : Int) := by omega
              go_quiet ((go_at_call 16; exact (mask_nat r _ (by omega)).mono (fun _ _ hq => ⟨hq.1, _, hq.2.symm⟩)))
              have j1 : q < T1.size := by rw [hz1]; exact HQ1.out hr0
              have j0 : q < T0.size := by rw [hz0]; exact HQ0.out hr0
              have w1' := wrap_nat_lt T1[q].toNat (by have := T1[q].toNat_lt; omega)
              have w0' := wrap_nat_lt T0[q].toNat (by have := T0[q].toNat_lt; omega)
              have hfin : (bits .and .u64 (IntKind.u64.wrap (T1[q].toNat : Int)) (mk r : Int) != IntKind.u64.wrap (T0[q].toNat : Int)) = false := by rw [w1', w0', HBT.out j1 j0]; simp
              rw [hfin]
              clear hfin w1' w0' j1 j0
              go_wp2_with fail
              go_roundw
              case rel => exact ⟨k + 1, V1, L1, S3, by omega, by go_num, by rw [HT1.out], rfl, HST.out.1, (D5.out.keep ((Kept.refl NoB w5).drewN _) (fun _ _ g => g)), B5.out.trans (((Kept.refl NoB w5).drewN _).below D5.out.base (fun _ g => g.elim))⟩
              case measure => simp [intOf]; omega
          · subst hE2 hE3
            obtain rfl : T1 = T0 := HT1.out.symm.trans HT0.out
            obtain rfl : z1 = z0 := hz1.symm.trans hz0
            have hE0 : (E != 0) = true := by simp [hE1]
            have HE1 := Lib.hid hE1
            clear hE1 hex
            go_wp2_with fail
            go_quiet (fail)
            go_wp2_with fail
            by_cases hr0 : r = 0
            · subst hr0
              go_quiet (fail)
              go_wp2_with fail
              go_roundw
              case rel => exact ⟨k + 1, V1, L1, S3, by omega, by go_num, by rw [HT1.out], rfl, HST.out.1, (D5.out.keep ((Kept.refl NoB w5).drewN _) (fun _ _ g => g)), B5.out.trans (((Kept.refl NoB w5).drewN _).below D5.out.base (fun _ g => g.elim))⟩
              case measure => simp [intOf]; omega
            · have hrb : ((r : Int) != 0) = true := by rw [bne_iff_ne]; omega
              have i0 : (q : Int) < (z1 : Int) := by have := HQ1.out hr0; omega
              have i1 : (q : Int) < (z1 : Int) := by have := HQ1.out hr0; omega
              have i2 : 0 ≤ (q : Int) := by omega
              go_quiet ((go_at_call 16; exact (mask_nat r _ (by omega)).mono (fun _ _ hq => ⟨hq.1, _, hq.2.symm⟩)))
              have j1 : q < T1.size := by rw [hz1]; exact HQ1.out hr0
              have j0 : q < T1.size := by rw [hz1]; exact HQ1.out hr0
              have w1' := wrap_nat_lt T1[q].toNat (by have := T1[q].toNat_lt; omega)
              have w0' := wrap_nat_lt T1[q].toNat (by have := T1[q].toNat_lt; omega)
              have hfin : (bits .and .u64 (IntKind.u64.wrap (T1[q].toNat : Int)) (mk r : Int) != IntKind.u64.wrap (T1[q].toNat : Int)) = false := by rw [w1', HBT.out j1 j0]; simp
              rw [hfin]
              clear hfin w1' w0' j1 j0
              go_wp2_with fail
              go_roundw
              case rel => exact ⟨k + 1, V1, L1, S3, by omega, by go_num, by rw [HT1.out], rfl, HST.out.1, (D5.out.keep ((Kept.refl NoB w5).drewN _) (fun _ _ g => g)), B5.out.trans (((Kept.refl NoB w5).drewN _).below D5.out.base (fun _ g => g.elim))⟩
              case measure => simp [intOf]; omega
        · have s5 : (c.d % 8 == 5) = false := by simp [g5]
          have s6 : (c.d % 8 == 6) = false := by simp [g6]
          have s7 : (c.d % 8 == 7) = false := by simp [g7]
          have ha := Lib.hid ((callR_0 g5 (by omega)).symm.trans HE.out)
          clear g5 g6 g7
          go_wp2_with fail
          refine (bits_any D2.out c.n c.z c1.1 (by omega)).mono ?_; intro e w3 d3
          obtain ⟨rfl, ⟨S3, d3⟩, b3⟩ := d3.next D2.out D2.out.base E V1 L1 ha.out
          have D3 := Lib.hid d3
          have B3 := Lib.hid (B2.out.trans b3)
          clear d3 b3 p0 p1 p2 p3 q0 q1 q2 q3
          go_wp2_with fail
          refine (text_any D3.out (by omega)).mono ?_; rintro e w4 ⟨rfl, k4⟩
          rw [HT1.out]
          have D4 := Lib.hid (D3.out.next D3.out.base k4).1
          have B4 := Lib.hid (B3.out.trans (D3.out.next D3.out.base k4).2)
          clear k4
          go_wp2_with fail
          refine (wlen_any D4.out (by omega)).mono ?_; rintro e w5 ⟨rfl, k5⟩
          have D5 := Lib.hid (D4.out.next D4.out.base k5).1
          have B5 := Lib.hid (B4.out.trans (D4.out.next D4.out.base k5).2)
          clear k5
          obtain ⟨z1, hz1⟩ : ∃ z, T1.size = z := ⟨_, rfl⟩
          obtain ⟨z0, hz0⟩ : ∃ z, T0.size = z := ⟨_, rfl⟩
          obtain ⟨P1, hP1⟩ : ∃ P, L1 + 7 = P := ⟨_, rfl⟩
          obtain ⟨q, hq⟩ : ∃ q, L / 8 = q := ⟨_, rfl⟩
          have e1 : z1 = (L1 + 7) / 8 := by rw [← hz1, ← HT1.out]; exact text_size V1 L1
          have e0 : z0 = (L + 7) / 8 := by rw [← hz0, ← HT0.out]; exact text_size V L
          have hm1 := HST.out.1
          have hLL := HST.out.2.1
          have hwP : IntKind.i64.wrap ((L1 : Int) + 7) = (P1 : Int) := by rw [IntWalk.i64_in _ ⟨by omega, by omega⟩]; omega
          have hwz : IntKind.i64.wrap (z1 : Int) = (z1 : Int) := by rw [IntWalk.i64_in _ ⟨by omega, by omega⟩]
          have hwm : IntKind.i64.wrap (m : Int) = (m : Int) := by rw [IntWalk.i64_in _ ⟨by omega, by omega⟩]
          have hwq : IntKind.i64.wrap (q : Int) = (q : Int) := by rw [IntWalk.i64_in _ ⟨by omega, by omega⟩]
          have hPq : (P1 : Int) / 8 = (z1 : Int) := by omega
          have hLq : (L : Int) / 8 = (q : Int) := by omega
          have g1 : decide (m < z1) = false := decide_eq_false (by omega)
          have g2 : decide (L1 < L) = false := decide_eq_false (by omega)
          have g3 : decide (z1 < z0) = false := decide_eq_false (by omega)
          have q1 : q ≤ z1 := by omega
          have q0 : q ≤ z0 := by omega
          have hex : T1.extract 0 q = T0.extract 0 q := by
            obtain ⟨x, hx⟩ := HST.out.2.2.1
            rw [← take_extract, ← take_extract, ← HT1.out, ← HT0.out, text_take (by omega), text_take (by omega), hx, le_same (by omega)]
          obtain ⟨r, hr⟩ : ∃ r, L % 8 = r := ⟨_, rfl⟩
          have hLr : (L : Int) % 8 = (r : Int) := by omega
          have hwr : IntKind.i64.wrap (r : Int) = (r : Int) := by rw [IntWalk.i64_in _ ⟨by omega, by omega⟩]
          have hbit : ∀ (h1 : q < T1.size) (h0 : q < T0.size), bits .and .u64 (T1[q].toNat : Int) (mk r : Int) = (T0[q].toNat : Int) := by
            subst hT1 hT0
            intro h1 h0
            obtain ⟨x, hx⟩ := HST.out.2.2.1
            have hV := DD.out.val
            rw [text_at h1, text_at h0, and_mask _ r (by unfold big; omega) (by omega), hx, ← hr, ← hq, rest_same hV]
          have HBT := Lib.hid hbit
          have hr8 : r < 8 := by omega
          have hqz0 : r ≠ 0 → q < z0 := by intro g; omega
          have hqz1 : r ≠ 0 → q < z1 := by intro g; omega
          have HQ0 := Lib.hid hqz0
          have HQ1 := Lib.hid hqz1
          have HZ1 := Lib.hid e1
          have HZ0 := Lib.hid e0
          have HP := Lib.hid hP1
          have HQ := Lib.hid hq
          clear e1 e0 hP1 hq hr hbit hqz0 hqz1 hT1 hT0
          rcases HST.out.2.2.2 with hE0 | ⟨hE1, hE2, hE3⟩
          · subst hE0
            go_wp2_with fail
            go_quiet (fail)
            go_wp2_with fail
            by_cases hr0 : r = 0
            · subst hr0
              go_quiet (fail)
              go_wp2_with fail
              go_roundw
              case rel => exact ⟨k + 1, V1, L1, S3, by omega, by go_num, by rw [HT1.out], rfl, HST.out.1, (D5.out.keep ((Kept.refl NoB w5).drewN _) (fun _ _ g => g)), B5.out.trans (((Kept.refl NoB w5).drewN _).below D5.out.base (fun _ g => g.elim))⟩
              case measure => simp [intOf]; omega
            · have hrb : ((r : Int) != 0) = true := by rw [bne_iff_ne]; omega
              have i0 : (q : Int) < (z0 : Int) := by have := HQ0.out hr0; omega
              have i1 : (q : Int) < (z1 : Int) := by have := HQ1.out hr0; omega
              have i2 : 0 ≤ (q : Int) := by omega
              go_quiet ((go_at_call 16; exact (mask_nat r _ (by omega)).mono (fun _ _ hq => ⟨hq.1, _, hq.2.symm⟩)))
              have j1 : q < T1.size := by rw [hz1]; exact HQ1.out hr0
              have j0 : q < T0.size := by rw [hz0]; exact HQ0.out hr0
              have w1' := wrap_nat_lt T1[q].toNat (by have := T1[q].toNat_lt; omega)
              have w0' := wrap_nat_lt T0[q].toNat (by have := T0[q].toNat_lt; omega)
              have hfin : (bits .and .u64 (IntKind.u64.wrap (T1[q].toNat : Int)) (mk r : Int) != IntKind.u64.wrap (T0[q].toNat : Int)) = false := by rw [w1', w0', HBT.out j1 j0]; simp
              rw [hfin]
              clear hfin w1' w0' j1 j0
              go_wp2_with fail
              go_roundw
              case rel => exact ⟨k + 1, V1, L1, S3, by omega, by go_num, by rw [HT1.out], rfl, HST.out.1, (D5.out.keep ((Kept.refl NoB w5).drewN _) (fun _ _ g => g)), B5.out.trans (((Kept.refl NoB w5).drewN _).below D5.out.base (fun _ g => g.elim))⟩
              case measure => simp [intOf]; omega
          · subst hE2 hE3
            obtain rfl : T1 = T0 := HT1.out.symm.trans HT0.out
            obtain rfl : z1 = z0 := hz1.symm.trans hz0
            have hE0 : (E != 0) = true := by simp [hE1]
            have HE1 := Lib.hid hE1
            clear hE1 hex
            go_wp2_with fail
            go_quiet (fail)
            go_wp2_with fail
            by_cases hr0 : r = 0
            · subst hr0
              go_quiet (fail)
              go_wp2_with fail
              go_roundw
              case rel => exact ⟨k + 1, V1, L1, S3, by omega, by go_num, by rw [HT1.out], rfl, HST.out.1, (D5.out.keep ((Kept.refl NoB w5).drewN _) (fun _ _ g => g)), B5.out.trans (((Kept.refl NoB w5).drewN _).below D5.out.base (fun _ g => g.elim))⟩
              case measure => simp [intOf]; omega
            · have hrb : ((r : Int) != 0) = true := by rw [bne_iff_ne]; omega
              have i0 : (q : Int) < (z1 : Int) := by have := HQ1.out hr0; omega
              have i1 : (q : Int) < (z1 : Int) := by have := HQ1.out hr0; omega
              have i2 : 0 ≤ (q : Int) := by omega
              go_quiet ((go_at_call 16; exact (mask_nat r _ (by omega)).mono (fun _ _ hq => ⟨hq.1, _, hq.2.symm⟩)))
              have j1 : q < T1.size := by rw [hz1]; exact HQ1.out hr0
              have j0 : q < T1.size := by rw [hz1]; exact HQ1.out hr0
              have w1' := wrap_nat_lt T1[q].toNat (by have := T1[q].toNat_lt; omega)
              have w0' := wrap_nat_lt T1[q].toNat (by have := T1[q].toNat_lt; omega)
              have hfin : (bits .and .u64 (IntKind.u64.wrap (T1[q].toNat : Int)) (mk r : Int) != IntKind.u64.wrap (T1[q].toNat : Int)) = false := by rw [w1', HBT.out j1 j0]; simp
              rw [hfin]
              clear hfin w1' w0' j1 j0
              go_wp2_with fail
              go_roundw
              case rel => exact ⟨k + 1, V1, L1, S3, by omega, by go_num, by rw [HT1.out], rfl, HST.out.1, (D5.out.keep ((Kept.refl NoB w5).drewN _) (fun _ _ g => g)), B5.out.trans (((Kept.refl NoB w5).drewN _).below D5.out.base (fun _ g => g.elim))⟩
              case measure => simp [intOf]; omega
    · obtain rfl : k = len := by omega
      have hlt' : decide (k < k) = false := decide_eq_false (by omega)
      clear hlt hk
      go_wp2_with fail
      refine (alive_any _).mono ?_; rintro e w15 ⟨rfl, b15⟩
      have B15 := Lib.hid (HB.out.trans (b15.mono DD.out.base))
      clear b15
      go_wp2_with fail
      go_ret
      exact ⟨rfl, by rw [HPA.out]; exact B15.out⟩

theorem BitwStays_walk (a0 : Int) (a1 : Option Addr) (len1 cap1 : Nat) (z1 : List Cl) (w : World) (w0 : (Lit.int .u8 a0).wf = true) (w1 : IsCalls w a1 len1 z1) :
    Calls Try.prog 5 #[.int .u8 a0, .slice a1 len1 cap1] w fun e w' => e = .returned (.bool true) ∧ Below w.heap.size w w' := by
  have h0 := u8_bounds w0
  obtain ⟨m, rfl⟩ := Int.eq_ofNat_of_zero_le h0.1
  cases hh : heavyB z1 with
  | false => exact stays_go m a1 len1 cap1 z1 w (by omega) w1 hh
  | true =>
    have HH := Lib.hid hh
    have H1 := Lib.hid w1
    clear hh w1 h0
    go_enter Try.func5, Try.ntmps5
    go_wp2_with fail
    refine (heavy_any H1.out true HH.out).mono ?_; rintro e w' ⟨rfl, rfl⟩
    go_wp2_with fail
    refine (alive_any _).mono ?_; rintro e w' ⟨rfl, hb⟩
    go_wp2_with fail
    go_ret
    exact ⟨rfl, hb⟩
end Go.Proofs.Ytilogllncjlkfaa
