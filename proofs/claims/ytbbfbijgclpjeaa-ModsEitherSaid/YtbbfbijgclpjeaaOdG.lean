/- What the document's Encode and Decode of layer 18 answer. Conditions: as each theorem names them. -/
import Derived.Test.YtbbfbijgclpjeaaOdF
import Derived.RegionTactic
import Derived.BigRegion
import Derived.Deep.RegionLaw
namespace Go.Proofs.Ytbbfbijgclpjeaa.O
open Go Go.RowKit M
set_option linter.unusedVariables false
set_option linter.unusedSimpArgs false

set_option maxRecDepth 1000000 in
set_option maxHeartbeats 2000000 in
theorem rencode_any (N : Int) (A : Option Addr) (n c : Nat) (L : List Md) (W : World) (h : IsMds W A n L) (hz : szs L ≤ 10000000) :
    Calls Try.prog 13 #[.int .i64 N, .slice A n c] W fun e w' => e = .returned (.tuple #[.string (bstr (encl N L).1), .int .i64 (encl N L).2]) ∧ Below W.heap.size W w' := by
  obtain ⟨X, Y, hXY⟩ : ∃ X Y, encl N L = (X, Y) := ⟨_, _, rfl⟩
  rw [hXY]
  have HXY := Lib.hid hXY
  clear hXY
  have HH := Lib.hid h
  have hl := h.leng
  have HL := Lib.hid hl
  have hm := h.most
  unfold maxLen at hm
  obtain ⟨Z, hZ⟩ : ∃ Z, szs L = Z := ⟨_, rfl⟩
  have HZ := Lib.hid hZ
  rw [hZ] at hz
  clear h hl hZ
  go_enter Try.func13, Try.ntmps13
  go_wp2_with fail
  go_loopw [6, 7] (fun v i wr => ∃ k : Nat, k ≤ n ∧ i = .int .i64 k ∧ Owb W.heap.size wr v (enc (L.take k)) ∧ (∀ j, j < k → may N (L.getD j default) = true) ∧ Below W.heap.size W wr) (fun _ i _ => n - (intOf i).toNat)
  case atStart => exact ⟨0, Nat.zero_le _, rfl, Owb.nil _ _, fun j hj => absurd hj (by omega), Below.refl _ _⟩
  case round =>
    obtain ⟨k, hk, rfl, ho, hp, hb⟩ := hrel
    have HP := Lib.hid hp
    have HB := Lib.hid hb
    have HO := Lib.hid ho
    by_cases hlt : k < n
    · obtain ⟨b, o, rfl, hbl, hc⟩ := (HH.out.below hb).at (by omega)
      obtain ⟨c0, c1⟩ := hc k hlt
      have hg := rec_snoc (L := L) (k := k) (by rw [HL.out]; exact hlt)
      have hgo := good_at HH.out hlt
      have hlen : (enc (L.take k)).length ≤ 10000000 := by
        rw [enc_length]
        have := szs_take L k
        have := HZ.out
        omega
      obtain ⟨m, hm'⟩ : ∃ m, L.getD k default = m := ⟨_, rfl⟩
      rw [hm'] at c0 c1 hg hgo
      have HM := Lib.hid hm'
      obtain ⟨p, s⟩ := m
      simp only at c0 c1
      have HA := Lib.hid (fun w => rmay_any N p s w hgo.s)
      have d1 : decide ((k : Int) < (n : Int)) = true := decide_eq_true (by omega)
      have d1' : decide (k < n) = true := decide_eq_true hlt
      cases hq : may N ⟨p, s⟩ with
      | true =>
        rw [hq] at HA
        have HQ := Lib.hid hq
        obtain ⟨y1, y2, y3, y4⟩ := may_iff.1 hq
        have y5 := pg_le y1
        simp only at y2 y3 y4
        obtain ⟨P, rfl⟩ := Int.eq_ofNat_of_zero_le y2
        obtain ⟨E, hE⟩ : ∃ E, enc (L.take k) = E := ⟨_, rfl⟩
        rw [hE] at hg ho hlen HO
        obtain ⟨q0, h0⟩ : ∃ q, P % 256 = q := ⟨_, rfl⟩
        obtain ⟨q1, h1⟩ : ∃ q, P / 256 = q := ⟨_, rfl⟩
        obtain ⟨z0, h2⟩ : ∃ q, s.size % 256 = q := ⟨_, rfl⟩
        obtain ⟨z1, h3⟩ : ∃ q, s.size / 256 = q := ⟨_, rfl⟩
        have hr : E ++ [UInt8.ofNat q0, UInt8.ofNat q1, UInt8.ofNat z0, UInt8.ofNat z1] ++ s.data.toList = enc (L.take (k + 1)) := by
          rw [hg, List.append_assoc]
          unfold rec
          rw [le2, le2]
          show E ++ ([UInt8.ofNat q0, UInt8.ofNat q1, UInt8.ofNat z0, UInt8.ofNat z1] ++ s.data.toList) = E ++ ([UInt8.ofNat (P % 256), UInt8.ofNat (P / 256 % 256), UInt8.ofNat (s.size % 256), UInt8.ofNat (s.size / 256 % 256)] ++ s.data.toList)
          rw [h0, h1, h2, h3, Nat.mod_eq_of_lt (show q1 < 256 by omega), Nat.mod_eq_of_lt (show z1 < 256 by omega)]
        have HR := Lib.hid hr
        have b0 : q0 < 256 := by omega
        have b1 : q1 < 256 := by omega
        have b2 : z0 < 256 := by omega
        have b3 : z1 < 256 := by omega
        have e0 : (P : Int) % 256 = (q0 : Int) := by omega
        have e1 : (P : Int) / 256 = (q1 : Int) := by omega
        have e2 : (s.size : Int) % 256 = (z0 : Int) := by omega
        have e3 : (s.size : Int) / 256 = (z1 : Int) := by omega
        have t0 : (P : Int).tmod 256 = (q0 : Int) := by rw [Int.tmod_eq_emod_of_nonneg (by omega)]; exact e0
        have t1 : (P : Int).tdiv 256 = (q1 : Int) := by rw [Int.tdiv_eq_ediv_of_nonneg (by omega)]; exact e1
        have t2 : (s.size : Int).tmod 256 = (z0 : Int) := by rw [Int.tmod_eq_emod_of_nonneg (by omega)]; exact e2
        have t3 : (s.size : Int).tdiv 256 = (z1 : Int) := by rw [Int.tdiv_eq_ediv_of_nonneg (by omega)]; exact e3
        have hs2 : s.size ≤ 16384 := by omega
        have hP2 : P ≤ 16384 := by omega
        clear hc hm' hb hp ho hg hgo hbl hq y1 y2 y3 y4 y5 hE hr h0 h1 h2 h3
        go_wp2_with (first
          | (go_at_call 17; (with_reducible refine (HA.out _).mono ?_); rintro e w1 ⟨rfl, b1'⟩; have R1 := Lib.hid ((R2.new wr (.int .i64 (P : Int)) (.string s)).below b1' (by simp)); have O1 := Lib.hid ((HO.out.alloc _).below b1'); have B1 := Lib.hid ((HB.out.alloc HB.out.size _).trans (b1'.mono (by have := HB.out.size; simp; omega))); clear b1'; have c2 := R1.out.at0; have c3 := R1.out.at1)
          | (at_builtin; refine wpList_bytes rfl _ _ rfl W.heap.size _ E rfl (O1.out.alloc _) w1.heap.size 4 4 [UInt8.ofNat q0, UInt8.ofNat q1, UInt8.ofNat z0, UInt8.ofNat z1] rfl rfl (fun j u hu => by
              match j, hu with
              | 0, hu => cases hu; simp [UInt8.toNat_ofNat', Nat.mod_eq_of_lt b0]
              | 1, hu => cases hu; simp [UInt8.toNat_ofNat', Nat.mod_eq_of_lt b1]
              | 2, hu => cases hu; simp [UInt8.toNat_ofNat', Nat.mod_eq_of_lt b2]
              | 3, hu => cases hu; simp [UInt8.toNat_ofNat', Nat.mod_eq_of_lt b3]) (by omega) (by have := B1.out.size; simp; omega) ?_; intro v' w2 o2 b2' g2; have K2 := Lib.hid (R1.out.of_block ((g2.block wr.heap.size (by have := R1.out.lt; simp; omega) (fun e => by
                obtain ⟨cur, hh, _⟩ := R1.out
                have q := (O1.out.alloc (.cells #[.int .u8 (q0 : Int), .int .u8 (q1 : Int), .int .u8 (z0 : Int), .int .u8 (z1 : Int)] 5)).lt _ e.symm
                exact absurd (HO.out.lt _ e.symm).2 (by omega))).trans (Below.heap_alloc _ _ _ R1.out.lt))); have O2 := Lib.hid o2; have B2 := Lib.hid ((B1.out.alloc B1.out.size _).trans b2'); clear o2 b2' g2; have c4 := K2.out.at1)
          | (at_builtin; refine wpList_text rfl _ _ rfl W.heap.size _ _ rfl O2.out s rfl (by rw [List.length_append]; show E.length + 4 + s.size ≤ _; omega) B2.out.size ?_; intro v'' w3 o3 b3' _; have O3 := Lib.hid o3; have B3 := Lib.hid (B2.out.trans b3'); clear o3 b3'))
        go_roundw
        case rel => exact ⟨k + 1, by omega, by go_num, by rw [← HR.out]; exact O3.out, fun j hj => (by
          by_cases c : j = k
          · subst c; rw [HM.out]; exact HQ.out
          · exact HP.out j (by omega)), B3.out⟩
        case measure => simp [intOf]; omega
      | false =>
        rw [hq] at HA
        have hxy : (X, Y) = ([], 2) := by
          rw [← HXY.out]
          unfold encl
          rw [oks_not (j := k) (by rw [HL.out]; exact hlt) (by rw [HM.out]; exact hq)]; rfl
        injection hxy with hX hY
        subst hX hY
        clear hc hm' hb hp ho hg hgo hbl hq hlen
        go_wp2_with (go_at_call 17; (with_reducible refine (HA.out _).mono ?_); rintro e w1 ⟨rfl, b1'⟩; have B1 := Lib.hid ((HB.out.alloc HB.out.size _).trans (b1'.mono (by have := HB.out.size; simp; omega))); clear b1')
        go_ret2
        exact ⟨rfl, B1.out⟩
    · obtain rfl : k = n := by omega
      have e : L.take k = L := List.take_of_length_le (by rw [HL.out]; exact Nat.le_refl _)
      rw [e] at ho
      have hxy : (X, Y) = (enc L, 0) := by
        rw [← HXY.out]
        unfold encl
        rw [oks_of HL.out (fun j hj => hp j hj)]; rfl
      injection hxy with hX hY
      subst hX hY
      have hcv := conv_own ho
      clear e hb hp ho HO
      go_wp2_with fail
      go_ret2
      exact ⟨rfl, HB.out⟩
end Go.Proofs.Ytbbfbijgclpjeaa.O
