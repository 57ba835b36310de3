/- HuffAlike returns true for any lengths, first tables, bits. Conditions: none. -/
import Derived.Test.YtnkkccieidlacaaNil
namespace Go.Proofs.Ytnkkccieidlacaa
open Go.RowKit M
set_option linter.unusedVariables false
set_option linter.unusedSimpArgs false

theorem u8_nat {a : Int} (h : (Lit.int .u8 a).wf = true) : ∃ n : Nat, a = n ∧ n < 256 := by
  have g : 0 ≤ a ∧ a ≤ 255 := by simpa [Lit.wf, IntKind.min, IntKind.max, IntKind.signed, IntKind.bits] using h
  exact ⟨a.toNat, by omega, by omega⟩
theorem u64_nat {a : Int} (h : (Lit.int .u64 a).wf = true) : ∃ n : Nat, a = n ∧ n < big := by
  obtain ⟨h1, h2⟩ := u64_bounds h
  exact ⟨a.toNat, by omega, h2⟩
set_option maxRecDepth 1000000 in
theorem nerr_same {l : Nat → Nat} {n f g : Nat} (h1 : 1 ≤ f) (h2 : f ≤ 15) (h3 : 1 ≤ g) (h4 : g ≤ 15) : nerr l n (f : Int) = nerr l n (g : Int) := by
  unfold nerr
  have e1 : (1 : Int) ≤ (f : Int) ∧ (f : Int) ≤ 15 := by omega
  have e2 : (1 : Int) ≤ (g : Int) ∧ (g : Int) ≤ 15 := by omega
  simp only [e1, e2, not_true_eq_false, and_self, false_or]

set_option maxRecDepth 1000000 in
theorem pow_wrap {k : Nat} (hk : k ≤ 15) : wrap64 (2 ^ k) = ((2 ^ k : Nat) : Int) := by
  have hp : 2 ^ k ≤ 2 ^ 15 := Nat.pow_le_pow_right (by omega) hk
  rw [show ((2 : Int) ^ k) = ((2 ^ k : Nat) : Int) by push_cast; rfl]
  generalize 2 ^ k = q at hp ⊢
  exact IntWalk.wrap64_in _ ⟨by omega, by omega⟩
theorem few_cells {C M f : Nat} (hM : M ≤ 15) (hf : f ≤ 15) (h : C ≤ 2 ^ M + 2 ^ f) : decide ((C : Int) ≤ wrap64 (wrap64 (2 ^ M) + wrap64 (2 ^ f))) = true := by
  have h1 : 2 ^ M ≤ 2 ^ 15 := Nat.pow_le_pow_right (by omega) hM
  have h2 : 2 ^ f ≤ 2 ^ 15 := Nat.pow_le_pow_right (by omega) hf
  rw [pow_wrap hM, pow_wrap hf]
  generalize 2 ^ M = a at h h1 ⊢
  generalize 2 ^ f = b at h h2 ⊢
  rw [IntWalk.wrap64_in _ ⟨by omega, by omega⟩, ← Int.natCast_add]
  exact decide_eq_true (Int.ofNat_le.2 h)

set_option maxRecDepth 1000000 in
theorem alike_far (A : Option Addr) (n c : Nat) (x y z : Int) (W : World) (hn : n ≤ maxLen) (h : 330 < n) :
    Calls Try.prog 5 #[.slice A n c, .int .u8 x, .int .u8 y, .int .u64 z] W fun e w' => e = .returned (.bool true) ∧ Below W.heap.size W w' := by
  have hn' : n ≤ 9223372036854775807 := by unfold maxLen at hn; omega
  have hd : decide (330 < (n : Int)) = true := decide_eq_true (by omega)
  go_enter Try.func5, Try.ntmps5
  go_wp2_with fail
  refine (alive_any _).mono ?_; rintro e w2 ⟨rfl, b2⟩
  have B2 := Lib.hid b2
  clear b2
  go_wp2_with fail
  go_ret
  exact ⟨rfl, B2.out⟩

set_option maxRecDepth 1000000 in
set_option maxHeartbeats 1000000 in
theorem alike_none (A : Option Addr) (n c : Nat) (l : Nat → Nat) (o t X f g : Nat) (W : World) (hn : n ≤ 330) (hl : ∀ i, l i ≤ 255) (H : Nums W .u8 A n (fun i => (l i : Int))) (ho : o < 256) (ht : t < 256) (hf : o % 12 + 1 = f) (hg : t % 12 + 1 = g) (he : nerr l n (f : Int) ≠ 0) :
    Calls Try.prog 5 #[.slice A n c, .int .u8 o, .int .u8 t, .int .u64 X] W fun e w' => e = .returned (.bool true) ∧ Below W.heap.size W w' := by
  have hd : decide (330 < (n : Int)) = false := decide_eq_false (by omega)
  have hnm : n ≤ maxLen := by unfold maxLen; omega
  have hN := Lib.hid (fun w H => new_no_any A n c l (f : Int) w hnm hl H he)
  have he2 : nerr l n (g : Int) ≠ 0 := by rw [nerr_same (f := g) (g := f) (by omega) (by omega) (by omega) (by omega)]; exact he
  have hN2 := Lib.hid (fun w H => new_no_any A n c l (g : Int) w hnm hl H he2)
  rw [nerr_same (f := g) (g := f) (by omega) (by omega) (by omega) (by omega)] at hN2
  obtain ⟨E, hE⟩ : ∃ E, nerr l n (f : Int) = E := ⟨_, rfl⟩
  rw [hE] at hN hN2 he
  have e0 : ((E : Int) != 0) = true := by rw [bne_iff_ne]; omega
  have e1 : ((E : Int) == 0) = false := by rw [beq_eq_false_iff_ne]; omega
  have r1 : ((o : Int).tmod 12) = ((o % 12 : Nat) : Int) := by rw [Int.tmod_eq_emod_of_nonneg (by omega)]; rfl
  have r2 : ((t : Int).tmod 12) = ((t % 12 : Nat) : Int) := by rw [Int.tmod_eq_emod_of_nonneg (by omega)]; rfl
  obtain ⟨o', ho'⟩ : ∃ o', o % 12 = o' := ⟨_, rfl⟩
  obtain ⟨t', ht'⟩ : ∃ t', t % 12 = t' := ⟨_, rfl⟩
  rw [ho'] at r1 hf
  rw [ht'] at r2 hg
  have s1 : (o' : Int) + 1 = (f : Int) := by omega
  have s2 : (t' : Int) + 1 = (g : Int) := by omega
  have HH := Lib.hid H
  clear H hl he2 hE
  go_enter Try.func5, Try.ntmps5
  go_wp2_with fail
  refine (hN.out _ HH.out).mono ?_; rintro e w2 ⟨rfl, b2⟩
  have B2 := Lib.hid b2
  have H2 := Lib.hid (HH.out.below b2)
  clear b2
  go_wp2_with fail
  refine (hN2.out _ H2.out).mono ?_; rintro e w3 ⟨rfl, b3⟩
  have B3 := Lib.hid (B2.out.trans (b3.mono B2.out.size))
  clear b3
  go_wp2_with fail
  refine (alive_any _).mono ?_; rintro e w4 ⟨rfl, b4⟩
  have B4 := Lib.hid (B3.out.trans (b4.mono B3.out.size))
  clear b4
  go_wp2_with fail
  go_ret
  exact ⟨rfl, B4.out⟩

/-- what was told of a bit less -/
def pv (l : Nat → Nat) (n X k : Nat) : Nat × Nat × Nat := if k = 0 then (0, 0, 6) else lk l n X (k - 1)

theorem pv_cases {l : Nat → Nat} {n X k : Nat} (ht : Tbl l n) : (∃ i z, lk l n X k = (i, z, 0) ∧ i < 330 ∧ z ≤ 15 ∧ z ≤ k ∧ (pv l n X k = (0, 0, 6) ∨ pv l n X k = (i, z, 0))) ∨ (lk l n X k = (0, 0, 6) ∧ pv l n X k = (0, 0, 6)) ∨ (lk l n X k = (0, 0, 7) ∧ (pv l n X k = (0, 0, 6) ∨ pv l n X k = (0, 0, 7))) := by
  have hfit := ht.fit
  have hp : pv l n X k = (0, 0, 6) ∨ (pv l n X k = lk l n X k ∧ (lk l n X k).2.2 ≠ 6) := by
    unfold pv
    by_cases h0 : k = 0
    · rw [if_pos h0]; exact .inl rfl
    · rw [if_neg h0]
      rcases lk_cases (l := l) (n := n) (X := X) (h := k - 1) hfit with ⟨i, i1, i2, i3, i4, h⟩ | h | h
      · have := lk_more (X := X) ht (show k - 1 ≤ k by omega) (by rw [h]; simp)
        rw [this]
        exact .inr ⟨rfl, by rw [h]; simp⟩
      · exact .inl h
      · have := lk_more (X := X) ht (show k - 1 ≤ k by omega) (by rw [h]; simp)
        rw [this]
        exact .inr ⟨rfl, by rw [h]; simp⟩
  rcases lk_cases (l := l) (n := n) (X := X) (h := k) hfit with ⟨i, i1, i2, i3, i4, h⟩ | h | h
  · have h320 := hfit.1.1
    have h15 := hfit.1.2 i i1
    rw [h] at hp ⊢
    exact .inl ⟨i, l i, rfl, by omega, h15, i3, hp.imp id And.left⟩
  · rw [h] at hp ⊢
    rcases hp with hp | ⟨_, q⟩
    · exact .inr (.inl ⟨rfl, hp⟩)
    · exact absurd rfl q
  · rw [h] at hp ⊢
    exact .inr (.inr ⟨rfl, hp.imp id And.left⟩)

set_option maxRecDepth 1000000 in
set_option maxHeartbeats 1000000 in
theorem alike_some (A : Option Addr) (n c : Nat) (l : Nat → Nat) (o t X f g : Nat) (W : World) (hn : n ≤ 330) (hl : ∀ i, l i ≤ 255) (H : Nums W .u8 A n (fun i => (l i : Int))) (ho : o < 256) (ht : t < 256) (hX : X < big) (hf : o % 12 + 1 = f) (hg : t % 12 + 1 = g) (htb : Tbl l n) :
    Calls Try.prog 5 #[.slice A n c, .int .u8 o, .int .u8 t, .int .u64 X] W fun e w' => e = .returned (.bool true) ∧ Below W.heap.size W w' := by
  have hd : decide (330 < (n : Int)) = false := decide_eq_false (by omega)
  have hfit := htb.fit
  have HT := Lib.hid htb
  have HF := Lib.hid hfit
  have hN := Lib.hid (fun w H => new_ok_any A n c l f w hl H htb (by omega) (by omega))
  have hN2 := Lib.hid (fun w H => new_ok_any A n c l g w hl H htb (by omega) (by omega))
  have hf1 : 1 ≤ f := by omega
  have hf2 : f ≤ 15 := by omega
  have hg1 : 1 ≤ g := by omega
  have hg2 : g ≤ 15 := by omega
  have r1 : ((o : Int).tmod 12) = ((o % 12 : Nat) : Int) := by rw [Int.tmod_eq_emod_of_nonneg (by omega)]; rfl
  have r2 : ((t : Int).tmod 12) = ((t % 12 : Nat) : Int) := by rw [Int.tmod_eq_emod_of_nonneg (by omega)]; rfl
  obtain ⟨o', ho'⟩ : ∃ o', o % 12 = o' := ⟨_, rfl⟩
  obtain ⟨t', ht'⟩ : ∃ t', t % 12 = t' := ⟨_, rfl⟩
  rw [ho'] at r1 hf
  rw [ht'] at r2 hg
  have s1 : (o' : Int) + 1 = (f : Int) := by omega
  have s2 : (t' : Int) + 1 = (g : Int) := by omega
  have HH := Lib.hid H
  clear H hl htb hfit
  go_enter Try.func5, Try.ntmps5
  go_wp2_with fail
  refine (hN.out _ HH.out).mono ?_; rintro e w2 ⟨T, p, m, G, N, D, rfl, hp, P2, b2⟩
  have B2 := Lib.hid b2
  have H2 := Lib.hid (HH.out.below b2)
  have P2 := Lib.hid P2
  clear b2 hp
  go_wp2_with fail
  refine (hN2.out _ H2.out).mono ?_; rintro e w3 ⟨T', p', m', G', N', D', rfl, hp', Q3, b3⟩
  have B3 := Lib.hid (B2.out.trans (b3.mono B2.out.size))
  have P3 := Lib.hid (P2.out.below b3)
  have Q3 := Lib.hid Q3
  clear b3 hp'
  go_wp2_with fail
  go_loopw [13, 14, 15, 16] (fun v1 v2 v3 v4 wr => ∃ k a b c : Nat, k ≤ 18 ∧ pv l n X k = (a, b, c) ∧ v1 = .int .i64 c ∧ v2 = .int .i64 a ∧ v3 = .int .i64 b ∧ v4 = .int .i64 k ∧ Below w3.heap.size w3 wr) (fun _ _ _ v4 _ => 18 - (intOf v4).toNat)
  case atStart => exact ⟨0, 0, 0, 6, by omega, rfl, rfl, rfl, rfl, rfl, Below.refl _ _⟩
  case round =>
    obtain ⟨k, a, b, c', hk18, hpv, rfl, rfl, rfl, rfl, hb⟩ := hrel
    have HB := Lib.hid hb
    clear hb
    by_cases hlt : k ≤ 17
    · have hand := and_mask X k hX (by omega)
      have hXm : X % 2 ^ k < big := Nat.lt_of_le_of_lt (Nat.mod_le _ _) hX
      have HM := Lib.hid (fun w => mask_nat k w (by omega))
      have HLA := Lib.hid (fun w H => hlook_any T p m N n f X k G D l w HF.out hf1 hf2 hX (by omega) H)
      have HLB := Lib.hid (fun w H => hlook_any T' p' m' N' n g (X % 2 ^ k) k G' D' l w HF.out hg1 hg2 hXm (by omega) H)
      rw [lk_low (by omega)] at HLB
      obtain ⟨Y, hY⟩ : ∃ Y, X % 2 ^ k = Y := ⟨_, rfl⟩
      obtain ⟨K, hK⟩ : ∃ K, mk k = K := ⟨_, rfl⟩
      rw [hY] at HLB hand
      rw [hK] at HM hand
      have hpc := pv_cases (X := X) (k := k) HT.out
      have HNX := Lib.hid (show pv l n X (k + 1) = lk l n X k by unfold pv; rw [if_neg (by omega)]; rfl)
      rw [hpv] at hpc
      simp only [Prod.mk.injEq] at hpc
      clear hpv hY hK hXm
      rcases hpc with ⟨i, z, hk, hi, hz15, hzk, ⟨rfl, rfl, rfl⟩ | ⟨rfl, rfl, rfl⟩⟩ | ⟨hk, rfl, rfl, rfl⟩ | ⟨hk, ⟨rfl, rfl, rfl⟩ | ⟨rfl, rfl, rfl⟩⟩
      case' inl.inl => have dz : decide ((k : Int) < (z : Int)) = false := decide_eq_false (by omega)
      case' inl.inl => have dz2 : decide (k < z) = false := decide_eq_false (by omega)
      case' inl.inr => have dz : decide ((k : Int) < (b : Int)) = false := decide_eq_false (by omega)
      case' inl.inr => have dz2 : decide (k < b) = false := decide_eq_false (by omega)
      all_goals (
        rw [hk] at HLA HLB HNX
        dsimp only at HLA HLB
        clear hk
        go_wp2_with fail
        refine (HLA.out _ (P3.out.below HB.out)).mono ?_; rintro e w4 ⟨rfl, b4⟩
        have B4 := Lib.hid (HB.out.trans (b4.mono HB.out.size))
        clear b4
        go_wp2_with fail
        refine (HM.out _).mono ?_; rintro e w5 ⟨rfl, rfl⟩
        go_wp2_with fail
        refine (HLB.out _ (Q3.out.below B4.out)).mono ?_; rintro e w5 ⟨rfl, b5⟩
        have B5 := Lib.hid (B4.out.trans (b5.mono B4.out.size))
        clear b5
        go_wp2_with fail
        go_roundw
        case rel => exact ⟨k + 1, _, _, _, by omega, HNX.out, by first | rfl | go_num, by first | rfl | go_num, by first | rfl | go_num, by go_num, B5.out⟩
        case measure => simp [intOf]; omega)
    · obtain rfl : k = 18 := by omega
      have hc6 : c' ≠ 6 := by
        have := lk_all (l := l) (n := n) (X := X) (h := 17) HF.out (by omega)
        rw [show lk l n X 17 = (a, b, c') from hpv] at this
        exact this
      have dc : ((c' : Int) != 6) = true := by rw [bne_iff_ne]; omega
      have dc2 : ((c' : Int) == 6) = false := by rw [beq_eq_false_iff_ne]; omega
      have hn' : n ≤ 9223372036854775807 := by omega
      have hms : ∀ j, j ≤ n → mst l j ≤ 15 := fun j hj => mst_le j (fun i hi => HF.out.1.2 i (by omega))
      have HMS := Lib.hid hms
      clear hms hpv hc6
      go_wp2_with fail
      go_loopw [23, 24] (fun v1 v2 wr => ∃ j : Nat, j ≤ n ∧ v2 = .int .i64 j ∧ v1 = .int .i64 (mst l j) ∧ Below w3.heap.size w3 wr) (fun _ v2 _ => n - (intOf v2).toNat)
      case atStart => exact ⟨0, Nat.zero_le _, rfl, rfl, HB.out⟩
      case round =>
        obtain ⟨j, hj, rfl, rfl, hb⟩ := hrel
        have HBj := Lib.hid hb
        clear hb
        by_cases hlt2 : j < n
        · obtain ⟨b0, o0, rfl, hbs, hc⟩ := HH.out (by omega)
          have BB := Lib.hid (B3.out.trans (HBj.out.mono B3.out.size))
          have hcell : wr.cell? ⟨b0, o0 + j, none⟩ = some (.int .u8 (l j)) := (BB.out.cell hbs).trans (hc j hlt2)
          have h15 := HF.out.1.2 j hlt2
          have hm15 := HMS.out j (by omega)
          have hjj : ((j : Int)).toNat = j := by omega
          have HNX := Lib.hid (show mst l (j + 1) = max (mst l j) (l j) from rfl)
          obtain ⟨z, hz⟩ : ∃ z, l j = z := ⟨_, rfl⟩
          obtain ⟨y, hy⟩ : ∃ y, mst l j = y := ⟨_, rfl⟩
          rw [hz] at hcell h15 HNX
          rw [hy] at hm15 HNX ⊢
          obtain ⟨M, hM⟩ : ∃ M, max y z = M := ⟨_, rfl⟩
          rw [hM] at HNX
          have hmx : (if (y : Int) < (z : Int) then (z : Int) else (y : Int)) = (M : Int) := by split <;> omega
          have hmx2 : (if y < z then (z : Int) else (y : Int)) = (M : Int) := by split <;> omega
          clear hc
          go_wp2_with fail
          go_roundw
          case rel => exact ⟨j + 1, by omega, by go_num, by rw [HNX.out]; first | rfl | go_num, HBj.out⟩
          case measure => simp [intOf]; omega
        · obtain rfl : j = n := by omega
          have hm15 := HMS.out j (Nat.le_refl _)
          have hcf := cells_few (l := l) (n := j) hf1
          have hcl := cells_le (l := l) (n := j) hf2 HF.out.1
          have HC := Lib.hid (fun w H => hcells_any T p m N j f G D l w HF.out.1 hf1 hf2 H)
          obtain ⟨M, hM⟩ : ∃ M, mst l j = M := ⟨_, rfl⟩
          obtain ⟨C, hC⟩ : ∃ C, cells l j f = C := ⟨_, rfl⟩
          rw [hM] at hm15 hcf ⊢
          rw [hC] at hcf hcl HC
          have dle := few_cells hm15 hf2 hcf
          clear hcf hcl hC hM
          go_wp2_with fail
          refine (HC.out _ (P3.out.below HBj.out)).mono ?_; rintro e w8 ⟨rfl, b8⟩
          have B8 := Lib.hid (HBj.out.trans (b8.mono HBj.out.size))
          clear b8
          go_wp2_with fail
          refine (alive_any _).mono ?_; rintro e w9 ⟨rfl, b9⟩
          have B9 := Lib.hid (B8.out.trans (b9.mono B8.out.size))
          clear b9
          go_wp2_with fail
          go_ret
          exact ⟨rfl, B3.out.trans (B9.out.mono B3.out.size)⟩

theorem HuffAlike_walk (a0 : Option Addr) (len0 cap0 : Nat) (z0 : List Int) (a1 a2 a3 : Int) (w : World) (w0 : IsRow .u8 w a0 len0 cap0 z0) (w1 : (Lit.int .u8 a1).wf = true) (w2 : (Lit.int .u8 a2).wf = true) (w3 : (Lit.int .u64 a3).wf = true) :
    Calls Try.prog 5 #[.slice a0 len0 cap0, .int .u8 a1, .int .u8 a2, .int .u64 a3] w fun e w' => e = .returned (.bool true) ∧ Below w.heap.size w w' := by
  have h0 := w0.most
  obtain ⟨q1, q2⟩ := w0.nat8
  obtain ⟨o, rfl, ho⟩ := u8_nat w1
  obtain ⟨t, rfl, ht⟩ := u8_nat w2
  obtain ⟨X, rfl, hX⟩ := u64_nat w3
  by_cases h : 330 < len0
  · exact alike_far _ _ _ _ _ _ w (by omega) h
  · by_cases he : nerr (nat8 z0) len0 ((o % 12 + 1 : Nat) : Int) = 0
    · exact alike_some a0 len0 cap0 _ o t X _ _ w (by omega) q1 q2 ho ht hX rfl rfl (nerr_ok he).2
    · exact alike_none a0 len0 cap0 _ o t X _ _ w (by omega) q1 q2 ho ht rfl rfl he
end Go.Proofs.Ytnkkccieidlacaa
