/- CanonWhole returns true for any lengths and any row. Conditions: none. -/
import Derived.Test.YtgcdmgilgknneaaTel
import Derived.Test.YtgcdmgilgknneaaCnE
import Derived.Test.YtgcdmgilgknneaaMathH
namespace Go.Proofs.Ytgcdmgilgknneaa
open Go.RowKit M
set_option linter.unusedVariables false

theorem and32 (x y : Nat) (hx : x < 4294967296) (hy : y < 4294967296) : bits .and .u32 (x : Int) (y : Int) = ((x &&& y : Nat) : Int) := by
  have h1 : x &&& y ≤ x := Nat.and_le_left
  have e : ∀ a : Nat, a < 4294967296 → (BitVec.ofInt 32 (a : Int)).toNat = a := fun a ha => by
    rw [BitVec.toNat_ofInt]; omega
  show IntKind.u32.wrap ((BitVec.ofInt 32 (x : Int) &&& BitVec.ofInt 32 (y : Int)).toNat : Int) = _
  rw [BitVec.toNat_and, e x hx, e y hy, IntKind.wrap_u32]
  omega

theorem u16_nat {a : Int} (h : (Lit.int .u16 a).wf = true) : ∃ n : Nat, a = n ∧ n < 65536 := by
  have g : 0 ≤ a ∧ a ≤ 65535 := by simpa [Lit.wf, IntKind.min, IntKind.max, IntKind.signed, IntKind.bits] using h
  exact ⟨a.toNat, by omega, by omega⟩

theorem whole_far (A : Option Addr) (n c : Nat) (r : Int) (W : World) (hn : n ≤ maxLen) (h : 400 < n) :
    Calls Try.prog 5 #[.slice A n c, .int .u16 r] W fun e w' => e = .returned (.bool true) ∧ Below W.heap.size W w' := by
  have hv := Lib.hid (show longB n = true from decide_eq_true h)
  clear h
  go_enter Try.func5, Try.ntmps5
  go_wp2_with fail
  refine (long_any A n c _ hn).mono ?_; rintro e w1 ⟨rfl, rfl⟩
  rw [hv.out]
  go_wp2_with fail
  refine (alive_any _).mono ?_; rintro e w2 ⟨rfl, b2⟩
  go_wp2_with fail
  go_ret
  exact ⟨rfl, b2⟩
theorem whole_err (A : Option Addr) (n c : Nat) (l : Nat → Nat) (r : Int) (W : World) (hn : n ≤ 400) (hl : ∀ i, l i ≤ 255) (H : Nums W .u8 A n (fun i => (l i : Int))) (E : Nat) (he : erc l n = E) (hE : E ≠ 0) :
    Calls Try.prog 5 #[.slice A n c, .int .u16 r] W fun e w' => e = .returned (.bool true) ∧ Below W.heap.size W w' := by
  have hv := Lib.hid (show longB n = false from decide_eq_false (by omega))
  have HN := Lib.hid (show n ≤ maxLen by unfold maxLen; omega)
  have HL := Lib.hid hl
  have HA := Lib.hid H
  have HE := Lib.hid he
  have hE1 : ((E : Int) != 0) = true := by rw [bne_iff_ne]; omega
  clear hl H he hE
  go_enter Try.func5, Try.ntmps5
  go_wp2_with fail
  refine (long_any A n c _ HN.out).mono ?_; rintro e w1 ⟨rfl, rfl⟩
  rw [hv.out]
  go_wp2_with fail
  refine (codes_any A n c l _ HN.out HL.out HA.out).mono ?_; rintro e w1 ⟨A1, c1, rfl, m1, k1, g1, b1⟩
  rw [HE.out]
  have B1 := Lib.hid b1
  clear g1 b1 m1
  go_wp2_with fail
  refine (alive_any _).mono ?_; rintro e w2 ⟨rfl, b2⟩
  have B2 := Lib.hid (B1.out.trans (b2.mono B1.out.size))
  clear b2
  go_wp2_with fail
  go_ret
  exact ⟨rfl, B2.out⟩

/-- what a code begins, as the loop asks it -/
theorem hit_beg {l : Nat → Nat} {n r i : Nat} (h15 : l i ≤ 15) (h0 : l i ≠ 0) : begB (cod l n i) (l i) r 15 = decide (hit l n r i) := by
  unfold begB hit
  congr 1
  simp [h15, h0]

set_option maxHeartbeats 1000000 in
theorem whole_ok (A : Option Addr) (n c : Nat) (l : Nat → Nat) (x : Nat) (W : World) (hn : n ≤ 400) (hl : ∀ i, l i ≤ 255) (H : Nums W .u8 A n (fun i => (l i : Int))) (hx : x < 65536) (K : Nat) (hK : kind l n = K) (h5 : K ≠ 5) (h4 : K ≠ 4) :
    Calls Try.prog 5 #[.slice A n c, .int .u16 x] W fun e w' => e = .returned (.bool true) ∧ Below W.heap.size W w' := by
  obtain ⟨hm, hw⟩ := kind_fits (by rw [hK]; exact h5 : kind l n ≠ 5) (by rw [hK]; exact h4)
  have he : erc l n = 0 := by unfold erc; rw [if_neg (by omega), if_neg (by omega)]
  have hv := Lib.hid (show longB n = false from decide_eq_false (by omega))
  have HN := Lib.hid (show n ≤ maxLen by unfold maxLen; omega)
  have HL := Lib.hid hl
  have HA := Lib.hid H
  have HE := Lib.hid he
  have HO := Lib.hid (show outn l n = n by unfold outn; rw [if_pos he])
  have HM := Lib.hid hm
  have HW := Lib.hid hw
  have HK := Lib.hid hK
  obtain ⟨r, hr⟩ : ∃ r, x % 32768 = r := ⟨_, rfl⟩
  have hr15 : r < 32768 := by omega
  have hand : bits .and .u32 (x : Int) 32767 = (r : Int) := by
    have := and32 x 32767 (by omega) (by decide)
    rw [show (32767 : Nat) = 2 ^ 15 - 1 from rfl, Nat.and_two_pow_sub_one_eq_mod, show x % 2 ^ 15 = r from hr] at this
    exact this
  have hx' : x ≤ 65535 := by omega
  clear hl H he hm hw hK hr hx
  go_enter Try.func5, Try.ntmps5
  go_wp2_with fail
  refine (long_any A n c _ HN.out).mono ?_; rintro e w1 ⟨rfl, rfl⟩
  rw [hv.out]
  go_wp2_with fail
  refine (codes_any A n c l _ HN.out HL.out HA.out).mono ?_; rintro e w1 ⟨A1, c1, rfl, m1, k1, g1, b1⟩
  rw [HO.out] at m1 g1 ⊢
  rw [HE.out]
  have G1 := Lib.hid g1
  have B1 := Lib.hid b1
  clear g1 b1
  go_wp2_with fail
  obtain ⟨V, hV⟩ : ∃ V, (w1.alloc (.cells #[.int .u32 r, .int .u8 15] 40)).alloc (.cells #[.int .u32 32767, .int .u8 15] 40) = V := ⟨_, rfl⟩
  have c1' : V.cell? ⟨w1.heap.size, 0, none⟩ = some (.int .u32 r) := by rw [← hV]; simp
  have c2' : V.cell? ⟨w1.heap.size, 1, none⟩ = some (.int .u8 15) := by rw [← hV]; simp
  have c3' : V.cell? ⟨w1.heap.size + 1, 0, none⟩ = some (.int .u32 32767) := by rw [← hV]; simp
  have c4' : V.cell? ⟨w1.heap.size + 1, 1, none⟩ = some (.int .u8 15) := by rw [← hV]; simp
  have BV := Lib.hid (show Below w1.heap.size w1 V by rw [← hV]; exact ((Below.refl _ _).alloc (Nat.le_refl _) _).alloc (by simp) _)
  have GV := Lib.hid (G1.out.below BV.out)
  rw [hV]
  have C1 := Lib.hid c1'
  have C2 := Lib.hid c2'
  have C3 := Lib.hid c3'
  have C4 := Lib.hid c4'
  clear hV c1' c2' c3' c4'
  go_loopw [9, 10, 11] (fun x y i wr => ∃ k : Nat, k ≤ n ∧ i = .int .i64 k ∧ x = .int .i64 (hits l n r k) ∧ y = .int .i64 (hits l n 32767 k) ∧ Below V.heap.size V wr) (fun _ _ i _ => n - (intOf i).toNat)
  case atStart => exact ⟨0, Nat.zero_le _, rfl, rfl, rfl, Below.refl _ _⟩
  case round =>
    obtain ⟨k, hkn, rfl, rfl, rfl, hb⟩ := hrel
    have hh1 := hits_le l n r k
    have hh2 := hits_le l n 32767 k
    by_cases hlt : k < n
    · obtain ⟨b, o, rfl, hbs, hc⟩ := GV.out (by omega)
      have g5 := (hb.cell hbs).trans (hc k hlt).1
      have g6 := (hb.cell hbs).trans (hc k hlt).2
      have h15 := HM.out.2 k hlt
      have s1 := Lib.hid (show hits l n r (k + 1) = hits l n r k + if hit l n r k then 1 else 0 from rfl)
      have s2 := Lib.hid (show hits l n 32767 (k + 1) = hits l n 32767 k + if hit l n 32767 k then 1 else 0 from rfl)
      obtain ⟨u, hu⟩ : ∃ u, hits l n r k = u := ⟨_, rfl⟩
      obtain ⟨v, hv⟩ : ∃ v, hits l n 32767 k = v := ⟨_, rfl⟩
      rw [hu] at hh1 ⊢
      rw [hv] at hh2 ⊢
      have HU := Lib.hid hu
      have HV := Lib.hid hv
      clear hu hv
      by_cases h0 : l k = 0
      · have hn1 : ¬ hit l n r k := fun q => q.1 h0
        have hn2 : ¬ hit l n 32767 k := fun q => q.1 h0
        rw [h0] at g6
        have HB := Lib.hid hb
        have H1 := Lib.hid hn1
        have H2 := Lib.hid hn2
        clear hb hc h0 hn1 hn2
        go_wp2_with fail
        go_roundw
        case rel => exact ⟨k + 1, by omega, by go_num, congrArg (Value.int .i64) (by rw [s1.out, HU.out, if_neg H1.out]; rfl), congrArg (Value.int .i64) (by rw [s2.out, HV.out, if_neg H2.out]; rfl), HB.out⟩
        case measure => simp [intOf]; omega
      · obtain ⟨z, hz⟩ : ∃ z, l k = z := ⟨_, rfl⟩
        obtain ⟨y, hy⟩ : ∃ y, cod l n k = y := ⟨_, rfl⟩
        have hyz : y < 2 ^ z := by rw [← hy, ← hz]; exact cod_fit HM.out HW.out hlt
        have q1 := hit_beg (n := n) (r := r) h15 h0
        have q2 := hit_beg (n := n) (r := 32767) h15 h0
        rw [hz] at q1 q2 g6 h15 h0
        rw [hy] at q1 q2 g5
        have r1 := fun w => begins_any y z r 15 w hyz (Nat.lt_of_lt_of_le hr15 (by decide)) h15 (Nat.le_refl _)
        have r2 := fun w => begins_any y z 32767 15 w hyz (by decide) h15 (Nat.le_refl _)
        rw [q1] at r1
        rw [q2] at r2
        obtain ⟨t1, ht1⟩ : ∃ t, decide (hit l n r k) = t := ⟨_, rfl⟩
        obtain ⟨t2, ht2⟩ : ∃ t, decide (hit l n 32767 k) = t := ⟨_, rfl⟩
        rw [ht1] at r1
        rw [ht2] at r2
        have R1 : Hid (∀ w, Calls Try.prog 19 #[.agg #[.int .u32 y, .int .u8 z], .agg #[.int .u32 r, .int .u8 15]] w fun e w' => e = .returned (.bool t1) ∧ Below w.heap.size w w') := Lib.hid r1
        have R2 : Hid (∀ w, Calls Try.prog 19 #[.agg #[.int .u32 y, .int .u8 z], .agg #[.int .u32 32767, .int .u8 15]] w fun e w' => e = .returned (.bool t2) ∧ Below w.heap.size w w') := Lib.hid r2
        have HZ0 : ((z : Int) == 0) = false := by rw [beq_eq_false_iff_ne]; omega
        have g1 := (hb.cell (World.block_lt_of_cell? _ _ C1.out)).trans C1.out
        have g2 := (hb.cell (World.block_lt_of_cell? _ _ C2.out)).trans C2.out
        have g3 := (hb.cell (World.block_lt_of_cell? _ _ C3.out)).trans C3.out
        have g4 := (hb.cell (World.block_lt_of_cell? _ _ C4.out)).trans C4.out
        have HB := Lib.hid hb
        have T1 := Lib.hid ht1
        have T2 := Lib.hid ht2
        clear hb hc q1 q2 r1 r2 ht1 ht2 hz hy h0 hyz
        go_wp2_with fail
        go_region_held3 (fun w' => w'.cell? ⟨w1.heap.size, 0, none⟩ = some (.int .u32 r) ∧ w'.cell? ⟨w1.heap.size, 1, none⟩ = some (.int .u8 15) ∧ w'.cell? ⟨b, o + k * 2, none⟩ = some (.int .u32 y) ∧ w'.cell? ⟨b, o + k * 2 + 1, none⟩ = some (.int .u8 z)) (first | exact ⟨e1, e2, e5, e6⟩ | exact ⟨g1, g2, g5, g6⟩) (first
          | (go_at_call 19; (with_reducible refine (R1.out _).mono ?_); rintro e w3 ⟨rfl, b3⟩; have e1 := (b3.cell (World.block_lt_of_cell? _ _ g1)).trans g1; have e2 := (b3.cell (World.block_lt_of_cell? _ _ g2)).trans g2; have e3 := (b3.cell (World.block_lt_of_cell? _ _ g3)).trans g3; have e4 := (b3.cell (World.block_lt_of_cell? _ _ g4)).trans g4; have e5 := (b3.cell (World.block_lt_of_cell? _ _ g5)).trans g5; have e6 := (b3.cell (World.block_lt_of_cell? _ _ g6)).trans g6; have B3 := Lib.hid (HB.out.drew.trans (b3.mono HB.out.size)); clear b3))
        have e7 : ∀ a : Addr, a.block < wr.heap.size → True := fun _ _ => trivial
        clear e7
        cases t1
        all_goals (
          go_wp2_with fail
          go_region_held3 (fun w' => w'.cell? ⟨w1.heap.size + 1, 0, none⟩ = some (.int .u32 32767) ∧ w'.cell? ⟨w1.heap.size + 1, 1, none⟩ = some (.int .u8 15) ∧ w'.cell? ⟨b, o + k * 2, none⟩ = some (.int .u32 y) ∧ w'.cell? ⟨b, o + k * 2 + 1, none⟩ = some (.int .u8 z)) (first | exact ⟨f3, f4, f5, f6⟩ | exact ⟨e3, e4, e5, e6⟩) (first
            | (go_at_call 19; (with_reducible refine (R2.out _).mono ?_); rintro e w4 ⟨rfl, b4⟩; have f3 := (b4.cell (World.block_lt_of_cell? _ _ e3)).trans e3; have f4 := (b4.cell (World.block_lt_of_cell? _ _ e4)).trans e4; have f5 := (b4.cell (World.block_lt_of_cell? _ _ e5)).trans e5; have f6 := (b4.cell (World.block_lt_of_cell? _ _ e6)).trans e6; have B4 := Lib.hid (B3.out.drew.trans (b4.mono B3.out.size)); clear b4))
          cases t2
          all_goals (
            go_wp2_with fail
            go_roundw
            case rel => exact ⟨k + 1, by omega, by go_num, congrArg (Value.int .i64) (by rw [s1.out, HU.out]; first | (rw [if_pos (of_decide_eq_true T1.out)]; rfl) | (rw [if_neg (of_decide_eq_false T1.out)]; rfl)), congrArg (Value.int .i64) (by rw [s2.out, HV.out]; first | (rw [if_pos (of_decide_eq_true T2.out)]; rfl) | (rw [if_neg (of_decide_eq_false T2.out)]; rfl)), B4.out⟩
            case measure => simp [intOf]; omega))
    · obtain rfl : k = n := by omega
      have HB := Lib.hid hb
      clear hb
      have BW := Lib.hid ((B1.out.trans (BV.out.mono B1.out.size)).trans (HB.out.mono (Nat.le_trans B1.out.size BV.out.size)))
      have AW := Lib.hid (HA.out.below BW.out)
      have v1 := hits_all r HM.out
      have v2 := hits_all 32767 HM.out
      by_cases e2 : K = 2
      · have hw2 := kind_two (HK.out.trans e2)
        rw [hw2, if_pos hr15] at v1
        rw [hw2, if_pos (by decide)] at v2
        rw [v1, v2]
        have d2 : ((K : Int) == 2) = true := by rw [beq_iff_eq]; omega
        clear v1 v2 hw2 e2 h5 h4 hh1 hh2
        go_wp2_with fail
        refine (kind_any A k c l _ HN.out HL.out AW.out).mono ?_; rintro e w3 ⟨rfl, b3⟩
        rw [HK.out]
        have B3 := Lib.hid (BW.out.trans (b3.mono BW.out.size))
        clear b3
        go_wp2_with fail
        refine (alive_any _).mono ?_; rintro e w4 ⟨rfl, b4⟩
        have B4 := Lib.hid (B3.out.trans (b4.mono B3.out.size))
        clear b4
        go_wp2_with fail
        go_ret
        exact ⟨rfl, B4.out⟩
      · have hw3 := kind_part (show kind l k ≠ 5 by rw [HK.out]; exact h5) (show kind l k ≠ 4 by rw [HK.out]; exact h4) (show kind l k ≠ 2 by rw [HK.out]; exact e2)
        rw [if_neg (show ¬ 32767 < weight l k by omega)] at v2
        have d2 : ((K : Int) == 2) = false := by rw [beq_eq_false_iff_ne]; omega
        by_cases e0 : K = 0
        · have hw0 := kind_zero (HK.out.trans e0)
          rw [if_neg (show ¬ r < weight l k by omega)] at v1
          rw [v1, v2]
          have d0 : ((K : Int) == 0) = true := by rw [beq_iff_eq]; omega
          clear v1 v2 hw0 hw3 e0 e2 h5 h4 hh1 hh2
          go_wp2_with fail
          refine (kind_any A k c l _ HN.out HL.out AW.out).mono ?_; rintro e w3 ⟨rfl, b3⟩
          rw [HK.out]
          have B3 := Lib.hid (BW.out.trans (b3.mono BW.out.size))
          clear b3
          go_wp2_with fail
          refine (alive_any _).mono ?_; rintro e w4 ⟨rfl, b4⟩
          have B4 := Lib.hid (B3.out.trans (b4.mono B3.out.size))
          clear b4
          go_wp2_with fail
          go_ret
          exact ⟨rfl, B4.out⟩
        · have v1' : hits l k r k ≤ 1 := by rw [v1]; split <;> omega
          rw [v2]
          obtain ⟨u, hu⟩ : ∃ u, hits l k r k = u := ⟨_, rfl⟩
          rw [hu] at v1' ⊢
          have d0 : ((K : Int) == 0) = false := by rw [beq_eq_false_iff_ne]; omega
          have d1 : decide ((u : Int) ≤ 1) = true := decide_eq_true (by omega)
          clear v1 v2 hu hw3 e0 e2 h5 h4 hh1 hh2
          go_wp2_with fail
          refine (kind_any A k c l _ HN.out HL.out AW.out).mono ?_; rintro e w3 ⟨rfl, b3⟩
          rw [HK.out]
          have B3 := Lib.hid (BW.out.trans (b3.mono BW.out.size))
          clear b3
          go_wp2_with fail
          refine (alive_any _).mono ?_; rintro e w4 ⟨rfl, b4⟩
          have B4 := Lib.hid (B3.out.trans (b4.mono B3.out.size))
          clear b4
          go_wp2_with fail
          go_ret
          exact ⟨rfl, B4.out⟩

theorem CanonWhole_walk (a0 : Option Addr) (len0 cap0 : Nat) (z0 : List Int) (a1 : Int) (w : World) (w0 : IsRow .u8 w a0 len0 cap0 z0) (w1 : (Lit.int .u16 a1).wf = true) :
    Calls Try.prog 5 #[.slice a0 len0 cap0, .int .u16 a1] w fun e w' => e = .returned (.bool true) ∧ Below w.heap.size w w' := by
  have h0 := w0.most
  obtain ⟨x, rfl, hx⟩ := u16_nat w1
  by_cases h : 400 < len0
  · exact whole_far _ _ _ _ w (by omega) h
  · obtain ⟨q1, q2⟩ := w0.nat8
    by_cases h5 : kind (nat8 z0) len0 = 5
    · exact whole_err a0 len0 cap0 _ _ w (by omega) q1 q2 2 (by unfold erc; rw [if_pos h5]) (by decide)
    · by_cases h4 : kind (nat8 z0) len0 = 4
      · exact whole_err a0 len0 cap0 _ _ w (by omega) q1 q2 7 (by unfold erc; rw [if_neg h5, if_pos h4]) (by decide)
      · exact whole_ok a0 len0 cap0 _ x w (by omega) q1 q2 hx _ rfl h5 h4
end Go.Proofs.Ytgcdmgilgknneaa
