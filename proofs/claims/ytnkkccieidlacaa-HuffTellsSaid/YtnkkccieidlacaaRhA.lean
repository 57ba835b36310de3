/- What the document's bit, Writes and New of layer 7 answer. Conditions: as each theorem names them. -/
import Derived.Test.YtnkkccieidlacaaAli
import Derived.Test.YtnkkccieidlacaaCnG
import Derived.Test.YtnkkccieidlacaaCnD
namespace Go.Proofs.Ytnkkccieidlacaa
open Go.RowKit M
set_option linter.unusedVariables false
set_option linter.unusedSimpArgs false

/-- a bit of a row -/
theorem rbit_any (X k : Nat) (W : World) (hX : X < big) (hk : k ≤ 15) :
    Calls Try.prog 39 #[.int .u64 X, .int .i64 k] W fun e w' => e = .returned (.int .u32 ((X / 2 ^ k % 2 : Nat) : Int)) ∧ W = w' := by
  have h2 : (0 : Int) ≤ (k : Int) := by omega
  have HV : Hid (((X : Int) / 2 ^ k).tmod 2 = ((X / 2 ^ k % 2 : Nat) : Int)) := Lib.hid (by
    have e : (X : Int) / 2 ^ k = ((X / 2 ^ k : Nat) : Int) := by push_cast; rfl
    rw [e, Int.tmod_eq_emod_of_nonneg (Int.natCast_nonneg _)]; rfl)
  have hb : X / 2 ^ k % 2 ≤ 1 := by omega
  go_enter Try.func39, Try.ntmps39
  go_wp2_with fail
  go_ret
  refine ⟨congrArg (fun q => Ending.returned (.int .u32 q)) ?_, rfl⟩
  rw [HV.out]
  generalize X / 2 ^ k % 2 = q at hb ⊢
  omega

theorem rc_half {l : Nat → Nat} {n i j : Nat} (hj : j < l i) : 2 * (rc l n i / 2 ^ (j + 1)) + cod l n i / 2 ^ (l i - 1 - j) % 2 = rc l n i / 2 ^ j := by
  have h := rv_bit (N := cod l n i) (K := l i) (k := j) hj
  rw [← h]
  show 2 * (rc l n i / 2 ^ (j + 1)) + rc l n i / 2 ^ j % 2 = rc l n i / 2 ^ j
  rw [Nat.pow_succ, ← Nat.div_div_eq_div_mul]
  omega

set_option maxRecDepth 1000000 in
theorem rwrites_err (A : Option Addr) (n c : Nat) (l : Nat → Nat) (W : World) (hn : n ≤ maxLen) (hl : ∀ i, l i ≤ 255) (H : Nums W .u8 A n (fun i => (l i : Int))) (E : Nat) (hE : erc l n = E) (h0 : E ≠ 0) (f g : Nat → Nat) :
    Calls Try.prog 12 #[.slice A n c] W (GotC W 0 f g E) := by
  have HC := Lib.hid (rcodes_any A n c l W hn hl H)
  rw [hE] at HC
  have e0 : ((E : Int) != 0) = true := by rw [bne_iff_ne]; omega
  have e1 : ((E : Int) == 0) = false := by rw [beq_eq_false_iff_ne]; omega
  clear H hl
  go_enter Try.func12, Try.ntmps12
  go_wp2_with fail
  refine HC.out.mono ?_; rintro e w1 ⟨A1, c1, rfl, hc1, hc2, hcd, b1, _⟩
  have B1 := Lib.hid b1
  clear b1 hcd
  go_wp2_with fail
  go_ret2
  exact ⟨none, 0, rfl, Nat.le_refl _, by omega, Cods.nil _ _ _ _, B1.out, fun h => absurd h (by omega)⟩

set_option maxRecDepth 1000000 in
set_option maxHeartbeats 1000000 in
theorem rwrites_ok (A : Option Addr) (n c : Nat) (l : Nat → Nat) (W : World) (hl : ∀ i, l i ≤ 255) (H : Nums W .u8 A n (fun i => (l i : Int))) (hfit : Fit l n) (he : erc l n = 0) :
    Calls Try.prog 12 #[.slice A n c] W (GotC W n (rc l n) l 0) := by
  have h320 := hfit.1.1
  have hn : n ≤ maxLen := by unfold maxLen; omega
  have HC := Lib.hid (rcodes_any A n c l W hn hl H)
  have ho : outn l n = n := by unfold outn; rw [if_pos he]
  rw [he, ho] at HC
  have HF := Lib.hid hfit
  have hmk := fun w => madeCode w n (by omega)
  clear H hl hfit he ho
  go_enter Try.func12, Try.ntmps12
  go_wp2_with fail
  refine HC.out.mono ?_; rintro e w1 ⟨A1, c1, rfl, hc1, hc2, hcd, b1, _⟩
  have B1 := Lib.hid b1
  have C1 := Lib.hid hcd
  clear b1 hcd
  go_wp2_with fail
  clear hmk
  go_loopw [7] (fun iv wr => ∃ i : Nat, i ≤ n ∧ iv = .int .i64 i ∧ Crow wr w1.heap.size n (fun j => if j < i then rc l n j else 0) (fun j => if j < i then l j else 0) ∧ Below w1.heap.size w1 wr) (fun iv _ => n - (intOf iv).toNat)
  case atStart =>
    exact ⟨0, Nat.zero_le _, rfl, (Crow.made w1 n).congr (fun i hi => by simp) (fun i hi => by simp), (Below.refl _ _).alloc (Nat.le_refl _) _⟩
  case round =>
    obtain ⟨i, hi, rfl, hr, hb⟩ := hrel
    have HR := Lib.hid hr
    have HB := Lib.hid hb
    have hbs := hb.size
    clear hr hb
    by_cases hlt : i < n
    · obtain ⟨b, o, rfl, hbs1, hcc⟩ := C1.out (by omega)
      have g1 := (HB.out.cell (p := ⟨b, o + i * 2, none⟩) hbs1).trans (hcc i hlt).1
      have g2 := (HB.out.cell (p := ⟨b, o + i * 2 + 1, none⟩) hbs1).trans (hcc i hlt).2
      have h15 := HF.out.1.2 i hlt
      have hcs := cod_small HF.out.1 HF.out.2 hlt
      have hrs := rc_small (l := l) (n := n) (i := i) h15
      have hrl := rc_lt l n i
      have HH := Lib.hid (fun j (hj : j < l i) => rc_half (n := n) hj)
      have hii : ((i : Int)).toNat = i := by omega
      obtain ⟨R, hR⟩ : ∃ R, rc l n i = R := ⟨_, rfl⟩
      obtain ⟨y, hy⟩ : ∃ y, cod l n i = y := ⟨_, rfl⟩
      obtain ⟨z, hz⟩ : ∃ z, l i = z := ⟨_, rfl⟩
      rw [hR, hy, hz] at HH
      rw [hy] at g1 hcs
      rw [hz] at g2 h15 hrl
      rw [hR] at hrs hrl
      have HRn := Lib.hid hR
      have HZn := Lib.hid hz
      have hbw : b < wr.heap.size := by omega
      clear hcc hR hy hz
      go_wp2_with fail
      go_loopw [8, 9] (fun v8 v9 w2 => ∃ j : Nat, j ≤ z ∧ v9 = .int .i64 ((j : Int) - 1) ∧ v8 = .int .u32 (R / 2 ^ j : Nat) ∧ Below wr.heap.size wr w2) (fun _ v9 _ => ((intOf v9) + 1).toNat)
      case atStart => exact ⟨z, Nat.le_refl _, rfl, by rw [Nat.div_eq_of_lt hrl]; rfl, Below.refl _ _⟩
      case round =>
        obtain ⟨j, hj, rfl, rfl, hb2⟩ := hrel
        have HB2 := Lib.hid hb2
        have q1 : _ := (hb2.cell (p := ⟨b, o + i * 2, none⟩) hbw).trans g1
        have q2 : _ := (hb2.cell (p := ⟨b, o + i * 2 + 1, none⟩) hbw).trans g2
        clear hb2
        rcases Nat.eq_zero_or_pos j with rfl | hj0
        · rw [Nat.pow_zero, Nat.div_one]
          have hf1 := (HR.out.below HB2.out HR.out.lt).frozen (i * 2)
          have hf2 := (HR.out.below HB2.out HR.out.lt).frozen (i * 2 + 1)
          have hr1 := (HR.out.below HB2.out HR.out.lt).cell1 hlt
          have hr2 := (HR.out.below HB2.out HR.out.lt).cell2 hlt
          rw [if_neg (Nat.lt_irrefl i)] at hr1 hr2
          have HCr := Lib.hid ((HR.out.below HB2.out HR.out.lt).set i R z)
          have HBr := Lib.hid ((HB.out.trans (HB2.out.mono HB.out.size)))
          go_wp2_with fail
          go_roundw
          case rel =>
            refine ⟨i + 1, by omega, by go_num, HCr.out.congr (fun k hk => ?_) (fun k hk => ?_), (HBr.out.setCell (Nat.le_refl _) _).setCell (Nat.le_refl _) _⟩
            · by_cases e : k = i
              · rw [if_pos e, if_pos (by omega), e, HRn.out]
              · rw [if_neg e]
                by_cases e2 : k < i
                · rw [if_pos e2, if_pos (by omega)]
                · rw [if_neg e2, if_neg (by omega)]
            · by_cases e : k = i
              · rw [if_pos e, if_pos (by omega), e, HZn.out]
              · rw [if_neg e]
                by_cases e2 : k < i
                · rw [if_pos e2, if_pos (by omega)]
                · rw [if_neg e2, if_neg (by omega)]
          case measure => simp [intOf]; omega
        · obtain ⟨j', rfl⟩ : ∃ j', j = j' + 1 := ⟨j - 1, by omega⟩
          rw [show ((j' + 1 : Nat) : Int) - 1 = (j' : Int) by omega]
          have hh := HH.out j' (by omega)
          have hu : R / 2 ^ (j' + 1) ≤ R := Nat.div_le_self _ _
          have HBT := Lib.hid (fun w => bit_any y z j' w (by omega) h15 (by omega))
          obtain ⟨bt, hbt⟩ : ∃ bt, y / 2 ^ (z - 1 - j') % 2 = bt := ⟨_, rfl⟩
          obtain ⟨u, hun⟩ : ∃ u, R / 2 ^ (j' + 1) = u := ⟨_, rfl⟩
          obtain ⟨u', hun'⟩ : ∃ u', R / 2 ^ j' = u' := ⟨_, rfl⟩
          have hbt1 : bt ≤ 1 := by omega
          rw [hbt] at HBT
          rw [hbt, hun, hun'] at hh
          rw [hun] at hu ⊢
          have HU := Lib.hid hun'
          clear hbt hun hun'
          go_wp2_with fail
          refine (HBT.out _).mono ?_; rintro e w3 ⟨rfl, b3⟩
          have B3 := Lib.hid (HB2.out.trans (b3.mono HB2.out.size))
          clear b3
          go_wp2_with fail
          go_roundw
          case rel => exact ⟨j', by omega, by go_num, by rw [HU.out]; go_num, B3.out⟩
          case measure => simp [intOf]
    · obtain rfl : i = n := by omega
      have HR2 := Lib.hid (HR.out.congr (F' := rc l i) (G' := l) (fun k hk => by rw [if_pos hk]) (fun k hk => by rw [if_pos hk]))
      go_wp2_with fail
      go_ret2
      exact ⟨_, _, rfl, Nat.le_refl _, by omega, HR2.out.cods, B1.out.trans (HB.out.mono B1.out.size), fun _ => ⟨_, rfl, B1.out.size, HR2.out⟩⟩

theorem rwrites_any (A : Option Addr) (n c : Nat) (l : Nat → Nat) (W : World) (hn : n ≤ maxLen) (hl : ∀ i, l i ≤ 255) (H : Nums W .u8 A n (fun i => (l i : Int))) :
    Calls Try.prog 12 #[.slice A n c] W (GotC W (outn l n) (rc l n) l (erc l n : Nat)) := by
  rcases erc_of (l := l) (n := n) with ⟨h1, h2, h3⟩ | ⟨h1, h2, h3⟩ | ⟨h1, h1', h2, h3⟩
  · rw [h2, h3]; exact rwrites_err A n c l W hn hl H 2 h2 (by decide) _ _
  · rw [h2, h3]; exact rwrites_err A n c l W hn hl H 7 h2 (by decide) _ _
  · rw [h2, h3]; exact rwrites_ok A n c l W hl H (kind_fits h1 h1') h2

/-- The document's table at block p: its codes, how many bits the first one takes. -/
structure Rh (w : World) (p : Nat) (A : Option Addr) (n c : Nat) (l : Nat → Nat) (f : Nat) : Prop where
  c0 : w.cell? ⟨p, 0, none⟩ = some (.slice A n c)
  c1 : w.cell? ⟨p, 1, none⟩ = some (.int .i64 f)
  cods : Cods w A n (cod l n) l
theorem Rh.below {w w' : World} {p : Nat} {A : Option Addr} {n c : Nat} {l : Nat → Nat} {f : Nat} (h : Rh w p A n c l f) (hb : Below w.heap.size w w') : Rh w' p A n c l f :=
  ⟨(hb.cell (World.block_lt_of_cell? _ _ h.c0)).trans h.c0, (hb.cell (World.block_lt_of_cell? _ _ h.c1)).trans h.c1, h.cods.below hb⟩

set_option maxRecDepth 1000000 in
theorem rnewh_no (A : Option Addr) (n c : Nat) (l : Nat → Nat) (x : Int) (W : World) (hn : n ≤ maxLen) (hl : ∀ i, l i ≤ 255) (H : Nums W .u8 A n (fun i => (l i : Int))) (h : nerr l n x ≠ 0) :
    Calls Try.prog 10 #[.slice A n c, .int .i64 x] W fun e w' => e = .returned (.tuple #[.pointer none, .int .i64 (nerr l n x : Nat)]) ∧ W = w' := by
  have HK := Lib.hid (rkind_any A n c l W hn hl H)
  have hk5 := kind_le l n
  have HE : Hid (nerr l n x = if ¬ (1 ≤ x ∧ x ≤ 15) ∨ kind l n = 5 then 2 else if kind l n = 4 ∨ kind l n = 3 then 7 else 0) := Lib.hid rfl
  obtain ⟨K, hK⟩ : ∃ K, kind l n = K := ⟨_, rfl⟩
  rw [hK] at HK HE hk5
  clear H hl
  by_cases a1 : x < 1
  · have : nerr l n x = 2 := by rw [HE.out, if_pos (.inl (by omega))]
    rw [this]
    clear this h
    go_enter Try.func10, Try.ntmps10
    go_wp2_with fail
    refine HK.out.mono ?_; rintro e w' ⟨rfl, rfl⟩
    go_wp2_with fail
    go_ret2
    exact ⟨rfl, rfl⟩
  · by_cases a2 : 15 < x
    · have : nerr l n x = 2 := by rw [HE.out, if_pos (.inl (by omega))]
      rw [this]
      clear this h
      go_enter Try.func10, Try.ntmps10
      go_wp2_with fail
      refine HK.out.mono ?_; rintro e w' ⟨rfl, rfl⟩
      go_wp2_with fail
      go_ret2
      exact ⟨rfl, rfl⟩
    · have d1 : decide (x < 1) = false := decide_eq_false a1
      have d2 : decide (15 < x) = false := decide_eq_false a2
      by_cases a3 : K = 5
      · have : nerr l n x = 2 := by rw [HE.out, if_pos (.inr a3)]
        rw [this]
        clear this h
        subst a3
        go_enter Try.func10, Try.ntmps10
        go_wp2_with fail
        refine HK.out.mono ?_; rintro e w' ⟨rfl, rfl⟩
        go_wp2_with fail
        go_ret2
        exact ⟨rfl, rfl⟩
      · by_cases a4 : K = 4 ∨ K = 3
        · have : nerr l n x = 7 := by rw [HE.out, if_neg (by omega), if_pos a4]
          rw [this]
          clear this h
          rcases a4 with rfl | rfl
          all_goals (
            go_enter Try.func10, Try.ntmps10
            go_wp2_with fail
            refine HK.out.mono ?_; rintro e w' ⟨rfl, rfl⟩
            go_wp2_with fail
            go_ret2
            exact ⟨rfl, rfl⟩)
        · exfalso; apply h; rw [HE.out, if_neg (by omega), if_neg a4]

set_option maxRecDepth 1000000 in
theorem rnewh_ok (A : Option Addr) (n c : Nat) (l : Nat → Nat) (f : Nat) (W : World) (hl : ∀ i, l i ≤ 255) (H : Nums W .u8 A n (fun i => (l i : Int))) (ht : Tbl l n) (h1 : 1 ≤ f) (hf : f ≤ 15) :
    Calls Try.prog 10 #[.slice A n c, .int .i64 f] W fun e w' => ∃ p A' c', e = .returned (.tuple #[.pointer (some ⟨p, 0, none⟩), .int .i64 0]) ∧ Rh w' p A' n c' l f ∧ Below W.heap.size W w' := by
  have h320 := ht.fit.1.1
  have hn : n ≤ maxLen := by unfold maxLen; omega
  have HK := Lib.hid (rkind_any A n c l W hn hl H)
  have HC := Lib.hid (rcodes_any A n c l W hn hl H)
  have he : erc l n = 0 ∧ outn l n = n := by
    rcases erc_of (l := l) (n := n) with ⟨a, _⟩ | ⟨a, _⟩ | ⟨_, _, a, b⟩
    · unfold Tbl at ht; omega
    · unfold Tbl at ht; omega
    · exact ⟨a, b⟩
  rw [he.1, he.2] at HC
  unfold Tbl at ht
  obtain ⟨K, hK⟩ : ∃ K, kind l n = K := ⟨_, rfl⟩
  rw [hK] at HK ht
  have e5 : ((K : Int) == 5) = false := by rw [beq_eq_false_iff_ne]; omega
  have e4 : ((K : Int) == 4) = false := by rw [beq_eq_false_iff_ne]; omega
  have e3 : ((K : Int) == 3) = false := by rw [beq_eq_false_iff_ne]; omega
  have d1 : decide ((f : Int) < 1) = false := decide_eq_false (by omega)
  have d2 : decide (15 < (f : Int)) = false := decide_eq_false (by omega)
  clear H hl he ht hK
  go_enter Try.func10, Try.ntmps10
  go_wp2_with fail
  refine HK.out.mono ?_; rintro e w' ⟨rfl, rfl⟩
  go_wp2_with fail
  refine HC.out.mono ?_; rintro e w1 ⟨A1, c1, rfl, hc1, hc2, hcd, b1, _⟩
  have B1 := Lib.hid b1
  have C1 := Lib.hid hcd
  clear b1 hcd
  go_wp2_with fail
  go_ret2
  exact ⟨_, A1, c1, rfl, ⟨by simp, by simp, C1.out.below ((Below.refl _ _).alloc (Nat.le_refl _) _)⟩, B1.out.alloc B1.out.size _⟩
end Go.Proofs.Ytnkkccieidlacaa
