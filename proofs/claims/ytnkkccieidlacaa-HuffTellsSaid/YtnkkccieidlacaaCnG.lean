/- What the document's Codes of package canon answers. Conditions: as each theorem names them. -/
import Derived.Test.YtnkkccieidlacaaCnC
import Derived.Test.YtnkkccieidlacaaCnF
namespace Go.Proofs.Ytnkkccieidlacaa
open Go.RowKit M
set_option linter.unusedVariables false

theorem rcodes_bad_any (A : Option Addr) (n c : Nat) (l : Nat → Nat) (W : World) (hn : n ≤ maxLen) (hl : ∀ i, l i ≤ 255) (H : Nums W .u8 A n (fun i => (l i : Int))) (f g : Nat → Nat) (hk : kind l n = 5) :
    Calls Try.prog 33 #[.slice A n c] W (GotC W 0 f g 2) := by
  have hv := Lib.hid hk
  have HL := Lib.hid hl
  clear hk hl
  go_enter Try.func33, Try.ntmps33
  go_wp2_with fail
  refine (rkind_any A n c l _ hn HL.out H).mono ?_; rintro e w1 ⟨rfl, rfl⟩
  rw [hv.out]
  go_wp2_with fail
  go_ret2
  exact ⟨none, 0, rfl, Nat.le_refl _, by omega, Cods.nil _ _ _ _, Below.refl _ _, fun h => absurd h (by omega)⟩
theorem rcodes_over_any (A : Option Addr) (n c : Nat) (l : Nat → Nat) (W : World) (hn : n ≤ maxLen) (hl : ∀ i, l i ≤ 255) (H : Nums W .u8 A n (fun i => (l i : Int))) (f g : Nat → Nat) (hk : kind l n = 4) :
    Calls Try.prog 33 #[.slice A n c] W (GotC W 0 f g 7) := by
  have hv := Lib.hid hk
  have HL := Lib.hid hl
  clear hk hl
  go_enter Try.func33, Try.ntmps33
  go_wp2_with fail
  refine (rkind_any A n c l _ hn HL.out H).mono ?_; rintro e w1 ⟨rfl, rfl⟩
  rw [hv.out]
  go_wp2_with fail
  go_ret2
  exact ⟨none, 0, rfl, Nat.le_refl _, by omega, Cods.nil _ _ _ _, Below.refl _ _, fun h => absurd h (by omega)⟩

/-- is symbol i done, where k symbols of length m are -/
def dn (l : Nat → Nat) (m k i : Nat) : Prop := l i ≠ 0 ∧ (l i < m ∨ l i = m ∧ i < k)
instance (l : Nat → Nat) (m k i : Nat) : Decidable (dn l m k i) := inferInstanceAs (Decidable (l i ≠ 0 ∧ (l i < m ∨ l i = m ∧ i < k)))
/-- the codes that are done -/
def Fd (l : Nat → Nat) (n m k i : Nat) : Nat := if dn l m k i then cod l n i else 0
def Gd (l : Nat → Nat) (m k i : Nat) : Nat := if dn l m k i then l i else 0
/-- where the document's text stands: the last code x, its size, whether none was told -/
def RN (l : Nat → Nat) (n m k x sz : Nat) (b : Bool) : Prop :=
  ∃ nx, nx * 2 ^ (m - sz) = fs (c0 l n) m + cnt l m k ∧ sz ≤ m ∧ ((b = true ∧ x = nx ∧ nx = 0) ∨ (b = false ∧ nx = x + 1))

theorem RN.next {l : Nat → Nat} {n m x sz : Nat} {b : Bool} (h : RN l n m n x sz b) (h1 : 1 ≤ m) : RN l n (m + 1) 0 x sz b := by
  obtain ⟨nx, e, hs, hb⟩ := h
  refine ⟨nx, ?_, by omega, hb⟩
  rw [show m + 1 - sz = (m - sz) + 1 by omega, Nat.pow_succ, ← Nat.mul_assoc, e]
  have : c0 l n m = cnt l m n := by unfold c0; rw [if_neg (by omega)]
  simp only [fs, cnt]; rw [this]; omega
theorem RN.skip {l : Nat → Nat} {n m k x sz : Nat} {b : Bool} (h : RN l n m k x sz b) (hk : l k ≠ m) : RN l n m (k + 1) x sz b := by
  obtain ⟨nx, e, hs, hb⟩ := h
  refine ⟨nx, ?_, hs, hb⟩
  simp only [cnt]; rw [if_neg hk]; exact e
theorem RN.told {l : Nat → Nat} {n m k y : Nat} (hy : y = fs (c0 l n) m + cnt l m k) (hk : l k = m) : RN l n m (k + 1) y m false := by
  refine ⟨y + 1, ?_, Nat.le_refl _, .inr ⟨rfl, rfl⟩⟩
  simp only [cnt]; rw [if_pos hk, Nat.sub_self, Nat.pow_zero, Nat.mul_one, hy]; omega
theorem RN.start (l : Nat → Nat) (n : Nat) : RN l n 1 0 0 0 true := ⟨0, by simp [fs, c0, cnt], by omega, .inl ⟨rfl, rfl, rfl⟩⟩
theorem dn_next {l : Nat → Nat} {n m i : Nat} (hi : i < n) : dn l (m + 1) 0 i ↔ dn l m n i := by unfold dn; omega
theorem dn_skip {l : Nat → Nat} {m k i : Nat} (hk : l k ≠ m) : dn l m (k + 1) i ↔ dn l m k i := by
  unfold dn
  constructor
  · rintro ⟨a, b⟩
    refine ⟨a, ?_⟩
    rcases b with b | ⟨b, c⟩
    · exact .inl b
    · refine .inr ⟨b, ?_⟩
      by_cases e : i = k
      · subst e; exact absurd b hk
      · omega
  · rintro ⟨a, b⟩; exact ⟨a, by omega⟩
theorem dn_told {l : Nat → Nat} {m k i : Nat} (hk : l k = m) (h0 : m ≠ 0) : dn l m (k + 1) i ↔ (i = k ∨ dn l m k i) := by
  unfold dn
  constructor
  · rintro ⟨a, b⟩
    by_cases e : i = k
    · exact .inl e
    · exact .inr ⟨a, by omega⟩
  · rintro (rfl | ⟨a, b⟩)
    · exact ⟨by omega, .inr ⟨hk, by omega⟩⟩
    · exact ⟨a, by omega⟩
theorem dn_end {l : Nat → Nat} {i : Nat} (h : l i ≤ 15) : dn l 16 0 i ↔ l i ≠ 0 := by unfold dn; omega
theorem dn_start (l : Nat → Nat) (i : Nat) : ¬ dn l 1 0 i := by unfold dn; omega

set_option maxRecDepth 1000000 in
set_option maxHeartbeats 1000000 in
theorem rcodes_ok_any (A : Option Addr) (n c : Nat) (l : Nat → Nat) (W : World) (hl : ∀ i, l i ≤ 255) (H : Nums W .u8 A n (fun i => (l i : Int))) (hm : May l n) (hw : weight l n ≤ 32768) (K : Nat) (hk : kind l n = K) (k5 : K ≠ 5) (k4 : K ≠ 4) :
    Calls Try.prog 33 #[.slice A n c] W (GotC W n (cod l n) l 0) := by
  have h320 := hm.1
  have hv := Lib.hid hk
  have HL := Lib.hid hl
  have HM := Lib.hid hm
  have HW := Lib.hid hw
  have HN := Lib.hid (show n ≤ maxLen by unfold maxLen; omega)
  have d5 : ((K : Int) == 5) = false := by rw [beq_eq_false_iff_ne]; omega
  have d4 : ((K : Int) == 4) = false := by rw [beq_eq_false_iff_ne]; omega
  have HH := Lib.hid H
  clear hk hl hm hw k5 k4 H
  go_enter Try.func33, Try.ntmps33
  go_wp2_with fail
  refine (rkind_any A n c l _ HN.out HL.out HH.out).mono ?_; rintro e w1 ⟨rfl, rfl⟩
  rw [hv.out]
  have hmk := fun w => madeCode w n (by omega)
  go_wp2_with fail
  clear hmk
  go_loopw [5, 6, 7, 8] (fun x s b i wr => ∃ m X S : Nat, ∃ B : Bool, 1 ≤ m ∧ m ≤ 16 ∧ i = .int .i64 m ∧ x = .int .u32 X ∧ s = .int .i64 S ∧ b = .bool B ∧ RN l n m 0 X S B ∧ Crow wr W.heap.size n (Fd l n m 0) (Gd l m 0) ∧ Below W.heap.size W wr) (fun _ _ _ i _ => 16 - (intOf i).toNat)
  case atStart =>
    refine ⟨1, 0, 0, true, Nat.le_refl _, by omega, rfl, rfl, rfl, rfl, RN.start l n, ?_, (Below.refl _ _).alloc (Nat.le_refl _) _⟩
    exact (Crow.made W n).congr (fun i hi => by unfold Fd; rw [if_neg (dn_start l i)]) (fun i hi => by unfold Gd; rw [if_neg (dn_start l i)])
  case round =>
    obtain ⟨m, X, S, B, hm1, hm16, rfl, rfl, rfl, rfl, hrn, hr, hb⟩ := hrel
    have HR := Lib.hid hr
    have HB := Lib.hid hb
    have HRN := Lib.hid hrn
    clear hr hb hrn
    by_cases hm15 : m ≤ 15
    · go_wp2_with fail
      go_loopw [5, 6, 7, 9] (fun x s b i wr => ∃ k X S : Nat, ∃ B : Bool, k ≤ n ∧ i = .int .i64 k ∧ x = .int .u32 X ∧ s = .int .i64 S ∧ b = .bool B ∧ RN l n m k X S B ∧ Crow wr W.heap.size n (Fd l n m k) (Gd l m k) ∧ Below W.heap.size W wr) (fun _ _ _ i _ => n - (intOf i).toNat)
      case atStart => exact ⟨0, X, S, B, Nat.zero_le _, rfl, rfl, rfl, rfl, HRN.out, HR.out, HB.out⟩
      case round =>
        clear HR HB HRN
        obtain ⟨k, X, S, B, hkn, rfl, rfl, rfl, rfl, hrn, hr, hb⟩ := hrel
        by_cases hlt : k < n
        · obtain ⟨b, o, rfl, hbs, hc⟩ := HH.out (by omega)
          have hcell : wr.cell? ⟨b, o + k, none⟩ = some (.int .u8 (l k)) := (hb.cell hbs).trans (hc k hlt)
          have h15 := HM.out.2 k hlt
          obtain ⟨x, hx⟩ : ∃ x, l k = x := ⟨_, rfl⟩
          rw [hx] at hcell h15
          have HX := Lib.hid hx
          clear hc hx
          by_cases hxm : x = m
          · have hsm : ((x : Int) != (m : Int)) = false := by rw [bne_eq_false_iff_eq]; omega
            have hf1 := hr.frozen (k * 2)
            have hf2 := hr.frozen (k * 2 + 1)
            have hr1 := hr.cell1 hlt
            have hr2 := hr.cell2 hlt
            obtain ⟨q1, hq1⟩ : ∃ q, Fd l n m k k = q := ⟨_, rfl⟩
            obtain ⟨q2, hq2⟩ : ∃ q, Gd l m k k = q := ⟨_, rfl⟩
            rw [hq1] at hr1
            rw [hq2] at hr2
            have hrf := ref_next HM.out HW.out hm1 hm15 hkn
            have hpm : 2 ^ m ≤ 2 ^ 15 := Nat.pow_le_pow_right (by omega) hm15
            have hcd : cod l n k = fs (c0 l n) m + cnt l m k := by unfold cod; rw [HX.out, if_neg (by omega), hxm]
            obtain ⟨nx, e, hs, hbb⟩ := hrn
            obtain ⟨V, hV⟩ : ∃ V, fs (c0 l n) m + cnt l m k = V := ⟨_, rfl⟩
            rw [hV] at hrf hcd e
            have hle : nx ≤ V := by
              rw [← e]
              exact Nat.le_mul_of_pos_right _ (Nat.two_pow_pos _)
            have hV32 : V ≤ 32768 := by omega
            have HR := Lib.hid hr
            have HB := Lib.hid hb
            have HV := Lib.hid hV
            have HXM := Lib.hid hxm
            have HCD := Lib.hid hcd
            have HE := Lib.hid e
            clear hr hb hV hxm hcd e hrf hpm hq1 hq2
            rcases hbb with ⟨rfl, rfl, h0⟩ | ⟨rfl, rfl⟩
            case' inl => clear h0
            all_goals (
              go_wp2_with fail
              go_loop [5, 6] (fun y j => ∃ J Y : Nat, S ≤ J ∧ J ≤ m ∧ j = .int .i64 J ∧ y = .int .u32 Y ∧ Hid (Y * 2 ^ (m - J) = V)) (fun _ j => m - (intOf j).toNat)
              case atStart => exact ⟨S, _, Nat.le_refl _, hs, rfl, by first | rfl | go_num, HE⟩
              case round =>
                obtain ⟨J, Y, hSJ, hJm, rfl, rfl, hY⟩ := hrel
                have hYle : Y ≤ V := by
                  rw [← hY.out]
                  exact Nat.le_mul_of_pos_right _ (Nat.two_pow_pos _)
                by_cases hJ : J < m
                · have hnext : 2 * Y * 2 ^ (m - (J + 1)) = V := by
                    have := hY.out
                    rw [show m - J = (m - (J + 1)) + 1 by omega, Nat.pow_succ] at this
                    rw [← this, Nat.mul_comm 2 Y, Nat.mul_assoc, Nat.mul_comm 2]
                  have hY2 : 2 * Y ≤ V := by
                    rw [← hnext]
                    exact Nat.le_mul_of_pos_right _ (Nat.two_pow_pos _)
                  have HN2 := Lib.hid hnext
                  clear hnext
                  go_wp2_with fail
                  go_round
                  case rel => exact ⟨J + 1, 2 * Y, by omega, by omega, by go_num, by go_num, HN2⟩
                  case measure => simp [intOf]; omega
                · obtain rfl : J = m := by omega
                  have hYV : Y = V := by
                    have := hY.out
                    rwa [Nat.sub_self, Nat.pow_zero, Nat.mul_one] at this
                  subst hYV
                  go_wp2_with fail
                  go_roundw
                  case rel =>
                    refine ⟨k + 1, Y, J, false, by omega, by go_num, rfl, rfl, rfl, RN.told HV.out.symm (HX.out.trans HXM.out), ?_, (HB.out.setCell (by simp) _).setCell (by simp) _⟩
                    refine (HR.out.set k Y x).congr (fun i hi => ?_) (fun i hi => ?_)
                    · have hd := dn_told (i := i) (HX.out.trans HXM.out) (by omega)
                      unfold Fd
                      by_cases e : i = k
                      · rw [if_pos e, if_pos (hd.2 (.inl e)), e, HCD.out]
                      · rw [if_neg e]
                        by_cases e2 : dn l J k i
                        · rw [if_pos e2, if_pos (hd.2 (.inr e2))]
                        · rw [if_neg e2, if_neg (fun q => by rcases hd.1 q with q | q; exact e q; exact e2 q)]
                    · have hd := dn_told (i := i) (HX.out.trans HXM.out) (by omega)
                      unfold Gd
                      by_cases e : i = k
                      · rw [if_pos e, if_pos (hd.2 (.inl e)), e, HX.out]
                      · rw [if_neg e]
                        by_cases e2 : dn l J k i
                        · rw [if_pos e2, if_pos (hd.2 (.inr e2))]
                        · rw [if_neg e2, if_neg (fun q => by rcases hd.1 q with q | q; exact e q; exact e2 q)]
                  case measure => simp [intOf]; omega)
          · have hsm : ((x : Int) != (m : Int)) = true := by rw [bne_iff_ne]; omega
            have HR := Lib.hid hr
            have HB := Lib.hid hb
            have HRN := Lib.hid hrn
            have HXM := Lib.hid hxm
            clear hr hb hrn hxm
            go_wp2_with fail
            go_roundw
            case rel =>
              have hne : l k ≠ m := by rw [HX.out]; exact HXM.out
              refine ⟨k + 1, X, S, B, by omega, by go_num, rfl, rfl, rfl, HRN.out.skip hne, HR.out.congr (fun i hi => ?_) (fun i hi => ?_), HB.out⟩
              · unfold Fd; simp only [dn_skip hne]
              · unfold Gd; simp only [dn_skip hne]
            case measure => simp [intOf]; omega
        · obtain rfl : k = n := by omega
          have HR := Lib.hid hr
          have HB := Lib.hid hb
          have HRN := Lib.hid hrn
          clear hr hb hrn
          go_wp2_with fail
          go_roundw
          case rel =>
            refine ⟨m + 1, X, S, B, by omega, by omega, by go_num, rfl, rfl, rfl, HRN.out.next hm1, HR.out.congr (fun i hi => ?_) (fun i hi => ?_), HB.out⟩
            · unfold Fd; simp only [dn_next hi]
            · unfold Gd; simp only [dn_next hi]
          case measure => simp [intOf]; omega
    · obtain rfl : m = 16 := by omega
      have HR2 := Lib.hid (HR.out.congr (F' := cod l n) (G' := l) (fun i hi => by
        unfold Fd
        by_cases e : l i = 0
        · rw [if_neg (fun q => q.1 e)]; unfold cod; rw [if_pos e]
        · rw [if_pos ((dn_end (HM.out.2 i hi)).2 e)]) (fun i hi => by
        unfold Gd
        by_cases e : l i = 0
        · rw [if_neg (fun q => q.1 e), e]
        · rw [if_pos ((dn_end (HM.out.2 i hi)).2 e)]))
      go_wp2_with fail
      go_ret2
      exact ⟨_, _, rfl, Nat.le_refl _, by omega, HR2.out.cods, HB.out, fun _ => ⟨_, rfl, Nat.le_refl _, HR2.out⟩⟩

theorem rcodes_any (A : Option Addr) (n c : Nat) (l : Nat → Nat) (W : World) (hn : n ≤ maxLen) (hl : ∀ i, l i ≤ 255) (H : Nums W .u8 A n (fun i => (l i : Int))) :
    Calls Try.prog 33 #[.slice A n c] W (GotC W (outn l n) (cod l n) l (erc l n : Nat)) := by
  rcases erc_of (l := l) (n := n) with ⟨h1, h2, h3⟩ | ⟨h1, h2, h3⟩ | ⟨h1, h1', h2, h3⟩
  · rw [h2, h3]; exact rcodes_bad_any A n c l W hn hl H _ _ h1
  · rw [h2, h3]; exact rcodes_over_any A n c l W hn hl H _ _ h1
  · rw [h2, h3]
    obtain ⟨hm, hw⟩ := kind_fits h1 h1'
    exact rcodes_ok_any A n c l W hl H hm hw _ rfl h1 h1'
end Go.Proofs.Ytnkkccieidlacaa
