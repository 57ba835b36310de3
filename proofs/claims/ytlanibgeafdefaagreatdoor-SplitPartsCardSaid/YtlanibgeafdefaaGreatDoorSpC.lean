import Derived.Test.YtlanibgeafdefaaGreatDoorSpA
import Derived.Test.YtlanibgeafdefaaGreatDoorSpD
import Derived.Deep.QuietTactic
import Derived.BigQuiet
namespace Go.Proofs.YtlanibgeafdefaaGreatDoor.V
open Go Go.RowKit M U
set_option linter.unusedVariables false
set_option linter.unusedSimpArgs false
set_option maxRecDepth 1000000
theorem below_drewN {B : Nat} {a w : World} (h : Below B a w) (n : Nat) : Below B a (w.drewN n) := ⟨h.os, h.tape, h.output, h.size, h.block⟩
set_option maxHeartbeats 4000000 in
theorem parts_good {T : World → Prop} (C : Sps T) (A : Option Addr) (n c tm : Nat) (z : List Ra) (W : World) (H : T W) (hR : IsRas W A n z) (hn : n ≤ 300) (htm : tm ≤ 65535) :
    Calls Tryz.prog 4 #[.slice A n c, .int .u16 tm] W fun e w' => e = .returned (.bool true) ∧ Below W.heap.size W w' := by
  have HM := Lib.hid (made14_any A n c tm z W hR hn htm)
  have HW := Lib.hid (fun w (b : Below W.heap.size W w) => works14 C w (C.keep H b))
  have HP := Lib.hid (fun (A' : Option Addr) (n' c' : Nat) (L : List Tk) (S : ByteArray) (w1 : World) (b : Below W.heap.size W w1) (hL : IsTks w1 A' n' L) (h1 : n' ≤ c') (h2 : n' ≤ 4300) (h3 : S.size ≤ 65536) (h4 : ∀ t ∈ L, may t = true) (h5 : Tx.szs L = S.size) => C.parts A' n' c' L S w1 (C.keep H b) hL h1 (by omega) (by omega) h4 h5)
  have dn : decide ((300 : Int) < (n : Int)) = false := decide_eq_false (by omega)
  have dn' : decide (300 < n) = false := decide_eq_false (by omega)
  clear C H hR
  unfold MadeP at HM
  go_enter Tryz.func4, Tryz.ntmps4
  go_upto_region 4 with (go_at_call 12; (with_reducible refine HM.out.mono ?_); rintro e w1 ⟨A', n', c', L, S, rfl, h1, h2, h3, h4, h5, b1⟩; have B1 := Lib.hid b1; have K1 := Lib.hid h1; have K2 := Lib.hid (And.intro h2 (And.intro h3 (And.intro h4 h5))); clear b1 h1 h2 h4 h5)
  have hsl : S.size ≤ 1200000 := by have h := Tx.szs_le L; have := K2.out.2.2.2; have := K1.out.leng; omega
  by_cases hbig : 65536 < S.size
  · have d1 : decide ((65536 : Int) < (S.size : Int)) = true := decide_eq_true (by omega)
    have d1' : decide (65536 < S.size) = true := decide_eq_true hbig
    clear hbig h3
    go_wp2_with (go_at_call 6; (with_reducible refine (HW.out _ B1.out).mono ?_); rintro e w2 ⟨rfl, b2⟩; have B2 := Lib.hid (B1.out.trans (b2.mono B1.out.size)); clear b2)
    go_ret
    exact ⟨rfl, B2.out⟩
  · have d1 : decide ((65536 : Int) < (S.size : Int)) = false := decide_eq_false (by omega)
    have d1' : decide (65536 < S.size) = false := decide_eq_false hbig
    have HPa := Lib.hid (HP.out A' n' c' L S w1 B1.out K1.out K2.out.1 K2.out.2.1 (by omega) K2.out.2.2.1 K2.out.2.2.2)
    have HQa := Lib.hid (fun (w2 : World) (b : Below w1.heap.size w1 w2) => rparts_any A' n' c' L S w2 (K1.out.below b) K2.out.1 (by omega) (by omega) K2.out.2.2.1 K2.out.2.2.2)
    have hpl : (pvs L S (pts L S)).length ≤ 4301 := by
      have h1 := prt_length (kp L S) (cut L.length) (cnk L.length)
      have h2 := K1.out.leng
      unfold pvs pts
      rw [List.length_map]
      have h4 : cnk L.length ≤ 4300 := by unfold cnk; omega
      omega
    obtain ⟨PV, hPV⟩ : ∃ PV, pvs L S (pts L S) = PV := ⟨_, rfl⟩
    rw [hPV] at HPa HQa hpl
    clear hbig h3 hPV
    go_upto_region 8 with (first
      | (go_at_call 10; (with_reducible refine HPa.out.mono ?_); rintro e w2 ⟨v1, rfl, o1, b2⟩; have D2 := Lib.hid b2; have O1 := Lib.hid o1; clear b2 o1)
      | (go_at_call 13; (with_reducible refine (HQa.out _ D2.out).mono ?_); rintro e w3 ⟨v2, rfl, o2, b3⟩; have D3 := Lib.hid (D2.out.trans (b3.mono D2.out.size)); have O2 := Lib.hid o2; have O3 := Lib.hid (O1.out.below b3); clear b3 o2))
    obtain ⟨N, hN⟩ : ∃ N, PV.length = N := ⟨_, rfl⟩
    obtain ⟨A1, c1, hv1⟩ := O3.out.form'
    obtain ⟨A2, c2, hv2⟩ := O2.out.form'
    rw [hN] at hv1 hv2 hpl
    subst hv1 hv2
    have HN := Lib.hid hN
    have B3 := Lib.hid (B1.out.trans (D3.out.mono B1.out.size))
    have hg := parGuard
    have e1 : ((N : Int) != (N : Int)) = false := by rw [bne_eq_false_iff_eq]
    clear hN
    go_wp2_with fail
    go_loopw [10] (fun x wr => ∃ i : Nat, i ≤ N ∧ x = .int .i64 i ∧ Below w3.heap.size w3 wr) (fun x _ => N - (intOf x).toNat)
    case atStart => exact ⟨0, Nat.zero_le _, rfl, Below.refl _ _⟩
    case round =>
      obtain ⟨i, hi, rfl, hb⟩ := hrel
      have HB := Lib.hid hb
      by_cases hlt : i < N
      · have d2 : decide ((i : Int) < (N : Int)) = true := decide_eq_true (by omega)
        have d2' : decide (i < N) = true := decide_eq_true hlt
        have o3 := O3.out.below hb
        have o2 := O2.out.below hb
        obtain ⟨g1, c1', hg1, hc1⟩ := o3.form (by rw [HN.out]; omega)
        obtain ⟨g2, c2', hg2, hc2⟩ := o2.form (by rw [HN.out]; omega)
        simp only [Value.slice.injEq] at hg1 hg2
        obtain ⟨rfl, -, rfl⟩ := hg1
        obtain ⟨rfl, -, rfl⟩ := hg2
        obtain ⟨q, hq⟩ : ∃ q, PV[i]? = some q := ⟨_, List.getElem?_eq_getElem (by rw [HN.out]; exact hlt)⟩
        obtain ⟨x0, x1, x2, x3⟩ := o3.cell HN.out hq
        obtain ⟨y0, y1, y2, y3⟩ := o2.cell HN.out hq
        obtain ⟨qf, qt, qz, qk⟩ := q
        simp only at x0 x1 x2 x3 y0 y1 y2 y3
        have hne := fun w => par_neq w qf qt qz qk
        have hi3 : i < 9223372036854775807 := by omega
        clear o3 o2 hq hb hc1 hc2
        go_upto_region 13 with fail
        go_quiet (fail)
        go_wp2_with fail
        go_roundw
        case rel => exact ⟨i + 1, by omega, by go_num, by first | exact below_drewN HB.out _ | exact HB.out.drew | exact HB.out⟩
        case measure => (simp [intOf]; try omega)
      · obtain rfl : i = N := by omega
        have d2 : decide ((i : Int) < (i : Int)) = false := decide_eq_false (by omega)
        have d2' : decide (i < i) = false := decide_eq_false (by omega)
        have B4 := Lib.hid (B3.out.trans (hb.mono B3.out.size))
        clear hb
        go_wp2_with (go_at_call 6; (with_reducible refine (HW.out _ B4.out).mono ?_); rintro e w5 ⟨rfl, b5⟩; have B5 := Lib.hid (B4.out.trans (b5.mono B4.out.size)); clear b5)
        go_ret
        exact ⟨rfl, B5.out⟩
theorem parts_heavy {T : World → Prop} (C : Sps T) (A : Option Addr) (n c tm : Nat) (W : World) (H : T W) (hn : n ≤ maxLen) (hv : 300 < n) :
    Calls Tryz.prog 4 #[.slice A n c, .int .u16 tm] W fun e w' => e = .returned (.bool true) ∧ Below W.heap.size W w' := by
  unfold maxLen at hn
  have HW := Lib.hid (works14 C W H)
  have dn : decide ((300 : Int) < (n : Int)) = true := decide_eq_true (by omega)
  have dn' : decide (300 < n) = true := decide_eq_true hv
  clear C H hv
  go_enter Tryz.func4, Tryz.ntmps4
  go_wp2_with (go_at_call 6; (with_reducible refine HW.out.mono ?_); rintro e w7 ⟨rfl, b7⟩; have B7 := Lib.hid b7; clear b7)
  go_ret
  exact ⟨rfl, B7.out⟩
theorem parts_law {T : World → Prop} (C : Sps T) (A : Option Addr) (n c tm : Nat) (z : List Ra) (W : World) (H : T W) (hR : IsRas W A n z) (htm : tm ≤ 65535) :
    Calls Tryz.prog 4 #[.slice A n c, .int .u16 tm] W fun e w' => e = .returned (.bool true) ∧ Below W.heap.size W w' := by
  by_cases hv : 300 < n
  · exact parts_heavy C A n c tm W H hR.most hv
  · exact parts_good C A n c tm z W H hR (by omega) htm
end Go.Proofs.YtlanibgeafdefaaGreatDoor.V
