/- The walk of BitrPlays: it returns true for any arguments that their kinds hold. Conditions: none. -/
import Derived.Test.YtlikpljbbenmoaaDos
import Derived.Deep.RegionWith
namespace Go.Proofs.Ytlikpljbbenmoaa
open Go.RowKit M
set_option linter.unusedVariables false

theorem bo_new {w w1 w2 : World} {B : Nat} {s : ByteArray} (hB : B ≤ w.heap.size) (k1 : Kept NoB w w1) (r1 : Rd w1 B w.heap.size s 0) (l1 : w.heap.size < w1.heap.size) (k2 : Kept NoB w1 w2) (r2 : Xd w2 B w1.heap.size s 0) :
    Bo w2 B w.heap.size w1.heap.size s 0 0 ∧ Below B w w2 :=
  ⟨⟨r1.same k2, r2, by omega⟩, (k1.below hB (fun _ g => g.elim)).trans (k2.below (Nat.le_trans hB k1.size) (fun _ g => g.elim))⟩

set_option maxHeartbeats 1000000 in
set_option maxRecDepth 100000 in
theorem rplays_go (s : ByteArray) (ao : Option Addr) (len cap : Nat) (cs : List Ca) (w : World) (hs : s.size ≤ 4096) (hl : len ≤ 300) (hc : IsCas w ao len cs) :
    Calls Try.prog 3 #[.string s, .slice ao len cap] w fun e w' => e = .returned (.bool true) ∧ Below w.heap.size w w' := by
  have hs8 : s.size ≤ 100000000 := by omega
  have HC := Lib.hid hc
  clear hc
  go_enter Try.func3, Try.ntmps3
  go_wp2_with fail
  refine (rnew_any s _ (Nat.le_refl _)).mono ?_; rintro e w1 ⟨rfl, k1, r1, l1⟩
  go_wp2_with fail
  have r2 : Xd (w1.alloc (.cells #[.string s, .int .i64 0] 28)) w.heap.size w1.heap.size s 0 := ⟨by simp, by simp, fun i => by simp, by omega, Nat.zero_le _⟩
  have d0 := bo_new (Nat.le_refl _) k1 r1 l1 ((Kept.refl NoB w1).alloc _) r2
  generalize hW2 : w1.alloc (.cells #[.string s, .int .i64 0] 28) = W2 at *
  generalize hpx : w1.heap.size = px at *
  generalize hpa : w.heap.size = pa at *
  have D1 := Lib.hid d0
  have HPA := Lib.hid hpa
  clear hW2 hpx hpa k1 r1 l1 r2 d0
  go_loopw [7] (fun i wr => ∃ (k a : Nat), k ≤ len ∧ i = .int .i64 k ∧ Bo wr pa pa px s a a ∧ Below pa w wr) (fun i _ => len - (intOf i).toNat)
  case atStart => exact ⟨0, 0, Nat.zero_le _, rfl, D1.out.1, D1.out.2⟩
  case round =>
    obtain ⟨k, a, hk, rfl, hd, hb⟩ := hrel
    have DD := Lib.hid hd
    have HB := Lib.hid hb
    have HCC := Lib.hid (HC.out.below (by rw [HPA.out]; exact hb))
    clear hd hb D1
    by_cases hlt : k < len
    · have hlt' : decide (k < len) = true := decide_eq_true hlt
      have hkl : k < cs.length := by rw [HCC.out.leng]; exact hlt
      have hok := HCC.out.good cs[k] (List.getElem_mem hkl)
      rcases HCC.out.cells with h0 | ⟨b', o, rfl, hbw, hcell⟩
      · omega
      · have hcs := hcell k cs[k] (List.getElem?_eq_getElem hkl)
        generalize cs[k] = c at *
        have q0 := hcs.d
        have q1 := hcs.n
        obtain ⟨r, hr⟩ : ∃ r, goes s a c.d c.n = r := ⟨_, rfl⟩
        have HR := Lib.hid hr
        have HOK := Lib.hid hok
        have k1 : (k : Int) < (len : Int) := by omega
        have k2 : 0 ≤ (k : Int) := by omega
        have DW := Lib.hid (DD.out.same (Kept.refl NoB wr).drew)
        have BW := Lib.hid HB.out.drew
        clear hr hok hcs hcell
        go_wp2_with fail
        go_region_with (first
          | (go_at_call 10; refine (does_any _ c.d c.n DW.out hs8 HOK.out.d HOK.out.n r HR.out).mono ?_; rintro e w3 ⟨rfl, h3, b3⟩; have H3 := Lib.hid h3; have B3 := Lib.hid (BW.out.trans b3); have x3 := h3.r.c1; clear h3 b3)
          | (go_at_call 11; refine (at_any H3.out.l).mono ?_; rintro e w' ⟨rfl, rfl⟩)
          | (go_at_call 12; refine (left_any H3.out.l hs8).mono ?_; rintro e w' ⟨rfl, n4, rfl⟩)
          | (go_at_call 13; refine (xleft_any (H3.out.r.drewN n4) hs8).mono ?_; rintro e w' ⟨rfl, n5, rfl⟩))
        all_goals
          go_wp2_with fail
          go_roundw
          case rel => exact ⟨k + 1, r, by omega, by go_num, H3.out.same ((Kept.refl NoB w3).drewN _), B3.out.trans ((Kept.refl NoB w3).drewN _ |>.below H3.out.size (fun _ g => g.elim))⟩
          case measure => simp [intOf]; omega
    · obtain rfl : k = len := by omega
      have hlt' : decide (k < k) = false := decide_eq_false (by omega)
      clear hlt hk
      go_wp2_with fail
      refine (alive_any _).mono ?_; rintro e w15 ⟨rfl, b15⟩
      have B15 := Lib.hid (HB.out.trans (b15.mono DD.out.size))
      clear b15
      go_wp2_with fail
      go_ret
      exact ⟨rfl, by rw [HPA.out]; exact B15.out⟩

theorem BitrPlays_walk (a0 : ByteArray) (a1 : Option Addr) (len1 cap1 : Nat) (z1 : List Ca) (w : World) (w0 : a0.size ≤ maxLen) (w1 : IsCas w a1 len1 z1) :
    Calls Try.prog 3 #[.string a0, .slice a1 len1 cap1] w fun e w' => e = .returned (.bool true) ∧ Below w.heap.size w w' := by
  by_cases hs : a0.size ≤ 4096
  · by_cases hl : len1 ≤ 300
    · exact rplays_go a0 a1 len1 cap1 z1 w hs hl w1
    · have hl' : decide ((300 : Int) < (len1 : Int)) = true := by simp; omega
      clear hl w0 w1
      go_enter Try.func3, Try.ntmps3
      go_wp2_with fail
      refine (alive_any _).mono ?_; rintro e w9 ⟨rfl, b9⟩
      go_wp2_with fail
      go_ret
      exact ⟨rfl, b9⟩
  · have hs' : 4096 < a0.size := by omega
    clear hs w0 w1
    go_enter Try.func3, Try.ntmps3
    go_wp2_with fail
    refine (alive_any _).mono ?_; rintro e w9 ⟨rfl, b9⟩
    go_wp2_with fail
    go_ret
    exact ⟨rfl, b9⟩
end Go.Proofs.Ytlikpljbbenmoaa
