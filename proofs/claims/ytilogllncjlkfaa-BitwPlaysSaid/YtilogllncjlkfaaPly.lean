/- The walk of BitwPlays: it returns true for any arguments that their kinds hold. Conditions: none. -/
import Derived.Test.YtilogllncjlkfaaDoeB
import Derived.Test.YtilogllncjlkfaaHvy
import Derived.Deep.RegionWith
namespace Go.Proofs.Ytilogllncjlkfaa
open Go.RowKit M
set_option linter.unusedVariables false

theorem szs_in {c : Cl} : ∀ {l : List Cl}, c ∈ l → c.s.size ≤ szs l
  | x :: r, h => by
    have e : szs (x :: r) = x.s.size + szs r := by simp [szs]
    rcases List.mem_cons.1 h with rfl | g
    · omega
    · have := szs_in g; omega
theorem not_heavy {cs : List Cl} (h : heavyB cs = false) : szs cs ≤ 4096 ∧ cs.length ≤ 300 := by
  have := of_decide_eq_false h
  omega

theorem Mix.lenx {w : World} {B pa px Va La Vx Lx : Nat} {Q : Nat → Prop} {m : Int} (h : Mix w B pa px Q m Va La Vx Lx) : ∃ ao c, w.cell? ⟨px, 0, none⟩ = some (.slice ao Lx c) := by
  obtain ⟨Sa, Sx, _, ⟨ao, c, h2, _⟩, _⟩ := h
  exact ⟨ao, c, h2.c0⟩

theorem mix_new {w w1 w2 : World} {B : Nat} {m : Int} (hB : B ≤ w.heap.size) (k1 : Kept NoB w w1) (r1 : Wt w1 B w.heap.size (fun j => j = w.heap.size) m 0 0) (l1 : w.heap.size < w1.heap.size) (k2 : Kept NoB w1 w2) (r2 : Rt w2 B w1.heap.size (fun j => j = w1.heap.size) m 0 0) :
    Mix w2 B w.heap.size w1.heap.size NoB m 0 0 0 0 ∧ Below B w w2 :=
  ⟨⟨_, _, r1.keep k2 (fun _ _ g => g), r2, fun j hj g => by omega, fun _ g => g.elim⟩, (k1.below hB (fun _ g => g.elim)).trans (k2.below (Nat.le_trans hB k1.size) (fun _ g => g.elim))⟩

set_option maxHeartbeats 1000000 in
set_option maxRecDepth 100000 in
theorem plays_go (a : Int) (ao : Option Addr) (len cap : Nat) (cs : List Cl) (w : World) (ha : -9223372036854775808 ≤ a ∧ a ≤ 9223372036854775807) (hl : IsCalls w ao len cs) (hh : heavyB cs = false) :
    Calls Try.prog 3 #[.int .i64 a, .slice ao len cap] w fun e w' => e = .returned (.bool true) ∧ Below w.heap.size w w' := by
  have HL := Lib.hid hl
  have HH := Lib.hid hh
  have hlm : len ≤ 300 := by have := (not_heavy hh).2; have := hl.leng; omega
  clear hl hh
  obtain ⟨m, hm⟩ : ∃ m, max 0 a = m := ⟨_, rfl⟩
  go_enter Try.func3, Try.ntmps3
  go_wp2_with fail
  refine (heavy_any HL.out false HH.out).mono ?_; rintro e w' ⟨rfl, rfl⟩
  go_wp2_with fail
  refine (new_any a _ (Nat.le_refl _)).mono ?_; rintro e w1 ⟨rfl, k1, r1, l1⟩
  go_wp2_with fail
  refine (rnew_any a _ k1.size).mono ?_; rintro e w2 ⟨rfl, k2, r2, l2⟩
  rw [hm] at r1 r2
  have d0 := mix_new (Nat.le_refl _) k1 r1 l1 k2 r2
  generalize hpb : w1.heap.size = px at *
  generalize hpa : w.heap.size = pa at *
  have D1 := Lib.hid d0
  have HPA := Lib.hid hpa
  clear hpb hpa k1 r1 l1 k2 r2 l2 d0 hm ha
  go_wp2_with fail
  go_loopw [7] (fun i wr => ∃ (k V L : Nat), k ≤ len ∧ i = .int .i64 k ∧ L ≤ 64 * k + 8 * szs (cs.take k) ∧ Mix wr pa pa px NoB m V L V L ∧ Below pa w wr) (fun i _ => len - (intOf i).toNat)
  case atStart => exact ⟨0, 0, 0, Nat.zero_le _, rfl, Nat.zero_le _, D1.out.1, D1.out.2⟩
  case round =>
    obtain ⟨k, V, L, hk, rfl, hLk, hd, hb⟩ := hrel
    have DD := Lib.hid hd
    have HB := Lib.hid hb
    have HC := Lib.hid (HL.out.below (by rw [HPA.out]; exact hb))
    have hszk : szs (cs.take k) ≤ 4096 := Nat.le_trans (szs_take_le cs k) (not_heavy HH.out).1
    have hL9 : L ≤ 60000 := by omega
    have HLk := Lib.hid hLk
    clear hd hb D1 hLk hszk
    by_cases hlt : k < len
    · have hlt' : decide (k < len) = true := decide_eq_true hlt
      have hkl : k < cs.length := by rw [HC.out.leng]; exact hlt
      have hc := HC.out.good cs[k] (List.getElem_mem hkl)
      have hmem := List.getElem_mem hkl
      have hnext := szs_take_succ cs k hkl
      rcases HC.out.cells with h0 | ⟨b, o, rfl, hbw, hcell⟩
      · omega
      · have hcs := hcell k cs[k] (List.getElem?_eq_getElem hkl)
        generalize cs[k] = c at *
        have q0 := hcs.d
        have q1 := hcs.n
        have q2 := hcs.z
        have q3 := hcs.s
        have hs4 : c.s.size ≤ 4096 := Nat.le_trans (szs_in hmem) (not_heavy HH.out).1
        obtain ⟨E, V1, L1, hE⟩ : ∃ E V1 L1, callP m V L c = (E, V1, L1) := ⟨_, _, _, rfl⟩
        have hlen := callP_len m V L c
        rw [hE] at hlen
        have hL1 : L1 ≤ L + 64 + 8 * c.s.size := hlen
        have hLn : L1 ≤ 64 * (k + 1) + 8 * szs (cs.take (k + 1)) := by rw [hnext]; have := HLk.out; omega
        have hL19 : L1 ≤ 100000 := by omega
        obtain ⟨T, hT⟩ : ∃ T, textR V1 L1 = T := ⟨_, rfl⟩
        have HT := Lib.hid hT
        have HN := Lib.hid hLn
        have HE := Lib.hid hE
        have HOK := Lib.hid hc
        have k1 : (k : Int) < (len : Int) := by omega
        have k2 : 0 ≤ (k : Int) := by omega
        have DW := Lib.hid DD.out.drew
        have BW := Lib.hid HB.out.drew
        clear hE hmem hlen hT hc hcs hcell hnext hLn hL1
        go_wp2_with fail
        go_region_with (first
          | (go_at_call 12; refine (does_any _ c DW.out HOK.out (by omega) (by omega) E V1 L1 HE.out).mono ?_; rintro e w3 ⟨rfl, h3, b3⟩; have H3 := Lib.hid h3; have B3 := Lib.hid (BW.out.trans b3); obtain ⟨ax, cx, d3⟩ := h3.lenx; clear h3 b3)
          | (go_at_call 13; refine (H3.out.same_a (fun S hS => wlen_any hS (by omega))).mono ?_; rintro e w4 ⟨rfl, h4, f4⟩; have H4 := Lib.hid h4; have B4 := Lib.hid (B3.out.trans f4.1); obtain ⟨ay, cy, d4⟩ := h4.lenx; clear h4 f4)
          | (go_at_call 14; refine (H4.out.same_a (fun S hS => text_any hS (by omega))).mono ?_; rintro e w5 ⟨rfl, h5, f5⟩; rw [HT.out]; have H5 := Lib.hid h5; have B5 := Lib.hid (B4.out.trans f5.1); clear h5 f5)
          | (go_at_call 15; refine (H5.out.same_x (fun S hS => rtext_any hS (by omega))).mono ?_; rintro e w6 ⟨rfl, h6, f6⟩; rw [HT.out]; have H6 := Lib.hid h6; have B6 := Lib.hid (B5.out.trans f6.1); clear h6 f6))
        all_goals
          go_wp2_with fail
          go_roundw
          case rel => exact ⟨k + 1, V1, L1, by omega, by go_num, HN.out, H6.out, B6.out⟩
          case measure => simp [intOf]; omega
    · obtain rfl : k = len := by omega
      have hlt' : decide (k < k) = false := decide_eq_false (by omega)
      clear hlt hk
      go_wp2_with fail
      refine (alive_any _).mono ?_; rintro e w15 ⟨rfl, b15⟩
      have B15 := Lib.hid (HB.out.trans (b15.mono DD.out.base))
      clear b15
      go_wp2_with fail
      go_ret
      exact ⟨rfl, by rw [HPA.out]; exact B15.out⟩

theorem BitwPlays_walk (a0 : Int) (a1 : Option Addr) (len1 cap1 : Nat) (z1 : List Cl) (w : World) (w0 : (Lit.int .i64 a0).wf = true) (w1 : IsCalls w a1 len1 z1) :
    Calls Try.prog 3 #[.int .i64 a0, .slice a1 len1 cap1] w fun e w' => e = .returned (.bool true) ∧ Below w.heap.size w w' := by
  have h0 := i64_bounds w0
  cases hh : heavyB z1 with
  | false => exact plays_go a0 a1 len1 cap1 z1 w h0 w1 hh
  | true =>
    have HH := Lib.hid hh
    have H1 := Lib.hid w1
    clear hh w1 h0
    go_enter Try.func3, Try.ntmps3
    go_wp2_with fail
    refine (heavy_any H1.out true HH.out).mono ?_; rintro e w' ⟨rfl, rfl⟩
    go_wp2_with fail
    refine (alive_any _).mono ?_; rintro e w' ⟨rfl, hb⟩
    go_wp2_with fail
    go_ret
    exact ⟨rfl, hb⟩
end Go.Proofs.Ytilogllncjlkfaa
