/- ChainOrder returns true for any arguments that their kinds hold: the walk. Conditions: none. -/
import Derived.Test.YtehpjhdbhhnkhaaOrd
namespace Go.Proofs.Ytehpjhdbhhnkhaa
open Go Go.RowKit M
set_option linter.unusedVariables false
set_option linter.unusedSimpArgs false

set_option maxRecDepth 1000000 in
set_option maxHeartbeats 8000000 in
theorem order_near (s : ByteArray) (Ad : Option Addr) (n cp : Nat) (f : Nat → Bool) (A D E O M : Nat) (W : World) (h1 : s.size ≤ 1024) (h0 : 0 < s.size) (hn : n ≤ 2048) (hS : IsBools W Ad n f) (hA : A ≤ 65535) (hD : D ≤ 255) (hE : E ≤ 255) (hO : O ≤ 255) (hM : M ≤ 255) :
    Calls Try.prog 6 #[.string s, .slice Ad n cp, .int .u16 A, .int .u8 D, .int .u8 E, .int .u8 O, .int .u8 M] W fun e w' => e = .returned (.bool true) ∧ Below W.heap.size W w' := by
  obtain ⟨k, hk⟩ : ∃ k, A % s.size = k := ⟨_, rfl⟩
  have hkz : k < s.size := by rw [← hk]; exact Nat.mod_lt _ h0
  have ek : (A : Int) % (s.size : Int) = (k : Int) := by rw [← hk]; omega
  have hne : ((s.size : Int) == 0) = false := by rw [beq_eq_false_iff_ne]; omega
  have hd0 : decide ((1024 : Int) < (s.size : Int)) = false := decide_eq_false (by omega)
  have hd1 : decide ((2048 : Int) < (n : Int)) = false := decide_eq_false (by omega)
  have HS := Lib.hid hS
  clear hk hS
  go_enter Try.func6, Try.ntmps6
  go_wp2_with fail
  refine (new_any s _ (by omega)).mono ?_; rintro e w1 ⟨F, rfl, hF, H1, b1⟩
  have H1 := Lib.hid H1
  have B1 := Lib.hid b1
  clear b1 hF
  go_wp2_with fail
  rw [ek]
  clear ek hne hd0 hd1
  go_loopw [17] (fun i wr => ∃ (j : Nat) (la : Int), j ≤ k ∧ i = .int .i64 j ∧ Fd wr W.heap.size F s (Ls n f j) la ∧ la < (j : Int) ∧ Below W.heap.size W wr) (fun i _ => k - (intOf i).toNat)
  case atStart => exact ⟨0, -1, by omega, rfl, H1.out, by omega, B1.out⟩
  case round =>
    obtain ⟨j, la, hj, rfl, hf, hla, hb⟩ := hrel
    have HF := Lib.hid hf
    have HB := Lib.hid hb
    clear hf hb
    by_cases hlt : j < k
    · have HP := Lib.hid (put_ok HF.out j (by omega) hla (fun p hp => (Ls_mem hp).1))
      by_cases c1 : j < n
      · obtain ⟨b, o, rfl, hbl, hcs⟩ := HS.out.2 (by omega)
        have hc := (HB.out.cell (p := ⟨b, o + j, none⟩) hbl).trans (hcs j c1)
        have hd2 : decide (j < n) = true := decide_eq_true c1
        have hd3 : decide ((j : Int) < (n : Int)) = true := decide_eq_true (by omega)
        clear hcs
        by_cases c2 : f j = true
        · rw [c2] at hc
          have hsk : Hid (Ls n f (j + 1) = Ls n f j) := Lib.hid (by rw [Ls_succ, if_pos (by unfold sk; simp [c1, c2])])
          clear c2
          go_wp2_with fail
          go_roundw
          case rel => exact ⟨j + 1, la, by omega, by go_num, by rw [hsk.out]; exact HF.out, by omega, HB.out⟩
          case measure => simp [intOf]; omega
        · have c3 : f j = false := by simpa using c2
          rw [c3] at hc
          have hsk : Hid (Ls n f (j + 1) = Ls n f j ++ [j]) := Lib.hid (by rw [Ls_succ, if_neg (by unfold sk; simp [c3])])
          clear c2 c3
          go_wp2_with fail
          refine HP.out.mono ?_; rintro e w2 ⟨rfl, h2, b2⟩
          have H2 := Lib.hid h2
          have B2 := Lib.hid (HB.out.trans b2)
          clear h2 b2
          go_wp2_with fail
          go_roundw
          case rel => exact ⟨j + 1, (j : Int), by omega, by go_num, by rw [hsk.out]; exact H2.out, by omega, B2.out⟩
          case measure => simp [intOf]; omega
      · have hsk : Hid (Ls n f (j + 1) = Ls n f j ++ [j]) := Lib.hid (by rw [Ls_succ, if_neg (by unfold sk; simp [c1])])
        have hd2 : decide (j < n) = false := decide_eq_false c1
        have hd3 : decide ((j : Int) < (n : Int)) = false := decide_eq_false (by omega)
        go_wp2_with fail
        refine HP.out.mono ?_; rintro e w2 ⟨rfl, h2, b2⟩
        have H2 := Lib.hid h2
        have B2 := Lib.hid (HB.out.trans b2)
        clear h2 b2
        go_wp2_with fail
        go_roundw
        case rel => exact ⟨j + 1, (j : Int), by omega, by go_num, by rw [hsk.out]; exact H2.out, by omega, B2.out⟩
        case measure => simp [intOf]; omega
    · obtain rfl : k = j := by omega
      have HPl := Lib.hid (places_any HF.out k D (by omega))
      have HPm := Lib.hid (fun W' (hb : Below wr.heap.size wr W') => places_any (HF.out.below hb) k ((D : Int) - (E : Int)) (by omega))
      have HRise := Lib.hid HF.out.rise
      have hnb := nr_few HF.out k D
      have HLes := Lib.hid (fun i (hi : i < (nr s (Ls n f k) k ((D : Int) - (E : Int))).length) => nr_less (s := s) (L := Ls n f k) (k := k) (d := D) (e := (D : Int) - (E : Int)) (by omega) hi)
      have hsh := nr_short (s := s) (L := Ls n f k) (k := k) (d := D) (e := (D : Int) - (E : Int)) (by omega)
      have hlD : (nr s (Ls n f k) k D).length ≤ D := by rw [nr_len, Int.toNat_natCast]; exact Nat.min_le_left _ _
      have HMem := Lib.hid (show ∀ q, q ∈ nr s (Ls n f k) k D → q < k ∧ sk n f q = false from fun q hq => ⟨(cnd_mem (nr_mem hq)).2.1, (Ls_mem (cnd_mem (nr_mem hq)).1).2⟩)
      have HDesc := Lib.hid (fun i x y => nr_desc (s := s) (k := k) (d := D) HF.out.rise (i := i) (x := x) (y := y))
      have HFi := Lib.hid (fun W' (hb : Below wr.heap.size wr W') (o : Int) => find_any (HF.out.below hb) k D 258 o (by omega))
      obtain ⟨l, hl⟩ : ∃ l, nr s (Ls n f k) k D = l := ⟨_, rfl⟩
      rw [hl] at HPl hnb HLes hsh hlD HMem HDesc HFi
      obtain ⟨l2, hl2⟩ : ∃ l, nr s (Ls n f k) k ((D : Int) - (E : Int)) = l := ⟨_, rfl⟩
      rw [hl2] at HPm HLes hsh
      obtain ⟨N, hN⟩ : ∃ N, l.length = N := ⟨_, rfl⟩
      rw [hN] at HPl hnb hsh hlD
      obtain ⟨N2, hN2⟩ : ∃ N, l2.length = N := ⟨_, rfl⟩
      rw [hN2] at HPm HLes hsh
      have HN := Lib.hid hN
      have ed : ((D : Int) - (E : Int)) = (((D : Int) - (E : Int))) := rfl
      clear hl hl2 hN hN2 hj hlt ed HRise
      go_wp2_with fail
      refine HPl.out.mono ?_; rintro e w5 ⟨v, rfl, h5, b5⟩
      obtain ⟨Av, cv, rfl⟩ := h5.slice
      have B5 := Lib.hid b5
      have HI := Lib.hid h5
      clear b5 h5
      go_wp2_with fail
      refine (HPm.out _ B5.out).mono ?_; rintro e w6 ⟨v2, rfl, h6, b6⟩
      obtain ⟨Av2, cv2, rfl⟩ := h6.slice
      have B6 := Lib.hid (B5.out.trans (b6.mono B5.out.size))
      have HI1 := Lib.hid (HI.out.below b6)
      have HI2 := Lib.hid h6
      have hdA : decide ((D : Int) < (N : Int)) = false := decide_eq_false (by omega)
      have hdA' : decide (D < N) = false := decide_eq_false (by omega)
      have hdB : decide ((N : Int) < (N2 : Int)) = false := decide_eq_false (by omega)
      have hdB' : decide (N < N2) = false := decide_eq_false (by omega)
      clear b6 h6
      go_wp2_with fail
      clear hdA hdA' hdB hdB'
      have B6w := Lib.hid (HB.out.trans (B6.out.mono HB.out.size))
      have hnm := nr_few HF.out k D
      go_loopw [20] (fun i wr => ∃ i0 c : Nat, i0 ≤ N ∧ i = .int .i64 i0 ∧ wr = w6.drewN c) (fun i _ => N - (intOf i).toNat)
      case atStart => exact ⟨0, 0, Nat.zero_le _, rfl, rfl⟩
      case round =>
        obtain ⟨i0, c0, hi0, rfl, rfl⟩ := hrel
        by_cases hlt : i0 < N
        · obtain ⟨g, cap, eg, hg, hgl⟩ := HI1.out.form (by omega)
          cases eg
          have hcq := HI1.out.cell hlt
          have hge : l[i0]? = some (l.getD i0 0) := by rw [List.getD, List.getElem?_eq_getElem (by rw [HN.out]; exact hlt)]; rfl
          have hqm : l.getD i0 0 ∈ l := List.mem_of_getElem? hge
          obtain ⟨q, hq⟩ : ∃ q, l.getD i0 0 = q := ⟨_, rfl⟩
          rw [hq] at hcq hge hqm
          obtain ⟨hqk, hsk⟩ := HMem.out q hqm
          have HGE := Lib.hid hge
          have HQ := Lib.hid hq
          have dq1 : decide ((q : Int) < 0) = false := decide_eq_false (by omega)
          have dq2 : decide ((k : Int) ≤ (q : Int)) = false := decide_eq_false (by omega)
          have dq3 : decide (k ≤ q) = false := decide_eq_false (by omega)
          clear hge hqm hq
          by_cases z1 : 0 < i0
          · skip
            have y1 : decide ((0 : Int) < (i0 : Int)) = true := decide_eq_true (by omega)
            have y2 : decide (0 < i0) = true := decide_eq_true (by omega)
            obtain ⟨i1, hi1⟩ : ∃ i1, i0 = i1 + 1 := ⟨i0 - 1, by omega⟩
            have y3 : (i0 : Int) - 1 = (i1 : Int) := by omega
            have y4 : IntKind.i64.wrap ((i0 : Int) - 1) = (i1 : Int) := by rw [IntWalk.i64_in _ (by omega)]; omega
            have hc1 := HI1.out.cell (i := i1) (by omega)
            have hge1 : l[i1]? = some (l.getD i1 0) := by rw [List.getD, List.getElem?_eq_getElem (by rw [HN.out]; omega)]; rfl
            obtain ⟨q1, hq1⟩ : ∃ q, l.getD i1 0 = q := ⟨_, rfl⟩
            rw [hq1] at hc1 hge1
            have hqq : q < q1 := HDesc.out i1 q1 q hge1 (by rw [← hi1]; exact HGE.out)
            have y5 : decide ((q1 : Int) ≤ (q : Int)) = false := decide_eq_false (by omega)
            have y6 : decide (q1 ≤ q) = false := decide_eq_false (by omega)
            have i1N : i1 < N := by omega
            clear hq1 hge1 hqq hi1
            by_cases z2 : q < n
            · skip
              have x1 : decide ((q : Int) < (n : Int)) = true := decide_eq_true (by omega)
              have x2 : decide (q < n) = true := decide_eq_true (by omega)
              obtain ⟨b, o, rfl, hbl, hcs⟩ := HS.out.2 (by omega)
              have hcb := (B6w.out.cell (p := ⟨b, o + q, none⟩) hbl).trans (hcs q z2)
              rw [show f q = false by unfold sk at hsk; simpa [z2] using hsk] at hcb
              clear hcs
              by_cases z3 : i0 < N2
              · skip
                have v1 : decide ((i0 : Int) < (N2 : Int)) = true := decide_eq_true (by omega)
                have v2 : decide (i0 < N2) = true := decide_eq_true (by omega)
                obtain ⟨g2, cap2, eg2, hg2, hgl2⟩ := HI2.out.form (by omega)
                cases eg2
                have hcm := HI2.out.cell z3
                rw [HLes.out i0 z3, HQ.out] at hcm
                clear hsk
                go_wp2_with fail
                go_quiet (fail)
                clear y1 y2 y3 y4 y5 y6 x1 x2 v1 v2 dq1 dq2 dq3
                go_wp2_with fail
                go_roundw
                case rel => exact ⟨i0 + 1, _, by omega, by go_num, rfl⟩
                case measure => simp [intOf]; omega
              · skip
                have v1 : decide ((i0 : Int) < (N2 : Int)) = false := decide_eq_false (by omega)
                have v2 : decide (i0 < N2) = false := decide_eq_false (by omega)
                clear hsk
                go_wp2_with fail
                go_quiet (fail)
                clear y1 y2 y3 y4 y5 y6 x1 x2 v1 v2 dq1 dq2 dq3
                go_wp2_with fail
                go_roundw
                case rel => exact ⟨i0 + 1, _, by omega, by go_num, rfl⟩
                case measure => simp [intOf]; omega
            · skip
              have x1 : decide ((q : Int) < (n : Int)) = false := decide_eq_false (by omega)
              have x2 : decide (q < n) = false := decide_eq_false (by omega)
              by_cases z3 : i0 < N2
              · skip
                have v1 : decide ((i0 : Int) < (N2 : Int)) = true := decide_eq_true (by omega)
                have v2 : decide (i0 < N2) = true := decide_eq_true (by omega)
                obtain ⟨g2, cap2, eg2, hg2, hgl2⟩ := HI2.out.form (by omega)
                cases eg2
                have hcm := HI2.out.cell z3
                rw [HLes.out i0 z3, HQ.out] at hcm
                clear hsk
                go_wp2_with fail
                go_quiet (fail)
                clear y1 y2 y3 y4 y5 y6 x1 x2 v1 v2 dq1 dq2 dq3
                go_wp2_with fail
                go_roundw
                case rel => exact ⟨i0 + 1, _, by omega, by go_num, rfl⟩
                case measure => simp [intOf]; omega
              · skip
                have v1 : decide ((i0 : Int) < (N2 : Int)) = false := decide_eq_false (by omega)
                have v2 : decide (i0 < N2) = false := decide_eq_false (by omega)
                clear hsk
                go_wp2_with fail
                go_quiet (fail)
                clear y1 y2 y3 y4 y5 y6 x1 x2 v1 v2 dq1 dq2 dq3
                go_wp2_with fail
                go_roundw
                case rel => exact ⟨i0 + 1, _, by omega, by go_num, rfl⟩
                case measure => simp [intOf]; omega
          · skip
            have y1 : decide ((0 : Int) < (i0 : Int)) = false := decide_eq_false (by omega)
            have y2 : decide (0 < i0) = false := decide_eq_false (by omega)
            by_cases z2 : q < n
            · skip
              have x1 : decide ((q : Int) < (n : Int)) = true := decide_eq_true (by omega)
              have x2 : decide (q < n) = true := decide_eq_true (by omega)
              obtain ⟨b, o, rfl, hbl, hcs⟩ := HS.out.2 (by omega)
              have hcb := (B6w.out.cell (p := ⟨b, o + q, none⟩) hbl).trans (hcs q z2)
              rw [show f q = false by unfold sk at hsk; simpa [z2] using hsk] at hcb
              clear hcs
              by_cases z3 : i0 < N2
              · skip
                have v1 : decide ((i0 : Int) < (N2 : Int)) = true := decide_eq_true (by omega)
                have v2 : decide (i0 < N2) = true := decide_eq_true (by omega)
                obtain ⟨g2, cap2, eg2, hg2, hgl2⟩ := HI2.out.form (by omega)
                cases eg2
                have hcm := HI2.out.cell z3
                rw [HLes.out i0 z3, HQ.out] at hcm
                clear hsk
                go_wp2_with fail
                go_quiet (fail)
                clear y1 y2 x1 x2 v1 v2 dq1 dq2 dq3
                go_wp2_with fail
                go_roundw
                case rel => exact ⟨i0 + 1, _, by omega, by go_num, rfl⟩
                case measure => simp [intOf]; omega
              · skip
                have v1 : decide ((i0 : Int) < (N2 : Int)) = false := decide_eq_false (by omega)
                have v2 : decide (i0 < N2) = false := decide_eq_false (by omega)
                clear hsk
                go_wp2_with fail
                go_quiet (fail)
                clear y1 y2 x1 x2 v1 v2 dq1 dq2 dq3
                go_wp2_with fail
                go_roundw
                case rel => exact ⟨i0 + 1, _, by omega, by go_num, rfl⟩
                case measure => simp [intOf]; omega
            · skip
              have x1 : decide ((q : Int) < (n : Int)) = false := decide_eq_false (by omega)
              have x2 : decide (q < n) = false := decide_eq_false (by omega)
              by_cases z3 : i0 < N2
              · skip
                have v1 : decide ((i0 : Int) < (N2 : Int)) = true := decide_eq_true (by omega)
                have v2 : decide (i0 < N2) = true := decide_eq_true (by omega)
                obtain ⟨g2, cap2, eg2, hg2, hgl2⟩ := HI2.out.form (by omega)
                cases eg2
                have hcm := HI2.out.cell z3
                rw [HLes.out i0 z3, HQ.out] at hcm
                clear hsk
                go_wp2_with fail
                go_quiet (fail)
                clear y1 y2 x1 x2 v1 v2 dq1 dq2 dq3
                go_wp2_with fail
                go_roundw
                case rel => exact ⟨i0 + 1, _, by omega, by go_num, rfl⟩
                case measure => simp [intOf]; omega
              · skip
                have v1 : decide ((i0 : Int) < (N2 : Int)) = false := decide_eq_false (by omega)
                have v2 : decide (i0 < N2) = false := decide_eq_false (by omega)
                clear hsk
                go_wp2_with fail
                go_quiet (fail)
                clear y1 y2 x1 x2 v1 v2 dq1 dq2 dq3
                go_wp2_with fail
                go_roundw
                case rel => exact ⟨i0 + 1, _, by omega, by go_num, rfl⟩
                case measure => simp [intOf]; omega
        · obtain rfl : N = i0 := by omega
          have hA := HFi.out (w6.drewN c0) (below_drewN B6.out _) (O : Int)
          have hB := fun W' hb => HFi.out W' hb ((O : Int) + (M : Int))
          obtain ⟨al, ad, ha⟩ : ∃ al ad, fnd s k 258 (O : Int) l (0, 0) = (al, ad) := ⟨_, _, rfl⟩
          obtain ⟨bl, bd, hb⟩ : ∃ bl bd, fnd s k 258 ((O : Int) + (M : Int)) l (0, 0) = (bl, bd) := ⟨_, _, rfl⟩
          rw [ha] at hA
          rw [hb] at hB
          have hAB := two_of (by omega) (by omega) ha hb
          have HA := Lib.hid hA
          have HBf := Lib.hid hB
          have hwr := HB.out.size
          clear ha hb hA hB hlt hi0
          go_wp2_with fail
          refine HA.out.mono ?_; rintro e w7 ⟨rfl, b7⟩
          have B7 := Lib.hid ((below_drewN B6.out _).trans (b7.mono B6.out.size))
          have hw7 := B7.out.size
          have hh7 : (w7.alloc (.cells #[.int .i64 al, .int .i64 ad] 29)).heap[w7.heap.size]? = some (.cells #[.int .i64 al, .int .i64 ad] 29 (0, 0)) := heap_alloc_new _ _
          have HB2 := Lib.hid (HBf.out (w7.alloc (.cells #[.int .i64 al, .int .i64 ad] 29)) (B7.out.alloc hw7 _))
          clear b7
          go_wp2_with fail
          refine HB2.out.mono ?_; rintro e w8 ⟨rfl, b8⟩
          have hh8 : w8.heap[w7.heap.size]? = some (.cells #[.int .i64 al, .int .i64 ad] 29 (0, 0)) := (b8.block w7.heap.size (by simp)).trans hh7
          have m0 : w8.cell? ⟨w7.heap.size, 0, none⟩ = some (.int .i64 al) := by simp [World.cell?, hh8]
          have m1 : w8.cell? ⟨w7.heap.size, 1, none⟩ = some (.int .i64 ad) := by simp [World.cell?, hh8]
          have B8 := Lib.hid ((B7.out.alloc hw7 (.cells #[.int .i64 al, .int .i64 ad] 29)).trans (b8.mono (by simp; omega)))
          have ml8 : w7.heap.size < w8.heap.size := World.block_lt_of_cell? _ _ m0
          clear b8 hh7 hh8
          have B9 := Lib.hid (fun o : Obj => HB.out.trans ((B8.out.alloc B8.out.size o).mono hwr))
          rcases hAB with ⟨rfl, rfl, rfl, rfl⟩ | ⟨hp, hg1, rfl, rfl⟩ | ⟨hp, hg1, rfl, rfl⟩
          · go_wp2_with fail
            refine (works_any _).mono ?_; rintro e w9 ⟨rfl, b9⟩
            have B10 := Lib.hid ((B9.out _).trans (b9.mono (B9.out _).size))
            clear b9
            go_wp2_with fail
            go_ret
            exact ⟨rfl, B10.out⟩
          · have hz : ((al : Int) == 0) = false := by rw [beq_eq_false_iff_ne]; omega
            have hz1 : decide ((O : Int) < (al : Int)) = true := decide_eq_true (by omega)
            have hz2 : decide (O < al) = true := decide_eq_true (by omega)
            go_wp2_with fail
            refine (works_any _).mono ?_; rintro e w9 ⟨rfl, b9⟩
            have B10 := Lib.hid ((B9.out _).trans (b9.mono (B9.out _).size))
            clear b9
            go_wp2_with fail
            go_ret
            exact ⟨rfl, B10.out⟩
          · have hz : ((bl : Int) == 0) = false := by rw [beq_eq_false_iff_ne]; omega
            have hz1 : decide ((O : Int) < (bl : Int)) = true := decide_eq_true (by omega)
            have hz2 : decide (O < bl) = true := decide_eq_true (by omega)
            go_wp2_with fail
            refine (works_any _).mono ?_; rintro e w9 ⟨rfl, b9⟩
            have B10 := Lib.hid ((B9.out _).trans (b9.mono (B9.out _).size))
            clear b9
            go_wp2_with fail
            go_ret
            exact ⟨rfl, B10.out⟩

theorem ChainOrder_walk (a0 : ByteArray) (a1 : Option Addr) (len1 cap1 : Nat) (z1 : Nat → Bool) (a2 a3 a4 a5 a6 : Int) (W : World) (w0 : a0.size ≤ maxLen) (w1 : IsBools W a1 len1 z1) (w2 : (Lit.int .u16 a2).wf = true) (w3 : (Lit.int .u8 a3).wf = true) (w4 : (Lit.int .u8 a4).wf = true) (w5 : (Lit.int .u8 a5).wf = true) (w6 : (Lit.int .u8 a6).wf = true) :
    Calls Try.prog 6 #[.string a0, .slice a1 len1 cap1, .int .u16 a2, .int .u8 a3, .int .u8 a4, .int .u8 a5, .int .u8 a6] W fun e w' => e = .returned (.bool true) ∧ Below W.heap.size W w' := by
  by_cases c : 1024 < a0.size ∨ a0.size = 0 ∨ 2048 < len1
  · exact order_far a0 a1 len1 cap1 a2 a3 a4 a5 a6 W c w0 w1.1
  · obtain ⟨A, rfl, hA⟩ := u16n w2
    obtain ⟨D, rfl, hD⟩ := u8n w3
    obtain ⟨E, rfl, hE⟩ := u8n w4
    obtain ⟨O, rfl, hO⟩ := u8n w5
    obtain ⟨M, rfl, hM⟩ := u8n w6
    exact order_near a0 a1 len1 cap1 z1 A D E O M W (by omega) (by omega) (by omega) w1 hA hD hE hO hM
end Go.Proofs.Ytehpjhdbhhnkhaa
