/- ChainMatch returns true for any arguments that their kinds hold. Conditions: none. -/
import Derived.Test.YtehpjhdbhhnkhaaWks
namespace Go.Proofs.Ytehpjhdbhhnkhaa
open Go Go.RowKit M
set_option linter.unusedVariables false
set_option linter.unusedSimpArgs false

/-- what the match of a place is -/
theorem match_of {s : ByteArray} {L : List Nat} {k : Nat} {d nice : Int} {ml md : Nat} (h : fnd s k nice 2 (nr s L k d) (0, 0) = (ml, md)) :
    (ml = 0 ∧ md = 0 ∧ (nr s L k d).length = 0) ∨ (∃ p, p < k ∧ md = k - p ∧ ml = lng s p k ∧ 3 ≤ ml ∧ k + 3 ≤ s.size ∧ ∀ q, q ∈ nr s L k d → nice ≤ (ml : Int) ∨ lng s q k ≤ ml) := by
  rcases fnd_one s k nice 2 (nr s L k d) (0, 0) with e | ⟨p, hp, e, ho⟩
  · rw [h] at e
    injection e with e1 e2
    subst e1; subst e2
    refine .inl ⟨rfl, rfl, ?_⟩
    cases hq : nr s L k d with
    | nil => rfl
    | cons q r =>
      have hm : q ∈ nr s L k d := by rw [hq]; simp
      have hl := cnd_long (nr_mem hm)
      have := fnd_none s k nice 2 (l := nr s L k d) (p := q) (by rw [hq]; rfl) (by omega) (by omega)
      rw [h] at this
      exact absurd this (by simp)
  · rw [h] at e
    injection e with e1 e2
    have hm := cnd_mem (nr_mem hp)
    have hl := cnd_long (nr_mem hp)
    refine .inr ⟨p, hm.2.1, e2, e1, by omega, hm.2.2.2.1, fun q hq => ?_⟩
    rcases fnd_all s k nice 2 (nr s L k d) (0, 0) with g | g
    · rw [h] at g; exact .inl (by simp only at g; omega)
    · have := g q hq
      rw [h] at this
      exact .inr (by simp only at this; omega)

set_option maxRecDepth 1000000 in
set_option maxHeartbeats 2000000 in
theorem match_far (s : ByteArray) (a1 a2 a3 : Int) (W : World) (h : 2048 < s.size ∨ s.size = 0) (hs : s.size ≤ maxLen) :
    Calls Try.prog 3 #[.string s, .int .u16 a1, .int .u8 a2, .int .u8 a3] W fun e w' => e = .returned (.bool true) ∧ Below W.heap.size W w' := by
  unfold maxLen at hs
  by_cases c : 2048 < s.size
  · clear h
    go_enter Try.func3, Try.ntmps3
    go_wp2_with fail
    refine (works_any _).mono ?_; rintro e w7 ⟨rfl, b7⟩
    go_wp2_with fail
    go_ret
    exact ⟨rfl, b7⟩
  · obtain h0 : s.size = 0 := by omega
    clear h c
    go_enter Try.func3, Try.ntmps3
    go_wp2_with fail
    refine (works_any _).mono ?_; rintro e w7 ⟨rfl, b7⟩
    go_wp2_with fail
    go_ret
    exact ⟨rfl, b7⟩

set_option maxRecDepth 1000000 in
set_option maxHeartbeats 4000000 in
theorem match_near (s : ByteArray) (A D C : Nat) (W : World) (h1 : s.size ≤ 2048) (h0 : 0 < s.size) (hA : A ≤ 65535) (hD : D ≤ 255) (hC : C ≤ 255) :
    Calls Try.prog 3 #[.string s, .int .u16 A, .int .u8 D, .int .u8 C] W fun e w' => e = .returned (.bool true) ∧ Below W.heap.size W w' := by
  obtain ⟨k, hk⟩ : ∃ k, A % s.size = k := ⟨_, rfl⟩
  have hkz : k < s.size := by rw [← hk]; exact Nat.mod_lt _ h0
  have ek : (A : Int) % (s.size : Int) = (k : Int) := by rw [← hk]; omega
  have hne : ((s.size : Int) == 0) = false := by rw [beq_eq_false_iff_ne]; omega
  have hd0 : decide ((2048 : Int) < (s.size : Int)) = false := decide_eq_false (by omega)
  clear hk
  go_enter Try.func3, Try.ntmps3
  go_wp2_with fail
  refine (new_any s _ (by omega)).mono ?_; rintro e w1 ⟨F, rfl, hF, H1, b1⟩
  have H1 := Lib.hid H1
  have B1 := Lib.hid b1
  clear b1 hF
  go_wp2_with fail
  rw [ek]
  clear ek hne hd0
  go_loopw [11] (fun i wr => ∃ j : Nat, j ≤ k ∧ i = .int .i64 j ∧ Fd wr W.heap.size F s (List.range j) ((j : Int) - 1) ∧ Below W.heap.size W wr) (fun i _ => k - (intOf i).toNat)
  case atStart => exact ⟨0, by omega, rfl, H1.out, B1.out⟩
  case round =>
    obtain ⟨j, hj, rfl, hf, hb⟩ := hrel
    have HF := Lib.hid hf
    have HB := Lib.hid hb
    clear hf hb
    by_cases hlt : j < k
    · have HP := Lib.hid (put_ok HF.out j (by omega) (by omega) (rise_range j))
      go_wp2_with fail
      refine HP.out.mono ?_; rintro e w2 ⟨rfl, h2, b2⟩
      have H2 := Lib.hid h2
      have B2 := Lib.hid (HB.out.trans b2)
      clear h2 b2
      go_wp2_with fail
      go_roundw
      case rel => exact ⟨j + 1, by omega, by go_num, (by
        have := H2.out
        rw [← List.range_succ] at this
        rw [show (((j + 1 : Nat) : Int) - 1) = (j : Int) by omega]
        exact this), B2.out⟩
      case measure => simp [intOf]; omega
    · obtain rfl : j = k := by omega
      have HFi := Lib.hid (find_any HF.out j D C 2 (by omega))
      obtain ⟨ml, md, hm⟩ : ∃ ml md, fnd s j C 2 (nr s (List.range j) j D) (0, 0) = (ml, md) := ⟨_, _, rfl⟩
      rw [hm] at HFi
      have hmt := match_of hm
      clear hm hj hlt
      go_wp2_with fail
      refine HFi.out.mono ?_; rintro e w3 ⟨rfl, b3⟩
      have H3 := Lib.hid (HF.out.below b3)
      have B3 := Lib.hid (HB.out.trans (b3.mono HB.out.size))
      clear b3 HFi
      rcases hmt with ⟨rfl, rfl, hn⟩ | ⟨p, hp1, hp2, hp3, hp4, hp5, hall⟩
      · by_cases hD0 : D = 0
        · have d1 : ((D : Int) == 0) = true := by rw [hD0]; rfl
          clear hD0 hn
          go_wp2_with fail
          refine (works_any _).mono ?_; rintro e w7 ⟨rfl, b7⟩
          have B7 := Lib.hid ((B3.out.alloc B3.out.size (.cells #[.int .i64 0, .int .i64 0] 29)).trans (b7.mono (by simp; have := B3.out.size; omega)))
          clear b7
          go_wp2_with fail
          go_ret
          exact ⟨rfl, B7.out⟩
        · have d1 : ((D : Int) == 0) = false := by rw [beq_eq_false_iff_ne]; omega
          have hn1 : (nr s (List.range j) j 1).length = 0 := by
            rw [nr_len] at hn ⊢
            have : (D : Int).toNat = D := Int.toNat_natCast D
            rw [this] at hn
            omega
          have HPl := Lib.hid (places_any (H3.out.below ((Below.refl w3.heap.size w3).alloc (Nat.le_refl _) (.cells #[.int .i64 0, .int .i64 0] 29))) j 1 (by omega))
          rw [hn1] at HPl
          clear hD0 hn hn1
          go_wp2_with fail
          refine HPl.out.mono ?_; rintro e w6 ⟨v, rfl, h6, b6⟩
          obtain ⟨Av, cv, rfl⟩ := h6.slice
          have B6 := Lib.hid ((B3.out.alloc B3.out.size (.cells #[.int .i64 0, .int .i64 0] 29)).trans (b6.mono (by simp; have := B3.out.size; omega)))
          clear b6 h6 HPl
          go_wp2_with fail
          refine (works_any _).mono ?_; rintro e w7 ⟨rfl, b7⟩
          have B7 := Lib.hid (B6.out.trans (b7.mono B6.out.size))
          clear b7
          go_wp2_with fail
          go_ret
          exact ⟨rfl, B7.out⟩
      · have hl2 := lng_le s p j
        rw [← hp3] at hl2
        have hmk : ((ml : Int) == 0) = false := by rw [beq_eq_false_iff_ne]; omega
        have hpi : (j : Int) - (md : Int) = (p : Int) := by omega
        have hpw : IntKind.i64.wrap ((j : Int) - (md : Int)) = (p : Int) := by rw [IntWalk.i64_in _ (by omega)]; omega
        have hIs := lng_is s p j
        rw [← hp3] at hIs
        have HIs := Lib.hid hIs
        have HAll := Lib.hid hall
        have hm1 : ml ≤ 258 := hl2.1
        have hm2 : j + ml ≤ s.size := by omega
        have hm3 : md ≤ j := by omega
        have hm4 : 1 ≤ md := by omega
        have HP3 := Lib.hid hp3
        have hd5 : decide ((ml : Int) < 3) = false := decide_eq_false (by omega)
        have hd6 : decide ((258 : Int) < (ml : Int)) = false := decide_eq_false (by omega)
        have hd7 : decide ((md : Int) < 1) = false := decide_eq_false (by omega)
        have hd8 : decide ((j : Int) < (md : Int)) = false := decide_eq_false (by omega)
        have hd8' : decide (j < md) = false := decide_eq_false (by omega)
        obtain ⟨xe, hxe⟩ : ∃ xe, j + ml = xe := ⟨_, rfl⟩
        have hxi : (j : Int) + (ml : Int) = (xe : Int) := by omega
        have hd9 : decide ((s.size : Int) < (xe : Int)) = false := decide_eq_false (by omega)
        have hd9' : decide (s.size < xe) = false := decide_eq_false (by omega)
        have HXE := Lib.hid hxe
        clear hIs hall hp3 hl2 hp2 hxe
        go_wp2_with fail
        have hh4 : (w3.alloc (.cells #[.int .i64 ml, .int .i64 md] 29)).heap[w3.heap.size]? = some (.cells #[.int .i64 ml, .int .i64 md] 29 (0, 0)) := heap_alloc_new _ _
        have H4 := Lib.hid (H3.out.below ((Below.refl w3.heap.size w3).alloc (Nat.le_refl _) (.cells #[.int .i64 ml, .int .i64 md] 29)))
        have B4 := Lib.hid (B3.out.alloc B3.out.size (.cells #[.int .i64 ml, .int .i64 md] 29))
        obtain ⟨w4, hw4⟩ : ∃ w4, w3.alloc (.cells #[.int .i64 ml, .int .i64 md] 29) = w4 := ⟨_, rfl⟩
        rw [hw4] at hh4 H4 B4 ⊢
        have m0 : w4.cell? ⟨w3.heap.size, 0, none⟩ = some (.int .i64 ml) := by simp [World.cell?, hh4]
        have m1 : w4.cell? ⟨w3.heap.size, 1, none⟩ = some (.int .i64 md) := by simp [World.cell?, hh4]
        have ml4 : w3.heap.size < w4.heap.size := World.block_lt_of_cell? _ _ m0
        clear hh4 hw4 hd5 hd6 hd7 hd8 hd8' hd9 hd9' hxi
        go_loopw [13] (fun i wr => ∃ i0 c : Nat, i0 ≤ ml ∧ i = .int .i64 i0 ∧ wr = w4.drewN c) (fun i _ => ml - (intOf i).toNat)
        case atStart => exact ⟨0, 0, Nat.zero_le _, rfl, rfl⟩
        case round =>
          obtain ⟨i0, c0, hi0, rfl, rfl⟩ := hrel
          by_cases hlt : i0 < ml
          · obtain ⟨x, hx⟩ : ∃ x, j + i0 = x := ⟨_, rfl⟩
            obtain ⟨y, hy⟩ : ∃ y, p + i0 = y := ⟨_, rfl⟩
            have i1 : x < s.size := by omega
            have i2 : y < s.size := by omega
            have b1 := byt_eq i1
            have b2 := byt_eq i2
            have hsm := HIs.out.same i0 hlt
            rw [hx, hy] at hsm
            have ee : (((s[x]'i1).toNat : Int) != ((s[y]'i2).toNat : Int)) = false := by rw [b1, b2, hsm]; simp
            have q1 : IntKind.i64.wrap ((j : Int) + (i0 : Int)) = (x : Int) := by rw [IntWalk.i64_in _ (by omega)]; omega
            have q2 : IntKind.i64.wrap ((p : Int) + (i0 : Int)) = (y : Int) := by rw [IntWalk.i64_in _ (by omega)]; omega
            have q3 : (j : Int) + (i0 : Int) = (x : Int) := by omega
            have q4 : (p : Int) + (i0 : Int) = (y : Int) := by omega
            clear hx hy b1 b2 hsm
            go_wp2_with fail
            go_quiet (fail)
            clear q3 q4
            go_wp2_with fail
            go_roundw
            case rel => exact ⟨i0 + 1, _, by omega, by go_num, rfl⟩
            case measure => simp [intOf]; omega
          · obtain rfl : ml = i0 := by omega
            have HPl := Lib.hid (fun W' (hb : Below w4.heap.size w4 W') => places_any (H4.out.below hb) j D (by omega))
            have hQ : ∀ q, q ∈ nr s (List.range j) j D → q < j := fun q hq => (cnd_mem (nr_mem hq)).2.1
            obtain ⟨l, hl⟩ : ∃ l, nr s (List.range j) j D = l := ⟨_, rfl⟩
            have hnb := nr_few H4.out j D
            rw [hl] at HPl hQ HAll hnb
            clear hl
            obtain ⟨n, hn⟩ : ∃ n, l.length = n := ⟨_, rfl⟩
            rw [hn] at HPl hnb
            have HN := Lib.hid hn
            have HQ := Lib.hid hQ
            clear hn hQ hlt hi0
            have hxi : (j : Int) + (ml : Int) = (xe : Int) := by have := HXE.out; omega
            have hxw : IntKind.i64.wrap ((j : Int) + (ml : Int)) = (xe : Int) := by rw [IntWalk.i64_in _ (by omega)]; omega
            by_cases e1 : ml < 258
            · have d1 : decide ((ml : Int) < 258) = true := decide_eq_true (by omega)
              by_cases e2 : xe < s.size
              · have d2 : decide ((xe : Int) < (s.size : Int)) = true := decide_eq_true (by omega)
                have d3 : decide (xe < s.size) = true := decide_eq_true (by omega)
                obtain ⟨ye, hye⟩ : ∃ ye, p + ml = ye := ⟨_, rfl⟩
                have hyi : (p : Int) + (ml : Int) = (ye : Int) := by omega
                have hyw : IntKind.i64.wrap ((p : Int) + (ml : Int)) = (ye : Int) := by rw [IntWalk.i64_in _ (by omega)]; omega
                have i2' : ye < s.size := by omega
                have b1 := byt_eq e2
                have b2 := byt_eq i2'
                have hdf : byt s ye ≠ byt s xe := by
                  rcases HIs.out.stop with h | h
                  · unfold most at h; have := HXE.out; omega
                  · rw [hye, HXE.out] at h; exact h
                have ee : (((s[xe]'e2).toNat : Int) == ((s[ye]'i2').toNat : Int)) = false := by rw [b1, b2, beq_eq_false_iff_ne]; omega
                clear hye b1 b2 hdf
                go_wp2_with fail
                go_quiet (fail)
                clear d1 d2 d3 hxi hyi hyw hxw ee hpi hpw
                go_wp2_with fail
                refine (HPl.out _ (below_drewN (Below.refl _ _) _)).mono ?_; rintro e w5 ⟨v, rfl, h5, b5⟩
                obtain ⟨Av, cv, rfl⟩ := h5.slice
                have m0' : w5.cell? ⟨w3.heap.size, 0, none⟩ = some (.int .i64 ml) := (b5.cell (p := ⟨w3.heap.size, 0, none⟩) ml4).trans m0
                have HI := Lib.hid h5
                have B5 := Lib.hid ((below_drewN B4.out _).trans (b5.mono B4.out.size))
                clear b5 h5
                go_wp2_with fail
                go_loopw [15] (fun i wr => ∃ i1 c : Nat, i1 ≤ n ∧ i = .int .i64 i1 ∧ wr = w5.drewN c) (fun i _ => n - (intOf i).toNat)
                case atStart => exact ⟨0, 0, Nat.zero_le _, rfl, rfl⟩
                case round =>
                  obtain ⟨i1, c1, hi1, rfl, rfl⟩ := hrel
                  by_cases hlt1 : i1 < n
                  · obtain ⟨g, cap, eg, hg, hgl⟩ := HI.out.form (by omega)
                    cases eg
                    have hcq := HI.out.cell hlt1
                    obtain ⟨q, hq⟩ : ∃ q, l.getD i1 0 = q := ⟨_, rfl⟩
                    have hqm : q ∈ l := by
                      rw [← hq, List.getD, List.getElem?_eq_getElem (by rw [HN.out]; exact hlt1)]
                      exact List.getElem_mem _
                    rw [hq] at hcq
                    have hqj := HQ.out q hqm
                    have hqa := HAll.out q hqm
                    have zl := lng_le s q j
                    have hIz := lng_is s q j
                    obtain ⟨z, hz⟩ : ∃ z, lng s q j = z := ⟨_, rfl⟩
                    rw [hz] at hqa zl hIz
                    have HIz := Lib.hid hIz
                    have z1 : z ≤ 258 := zl.1
                    have z2 : j + z ≤ s.size := by omega
                    have hd1 : decide ((q : Int) < 0) = false := decide_eq_false (by omega)
                    have hd2 : decide ((j : Int) ≤ (q : Int)) = false := decide_eq_false (by omega)
                    have hd3 : decide (j ≤ q) = false := decide_eq_false (by omega)
                    clear hq hqm hz zl hIz
                    go_wp2_with fail
                    clear hd1 hd2 hd3
                    go_loopw [16] (fun i wr => ∃ n0 c : Nat, n0 ≤ z ∧ i = .int .i64 n0 ∧ wr = w5.drewN c) (fun i _ => z - (intOf i).toNat)
                    case atStart => exact ⟨0, c1, Nat.zero_le _, rfl, rfl⟩
                    case round =>
                      obtain ⟨n0, c2, hn0, rfl, rfl⟩ := hrel
                      obtain ⟨x, hx⟩ : ∃ x, j + n0 = x := ⟨_, rfl⟩
                      obtain ⟨y, hy⟩ : ∃ y, q + n0 = y := ⟨_, rfl⟩
                      have q1 : IntKind.i64.wrap ((j : Int) + (n0 : Int)) = (x : Int) := by rw [IntWalk.i64_in _ (by omega)]; omega
                      have q2 : IntKind.i64.wrap ((q : Int) + (n0 : Int)) = (y : Int) := by rw [IntWalk.i64_in _ (by omega)]; omega
                      have q3 : (j : Int) + (n0 : Int) = (x : Int) := by omega
                      have q4 : (q : Int) + (n0 : Int) = (y : Int) := by omega
                      by_cases hlt2 : n0 < z
                      · have i1' : x < s.size := by omega
                        have i2' : y < s.size := by omega
                        have b1 := byt_eq i1'
                        have b2 := byt_eq i2'
                        have hsm := HIz.out.same n0 hlt2
                        rw [hx, hy] at hsm
                        have ee : (((s[y]'i2').toNat : Int) == ((s[x]'i1').toNat : Int)) = true := by rw [b1, b2, hsm]; simp
                        have d1 : decide ((n0 : Int) < 258) = true := decide_eq_true (by omega)
                        have d2 : decide ((x : Int) < (s.size : Int)) = true := decide_eq_true (by omega)
                        have d3 : decide (x < s.size) = true := decide_eq_true (by omega)
                        clear hx hy b1 b2 hsm
                        go_wp2_with fail
                        go_quiet (fail)
                        clear q3 q4 d1 d2 d3
                        go_wp2_with fail
                        go_roundw
                        case rel => exact ⟨n0 + 1, _, by omega, by go_num, rfl⟩
                        case measure => simp [intOf]; omega
                      · obtain rfl : z = n0 := by omega
                        have hfin : Hid (ml < z → C ≤ ml) := Lib.hid (fun h1 => by rcases hqa with h | h <;> omega)
                        clear hqa
                        by_cases e1 : z < 258
                        · have d1 : decide ((z : Int) < 258) = true := decide_eq_true (by omega)
                          by_cases e2 : x < s.size
                          · have d2 : decide ((x : Int) < (s.size : Int)) = true := decide_eq_true (by omega)
                            have d3 : decide (x < s.size) = true := decide_eq_true (by omega)
                            have i2' : y < s.size := by omega
                            have b1 := byt_eq e2
                            have b2 := byt_eq i2'
                            have hdf : byt s y ≠ byt s x := by
                              rcases HIz.out.stop with h | h
                              · unfold most at h; omega
                              · rw [hx, hy] at h; exact h
                            have ee : (((s[y]'i2').toNat : Int) == ((s[x]'e2).toNat : Int)) = false := by rw [b1, b2, beq_eq_false_iff_ne]; omega
                            clear hx hy b1 b2 hdf
                            go_wp2_with fail
                            go_quiet (fail)
                            clear q3 q4 d1 d2 d3 z1 z2
                            by_cases f1 : ml < z
                            · have f2 : C ≤ ml := hfin.out f1
                              have g1 : decide ((ml : Int) < (z : Int)) = true := decide_eq_true (by omega)
                              have g2 : decide ((ml : Int) < (C : Int)) = false := decide_eq_false (by omega)
                              have g3 : decide (ml < z) = true := decide_eq_true (by omega)
                              have g4 : decide (ml < C) = false := decide_eq_false (by omega)
                              go_wp2_with fail
                              go_roundw
                              case rel => exact ⟨i1 + 1, _, by omega, by go_num, rfl⟩
                              case measure => simp [intOf]; omega
                            · have g1 : decide ((ml : Int) < (z : Int)) = false := decide_eq_false (by omega)
                              have g3 : decide (ml < z) = false := decide_eq_false (by omega)
                              go_wp2_with fail
                              go_roundw
                              case rel => exact ⟨i1 + 1, _, by omega, by go_num, rfl⟩
                              case measure => simp [intOf]; omega
                          · have d2 : decide ((x : Int) < (s.size : Int)) = false := decide_eq_false (by omega)
                            have d3 : decide (x < s.size) = false := decide_eq_false (by omega)
                            clear hx hy
                            go_wp2_with fail
                            go_quiet (fail)
                            clear q3 q4 d1 d2 d3 z1 z2
                            by_cases f1 : ml < z
                            · have f2 : C ≤ ml := hfin.out f1
                              have g1 : decide ((ml : Int) < (z : Int)) = true := decide_eq_true (by omega)
                              have g2 : decide ((ml : Int) < (C : Int)) = false := decide_eq_false (by omega)
                              have g3 : decide (ml < z) = true := decide_eq_true (by omega)
                              have g4 : decide (ml < C) = false := decide_eq_false (by omega)
                              go_wp2_with fail
                              go_roundw
                              case rel => exact ⟨i1 + 1, _, by omega, by go_num, rfl⟩
                              case measure => simp [intOf]; omega
                            · have g1 : decide ((ml : Int) < (z : Int)) = false := decide_eq_false (by omega)
                              have g3 : decide (ml < z) = false := decide_eq_false (by omega)
                              go_wp2_with fail
                              go_roundw
                              case rel => exact ⟨i1 + 1, _, by omega, by go_num, rfl⟩
                              case measure => simp [intOf]; omega
                        · have d1 : decide ((z : Int) < 258) = false := decide_eq_false (by omega)
                          clear hx hy
                          go_wp2_with fail
                          go_quiet (fail)
                          clear q3 q4 d1 z1 z2
                          clear e1
                          by_cases f1 : ml < z
                          · have f2 : C ≤ ml := hfin.out f1
                            have g1 : decide ((ml : Int) < (z : Int)) = true := decide_eq_true (by omega)
                            have g2 : decide ((ml : Int) < (C : Int)) = false := decide_eq_false (by omega)
                            have g3 : decide (ml < z) = true := decide_eq_true (by omega)
                            have g4 : decide (ml < C) = false := decide_eq_false (by omega)
                            go_wp2_with fail
                            go_roundw
                            case rel => exact ⟨i1 + 1, _, by omega, by go_num, rfl⟩
                            case measure => simp [intOf]; omega
                          · have g1 : decide ((ml : Int) < (z : Int)) = false := decide_eq_false (by omega)
                            have g3 : decide (ml < z) = false := decide_eq_false (by omega)
                            go_wp2_with fail
                            go_roundw
                            case rel => exact ⟨i1 + 1, _, by omega, by go_num, rfl⟩
                            case measure => simp [intOf]; omega
                  · obtain rfl : n = i1 := by omega
                    go_wp2_with fail
                    refine (works_any _).mono ?_; rintro e w7 ⟨rfl, b7⟩
                    have B7 := Lib.hid ((below_drewN B5.out _).trans (b7.mono B5.out.size))
                    clear b7
                    go_wp2_with fail
                    go_ret
                    exact ⟨rfl, B7.out⟩
              · have d2 : decide ((xe : Int) < (s.size : Int)) = false := decide_eq_false (by omega)
                have d3 : decide (xe < s.size) = false := decide_eq_false (by omega)
                go_wp2_with fail
                go_quiet (fail)
                clear d1 d2 d3 hxi hxw hpi hpw
                go_wp2_with fail
                refine (HPl.out _ (below_drewN (Below.refl _ _) _)).mono ?_; rintro e w5 ⟨v, rfl, h5, b5⟩
                obtain ⟨Av, cv, rfl⟩ := h5.slice
                have m0' : w5.cell? ⟨w3.heap.size, 0, none⟩ = some (.int .i64 ml) := (b5.cell (p := ⟨w3.heap.size, 0, none⟩) ml4).trans m0
                have HI := Lib.hid h5
                have B5 := Lib.hid ((below_drewN B4.out _).trans (b5.mono B4.out.size))
                clear b5 h5
                go_wp2_with fail
                go_loopw [15] (fun i wr => ∃ i1 c : Nat, i1 ≤ n ∧ i = .int .i64 i1 ∧ wr = w5.drewN c) (fun i _ => n - (intOf i).toNat)
                case atStart => exact ⟨0, 0, Nat.zero_le _, rfl, rfl⟩
                case round =>
                  obtain ⟨i1, c1, hi1, rfl, rfl⟩ := hrel
                  by_cases hlt1 : i1 < n
                  · obtain ⟨g, cap, eg, hg, hgl⟩ := HI.out.form (by omega)
                    cases eg
                    have hcq := HI.out.cell hlt1
                    obtain ⟨q, hq⟩ : ∃ q, l.getD i1 0 = q := ⟨_, rfl⟩
                    have hqm : q ∈ l := by
                      rw [← hq, List.getD, List.getElem?_eq_getElem (by rw [HN.out]; exact hlt1)]
                      exact List.getElem_mem _
                    rw [hq] at hcq
                    have hqj := HQ.out q hqm
                    have hqa := HAll.out q hqm
                    have zl := lng_le s q j
                    have hIz := lng_is s q j
                    obtain ⟨z, hz⟩ : ∃ z, lng s q j = z := ⟨_, rfl⟩
                    rw [hz] at hqa zl hIz
                    have HIz := Lib.hid hIz
                    have z1 : z ≤ 258 := zl.1
                    have z2 : j + z ≤ s.size := by omega
                    have hd1 : decide ((q : Int) < 0) = false := decide_eq_false (by omega)
                    have hd2 : decide ((j : Int) ≤ (q : Int)) = false := decide_eq_false (by omega)
                    have hd3 : decide (j ≤ q) = false := decide_eq_false (by omega)
                    clear hq hqm hz zl hIz
                    go_wp2_with fail
                    clear hd1 hd2 hd3
                    go_loopw [16] (fun i wr => ∃ n0 c : Nat, n0 ≤ z ∧ i = .int .i64 n0 ∧ wr = w5.drewN c) (fun i _ => z - (intOf i).toNat)
                    case atStart => exact ⟨0, c1, Nat.zero_le _, rfl, rfl⟩
                    case round =>
                      obtain ⟨n0, c2, hn0, rfl, rfl⟩ := hrel
                      obtain ⟨x, hx⟩ : ∃ x, j + n0 = x := ⟨_, rfl⟩
                      obtain ⟨y, hy⟩ : ∃ y, q + n0 = y := ⟨_, rfl⟩
                      have q1 : IntKind.i64.wrap ((j : Int) + (n0 : Int)) = (x : Int) := by rw [IntWalk.i64_in _ (by omega)]; omega
                      have q2 : IntKind.i64.wrap ((q : Int) + (n0 : Int)) = (y : Int) := by rw [IntWalk.i64_in _ (by omega)]; omega
                      have q3 : (j : Int) + (n0 : Int) = (x : Int) := by omega
                      have q4 : (q : Int) + (n0 : Int) = (y : Int) := by omega
                      by_cases hlt2 : n0 < z
                      · have i1' : x < s.size := by omega
                        have i2' : y < s.size := by omega
                        have b1 := byt_eq i1'
                        have b2 := byt_eq i2'
                        have hsm := HIz.out.same n0 hlt2
                        rw [hx, hy] at hsm
                        have ee : (((s[y]'i2').toNat : Int) == ((s[x]'i1').toNat : Int)) = true := by rw [b1, b2, hsm]; simp
                        have d1 : decide ((n0 : Int) < 258) = true := decide_eq_true (by omega)
                        have d2 : decide ((x : Int) < (s.size : Int)) = true := decide_eq_true (by omega)
                        have d3 : decide (x < s.size) = true := decide_eq_true (by omega)
                        clear hx hy b1 b2 hsm
                        go_wp2_with fail
                        go_quiet (fail)
                        clear q3 q4 d1 d2 d3
                        go_wp2_with fail
                        go_roundw
                        case rel => exact ⟨n0 + 1, _, by omega, by go_num, rfl⟩
                        case measure => simp [intOf]; omega
                      · obtain rfl : z = n0 := by omega
                        have hfin : Hid (ml < z → C ≤ ml) := Lib.hid (fun h1 => by rcases hqa with h | h <;> omega)
                        clear hqa
                        by_cases e1 : z < 258
                        · have d1 : decide ((z : Int) < 258) = true := decide_eq_true (by omega)
                          by_cases e2 : x < s.size
                          · have d2 : decide ((x : Int) < (s.size : Int)) = true := decide_eq_true (by omega)
                            have d3 : decide (x < s.size) = true := decide_eq_true (by omega)
                            have i2' : y < s.size := by omega
                            have b1 := byt_eq e2
                            have b2 := byt_eq i2'
                            have hdf : byt s y ≠ byt s x := by
                              rcases HIz.out.stop with h | h
                              · unfold most at h; omega
                              · rw [hx, hy] at h; exact h
                            have ee : (((s[y]'i2').toNat : Int) == ((s[x]'e2).toNat : Int)) = false := by rw [b1, b2, beq_eq_false_iff_ne]; omega
                            clear hx hy b1 b2 hdf
                            go_wp2_with fail
                            go_quiet (fail)
                            clear q3 q4 d1 d2 d3 z1 z2
                            by_cases f1 : ml < z
                            · have f2 : C ≤ ml := hfin.out f1
                              have g1 : decide ((ml : Int) < (z : Int)) = true := decide_eq_true (by omega)
                              have g2 : decide ((ml : Int) < (C : Int)) = false := decide_eq_false (by omega)
                              have g3 : decide (ml < z) = true := decide_eq_true (by omega)
                              have g4 : decide (ml < C) = false := decide_eq_false (by omega)
                              go_wp2_with fail
                              go_roundw
                              case rel => exact ⟨i1 + 1, _, by omega, by go_num, rfl⟩
                              case measure => simp [intOf]; omega
                            · have g1 : decide ((ml : Int) < (z : Int)) = false := decide_eq_false (by omega)
                              have g3 : decide (ml < z) = false := decide_eq_false (by omega)
                              go_wp2_with fail
                              go_roundw
                              case rel => exact ⟨i1 + 1, _, by omega, by go_num, rfl⟩
                              case measure => simp [intOf]; omega
                          · have d2 : decide ((x : Int) < (s.size : Int)) = false := decide_eq_false (by omega)
                            have d3 : decide (x < s.size) = false := decide_eq_false (by omega)
                            clear hx hy
                            go_wp2_with fail
                            go_quiet (fail)
                            clear q3 q4 d1 d2 d3 z1 z2
                            by_cases f1 : ml < z
                            · have f2 : C ≤ ml := hfin.out f1
                              have g1 : decide ((ml : Int) < (z : Int)) = true := decide_eq_true (by omega)
                              have g2 : decide ((ml : Int) < (C : Int)) = false := decide_eq_false (by omega)
                              have g3 : decide (ml < z) = true := decide_eq_true (by omega)
                              have g4 : decide (ml < C) = false := decide_eq_false (by omega)
                              go_wp2_with fail
                              go_roundw
                              case rel => exact ⟨i1 + 1, _, by omega, by go_num, rfl⟩
                              case measure => simp [intOf]; omega
                            · have g1 : decide ((ml : Int) < (z : Int)) = false := decide_eq_false (by omega)
                              have g3 : decide (ml < z) = false := decide_eq_false (by omega)
                              go_wp2_with fail
                              go_roundw
                              case rel => exact ⟨i1 + 1, _, by omega, by go_num, rfl⟩
                              case measure => simp [intOf]; omega
                        · have d1 : decide ((z : Int) < 258) = false := decide_eq_false (by omega)
                          clear hx hy
                          go_wp2_with fail
                          go_quiet (fail)
                          clear q3 q4 d1 z1 z2
                          clear e1
                          by_cases f1 : ml < z
                          · have f2 : C ≤ ml := hfin.out f1
                            have g1 : decide ((ml : Int) < (z : Int)) = true := decide_eq_true (by omega)
                            have g2 : decide ((ml : Int) < (C : Int)) = false := decide_eq_false (by omega)
                            have g3 : decide (ml < z) = true := decide_eq_true (by omega)
                            have g4 : decide (ml < C) = false := decide_eq_false (by omega)
                            go_wp2_with fail
                            go_roundw
                            case rel => exact ⟨i1 + 1, _, by omega, by go_num, rfl⟩
                            case measure => simp [intOf]; omega
                          · have g1 : decide ((ml : Int) < (z : Int)) = false := decide_eq_false (by omega)
                            have g3 : decide (ml < z) = false := decide_eq_false (by omega)
                            go_wp2_with fail
                            go_roundw
                            case rel => exact ⟨i1 + 1, _, by omega, by go_num, rfl⟩
                            case measure => simp [intOf]; omega
                  · obtain rfl : n = i1 := by omega
                    go_wp2_with fail
                    refine (works_any _).mono ?_; rintro e w7 ⟨rfl, b7⟩
                    have B7 := Lib.hid ((below_drewN B5.out _).trans (b7.mono B5.out.size))
                    clear b7
                    go_wp2_with fail
                    go_ret
                    exact ⟨rfl, B7.out⟩
            · have d1 : decide ((ml : Int) < 258) = false := decide_eq_false (by omega)
              go_wp2_with fail
              go_quiet (fail)
              clear d1 hxi hxw hpi hpw e1 hm1
              go_wp2_with fail
              refine (HPl.out _ (below_drewN (Below.refl _ _) _)).mono ?_; rintro e w5 ⟨v, rfl, h5, b5⟩
              obtain ⟨Av, cv, rfl⟩ := h5.slice
              have m0' : w5.cell? ⟨w3.heap.size, 0, none⟩ = some (.int .i64 ml) := (b5.cell (p := ⟨w3.heap.size, 0, none⟩) ml4).trans m0
              have HI := Lib.hid h5
              have B5 := Lib.hid ((below_drewN B4.out _).trans (b5.mono B4.out.size))
              clear b5 h5
              go_wp2_with fail
              go_loopw [15] (fun i wr => ∃ i1 c : Nat, i1 ≤ n ∧ i = .int .i64 i1 ∧ wr = w5.drewN c) (fun i _ => n - (intOf i).toNat)
              case atStart => exact ⟨0, 0, Nat.zero_le _, rfl, rfl⟩
              case round =>
                obtain ⟨i1, c1, hi1, rfl, rfl⟩ := hrel
                by_cases hlt1 : i1 < n
                · obtain ⟨g, cap, eg, hg, hgl⟩ := HI.out.form (by omega)
                  cases eg
                  have hcq := HI.out.cell hlt1
                  obtain ⟨q, hq⟩ : ∃ q, l.getD i1 0 = q := ⟨_, rfl⟩
                  have hqm : q ∈ l := by
                    rw [← hq, List.getD, List.getElem?_eq_getElem (by rw [HN.out]; exact hlt1)]
                    exact List.getElem_mem _
                  rw [hq] at hcq
                  have hqj := HQ.out q hqm
                  have hqa := HAll.out q hqm
                  have zl := lng_le s q j
                  have hIz := lng_is s q j
                  obtain ⟨z, hz⟩ : ∃ z, lng s q j = z := ⟨_, rfl⟩
                  rw [hz] at hqa zl hIz
                  have HIz := Lib.hid hIz
                  have z1 : z ≤ 258 := zl.1
                  have z2 : j + z ≤ s.size := by omega
                  have hd1 : decide ((q : Int) < 0) = false := decide_eq_false (by omega)
                  have hd2 : decide ((j : Int) ≤ (q : Int)) = false := decide_eq_false (by omega)
                  have hd3 : decide (j ≤ q) = false := decide_eq_false (by omega)
                  clear hq hqm hz zl hIz
                  go_wp2_with fail
                  clear hd1 hd2 hd3
                  go_loopw [16] (fun i wr => ∃ n0 c : Nat, n0 ≤ z ∧ i = .int .i64 n0 ∧ wr = w5.drewN c) (fun i _ => z - (intOf i).toNat)
                  case atStart => exact ⟨0, c1, Nat.zero_le _, rfl, rfl⟩
                  case round =>
                    obtain ⟨n0, c2, hn0, rfl, rfl⟩ := hrel
                    obtain ⟨x, hx⟩ : ∃ x, j + n0 = x := ⟨_, rfl⟩
                    obtain ⟨y, hy⟩ : ∃ y, q + n0 = y := ⟨_, rfl⟩
                    have q1 : IntKind.i64.wrap ((j : Int) + (n0 : Int)) = (x : Int) := by rw [IntWalk.i64_in _ (by omega)]; omega
                    have q2 : IntKind.i64.wrap ((q : Int) + (n0 : Int)) = (y : Int) := by rw [IntWalk.i64_in _ (by omega)]; omega
                    have q3 : (j : Int) + (n0 : Int) = (x : Int) := by omega
                    have q4 : (q : Int) + (n0 : Int) = (y : Int) := by omega
                    by_cases hlt2 : n0 < z
                    · have i1' : x < s.size := by omega
                      have i2' : y < s.size := by omega
                      have b1 := byt_eq i1'
                      have b2 := byt_eq i2'
                      have hsm := HIz.out.same n0 hlt2
                      rw [hx, hy] at hsm
                      have ee : (((s[y]'i2').toNat : Int) == ((s[x]'i1').toNat : Int)) = true := by rw [b1, b2, hsm]; simp
                      have d1 : decide ((n0 : Int) < 258) = true := decide_eq_true (by omega)
                      have d2 : decide ((x : Int) < (s.size : Int)) = true := decide_eq_true (by omega)
                      have d3 : decide (x < s.size) = true := decide_eq_true (by omega)
                      clear hx hy b1 b2 hsm
                      go_wp2_with fail
                      go_quiet (fail)
                      clear q3 q4 d1 d2 d3
                      go_wp2_with fail
                      go_roundw
                      case rel => exact ⟨n0 + 1, _, by omega, by go_num, rfl⟩
                      case measure => simp [intOf]; omega
                    · obtain rfl : z = n0 := by omega
                      have hfin : Hid (ml < z → C ≤ ml) := Lib.hid (fun h1 => by rcases hqa with h | h <;> omega)
                      clear hqa
                      by_cases e1 : z < 258
                      · have d1 : decide ((z : Int) < 258) = true := decide_eq_true (by omega)
                        by_cases e2 : x < s.size
                        · have d2 : decide ((x : Int) < (s.size : Int)) = true := decide_eq_true (by omega)
                          have d3 : decide (x < s.size) = true := decide_eq_true (by omega)
                          have i2' : y < s.size := by omega
                          have b1 := byt_eq e2
                          have b2 := byt_eq i2'
                          have hdf : byt s y ≠ byt s x := by
                            rcases HIz.out.stop with h | h
                            · unfold most at h; omega
                            · rw [hx, hy] at h; exact h
                          have ee : (((s[y]'i2').toNat : Int) == ((s[x]'e2).toNat : Int)) = false := by rw [b1, b2, beq_eq_false_iff_ne]; omega
                          clear hx hy b1 b2 hdf
                          go_wp2_with fail
                          go_quiet (fail)
                          clear q3 q4 d1 d2 d3 z1 z2
                          by_cases f1 : ml < z
                          · have f2 : C ≤ ml := hfin.out f1
                            have g1 : decide ((ml : Int) < (z : Int)) = true := decide_eq_true (by omega)
                            have g2 : decide ((ml : Int) < (C : Int)) = false := decide_eq_false (by omega)
                            have g3 : decide (ml < z) = true := decide_eq_true (by omega)
                            have g4 : decide (ml < C) = false := decide_eq_false (by omega)
                            go_wp2_with fail
                            go_roundw
                            case rel => exact ⟨i1 + 1, _, by omega, by go_num, rfl⟩
                            case measure => simp [intOf]; omega
                          · have g1 : decide ((ml : Int) < (z : Int)) = false := decide_eq_false (by omega)
                            have g3 : decide (ml < z) = false := decide_eq_false (by omega)
                            go_wp2_with fail
                            go_roundw
                            case rel => exact ⟨i1 + 1, _, by omega, by go_num, rfl⟩
                            case measure => simp [intOf]; omega
                        · have d2 : decide ((x : Int) < (s.size : Int)) = false := decide_eq_false (by omega)
                          have d3 : decide (x < s.size) = false := decide_eq_false (by omega)
                          clear hx hy
                          go_wp2_with fail
                          go_quiet (fail)
                          clear q3 q4 d1 d2 d3 z1 z2
                          by_cases f1 : ml < z
                          · have f2 : C ≤ ml := hfin.out f1
                            have g1 : decide ((ml : Int) < (z : Int)) = true := decide_eq_true (by omega)
                            have g2 : decide ((ml : Int) < (C : Int)) = false := decide_eq_false (by omega)
                            have g3 : decide (ml < z) = true := decide_eq_true (by omega)
                            have g4 : decide (ml < C) = false := decide_eq_false (by omega)
                            go_wp2_with fail
                            go_roundw
                            case rel => exact ⟨i1 + 1, _, by omega, by go_num, rfl⟩
                            case measure => simp [intOf]; omega
                          · have g1 : decide ((ml : Int) < (z : Int)) = false := decide_eq_false (by omega)
                            have g3 : decide (ml < z) = false := decide_eq_false (by omega)
                            go_wp2_with fail
                            go_roundw
                            case rel => exact ⟨i1 + 1, _, by omega, by go_num, rfl⟩
                            case measure => simp [intOf]; omega
                      · have d1 : decide ((z : Int) < 258) = false := decide_eq_false (by omega)
                        clear hx hy
                        go_wp2_with fail
                        go_quiet (fail)
                        clear q3 q4 d1 z1 z2
                        clear e1
                        by_cases f1 : ml < z
                        · have f2 : C ≤ ml := hfin.out f1
                          have g1 : decide ((ml : Int) < (z : Int)) = true := decide_eq_true (by omega)
                          have g2 : decide ((ml : Int) < (C : Int)) = false := decide_eq_false (by omega)
                          have g3 : decide (ml < z) = true := decide_eq_true (by omega)
                          have g4 : decide (ml < C) = false := decide_eq_false (by omega)
                          go_wp2_with fail
                          go_roundw
                          case rel => exact ⟨i1 + 1, _, by omega, by go_num, rfl⟩
                          case measure => simp [intOf]; omega
                        · have g1 : decide ((ml : Int) < (z : Int)) = false := decide_eq_false (by omega)
                          have g3 : decide (ml < z) = false := decide_eq_false (by omega)
                          go_wp2_with fail
                          go_roundw
                          case rel => exact ⟨i1 + 1, _, by omega, by go_num, rfl⟩
                          case measure => simp [intOf]; omega
                · obtain rfl : n = i1 := by omega
                  go_wp2_with fail
                  refine (works_any _).mono ?_; rintro e w7 ⟨rfl, b7⟩
                  have B7 := Lib.hid ((below_drewN B5.out _).trans (b7.mono B5.out.size))
                  clear b7
                  go_wp2_with fail
                  go_ret
                  exact ⟨rfl, B7.out⟩
end Go.Proofs.Ytehpjhdbhhnkhaa
