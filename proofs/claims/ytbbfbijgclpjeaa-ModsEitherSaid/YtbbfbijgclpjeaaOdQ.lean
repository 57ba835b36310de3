/- What the document's Diff of layer 18 answers. Conditions: as each theorem names them. -/
import Derived.Test.YtbbfbijgclpjeaaOdP
import Derived.Test.YtbbfbijgclpjeaaOdH
namespace Go.Proofs.Ytbbfbijgclpjeaa.O
open Go Go.RowKit M
set_option linter.unusedVariables false
set_option linter.unusedSimpArgs false

theorem dif_eq (a b : ByteArray) : dif a b = (dfs (df a b) a.size (nx (df a b) a.size 0)).map (sg b) := rfl

set_option maxRecDepth 1000000 in
set_option maxHeartbeats 2000000 in
theorem rdiff_any (a b : ByteArray) (W : World) (ha : a.size ≤ 100000000) (hb0 : b.size ≤ 100000000) :
    Calls Try.prog 29 #[.string a, .string b] W (Dfd W a b) := by
  have HP := Lib.hid (rpage_any (a.size : Int))
  by_cases h : a.size = b.size ∧ pg (a.size : Int) = true
  · obtain ⟨hs, hp⟩ := h
    rw [hp] at HP
    have hle := pg_le hp
    have hdl := dif_length hs
    have HFin := Lib.hid (show ∀ w' v, Owm W.heap.size w' v (dif a b) → Below W.heap.size W w' → Dfd W a b (.returned (.tuple #[v, .int .i64 0])) w' from fun w' v ho hb => by
      have e : difl a b = (dif a b, 0) := if_pos ⟨hs, hp⟩
      obtain ⟨A, c, rfl, hI⟩ := ho.mds (dif_ok hs hp) (by unfold maxLen; omega)
      have hcap : (dif a b).length ≤ c := by
        rcases ho.2 with ⟨g1, g2⟩ | ⟨g, cap, cur, g1, _, _, g2, _⟩
        · rw [g2]; exact Nat.zero_le _
        · cases g1; exact g2
      exact ⟨A, _, c, by rw [e], by rw [e]; exact hI, by omega, hcap, hb⟩)
    have d1 : ((a.size : Int) != (b.size : Int)) = false := by rw [hs]; simp
    have d2 : (a.size != b.size) = false := by rw [hs]; simp
    have HV := Lib.hid (fun k h h' => df_val a b hs k h h')
    have HDe := Lib.hid (dif_eq a b)
    have HAB := Lib.hid hs
    have hN : a.size ≤ 16384 := by omega
    clear hs hp hle hdl
    obtain ⟨D, hD⟩ : ∃ D, df a b = D := ⟨_, rfl⟩
    rw [hD] at HV HDe
    clear hD
    go_enter Try.func29, Try.ntmps29
    go_wp2_with (go_at_call 19; (with_reducible refine (HP.out _).mono ?_); rintro e w' ⟨rfl, rfl⟩)
    go_loopw [6, 7] (fun v i wr => ∃ (k : Nat) (pre : List Md), k ≤ a.size ∧ i = .int .i64 k ∧ Owm W.heap.size wr v pre ∧ pre ++ (dfs D a.size (nx D a.size k)).map (sg b) = dif a b ∧ pre.length ≤ k ∧ Below W.heap.size W wr) (fun _ i _ => a.size - (intOf i).toNat)
    case atStart => exact ⟨0, [], Nat.zero_le _, rfl, Owm.nil _ _, HDe.out.symm, Nat.le_refl _, Below.refl _ _⟩
    case round =>
      obtain ⟨k, pre, hk, rfl, ho, hd, hpl, hb⟩ := hrel
      have HB := Lib.hid hb
      have HO := Lib.hid ho
      by_cases hlt : k < a.size
      · have hlt' : k < b.size := by have := HAB.out; omega
        have hv := HV.out k hlt hlt'
        obtain ⟨x, hx⟩ : ∃ x, (a[k]'hlt).toNat = x := ⟨_, rfl⟩
        obtain ⟨y, hy⟩ : ∃ y, (b[k]'hlt').toNat = y := ⟨_, rfl⟩
        rw [hx, hy] at hv
        have t1 : decide ((k : Int) < (a.size : Int)) = true := decide_eq_true (by omega)
        have t1' : decide (k < a.size) = true := decide_eq_true hlt
        by_cases he : x = y
        · have t2 : ((x : Int) == (y : Int)) = true := by rw [he]; simp
          have t2' : (x == y) = true := by rw [he]; simp
          have hv' : D k = false := by rw [hv, he]; simp
          rw [nx_skip hlt hv'] at hd
          have HD := Lib.hid hd
          have HPL := Lib.hid hpl
          clear hv hv' he ho hd hb hpl
          go_wp2_with fail
          go_quiet (fail)
          go_wp2_with fail
          go_roundw
          case rel => exact ⟨k + 1, pre, by omega, by go_num, owm_n HO.out _, HD.out, by have := HPL.out; omega, bel_n HB.out _⟩
          case measure => simp [intOf]; omega
        · have t2 : ((x : Int) == (y : Int)) = false := by rw [beq_eq_false_iff_ne]; omega
          have t2' : (x == y) = false := by rw [beq_eq_false_iff_ne]; exact he
          have hv' : D k = true := by rw [hv, bne_iff_ne]; exact he
          rw [nx_here hlt hv', dfs_go hlt, List.map_cons] at hd
          have HD := Lib.hid hd
          have HPL := Lib.hid hpl
          have HDK := Lib.hid hv'
          obtain ⟨k1, hk1⟩ : ∃ k1, k + 1 = k1 := ⟨_, rfl⟩
          have HK1 := Lib.hid hk1
          have hk1a : k1 ≤ a.size := by omega
          have e1 : (k : Int) + 1 = (k1 : Int) := by omega
          clear hv hv' he ho hd hb hpl hk1
          go_wp2_with fail
          go_quiet (fail)
          go_wp2_with fail
          clear hx hy t2 t2'
          rename_i nq0
          go_loopw [8, 9] (fun l z wi => ∃ t j : Nat, l = .int .i64 t ∧ z = .int .i64 j ∧ k ≤ t ∧ t < a.size ∧ t + 1 ≤ j ∧ j ≤ a.size ∧ j ≤ t + 6 ∧ sp D a.size (k + 1) = sp D a.size (t + 1) ∧ nx D a.size (t + 1) = nx D a.size j ∧ ∃ q, wi = wr.drewN q) (fun _ z _ => a.size - (intOf z).toNat)
          case atStart => exact ⟨k, k1, rfl, rfl, Nat.le_refl _, hlt, by have := HK1.out; omega, hk1a, by have := HK1.out; omega, rfl, by rw [HK1.out], _, rfl⟩
          case round =>
            obtain ⟨t, j, rfl, rfl, r1, r2, r3, r4, r5, r6, r7, q, rfl⟩ := hrel
            have R1 := Lib.hid (And.intro r1 (And.intro r2 (And.intro r3 (And.intro r4 r5))))
            have R6 := Lib.hid r6
            have R7 := Lib.hid r7
            by_cases hc : j < a.size ∧ j ≤ t + 5
            · obtain ⟨c1, c2⟩ := hc
              have hlj : j < b.size := by have := HAB.out; omega
              have hv := HV.out j c1 hlj
              obtain ⟨x, hx⟩ : ∃ x, (a[j]'c1).toNat = x := ⟨_, rfl⟩
              obtain ⟨y, hy⟩ : ∃ y, (b[j]'hlj).toNat = y := ⟨_, rfl⟩
              rw [hx, hy] at hv
              have w1 : decide ((j : Int) < (a.size : Int)) = true := decide_eq_true (by omega)
              have w1' : decide (j < a.size) = true := decide_eq_true c1
              have w2 : decide ((j : Int) - (t : Int) ≤ 5) = true := decide_eq_true (by omega)
              have C2 := Lib.hid c2
              have tb : t ≤ 16384 := by omega
              by_cases he : x = y
              · have t2 : ((x : Int) != (y : Int)) = false := by rw [he]; simp
                have t2' : (x != y) = false := by rw [he]; simp
                have hv' : D j = false := by rw [hv]; exact t2'
                rw [nx_skip c1 hv'] at r7
                have R7' := Lib.hid r7
                clear hv hv' he r1 r2 r3 r4 r5 r6 r7 c2 R7
                go_wp2_with fail
                go_quiet (fail)
                go_wp2_with fail
                go_roundw
                case rel => exact ⟨t, j + 1, rfl, by go_num, R1.out.1, R1.out.2.1, by have := R1.out.2.2.1; omega, by omega, by have := C2.out; omega, R6.out, R7'.out, _, rfl⟩
                case measure => simp [intOf]; omega
              · have t2 : ((x : Int) != (y : Int)) = true := by rw [bne_iff_ne]; omega
                have t2' : (x != y) = true := by rw [bne_iff_ne]; exact he
                have hv' : D j = true := by rw [hv]; exact t2'
                rw [nx_here c1 hv'] at r7
                have hsp := sp_go (D := D) (n := a.size) (e := t + 1) ⟨by rw [r7]; exact c1, by rw [r7]; omega⟩
                rw [r7, ← r6] at hsp
                have HSP := Lib.hid hsp
                clear hv hv' he r1 r2 r3 r4 r5 r6 r7 c2 hsp
                go_wp2_with fail
                go_quiet (fail)
                go_wp2_with fail
                go_roundw
                case rel => exact ⟨j, j + 1, rfl, by go_num, by have := R1.out; omega, by omega, Nat.le_refl _, by omega, by omega, HSP.out, rfl, _, rfl⟩
                case measure => simp [intOf]; omega
            · have hst : ¬ (nx D a.size (t + 1) < a.size ∧ nx D a.size (t + 1) - (t + 1) ≤ 4) := by
                rw [r7]
                rcases Nat.lt_or_ge j a.size with g | g
                · have := nx_ge (D := D) (n := a.size) r4
                  omega
                · have := nx_end (D := D) g
                  omega
              have hse := sp_stop hst
              rw [← r6] at hse
              obtain ⟨e, hee⟩ : ∃ e, t + 1 = e := ⟨_, rfl⟩
              obtain ⟨T, hT⟩ : ∃ T, b.extract k e = T := ⟨_, rfl⟩
              have hd2 := HD.out
              rw [hse, hee] at hd2
              have hsg : sg b (k, e) = ⟨(k : Int), T⟩ := by rw [← hT]; rfl
              rw [hsg] at hd2
              have HD2 := Lib.hid (show (pre ++ [⟨(k : Int), T⟩]) ++ (dfs D a.size (nx D a.size e)).map (sg b) = dif a b by rw [List.append_assoc]; exact hd2)
              have x1 : (t : Int) + 1 = (e : Int) := by omega
              have x2 : e ≤ b.size := by have := HAB.out; omega
              have x3 : k ≤ e := by omega
              have hpl2 : pre.length ≤ 900000 := by have := HPL.out; omega
              have HE := Lib.hid hee
              have tb : t ≤ 16384 := by omega
              have w1 : decide ((j : Int) < (a.size : Int)) = false ∨ (decide ((j : Int) < (a.size : Int)) = true ∧ decide ((j : Int) - (t : Int) ≤ 5) = false) := by
                by_cases g : j < a.size
                · exact .inr ⟨decide_eq_true (by omega), decide_eq_false (by omega)⟩
                · exact .inl (decide_eq_false (by omega))
              have w1' : decide ((j : Int) < (a.size : Int)) = decide (j < a.size) := by
                by_cases g : j < a.size
                · rw [decide_eq_true g, decide_eq_true (by omega)]
                · rw [decide_eq_false g, decide_eq_false (by omega)]
              have jb : j ≤ 16384 := by omega
              clear hc hst hse hee hd2 hsg r1 r2 r3 r4 r5 r6 r7
              rcases w1 with g1 | ⟨g1, g2⟩ <;> (rw [g1] at w1'; have w1'' := w1'.symm; clear w1')
              all_goals
                go_wp2_with (at_builtin; refine wpList_md rfl _ _ rfl W.heap.size _ pre rfl ((owm_n HO.out q).alloc _) wr.heap.size 1 (k : Int) T rfl ⟨World.cell?_alloc_at (w := wr.drewN q) _ _ _ 0 rfl, World.cell?_alloc_at (w := wr.drewN q) _ _ _ 1 rfl⟩ hpl2 (by have := HB.out.size; rw [World.size_alloc]; show W.heap.size ≤ wr.heap.size + 1; omega) ?_; intro v' w3 o3 g3 b3; have O3 := Lib.hid o3; have B3 := Lib.hid (((bel_n HB.out q).alloc HB.out.size _).trans b3); clear o3 g3 b3)
                go_roundw
              all_goals first
                | (case rel => exact ⟨e, pre ++ [⟨(k : Int), T⟩], by have := HAB.out; omega, rfl, O3.out, HD2.out, by have := HPL.out; have := HE.out; have := R1.out; rw [List.length_append, List.length_singleton]; omega, B3.out⟩)
                | (case measure => have := HE.out; have := R1.out; simp [intOf]; omega)
      · obtain rfl : k = a.size := by omega
        rw [nx_end (Nat.le_refl _), dfs_end (Nat.le_refl _), List.map_nil, List.append_nil] at hd
        subst hd
        have t1 : decide ((a.size : Int) < (a.size : Int)) = false := decide_eq_false (by omega)
        clear ho hpl hb
        go_wp2_with fail
        go_ret2
        exact HFin.out _ _ HO.out HB.out
  · have HE := Lib.hid (fun w' => Dfd.bad (W := W) (w := w') h)
    cases hp : pg (a.size : Int) with
    | false =>
      rw [hp] at HP
      clear h hp
      go_enter Try.func29, Try.ntmps29
      go_wp2_with (go_at_call 19; (with_reducible refine (HP.out _).mono ?_); rintro e w' ⟨rfl, rfl⟩)
      go_ret2
      exact HE.out _ (Below.refl _ _)
    | true =>
      have hs : ¬ a.size = b.size := fun q => h ⟨q, hp⟩
      rw [hp] at HP
      have d1 : ((a.size : Int) != (b.size : Int)) = true := by rw [bne_iff_ne]; omega
      have d2 : (a.size != b.size) = true := by rw [bne_iff_ne]; exact hs
      clear h hp hs
      go_enter Try.func29, Try.ntmps29
      go_wp2_with (go_at_call 19; (with_reducible refine (HP.out _).mono ?_); rintro e w' ⟨rfl, rfl⟩)
      go_ret2
      exact HE.out _ (Below.refl _ _)
end Go.Proofs.Ytbbfbijgclpjeaa.O
