/- PackBest returns true for any counts, any limit. Conditions: none. -/
import Derived.Test.YteicamfelamfhaaOwI
import Derived.Test.YteicamfelamfhaaMathF
import Derived.Test.YteicamfelamfhaaBeB
import Derived.Test.YteicamfelamfhaaWho
namespace Go.Proofs.Yteicamfelamfhaa
open Go.RowKit M
set_option linter.unusedVariables false

/-! the mathematics -/
theorem kraft_few {l : Nat → Nat} {L N : Nat} (h : ∀ i, i < N → 1 ≤ l i ∧ l i ≤ L) (hk : 2 * sm (fun t => 2 ^ (L - l t)) N = 2 * 2 ^ L) : N ≤ 2 ^ L := by
  have h1 : sm (fun _ => 1) N ≤ sm (fun t => 2 ^ (L - l t)) N := sm_le N (fun t _ => Nat.one_le_two_pow)
  rw [sm_const, Nat.mul_one] at h1
  omega
/-- counts that all count, in falling order -/
theorem fall_leaves {c z : Nat → Nat} {n : Nat} {e : Nat → Nat × Nat} (h : IsLv c n n e) (hc : ∀ s, 0 < c s) (hz : Fall z n) (hg : ∀ x, cg z x n = cg c x n) : ∀ t, t < n → z t = lw e (n - 1 - t) := by
  refine fall_one hz (fun i j h1 h2 => ?_) (fun x => ?_)
  · exact lv_rise h _ _ (by omega) (by omega)
  · rw [hg x]
    unfold cg
    rw [sm_rev (fun i => if x ≤ lw e i then 1 else 0) n, reidx h _ (fun s _ g => by have := hc s; omega)]
    refine sm_congr n (fun i hi => ?_)
    have : c (ly e i) = lw e i := (h.is_ i hi).2.2.symm
    rw [this]
theorem best_none {z : Nat → Nat} {n L : Nat} (h1 : 1 ≤ L) (hL : L < nds n) : B z n L L 0 2 = none := by
  cases hb : B z n L L 0 2 with
  | none => rfl
  | some v =>
    obtain ⟨l, a1, a2, _⟩ := B_sound L (Nat.le_refl _) 0 2 v (Nat.zero_le _) hb
    simp only [Nat.zero_add, Nat.sub_zero] at a2
    have := (nds_le h1).2 (kraft_few (fun i hi => by have := a1 i (Nat.zero_le _) hi; omega) a2)
    exact absurd this (by omega)
theorem best_some {c z : Nat → Nat} {n L : Nat} {e : Nat → Nat × Nat} (h : IsLv c n n e) (hc : ∀ s, 0 < c s) (h2 : 2 ≤ n) (h1 : 1 ≤ L) (hL : nds n ≤ L) (hz : Fall z n) (hg : ∀ x, cg z x n = cg c x n) : B z n L L 0 2 = some (wl c n n e L) := by
  have hzl := fall_leaves h hc hz hg
  have kr := pl_kraft h h2 hL h1
  have hpos : ∀ i, i < n → 1 ≤ pl n e L (ly e i) := fun i hi => by
    apply Nat.pos_of_ne_zero
    intro g
    have h0 : c (ly e i) = 0 := (pl_zero h hL h1 (h.is_ i hi).1).1 g
    have := hc (ly e i)
    omega
  obtain ⟨v, b1, b2⟩ := B_least (f := z) (N := n) (L := L) L (Nat.le_refl _) 0 2 (fun t => pl n e L (ly e (n - 1 - t))) (Nat.zero_le _) (fun i j _ g2 g3 => by
      show pl n e L (ly e (n - 1 - i)) ≤ pl n e L (ly e (n - 1 - j))
      rw [pl_leaf h h2 hL h1 (by omega), pl_leaf h h2 hL h1 (by omega)]
      exact ln_anti _ (by omega) _ _) (fun i _ g2 => by
      have := hpos (n - 1 - i) (by omega)
      have := pl_le h hL h1 (ly e (n - 1 - i))
      show L + 1 - L ≤ pl n e L (ly e (n - 1 - i)) ∧ pl n e L (ly e (n - 1 - i)) ≤ L
      omega) (by
      simp only [Nat.zero_add, Nat.sub_zero]
      rw [sm_rev (fun i => 2 ^ (L - pl n e L (ly e i))) n, kr])
  simp only [Nat.zero_add, Nat.sub_zero] at b2
  have e1 : sm (fun t => pl n e L (ly e (n - 1 - t)) * z t) n = wl c n n e L := by
    rw [wl_leaves h, ← sm_rev (fun i => pl n e L (ly e i) * lw e i) n]
    exact sm_congr n (fun t ht => by rw [hzl t ht])
  rw [e1] at b2
  obtain ⟨l, a1, a2, a3⟩ := B_sound L (Nat.le_refl _) 0 2 v (Nat.zero_le _) b1
  simp only [Nat.zero_add, Nat.sub_zero] at a2 a3
  have w1 : wl c n n e L ≤ v := by
    rw [a3]
    have e2 : sm (fun t => l t * z t) n = sm (fun i => l (n - 1 - i) * lw e i) n := by
      rw [← sm_rev (fun t => l t * z t) n]
      refine sm_congr n (fun i hi => ?_)
      rw [hzl (n - 1 - i) (by omega), show n - 1 - (n - 1 - i) = i by omega]
    rw [e2]
    refine wl_best h h2 hL h1 (fun i => l (n - 1 - i)) (fun i hi => (a1 (n - 1 - i) (Nat.zero_le _) (by omega)).2) ?_
    rw [sm_rev (fun t => 2 ^ (L - l t)) n]
    omega
  rw [b1]; congr 1; omega
/-- all of them count -/
theorem all_lv {c : Nat → Nat} {n m : Nat} {e : Nat → Nat × Nat} (h : IsLv c n m e) (hc : ∀ s, 0 < c s) : m = n := by
  rw [← nzc_lv h]
  unfold nzc
  rw [sm_congr n (g := fun _ => 1) (fun i _ => if_pos (hc i)), sm_const, Nat.mul_one]

/-- two slices in blocks of their own -/
def Sep (u v : Value) : Prop := ∀ g, u.ownBlock = some g → v.ownBlock ≠ some g
theorem Sep.keep {u v : Value} (h : Sep u v) : u.ownBlock = none ∨ u.ownBlock ≠ v.ownBlock := by
  cases hu : u.ownBlock with
  | none => exact .inl rfl
  | some g => exact .inr (fun e => h g hu e.symm)
theorem Sep.symm {u v : Value} (h : Sep u v) : Sep v u := fun g hv hu => h g hu hv

theorem best_far (A : Option Addr) (n c : Nat) (x : Int) (W : World) (hn : n ≤ maxLen) (h : 10 < n ∨ n < 2) :
    Calls Try.prog 5 #[.slice A n c, .int .u8 x] W fun e w' => e = .returned (.bool true) ∧ Below W.heap.size W w' := by
  have hn' : n ≤ 9223372036854775807 := by unfold maxLen at hn; omega
  by_cases h1 : 10 < n
  · have d1 : decide (10 < (n : Int)) = true := decide_eq_true (by omega)
    clear h
    go_enter Try.func5, Try.ntmps5
    go_wp2_with fail
    refine (alive_any _).mono ?_; rintro e w2 ⟨rfl, b2⟩
    go_wp2_with fail
    go_ret
    exact ⟨rfl, b2⟩
  · have d1 : decide (10 < (n : Int)) = false := decide_eq_false (by omega)
    have d2 : decide ((n : Int) < 2) = true := decide_eq_true (by omega)
    clear h
    go_enter Try.func5, Try.ntmps5
    go_wp2_with fail
    refine (alive_any _).mono ?_; rintro e w2 ⟨rfl, b2⟩
    go_wp2_with fail
    go_ret
    exact ⟨rfl, b2⟩

/-- what the loop holds: counts as they came, and in falling order -/
structure BestAt (W : World) (y : Nat → Nat) (wr : World) (i : Nat) (v6 v7 : Value) (z : Nat → Nat) : Prop where
  row : Is W.heap.size wr v6 i (fun s => ((1 + y s : Nat) : Int))
  fal : Is W.heap.size wr v7 i (fun t => (z t : Int))
  sep : Sep v6 v7
  fall : Fall z i
  same : ∀ x, cg z x i = cg (fun s => 1 + y s) x i
  le : ∀ t, t < i → z t ≤ 65536
  bel : Below W.heap.size W wr

set_option maxHeartbeats 4000000 in
set_option maxRecDepth 1000000 in
theorem best_ok (A : Option Addr) (n c x : Nat) (y : Nat → Nat) (e : Nat → Nat × Nat) (W : World) (hn : n ≤ 10) (h2 : 2 ≤ n) (hx : x < 256) (hy : ∀ i, y i ≤ 65535) (H : Nums W .u16 A n (fun i => (y i : Int))) (hl : IsLv (fun s => 1 + y s) n n e) :
    Calls Try.prog 5 #[.slice A n c, .int .u8 x] W fun e w' => e = .returned (.bool true) ∧ Below W.heap.size W w' := by
  have d1 : decide (10 < (n : Int)) = false := decide_eq_false (by omega)
  have d2 : decide ((n : Int) < 2) = false := decide_eq_false (by omega)
  have HA := Lib.hid H
  have HY := Lib.hid hy
  have HL := Lib.hid hl
  obtain ⟨L, hL⟩ : ∃ L, x % 10 + 1 = L := ⟨_, rfl⟩
  have v1 : (x : Int).tmod 10 = (L : Int) - 1 := by rw [Int.tmod_eq_emod_of_nonneg (by omega)]; omega
  have v2 : (x : Int) % 10 = (L : Int) - 1 := by omega
  have L1 : 1 ≤ L := by omega
  have L2 : L ≤ 10 := by omega
  clear H hy hl hL hx
  go_enter Try.func5, Try.ntmps5
  go_wp2_with fail
  go_loopw [6, 7, 8] (fun v6 v7 q wr => ∃ (i : Nat) (z : Nat → Nat) (a6 a7 : Value), q = .int .i64 i ∧ v6 = a6 ∧ v7 = a7 ∧ i ≤ n ∧ Hid (BestAt W y wr i a6 a7 z)) (fun _ _ q _ => n - (intOf q).toNat)
  case atStart => exact ⟨0, fun _ => 0, _, _, rfl, rfl, rfl, Nat.zero_le _, Lib.hid ⟨Is.nil _ _ _, Is.nil _ _ _, (fun g h => by cases h), (fun i j h1 h2 => by omega), (fun x => rfl), (fun t h => by omega), Below.refl _ _⟩⟩
  case round =>
    obtain ⟨i, z, a6, a7, rfl, rfl, rfl, hi, HB⟩ := hrel
    by_cases hlt : i < n
    · obtain ⟨b, o, rfl, hbs, hc⟩ := HA.out (by omega)
      have hcell := (HB.out.bel.cell hbs).trans (hc i hlt)
      have h655 := HY.out i
      obtain ⟨v, hv⟩ : ∃ v, y i = v := ⟨_, rfl⟩
      simp only [hv] at hcell h655
      have HV := Lib.hid hv
      have hsz := HB.out.bel.size
      have w1 : 1 + (v : Int) = ((1 + v : Nat) : Int) := by omega
      obtain ⟨r, hr⟩ : ∃ r, 1 + v = r := ⟨_, rfl⟩
      rw [hr] at w1
      have HR := Lib.hid hr
      have HO := Lib.hid (HB.out.row.alloc (.cells #[.int .i64 r] 3))
      have HT := Lib.hid (one_int wr (r : Int))
      have HS := Lib.hid (show W.heap.size ≤ (wr.alloc (.cells #[.int .i64 r] 3)).heap.size by simp; omega)
      clear hv hr hc
      go_wp2_with (first
        | (at_builtin; refine wpList_api rfl _ _ rfl W.heap.size u6 i (fun s => ((1 + y s : Nat) : Int)) rfl HO.out ⟨wr.heap.size, 0, none⟩ 1 1 (fun _ => (r : Int)) rfl HT.out (by omega) HS.out ?_; intro v8 w8 o8 g8 d8 k8; have O8 := Lib.hid o8; have F8 := Lib.hid (((HB.out.fal.alloc (.cells #[.int .i64 r] 3)).grown g8 HB.out.sep.symm.keep).alloc (.cells #[.int .i64 r] 3)); have S8 : Hid (Sep v8 u7) := Lib.hid (fun g hg h7 => by
              rcases k8 with q | q
              · rw [q] at hg; exact HB.out.sep g hg h7
              · rw [q] at hg
                have := Option.some.inj hg
                have := (HB.out.fal.lt' g h7).2
                simp at *; omega); have B8 := Lib.hid ((HB.out.bel.alloc HB.out.bel.size (.cells #[.int .i64 r] 3)).trans d8); have HT8 := Lib.hid (one_int w8 (r : Int)); have HS8 := Lib.hid (show W.heap.size ≤ (w8.alloc (.cells #[.int .i64 r] 3)).heap.size by have := B8.out.size; simp; omega); have hcell8 : w8.cell? ⟨b, o + i, none⟩ = some (.int .u16 v) := (d8.cell hbs).trans ((((Below.refl wr.heap.size wr).alloc (Nat.le_refl _) _).cell (by have := hsz; simp; omega)).trans hcell); clear o8 g8 d8 k8)
        | (at_builtin; refine wpList_api rfl _ _ rfl W.heap.size u7 i (fun t => (z t : Int)) rfl F8.out ⟨w8.heap.size, 0, none⟩ 1 1 (fun _ => (r : Int)) rfl HT8.out (by omega) HS8.out ?_; intro v9 w9 o9 g9 d9 k9; have O9 := Lib.hid o9; have R9 := Lib.hid ((O8.out.alloc (.cells #[.int .i64 r] 3)).grown g9 S8.out.keep); have S9 : Hid (Sep v8 v9) := Lib.hid (fun g hg h9 => by
              rcases k9 with q | q
              · rw [q] at h9; exact S8.out g hg h9
              · rw [q] at h9
                have := Option.some.inj h9
                have := (O8.out.lt' g hg).2
                simp at *; omega); have B9 := Lib.hid ((B8.out.alloc B8.out.size (.cells #[.int .i64 r] 3)).trans d9); clear o9 g9 d9 k9))
      -- the two rows, with the count that came
      obtain ⟨z1, hz1⟩ : ∃ z1 : Nat → Nat, (fun t => if t = i then r else z t) = z1 := ⟨_, rfl⟩
      have hz1i : z1 i = r := by rw [← hz1]; exact if_pos rfl
      have hz1o : ∀ t, t < i → z1 t = z t := fun t ht => by rw [← hz1]; exact if_neg (by omega)
      have R10 := Lib.hid (R9.out.congr (G := fun s => ((1 + y s : Nat) : Int)) (fun s hs => by
        unfold catI
        by_cases q : s < i
        · rw [if_pos q]
        · rw [if_neg q, show s = i by omega, HV.out, HR.out]))
      have F10 := Lib.hid (O9.out.congr (G := fun t => (mvN z1 i i t : Int)) (fun t ht => by
        rw [mvN_self]
        unfold catI
        by_cases q : t < i
        · rw [if_pos q, hz1o t q]
        · rw [if_neg q, show t = i by omega, hz1i]))
      have HZ := Lib.hid (And.intro hz1i hz1o)
      clear hz1 hz1i hz1o hcell hcell8
      obtain ⟨g2, cap2, rfl, hg2, hg2'⟩ := F10.out.form (by omega)
      clear hg2 hg2'
      go_loopw [9, 10] (fun q _ ws => ∃ k : Nat, q = .int .i64 k ∧ k ≤ i ∧ Hid (Is W.heap.size ws (.slice (some ⟨g2, 0, none⟩) (i + 1) cap2) (i + 1) (fun t => (mvN z1 k i t : Int)) ∧ Is W.heap.size ws v8 (i + 1) (fun s => ((1 + y s : Nat) : Int)) ∧ (∀ t, k ≤ t → t < i → z1 t < z1 i) ∧ Below W.heap.size W ws)) (fun q _ _ => (intOf q).toNat)
      case atStart => exact ⟨i, rfl, Nat.le_refl _, Lib.hid ⟨F10.out, R10.out, (fun t h1 h2 => by omega), B9.out⟩⟩
      case round =>
        obtain ⟨k, rfl, hk, HI⟩ := hrel
        have STOP : ∀ (ws : World), Hid (k = 0 ∨ ¬ z1 (k - 1) < z1 i) → Is W.heap.size ws (.slice (some ⟨g2, 0, none⟩) (i + 1) cap2) (i + 1) (fun t => (mvN z1 k i t : Int)) → Is W.heap.size ws v8 (i + 1) (fun s => ((1 + y s : Nat) : Int)) → Below W.heap.size W ws → BestAt W y ws (i + 1) v8 (.slice (some ⟨g2, 0, none⟩) (i + 1) cap2) (mvN z1 k i) := fun ws hs q1 q2 q3 => by
          obtain ⟨e1, e2⟩ := HZ.out
          refine ⟨q2, q1, S9.out, mvN_fall (fun a b h1 h2 => by rw [e2 a (by omega), e2 b h2]; exact HB.out.fall a b h1 h2) hk HI.out.2.2.1 hs.out, fun x => ?_, fun t ht => ?_, q3⟩
          · have a1 := mvN_sum (fun w => if x ≤ w then 1 else 0) z1 (show i < i + 1 by omega) (i - k) k (by omega)
            have a2 : cg (mvN z1 k i) x (i + 1) = cg z1 x (i + 1) := a1
            have a3 : cg z1 x (i + 1) = cg z1 x i + if x ≤ z1 i then 1 else 0 := rfl
            have a4 : cg z1 x i = cg z x i := sm_congr i (fun t ht => by rw [e2 t ht])
            have a5 : cg (fun s => 1 + y s) x (i + 1) = cg (fun s => 1 + y s) x i + if x ≤ 1 + y i then 1 else 0 := rfl
            rw [a2, a3, a4, HB.out.same x, a5, e1, ← HR.out, HV.out]
          · have all : ∀ t, t ≤ i → z1 t ≤ 65536 := fun t ht => by
              by_cases q : t = i
              · rw [q, e1, ← HR.out]; omega
              · rw [e2 t (by omega)]; exact HB.out.le t (by omega)
            unfold mvN
            split
            · exact all i (Nat.le_refl _)
            · split
              · exact all _ (by omega)
              · exact all _ (by omega)
        have STOPH := Lib.hid STOP
        clear STOP
        by_cases k0 : 0 < k
        · obtain ⟨k1, hk1⟩ : ∃ k1, k - 1 = k1 := ⟨_, rfl⟩
          have c1 := HI.out.1.cell (show k < i + 1 by omega)
          have c2 := HI.out.1.cell (show k1 < i + 1 by omega)
          have f1 := HI.out.1.frozen k
          have f2 := HI.out.1.frozen k1
          have e1 : mvN z1 k i k = z1 i := by unfold mvN; rw [if_pos rfl]
          have e2 : mvN z1 k i k1 = z1 k1 := by unfold mvN; rw [if_neg (by omega), if_neg (by omega)]
          obtain ⟨p, hp⟩ : ∃ p, z1 i = p := ⟨_, rfl⟩
          obtain ⟨q, hq⟩ : ∃ q, z1 k1 = q := ⟨_, rfl⟩
          rw [e1, hp] at c1
          rw [e2, hq] at c2
          have y1 : IntKind.i64.wrap ((k : Int) - 1) = (k1 : Int) := by rw [IntWalk.i64_in _ (by omega)]; omega
          have y2 : (k : Int) - 1 = (k1 : Int) := by omega
          have y3 : IntKind.i64.wrap (k1 : Int) = (k1 : Int) := IntWalk.i64_in _ (by omega)
          have y4 : ((k1 : Int)).toNat = k1 := by omega
          have y5 : ((k : Int)).toNat = k := by omega
          have l1 : k < i + 1 := by omega
          have l2 : k1 < i + 1 := by omega
          have l3 : k1 < k := by omega
          have HPQ := Lib.hid (And.intro hp (And.intro hq hk1))
          have SET := Lib.hid (((HI.out.1.set k (q : Int)).set k1 (p : Int)).congr (G := fun t => (mvN z1 k1 i t : Int)) (fun t ht => by
            rw [← mvN_step z1 (show k1 < i by omega) t, show k1 + 1 = k by omega]
            unfold swN
            by_cases r1 : t = k1
            · rw [if_pos r1, if_pos r1, show k1 + 1 = k by omega, e1, hp]
            · rw [if_neg r1, if_neg r1]
              by_cases r2 : t = k
              · rw [if_pos r2, if_pos (by omega), e2, hq]
              · rw [if_neg r2, if_neg (by omega)]))
          have ROW := Lib.hid ((HI.out.2.1.other (a := ⟨g2, k, none⟩) (fun h => S9.out g2 h rfl) (.int .i64 (q : Int))).other (a := ⟨g2, k1, none⟩) (fun h => S9.out g2 h rfl) (.int .i64 (p : Int)))
          have BEL := Lib.hid ((HI.out.2.2.2.setCell (p := ⟨g2, k, none⟩) HI.out.1.lt.1 (.int .i64 (q : Int))).setCell (p := ⟨g2, k1, none⟩) HI.out.1.lt.1 (.int .i64 (p : Int)))
          have hne : ¬ k = k1 := by omega
          have hne2 : ¬ k1 = k := by omega
          have dk : decide (0 < (k : Int)) = true := decide_eq_true (by omega)
          clear hp hq hk1 e1 e2
          by_cases c3 : q < p
          · go_wp2_with fail
            go_quiet (fail)
            go_wp2_with fail
            go_roundw
            case rel => exact ⟨k1, rfl, by omega, Lib.hid ⟨SET.out.drewN _, ROW.out.drewN _, (fun t h1 h2 => by
              by_cases r1 : t = k1
              · rw [r1, HPQ.out.1, HPQ.out.2.1]; exact c3
              · exact HI.out.2.2.1 t (by have := HPQ.out.2.2; omega) h2), below_drewN BEL.out _⟩⟩
            case measure => simp [intOf]; omega
          · have d3 : decide (q < p) = false := decide_eq_false c3
            have HST := Lib.hid (show k = 0 ∨ ¬ z1 (k - 1) < z1 i from .inr (by rw [HPQ.out.2.2, HPQ.out.1, HPQ.out.2.1]; exact c3))
            go_wp2_with fail
            go_quiet (fail)
            go_wp2_with fail
            go_roundw
            case rel => exact ⟨i + 1, _, _, _, by go_num, rfl, rfl, by omega, Lib.hid (STOPH.out _ HST (HI.out.1.drewN _) (HI.out.2.1.drewN _) (below_drewN HI.out.2.2.2 _))⟩
            case measure => simp [intOf]; omega
        · have dk : decide (0 < (k : Int)) = false := decide_eq_false (by omega)
          have HST := Lib.hid (show k = 0 ∨ ¬ z1 (k - 1) < z1 i from .inl (by omega))
          go_wp2_with fail
          go_quiet (fail)
          go_wp2_with fail
          go_roundw
          case rel => exact ⟨i + 1, _, _, _, by go_num, rfl, rfl, by omega, Lib.hid (STOPH.out _ HST (HI.out.1.drewN _) (HI.out.2.1.drewN _) (below_drewN HI.out.2.2.2 _))⟩
          case measure => simp [intOf]; omega
    · obtain rfl : i = n := by omega
      obtain ⟨g1, cap1, rfl, q1, q2⟩ := HB.out.row.form (by omega)
      obtain ⟨g2, cap2, rfl, q3, q4⟩ := HB.out.fal.form (by omega)
      clear q1 q2 q3 q4
      have C30 := Lib.hid (show ∀ s, (fun s => 1 + y s) s ≤ 1073741824 from fun s => by have := HY.out s; show 1 + y s ≤ _; omega)
      have NROW := Lib.hid HB.out.row.nums
      obtain ⟨f, hf⟩ : ∃ f : Nat → Nat, (fun t => if t < i then z t else 0) = f := ⟨_, rfl⟩
      have F65 := Lib.hid (show ∀ t, f t ≤ 65536 from fun t => by
        rw [← hf]
        show (if t < i then z t else 0) ≤ _
        split
        · exact HB.out.le t (by assumption)
        · omega)
      have FEQ := Lib.hid (show ∀ t, t < i → z t = f t from fun t ht => by rw [← hf]; exact (if_pos ht).symm)
      have FFALL := Lib.hid (show Fall f i from fun a b h1 h2 => by rw [← FEQ.out a (by omega), ← FEQ.out b h2]; exact HB.out.fall a b h1 h2)
      have FSAME := Lib.hid (show ∀ x, cg f x i = cg (fun s => 1 + y s) x i from fun x => by
        rw [← HB.out.same x]
        exact sm_congr i (fun t ht => by rw [FEQ.out t ht]))
      clear hf
      by_cases hb : nds i ≤ L
      · have HBL := Lib.hid hb
        have BS := Lib.hid (best_some HL.out (fun s => by omega) h2 L1 hb FFALL.out FSAME.out)
        have PL1 := Lib.hid (show ∀ s, pl i e L s ≤ 255 from fun s => by have := pl_le HL.out hb L1 s; omega)
        obtain ⟨w, hw⟩ : ∃ w, wl (fun s => 1 + y s) i i e L = w := ⟨_, rfl⟩
        rw [hw] at BS
        have WG := Lib.hid (show wg (pl i e L) (fun s => ((1 + y s : Nat) : Int)) (min i i) = (w : Int) by rw [Nat.min_self, (wg_sm PL1.out C30.out i (by omega)).1, ← hw]; rfl)
        have HML := Lib.hid (show i ≤ maxLen by unfold maxLen; omega)
        clear hb hw
        go_wp2_with fail
        refine (lens_ok (some ⟨g1, 0, none⟩) i cap1 L i (fun s => 1 + y s) e _ (by omega) C30.out NROW.out L1 (by omega) HL.out HBL.out).mono ?_; rintro x1 wa ⟨g3, rfl, s1, r1, b1⟩
        have GR := Lib.hid r1
        have R2 := Lib.hid (HB.out.row.below b1)
        have B2 := Lib.hid (HB.out.bel.trans (b1.mono HB.out.bel.size))
        have CALL := Lib.hid (show Calls Try.prog 15 #[.slice (some ⟨g2, 0, none⟩) i cap2, .int .i64 0, .int .i64 1, .int .i64 2, .int .i64 L] wa fun e w' => e = .returned (.int .i64 ((w : Int))) ∧ wa = w' from
          (best_any (some ⟨g2, 0, none⟩) i cap2 L f wa hn L2 F65.out ((HB.out.fal.below b1).nums.congr (fun t ht => by rw [FEQ.out t ht])) L (Nat.le_refl _) 0 2 1 (by omega) (Nat.zero_le _) (by omega)).mono fun e w' h => ⟨by rw [h.1, BS.out]; rfl, h.2⟩)
        clear b1 r1 s1
        go_wp2_with fail
        refine CALL.out.mono ?_; rintro x1 wb ⟨rfl, rfl⟩
        go_wp2_with fail
        refine (weighs_any (some ⟨g3, 0, none⟩) (some ⟨g1, 0, none⟩) i i i cap1 _ _ _ HML.out HML.out GR.out.nums R2.out.nums PL1.out).mono ?_; rintro x1 we ⟨rfl, b7⟩
        rw [WG.out]
        have B7 := Lib.hid (B2.out.trans (b7.mono B2.out.size))
        clear b7
        go_wp2_with fail
        refine (alive_any _).mono ?_; rintro x1 wg ⟨rfl, b9⟩
        go_wp2_with fail
        go_ret
        exact ⟨rfl, B7.out.trans (b9.mono B7.out.size)⟩
      · have HBL := Lib.hid (show L < nds i by omega)
        have BS := Lib.hid (best_none (z := f) L1 HBL.out)
        clear hb
        go_wp2_with fail
        refine (lens_few (some ⟨g1, 0, none⟩) i cap1 L i (fun s => 1 + y s) e _ (by omega) C30.out NROW.out L1 (by omega) HL.out HBL.out).mono ?_; rintro x1 wa ⟨rfl, b1⟩
        have B2 := Lib.hid (HB.out.bel.trans (b1.mono HB.out.bel.size))
        have CALL := Lib.hid (show Calls Try.prog 15 #[.slice (some ⟨g2, 0, none⟩) i cap2, .int .i64 0, .int .i64 1, .int .i64 2, .int .i64 L] wa fun e w' => e = .returned (.int .i64 (-1)) ∧ wa = w' from
          (best_any (some ⟨g2, 0, none⟩) i cap2 L f wa hn L2 F65.out ((HB.out.fal.below b1).nums.congr (fun t ht => by rw [FEQ.out t ht])) L (Nat.le_refl _) 0 2 1 (by omega) (Nat.zero_le _) (by omega)).mono fun e w' h => ⟨by rw [h.1, BS.out]; rfl, h.2⟩)
        clear b1
        go_wp2_with fail
        refine CALL.out.mono ?_; rintro x1 wb ⟨rfl, rfl⟩
        go_wp2_with fail
        refine (alive_any _).mono ?_; rintro x1 wg ⟨rfl, b9⟩
        go_wp2_with fail
        go_ret
        exact ⟨rfl, B2.out.trans (b9.mono B2.out.size)⟩
theorem PackBest_walk (a0 : Option Addr) (len0 cap0 : Nat) (z0 : List Int) (a1 : Int) (w : World) (w0 : IsRow .u16 w a0 len0 cap0 z0) (w1 : (Lit.int .u8 a1).wf = true) :
    Calls Try.prog 5 #[.slice a0 len0 cap0, .int .u8 a1] w fun e w' => e = .returned (.bool true) ∧ Below w.heap.size w w' := by
  obtain ⟨hy, H⟩ := w0.nat16
  obtain ⟨x, rfl, hx⟩ := u8_nat w1
  have hm := w0.most
  by_cases h : 10 < len0 ∨ len0 < 2
  · exact best_far a0 len0 cap0 x w (by omega) h
  · obtain ⟨m, e, hl⟩ := lv_ex (fun s => 1 + nat8 z0 s) len0
    obtain rfl := all_lv hl (fun s => by omega)
    exact best_ok a0 m cap0 x _ e w (by omega) (by omega) hx hy H hl
end Go.Proofs.Yteicamfelamfhaa
