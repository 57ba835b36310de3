/- What Cells of package huff answers. Conditions: as each theorem names them. -/
import Derived.Test.YtnkkccieidlacaaHfF
namespace Go.Proofs.Ytnkkccieidlacaa
open Go.RowKit M
set_option linter.unusedVariables false
set_option linter.unusedSimpArgs false

/-- so many cells have the tables whose keys are no longer to come -/
def sumL (l : Nat → Nat) (n f : Nat) (left : Lit → Bool) : Nat := (if left (rk 0 0) = true then 0 else 2 ^ f) + sm (fun b => if left (rk b f) = true then 0 else cl l n f b f) (2 ^ f)
theorem sm_mono {g g' : Nat → Nat} : ∀ m, (∀ i, i < m → g i ≤ g' i) → sm g m ≤ sm g' m
  | 0, _ => Nat.le_refl _
  | m + 1, h => by
    have h1 := sm_mono m (fun i hi => h i (by omega))
    have h2 := h m (by omega)
    simp only [sm]; omega
theorem sumL_le (l : Nat → Nat) (n f : Nat) (left : Lit → Bool) : sumL l n f left ≤ cells l n f := by
  unfold sumL cells
  have h := sm_mono (g := fun b => if left (rk b f) = true then 0 else cl l n f b f) (g' := fun b => cl l n f b f) (2 ^ f) (fun i _ => by
    by_cases q : left (rk i f) = true
    · simp [q]
    · simp [q])
  by_cases q : left (rk 0 0) = true
  · rw [if_pos q]; exact Nat.add_le_add (Nat.zero_le _) h
  · rw [if_neg q]; exact Nat.add_le_add (Nat.le_refl _) h
theorem sumL_all {l : Nat → Nat} {n f : Nat} {left : Lit → Bool} (h : ∀ kl, left kl = false) : sumL l n f left = cells l n f := by
  unfold sumL cells
  rw [if_neg (by rw [h]; simp), sm_congr (g' := fun b => cl l n f b f) (2 ^ f) (fun i _ => by rw [if_neg (by rw [h]; simp)])]
theorem sumL_none {l : Nat → Nat} {n f : Nat} {left : Lit → Bool} (h1 : 1 ≤ f) (h : ∀ b s z, sz l n f b s n = some z → left (rk b s) = true) : sumL l n f left = 0 := by
  unfold sumL
  have e0 : ∀ m, sm (fun _ => 0) m = 0 := fun m => by
    induction m with
    | zero => rfl
    | succ m ih => simp only [sm]; rw [ih]
  rw [if_pos (h 0 0 f (sz_root h1 n)), sm_congr (g' := fun _ => 0) (2 ^ f) (fun i _ => ?_), e0]
  by_cases q : left (rk i f) = true
  · rw [if_pos q]
  · rw [if_neg q]
    unfold cl
    cases e : sz l n f i f n with
    | none => rfl
    | some z => exact absurd (h i f z e) q
theorem sumL_step {l : Nat → Nat} {n f b s z : Nat} {left : Lit → Bool} (h1 : 1 ≤ f) (hf : f ≤ 15) (hz : sz l n f b s n = some z) (hl : left (rk b s) = true) : sumL l n f (fun x => left x && !x.sameKey (rk b s)) = sumL l n f left + 2 ^ z := by
  have hd := sz_dom hf b s z hz
  have hpf : 2 ^ f ≤ 2 ^ 15 := Nat.pow_le_pow_right (by omega) hf
  have same : ∀ b' s', b' ≤ 32768 → s' ≤ 15 → (¬ (b' = b ∧ s' = s)) → (rk b' s').sameKey (rk b s) = false := fun b' s' h1 h2 q => Maps.sameKey_ne (fun k => q (rk_inj (by omega) (by omega) (by omega) (by omega) k))
  unfold sumL
  rcases sz_where n z hz with ⟨rfl, rfl⟩ | ⟨rfl, hb⟩
  · rw [sz_root h1 n] at hz
    injection hz with hz
    subst hz
    dsimp only
    rw [if_neg (by rw [WideAt.sameKey_self (rk_key _ _)]; simp), if_pos hl]
    rw [sm_congr (g' := fun b => if left (rk b f) = true then 0 else cl l n f b f) (2 ^ f) (fun i hi => by
      have q0 := same i f (by omega) hf (by omega)
      simp [q0])]
    omega
  · have e0 : (rk 0 0).sameKey (rk b s) = false := same 0 0 (by omega) (by omega) (by omega)
    have q1 : (if ((fun x => left x && !x.sameKey (rk b s)) (rk 0 0)) = true then 0 else 2 ^ s) = (if left (rk 0 0) = true then 0 else 2 ^ s) := by simp [e0]
    have q2 : sm (fun b' => if ((fun x => left x && !x.sameKey (rk b s)) (rk b' s)) = true then 0 else cl l n s b' s) (2 ^ s) = sm (fun b' => if left (rk b' s) = true then 0 else cl l n s b' s) (2 ^ s) + 2 ^ z :=
      sm_one (g := fun b' => if left (rk b' s) = true then 0 else cl l n s b' s) (j := b) (d := 2 ^ z) (2 ^ s) hb (by
        show (if (left (rk b s) && !(rk b s).sameKey (rk b s)) = true then 0 else cl l n s b s) = (if left (rk b s) = true then 0 else cl l n s b s) + 2 ^ z
        rw [WideAt.sameKey_self (rk_key _ _), if_neg (by simp), if_pos hl]
        unfold cl
        rw [hz]; simp) (fun i hi hne => by
        show (if (left (rk i s) && !(rk i s).sameKey (rk b s)) = true then 0 else cl l n s i s) = (if left (rk i s) = true then 0 else cl l n s i s)
        rw [same i s (by omega) hf (by omega)]; simp)
    rw [q1, q2]
    omega

/-- what a step of the range over tables hands out -/
theorem next_slice {D : DataW Value} {f : Nat → Nat → Option (Nat × Nat)} (hd : Dic D datS f) {x : Int × Int} {c : Option Addr × Nat × Nat} {kl : Lit} {y : DataW Value × List MemPlace} (hk : keyOf Try.prog 74 (.agg #[.int .u64 x.1, .int .i64 x.2]) = some kl)
    (hv : redS (.slice c.1 c.2.1 c.2.2) = some y) (hat : ∀ zd, D.atKey kl zd = y.1) : ∃ b s : Nat, ∃ v : Nat × Nat, kl = rk b s ∧ f b s = some v ∧ c.2.1 = v.2 := by
  obtain ⟨b, s, z, h1, rfl⟩ := hd.only kl (Maps.has_true_of_atKey hat)
  have e2 := (hd.yes b s z h1 .nil).symm.trans (hat .nil)
  obtain ⟨rfl, _⟩ := redS_inv hv
  simp [datS, slv] at e2
  exact ⟨b, s, z, rfl, h1, e2.2.1.symm⟩

theorem hcells_nil (W : World) :
    Calls Try.prog 16 #[.pointer none] W fun e w' => e = .returned (.int .i64 0) ∧ W = w' := by
  go_enter Try.func16, Try.ntmps16
  go_wp2_with fail
  refine (hmade_nil _).mono ?_; rintro e w2 ⟨rfl, rfl⟩
  go_wp2_with fail
  go_ret
  exact ⟨rfl, rfl⟩

set_option maxRecDepth 1000000 in
set_option maxHeartbeats 1000000 in
theorem hcells_any (T p m N n f : Nat) (G : Nat → Nat → Nat) (D : DataW Value) (l : Nat → Nat) (W : World) (hm : May l n) (h1 : 1 ≤ f) (hf : f ≤ 15) (H : Hp W T p m G N D l n f n) :
    Calls Try.prog 16 #[.pointer (some ⟨p, 0, none⟩)] W fun e w' => e = .returned (.int .i64 (cells l n f)) ∧ Below W.heap.size W w' := by
  have hc := H.c1
  have HH := Lib.hid H
  have HS := Lib.hid (fun left => sumL_le l n f left)
  have hcl := cells_le (l := l) (n := n) hf hm
  obtain ⟨C, hC⟩ : ∃ C, cells l n f = C := ⟨_, rfl⟩
  have HC := Lib.hid hC
  rw [hC] at hcl HS ⊢
  clear H hC
  go_enter Try.func16, Try.ntmps16
  go_wp2_with fail
  refine (hmade_yes p m _ hc).mono ?_; rintro e w2 ⟨rfl, rfl⟩
  go_wp2_with (first | (at_range; refine wpList_range_own _ rfl _ 68 rfl 74 75 rowLaw Try.underlying68 _ m N D rfl HH.out.own ?_; intro w5 hrg5 hg5 hs5))
  go_frame
  have RG := Lib.hid hrg5
  have B5 := Lib.hid ((Below.refl W.heap.size W).grown hg5 (Nat.le_refl _) (fun j hj => by cases hj))
  have S5 : sumL l n f (Maps.has D) = 0 := sumL_none h1 (fun b s z q => HH.out.dic.has (b := b) (s := s) (v := (G b s, 2 ^ z)) (by rw [q]; rfl))
  have HS5 := Lib.hid S5
  clear hrg5 hg5 hs5 S5
  go_loopw [3, 5] (fun v _ wr => ∃ left cnt, wr.ranges Try.prog 74 redS m W.heap.size N D left cnt ∧ v = .int .i64 (sumL l n f left) ∧ Below W.heap.size W wr) (fun _ _ wr => wr.rangeLeft m W.heap.size)
  case atStart => exact ⟨_, _, RG.out, by rw [HS5.out]; rfl, B5.out⟩
  case round =>
    obtain ⟨left, cnt, hrg, rfl, hb⟩ := hrel
    have RGr := Lib.hid hrg
    have Br := Lib.hid hb
    clear hrg hb
    go_wp2_with (first | (at_next; refine wpList_next_ranges _ rfl _ rfl 74 rowLaw redS (fun x : Int × Int => .agg #[.int .u64 x.1, .int .i64 x.2]) (fun c : Option Addr × Nat × Nat => .slice c.1 c.2.1 c.2.2) (fun key kl h => rk_inv h) (fun v y h => (redS_inv h).2) m W.heap.size N D _ _ rfl RGr.out ?_ ?_))
    case refine_2 =>
      intro x1 x2 c1 c2 c3 kl yd yp w6 cnt6 hkey hlk hv hat hrg6 hlt6 hg6 hs6 hen
      obtain ⟨b, s, v, rfl, hz, hc2⟩ := next_slice HH.out.dic (x := (x1, x2)) (c := (c1, c2, c3)) (y := (yd, yp)) hkey hv hat
      dsimp only at hc2
      subst hc2
      obtain ⟨z, hz1, rfl⟩ : ∃ z, sz l n f b s n = some z ∧ v = (G b s, 2 ^ z) := by
        cases q : sz l n f b s n with
        | none => rw [q] at hz; cases hz
        | some z => rw [q] at hz; exact ⟨z, rfl, by simpa using hz.symm⟩
      have hst := sumL_step h1 hf hz1 hlk
      have hle := HS.out (fun x => left x && !x.sameKey (rk b s))
      rw [hst] at hle
      have HST := Lib.hid hst
      have RG6 := Lib.hid hrg6
      have B6 := Lib.hid (Br.out.grown hg6 Br.out.size (fun j hj => by cases hj; exact Nat.le_refl _))
      have hlt := Lib.hid hlt6
      dsimp only at hen ⊢
      obtain ⟨Z, hZ⟩ : ∃ Z, 2 ^ z = Z := ⟨_, rfl⟩
      obtain ⟨S, hS⟩ : ∃ S, sumL l n f left = S := ⟨_, rfl⟩
      rw [hZ] at hen hle HST ⊢
      rw [hS] at hle HST ⊢
      clear hkey hlk hv hat hrg6 hlt6 hg6 hs6 hst hz
      go_wp2_with fail
      go_roundw
      case rel => exact ⟨_, cnt6, RG6.out, by rw [HST.out]; go_num, B6.out⟩
      case measure => rw [RG6.out.left_eq, RGr.out.left_eq]; exact hlt.out
    case refine_1 =>
      intro hc0 hl0
      have hfin := sumL_all (l := l) (n := n) (f := f) hl0
      rw [HC.out] at hfin
      rw [hfin]
      clear hc0 hl0 hfin
      go_wp2_with fail
      go_ret
      exact ⟨rfl, Br.out⟩
end Go.Proofs.Ytnkkccieidlacaa
