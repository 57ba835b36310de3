/- Leaves and packages in plain mathematics: rows, how often a leaf is in things, weights; the first things of a row; what no other lengths weigh less than. No program. -/
import Derived.Laws.OwnMore
namespace Go.Proofs.Yteicamfelamfhaa.M
set_option linter.unusedVariables false

/-- A leaf (its weight, its symbol), or a package of two things. -/
inductive Th
  | lf (w s : Nat)
  | pk (a b : Th)
namespace Th
def wt : Th → Nat
  | lf w _ => w
  | pk a b => a.wt + b.wt
def sy : Th → Nat
  | lf _ s => s
  | pk _ _ => 0
/-- how often the symbol's leaf is in it -/
def cn (x : Nat) : Th → Nat
  | lf _ s => if s = x then 1 else 0
  | pk a b => cn x a + cn x b
/-- how deep it is -/
def hi : Th → Nat
  | lf _ _ => 0
  | pk a b => max a.hi b.hi + 1
end Th

/-- of all things together: weight, how often a symbol -/
def ws : List Th → Nat
  | [] => 0
  | t :: l => t.wt + ws l
def ct (x : Nat) : List Th → Nat
  | [] => 0
  | t :: l => t.cn x + ct x l
/-- two by two -/
def pks : List Th → List Th
  | a :: b :: r => .pk a b :: pks r
  | _ => []
/-- leaves and packages by rising weights, leaves ahead -/
def mrg (L P : List Th) : List Th := match L, P with
  | [], P => P
  | l :: L, [] => l :: L
  | l :: L, p :: P => if p.wt < l.wt then p :: mrg (l :: L) P else l :: mrg L (p :: P)
termination_by L.length + P.length
/-- the row of a level -/
def row (L : List Th) : Nat → List Th
  | 0 => []
  | k + 1 => mrg L (pks (row L k))
/-- how many leaves are among the first q -/
def nl (L P : List Th) (q : Nat) : Nat := match q, L, P with
  | 0, _, _ => 0
  | _, [], _ => 0
  | q + 1, l :: L, [] => min (q + 1) (L.length + 1)
  | q + 1, l :: L, p :: P => if p.wt < l.wt then nl (l :: L) P q else nl L (p :: P) q + 1
/-- things stand by rising weights -/
def Up (l : List Th) : Prop := l.Pairwise fun a b => a.wt ≤ b.wt

theorem mrg_nil (P : List Th) : mrg [] P = P := by rw [mrg]
theorem mrg_nil' (L : List Th) : mrg L [] = L := by cases L <;> rw [mrg]
theorem mrg_cons (l p : Th) (L P : List Th) : mrg (l :: L) (p :: P) = if p.wt < l.wt then p :: mrg (l :: L) P else l :: mrg L (p :: P) := by rw [mrg]
theorem mrg_length : ∀ (L P : List Th), (mrg L P).length = L.length + P.length
  | [], P => by rw [mrg_nil]; simp
  | l :: L, [] => by rw [mrg_nil']; simp
  | l :: L, p :: P => by
    rw [mrg_cons]; split
    · rw [List.length_cons, mrg_length (l :: L) P]; simp only [List.length_cons]; omega
    · rw [List.length_cons, mrg_length L (p :: P)]; simp only [List.length_cons]; omega
termination_by L P => L.length + P.length
theorem mrg_mem (t : Th) : ∀ (L P : List Th), t ∈ mrg L P ↔ t ∈ L ∨ t ∈ P
  | [], P => by rw [mrg_nil]; simp
  | l :: L, [] => by rw [mrg_nil']; simp
  | l :: L, p :: P => by
    rw [mrg_cons]; split
    · rw [List.mem_cons, mrg_mem t (l :: L) P, List.mem_cons (b := p), or_left_comm]
    · rw [List.mem_cons, mrg_mem t L (p :: P), List.mem_cons (b := l), or_assoc]
termination_by L P => L.length + P.length
theorem mrg_up : ∀ (L P : List Th), Up L → Up P → Up (mrg L P)
  | [], P, _, h => by rw [mrg_nil]; exact h
  | l :: L, [], h, _ => by rw [mrg_nil']; exact h
  | l :: L, p :: P, h, g => by
    obtain ⟨h1, h2⟩ := List.pairwise_cons.1 h
    obtain ⟨g1, g2⟩ := List.pairwise_cons.1 g
    rw [mrg_cons]; split
    · rename_i hc
      refine List.pairwise_cons.2 ⟨fun t ht => ?_, mrg_up (l :: L) P h g2⟩
      rcases (mrg_mem t _ _).1 ht with e | e
      · rcases List.mem_cons.1 e with rfl | e
        · omega
        · have := h1 t e; omega
      · exact g1 t e
    · rename_i hc
      refine List.pairwise_cons.2 ⟨fun t ht => ?_, mrg_up L (p :: P) h2 g⟩
      rcases (mrg_mem t _ _).1 ht with e | e
      · exact h1 t e
      · rcases List.mem_cons.1 e with rfl | e
        · omega
        · have := g1 t e; omega
termination_by L P => L.length + P.length
theorem pks_length : ∀ (R : List Th), (pks R).length = R.length / 2
  | [] => rfl
  | [a] => by simp [pks]
  | a :: b :: r => by simp only [pks, List.length_cons]; rw [pks_length r]; omega
theorem pks_up : ∀ (R : List Th), Up R → Up (pks R)
  | [], _ => List.Pairwise.nil
  | [a], _ => List.Pairwise.nil
  | a :: b :: r, h => by
    obtain ⟨h1, h2⟩ := List.pairwise_cons.1 h
    obtain ⟨g1, g2⟩ := List.pairwise_cons.1 h2
    refine List.pairwise_cons.2 ⟨?_, pks_up r g2⟩
    have key : ∀ (r : List Th), (∀ t ∈ r, a.wt ≤ t.wt ∧ b.wt ≤ t.wt) → ∀ u ∈ pks r, a.wt + b.wt ≤ u.wt := by
      intro r
      induction r using pks.induct with
      | case1 c d r ih =>
        intro hr u hu
        rcases List.mem_cons.1 hu with rfl | hu
        · have := (hr c (by simp)).1; have := (hr d (by simp)).2
          simp only [Th.wt]; omega
        · exact ih (fun t ht => hr t (by simp [ht])) u hu
      | case2 r hr => intro _ u hu; unfold pks at hu; split at hu; exact absurd rfl (hr _ _ _); cases hu
    exact key r (fun t ht => ⟨h1 t (by simp [ht]), g1 t ht⟩)
theorem row_up (L : List Th) (h : Up L) : ∀ k, Up (row L k)
  | 0 => List.Pairwise.nil
  | k + 1 => mrg_up _ _ h (pks_up _ (row_up L h k))
theorem row_one (L : List Th) : row L 1 = L := mrg_nil' L
theorem row_length (L : List Th) (k : Nat) : (row L (k + 1)).length = L.length + (row L k).length / 2 := by
  show (mrg L (pks (row L k))).length = _
  rw [mrg_length, pks_length]

theorem ws_append : ∀ (l r : List Th), ws (l ++ r) = ws l + ws r
  | [], r => by simp [ws]
  | t :: l, r => by simp only [List.cons_append, ws]; rw [ws_append l r]; omega
theorem ct_append (x : Nat) : ∀ (l r : List Th), ct x (l ++ r) = ct x l + ct x r
  | [], r => by simp [ct]
  | t :: l, r => by simp only [List.cons_append, ct]; rw [ct_append x l r]; omega
/-- the first packages are of the first things -/
theorem ws_pks : ∀ (R : List Th) (b : Nat), 2 * b ≤ R.length → ws ((pks R).take b) = ws (R.take (2 * b))
  | _, 0, _ => by simp [ws]
  | [], b + 1, h => by simp at h
  | [a], b + 1, h => by simp at h; omega
  | a :: c :: r, b + 1, h => by
    simp only [List.length_cons] at h
    rw [show 2 * (b + 1) = 2 * b + 1 + 1 by omega]
    simp only [pks, List.take_succ_cons, ws, Th.wt]
    rw [ws_pks r b (by omega)]; omega
theorem ct_pks (x : Nat) : ∀ (R : List Th) (b : Nat), 2 * b ≤ R.length → ct x ((pks R).take b) = ct x (R.take (2 * b))
  | _, 0, _ => by simp [ct]
  | [], b + 1, h => by simp at h
  | [a], b + 1, h => by simp at h; omega
  | a :: c :: r, b + 1, h => by
    simp only [List.length_cons] at h
    rw [show 2 * (b + 1) = 2 * b + 1 + 1 by omega]
    simp only [pks, List.take_succ_cons, ct, Th.cn]
    rw [ct_pks x r b (by omega)]; omega
/-- a thing of the first ones is in one of the first packages -/
theorem mem_pks (t : Th) : ∀ (R : List Th) (b : Nat), 2 * b ≤ R.length → t ∈ R.take (2 * b) → ∃ u ∈ (pks R).take b, t.wt ≤ u.wt
  | _, 0, _, h => by simp at h
  | [], b + 1, h, _ => by simp at h
  | [a], b + 1, h, _ => by simp at h; omega
  | a :: c :: r, b + 1, h, g => by
    simp only [List.length_cons] at h
    rw [show 2 * (b + 1) = 2 * b + 1 + 1 by omega] at g
    simp only [List.take_succ_cons, List.mem_cons] at g
    simp only [pks, List.take_succ_cons]
    rcases g with rfl | rfl | g
    · exact ⟨_, List.mem_cons_self, by simp only [Th.wt]; omega⟩
    · exact ⟨_, List.mem_cons_self, by simp only [Th.wt]; omega⟩
    · obtain ⟨u, hu, e⟩ := mem_pks t r b (by omega) g
      exact ⟨u, List.mem_cons_of_mem _ hu, e⟩

theorem nl_zero (L P : List Th) : nl L P 0 = 0 := by unfold nl; rfl
theorem nl_none (P : List Th) (q : Nat) : nl [] P q = 0 := by cases q <;> simp [nl]
theorem nl_all (L : List Th) (q : Nat) : nl L [] q = min q L.length := by
  cases q with
  | zero => simp [nl]
  | succ q => cases L <;> simp [nl]
theorem nl_cons (l p : Th) (L P : List Th) (q : Nat) : nl (l :: L) (p :: P) (q + 1) = if p.wt < l.wt then nl (l :: L) P q else nl L (p :: P) q + 1 := by rw [nl]
theorem nl_le : ∀ (L P : List Th) (q : Nat), nl L P q ≤ q
  | _, _, 0 => by rw [nl_zero]; omega
  | [], P, q + 1 => by rw [nl_none]; omega
  | l :: L, [], q + 1 => by rw [nl_all]; omega
  | l :: L, p :: P, q + 1 => by
    rw [nl_cons]; split
    · have := nl_le (l :: L) P q; omega
    · have := nl_le L (p :: P) q; omega
theorem nl_len : ∀ (L P : List Th) (q : Nat), nl L P q ≤ L.length
  | _, _, 0 => by rw [nl_zero]; omega
  | [], P, q + 1 => by rw [nl_none]; omega
  | l :: L, [], q + 1 => by rw [nl_all]; omega
  | l :: L, p :: P, q + 1 => by
    rw [nl_cons]; split
    · exact nl_len (l :: L) P q
    · have := nl_len L (p :: P) q; simp only [List.length_cons]; omega
theorem nl_rest : ∀ (L P : List Th) (q : Nat), q ≤ L.length + P.length → q - nl L P q ≤ P.length
  | _, _, 0, _ => by omega
  | [], P, q + 1, h => by rw [nl_none]; simp at h; omega
  | l :: L, [], q + 1, h => by rw [nl_all]; simp at h; simp; omega
  | l :: L, p :: P, q + 1, h => by
    simp only [List.length_cons] at h
    rw [nl_cons]; split
    · have := nl_rest (l :: L) P q (by simp only [List.length_cons]; omega); simp only [List.length_cons] at *; omega
    · have := nl_rest L (p :: P) q (by simp only [List.length_cons]; omega); simp only [List.length_cons] at *; omega
/-- the first things of a row are the first leaves and the first packages -/
theorem ct_take (x : Nat) : ∀ (L P : List Th) (q : Nat), q ≤ L.length + P.length → ct x ((mrg L P).take q) = ct x (L.take (nl L P q)) + ct x (P.take (q - nl L P q))
  | _, _, 0, _ => by rw [nl_zero]; simp [ct]
  | [], P, q + 1, _ => by rw [nl_none, mrg_nil]; simp [ct]
  | l :: L, [], q + 1, h => by
    rw [nl_all, mrg_nil']
    simp only [List.length_cons, List.length_nil] at h
    rw [Nat.min_eq_left (by simp only [List.length_cons]; omega)]
    simp [ct]
  | l :: L, p :: P, q + 1, h => by
    simp only [List.length_cons] at h
    rw [nl_cons, mrg_cons]
    by_cases hc : p.wt < l.wt
    · rw [if_pos hc, if_pos hc]
      have h1 := nl_le (l :: L) P q
      rw [show q + 1 - nl (l :: L) P q = (q - nl (l :: L) P q) + 1 by omega, List.take_succ_cons, List.take_succ_cons]
      simp only [ct]
      rw [ct_take x (l :: L) P q (by simp only [List.length_cons]; omega)]; omega
    · rw [if_neg hc, if_neg hc]
      have h1 := nl_le L (p :: P) q
      rw [show q + 1 - (nl L (p :: P) q + 1) = q - nl L (p :: P) q by omega, List.take_succ_cons, List.take_succ_cons]
      simp only [ct]
      rw [ct_take x L (p :: P) q (by simp only [List.length_cons]; omega)]; omega
theorem ws_take : ∀ (L P : List Th) (q : Nat), q ≤ L.length + P.length → ws ((mrg L P).take q) = ws (L.take (nl L P q)) + ws (P.take (q - nl L P q))
  | _, _, 0, _ => by rw [nl_zero]; simp [ws]
  | [], P, q + 1, _ => by rw [nl_none, mrg_nil]; simp [ws]
  | l :: L, [], q + 1, h => by
    rw [nl_all, mrg_nil']
    simp only [List.length_cons, List.length_nil] at h
    rw [Nat.min_eq_left (by simp only [List.length_cons]; omega)]
    simp [ws]
  | l :: L, p :: P, q + 1, h => by
    simp only [List.length_cons] at h
    rw [nl_cons, mrg_cons]
    by_cases hc : p.wt < l.wt
    · rw [if_pos hc, if_pos hc]
      have h1 := nl_le (l :: L) P q
      rw [show q + 1 - nl (l :: L) P q = (q - nl (l :: L) P q) + 1 by omega, List.take_succ_cons, List.take_succ_cons]
      simp only [ws]
      rw [ws_take (l :: L) P q (by simp only [List.length_cons]; omega)]; omega
    · rw [if_neg hc, if_neg hc]
      have h1 := nl_le L (p :: P) q
      rw [show q + 1 - (nl L (p :: P) q + 1) = q - nl L (p :: P) q by omega, List.take_succ_cons, List.take_succ_cons]
      simp only [ws]
      rw [ws_take L (p :: P) q (by simp only [List.length_cons]; omega)]; omega
/-- a leaf of the first ones is among the first things -/
theorem mem_take (t : Th) : ∀ (L P : List Th) (q : Nat), t ∈ L.take (nl L P q) → t ∈ (mrg L P).take q
  | _, _, 0, h => by rw [nl_zero] at h; simp at h
  | [], P, q + 1, h => by rw [nl_none] at h; simp at h
  | l :: L, [], q + 1, h => by
    rw [nl_all] at h
    rw [mrg_nil']
    by_cases e : q + 1 ≤ (l :: L).length
    · rwa [Nat.min_eq_left e] at h
    · rw [Nat.min_eq_right (by omega)] at h
      rw [List.take_of_length_le (by omega)]
      rwa [List.take_of_length_le (Nat.le_refl _)] at h
  | l :: L, p :: P, q + 1, h => by
    rw [nl_cons] at h
    rw [mrg_cons]
    by_cases hc : p.wt < l.wt
    · rw [if_pos hc] at h; rw [if_pos hc, List.take_succ_cons]
      exact List.mem_cons_of_mem _ (mem_take t (l :: L) P q h)
    · rw [if_neg hc, List.take_succ_cons] at h; rw [if_neg hc, List.take_succ_cons]
      rcases List.mem_cons.1 h with rfl | h
      · exact List.mem_cons_self
      · exact List.mem_cons_of_mem _ (mem_take t L (p :: P) q h)
/-- a package among the first things weighs less than the first leaf that is not -/
theorem pk_less (u t : Th) : ∀ (L P : List Th) (q : Nat), Up L → L[nl L P q]? = some t → u ∈ P.take (q - nl L P q) → u.wt < t.wt
  | L, P, 0, _, _, h => by rw [nl_zero] at h; simp at h
  | [], P, q + 1, _, h, _ => by simp at h
  | l :: L, [], q + 1, _, _, h => by simp at h
  | l :: L, p :: P, q + 1, hup, h, g => by
    rw [nl_cons] at h g
    by_cases hc : p.wt < l.wt
    · rw [if_pos hc] at h g
      have h1 := nl_le (l :: L) P q
      rw [show q + 1 - nl (l :: L) P q = (q - nl (l :: L) P q) + 1 by omega, List.take_succ_cons] at g
      rcases List.mem_cons.1 g with rfl | g
      · have := List.mem_of_getElem? h
        rcases List.mem_cons.1 this with rfl | e
        · exact hc
        · have := (List.pairwise_cons.1 hup).1 t e; omega
      · exact pk_less u t (l :: L) P q hup h g
    · rw [if_neg hc] at h g
      rw [show q + 1 - (nl L (p :: P) q + 1) = q - nl L (p :: P) q by omega] at g
      rw [List.getElem?_cons_succ] at h
      exact pk_less u t L (p :: P) q (List.pairwise_cons.1 hup).2 h g

/-- in a list by rising weights what is behind is no lighter -/
theorem ws_step : ∀ (X : List Th) (a c : Nat), Up X → (∀ t ∈ X, c ≤ t.wt) → a + 1 ≤ X.length → ws (X.take a) + c ≤ ws (X.take (a + 1))
  | [], _, _, _, _, h => by simp at h
  | x :: X, 0, c, _, h, _ => by simp only [List.take_zero, List.take_succ_cons, ws]; have := h x (by simp); omega
  | x :: X, a + 1, c, hu, h, hl => by
    simp only [List.length_cons] at hl
    rw [List.take_succ_cons, List.take_succ_cons]
    simp only [ws]
    have := ws_step X a c (List.pairwise_cons.1 hu).2 (fun t ht => h t (by simp [ht])) (by omega)
    omega
/-- no leaves and packages, so many, weigh less than the first things of a row -/
theorem ws_least : ∀ (L P : List Th) (a e : Nat), Up L → Up P → a ≤ L.length → e ≤ P.length → ws ((mrg L P).take (a + e)) ≤ ws (L.take a) + ws (P.take e)
  | [], P, a, e, _, _, ha, _ => by
    obtain rfl : a = 0 := by simpa using ha
    rw [mrg_nil, Nat.zero_add]; simp [ws]
  | l :: L, [], a, e, _, _, ha, he => by
    obtain rfl : e = 0 := by simpa using he
    rw [mrg_nil', Nat.add_zero]; simp [ws]
  | l :: L, p :: P, a, e, hL, hP, ha, he => by
    simp only [List.length_cons] at ha he
    obtain ⟨h1, h2⟩ := List.pairwise_cons.1 hL
    obtain ⟨g1, g2⟩ := List.pairwise_cons.1 hP
    rw [mrg_cons]
    by_cases hc : p.wt < l.wt
    · rw [if_pos hc]
      cases e with
      | succ e =>
        rw [← Nat.add_assoc, List.take_succ_cons, List.take_succ_cons]
        simp only [ws]
        have := ws_least (l :: L) P a e hL g2 (by simp only [List.length_cons]; omega) (by omega)
        omega
      | zero =>
        cases a with
        | zero => simp [ws]
        | succ a =>
          rw [Nat.add_zero, List.take_succ_cons]
          have r := ws_least (l :: L) P a 0 hL g2 (by simp only [List.length_cons]; omega) (by omega)
          rw [Nat.add_zero] at r
          simp only [List.take_zero, ws] at r ⊢
          have s := ws_step (l :: L) a p.wt hL (fun t ht => by
            rcases List.mem_cons.1 ht with rfl | ht
            · omega
            · have := h1 t ht; omega) (by simp only [List.length_cons]; omega)
          omega
    · rw [if_neg hc]
      cases a with
      | succ a =>
        rw [show a + 1 + e = a + e + 1 by omega, List.take_succ_cons, List.take_succ_cons]
        simp only [ws]
        have := ws_least L (p :: P) a e h2 hP (by omega) (by simp only [List.length_cons]; omega)
        omega
      | zero =>
        cases e with
        | zero => simp [ws]
        | succ e =>
          rw [show 0 + (e + 1) = e + 1 by omega, List.take_succ_cons]
          have r := ws_least L (p :: P) 0 e h2 hP (by omega) (by simp only [List.length_cons]; omega)
          rw [Nat.zero_add] at r
          simp only [List.take_zero, ws] at r ⊢
          have s := ws_step (p :: P) e l.wt hP (fun t ht => by
            rcases List.mem_cons.1 ht with rfl | ht
            · omega
            · have := g1 t ht; omega) (by simp only [List.length_cons]; omega)
          omega
termination_by L P => L.length + P.length
end Go.Proofs.Yteicamfelamfhaa.M
