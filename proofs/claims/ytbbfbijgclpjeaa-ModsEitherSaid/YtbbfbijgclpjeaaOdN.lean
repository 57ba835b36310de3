/- What tells two pages apart: where they differ, gone together over gaps. No program. -/
import Derived.Test.YtbbfbijgclpjeaaOdM
namespace Go.Proofs.Ytbbfbijgclpjeaa.O
open Go M
set_option linter.unusedVariables false

/-- the first place from i on that differs, or the end -/
def nx (D : Nat → Bool) (n i : Nat) : Nat := if h : i < n then (if D i then i else nx D n (i + 1)) else n
termination_by n - i
section
variable {D : Nat → Bool} {n : Nat}
theorem nx_end {i : Nat} (h : n ≤ i) : nx D n i = n := by rw [nx, dif_neg (by omega)]
theorem nx_here {i : Nat} (h : i < n) (hd : D i = true) : nx D n i = i := by rw [nx, dif_pos h, if_pos hd]
theorem nx_skip {i : Nat} (h : i < n) (hd : D i = false) : nx D n i = nx D n (i + 1) := by rw [nx, dif_pos h, hd]; rfl
theorem nx_all (i : Nat) : nx D n i ≤ n ∧ (i ≤ n → i ≤ nx D n i) ∧ (nx D n i < n → D (nx D n i) = true) ∧ ∀ k, i ≤ k → k < nx D n i → D k = false := by
  induction hm : n - i using Nat.strongRecOn generalizing i with
  | ind m ih =>
    by_cases h : i < n
    · cases hd : D i with
      | true =>
        rw [nx_here h hd]
        exact ⟨by omega, fun _ => Nat.le_refl _, fun _ => hd, fun k h1 h2 => by omega⟩
      | false =>
        rw [nx_skip h hd]
        obtain ⟨a1, a2, a3, a4⟩ := ih (n - (i + 1)) (by omega) (i + 1) rfl
        exact ⟨a1, fun _ => by have := a2 (by omega); omega, a3, fun k h1 h2 => by
          by_cases e : k = i
          · rw [e]; exact hd
          · exact a4 k (by omega) h2⟩
    · rw [nx_end (by omega)]
      exact ⟨Nat.le_refl _, fun g => g, fun g => by omega, fun k h1 h2 => by omega⟩
theorem nx_le (i : Nat) : nx D n i ≤ n := (nx_all i).1
theorem nx_ge {i : Nat} (h : i ≤ n) : i ≤ nx D n i := (nx_all i).2.1 h
theorem nx_at {i : Nat} (h : nx D n i < n) : D (nx D n i) = true := (nx_all i).2.2.1 h
theorem nx_no {i k : Nat} (h1 : i ≤ k) (h2 : k < nx D n i) : D k = false := (nx_all i).2.2.2 k h1 h2
theorem nx_uniq {i j : Nat} (h1 : i ≤ j) (h2 : j < n) (h3 : D j = true) (h4 : ∀ k, i ≤ k → k < j → D k = false) : nx D n i = j := by
  have a := nx_ge (D := D) (n := n) (i := i) (by omega)
  rcases Nat.lt_trichotomy (nx D n i) j with h | h | h
  · have := nx_at (D := D) (n := n) (i := i) (by omega)
    rw [h4 _ a h] at this; cases this
  · exact h
  · rw [nx_no h1 h] at h3; cases h3
theorem nx_none {i : Nat} (h : ∀ k, i ≤ k → k < n → D k = false) : nx D n i = n := by
  by_cases hi : i ≤ n
  · rcases Nat.lt_or_ge (nx D n i) n with g | g
    · have := nx_at (D := D) (n := n) (i := i) g
      rw [h _ (nx_ge hi) g] at this; cases this
    · exact Nat.le_antisymm (nx_le i) g
  · exact nx_end (by omega)
end
/-- where a difference ends that goes to e at least -/
def sp (D : Nat → Bool) (n e : Nat) : Nat := if h : nx D n e < n ∧ nx D n e - e ≤ 4 then sp D n (nx D n e + 1) else e
termination_by n - e
decreasing_by
  have h1 := h.1
  have : e ≤ n := by
    rcases Nat.lt_or_ge n e with g | g
    · rw [nx_end (by omega)] at h1; omega
    · exact g
  have := nx_ge (D := D) (n := n) (i := e) this
  omega
/-- how many differ below a place -/
def cnt (D : Nat → Bool) : Nat → Nat
  | 0 => 0
  | k + 1 => cnt D k + (if D k then 1 else 0)
section
variable {D : Nat → Bool} {n : Nat}
theorem cnt_mono {i j : Nat} (h : i ≤ j) : cnt D i ≤ cnt D j := by
  induction j with
  | zero => rw [Nat.le_zero.1 h]; exact Nat.le_refl _
  | succ j ih =>
    by_cases e : i = j + 1
    · rw [e]; exact Nat.le_refl _
    · have := ih (by omega)
      simp only [cnt]; omega
theorem cnt_at {i : Nat} (h : D i = true) : cnt D (i + 1) = cnt D i + 1 := by simp only [cnt, h, if_true]
theorem sp_stop {e : Nat} (h : ¬ (nx D n e < n ∧ nx D n e - e ≤ 4)) : sp D n e = e := by rw [sp, dif_neg h]
theorem sp_go {e : Nat} (h : nx D n e < n ∧ nx D n e - e ≤ 4) : sp D n e = sp D n (nx D n e + 1) := by rw [sp, dif_pos h]
theorem sp_all (e : Nat) (he : e ≤ n) : e ≤ sp D n e ∧ sp D n e ≤ n ∧ (1 ≤ e → D (e - 1) = true → D (sp D n e - 1) = true) ∧ (nx D n (sp D n e) < n → sp D n e + 4 < nx D n (sp D n e)) ∧ sp D n e - e + 5 * cnt D e ≤ 5 * cnt D (sp D n e) := by
  induction hm : n - e using Nat.strongRecOn generalizing e with
  | ind m ih =>
    by_cases h : nx D n e < n ∧ nx D n e - e ≤ 4
    · have hg := nx_ge (D := D) (n := n) he
      obtain ⟨a1, a2, a3, a4, a5⟩ := ih (n - (nx D n e + 1)) (by omega) (nx D n e + 1) (by omega) rfl
      rw [← sp_go h] at a1 a2 a3 a4 a5
      have hc := cnt_at (nx_at h.1)
      have hc2 := cnt_mono (D := D) hg
      exact ⟨by omega, a2, fun _ _ => a3 (by omega) (by rw [Nat.add_sub_cancel]; exact nx_at h.1), a4, by omega⟩
    · rw [sp_stop h]
      have hg := nx_ge (D := D) (n := n) he
      exact ⟨Nat.le_refl _, he, fun _ g => g, fun g => by omega, by omega⟩
end
/-- the differences, as from and to -/
def dfs (D : Nat → Bool) (n i : Nat) : List (Nat × Nat) := if h : i < n then (i, sp D n (i + 1)) :: dfs D n (nx D n (sp D n (i + 1))) else []
termination_by n - i
decreasing_by
  obtain ⟨h1, h2, _⟩ := sp_all (D := D) (n := n) (i + 1) (by omega)
  have := nx_ge (D := D) (n := n) h2
  omega
section
variable {D : Nat → Bool} {n : Nat}
theorem dfs_end {i : Nat} (h : n ≤ i) : dfs D n i = [] := by rw [dfs, dif_neg (by omega)]
theorem dfs_go {i : Nat} (h : i < n) : dfs D n i = (i, sp D n (i + 1)) :: dfs D n (nx D n (sp D n (i + 1))) := by rw [dfs, dif_pos h]
/-- one difference -/
structure Seg (D : Nat → Bool) (n : Nat) (x : Nat × Nat) : Prop where
  lt : x.1 < x.2
  le : x.2 ≤ n
  d1 : D x.1 = true
  d2 : D (x.2 - 1) = true
theorem dfs_all (i : Nat) (hin : i ≤ n) (hi : i < n → D i = true) : (∀ x ∈ dfs D n i, Seg D n x ∧ i ≤ x.1) ∧ (∀ k, i ≤ k → k < n → D k = true → ∃ x ∈ dfs D n i, x.1 ≤ k ∧ k < x.2) ∧
    (∀ j x y, (dfs D n i)[j]? = some x → (dfs D n i)[j + 1]? = some y → x.2 + 4 < y.1) ∧ ((dfs D n i).map fun x => 4 + (x.2 - x.1)).sum + 5 * cnt D i ≤ 5 * cnt D n ∧ (dfs D n i).length ≤ n - i := by
  induction hm : n - i using Nat.strongRecOn generalizing i with
  | ind m ih =>
    by_cases h : i < n
    · obtain ⟨s1, s2, s3, s4, s5⟩ := sp_all (D := D) (n := n) (i + 1) (by omega)
      have hg := nx_ge (D := D) (n := n) s2
      have hd := hi h
      obtain ⟨a1, a2, a3, a4, a5⟩ := ih (n - nx D n (sp D n (i + 1))) (by omega) _ (nx_le _) (fun g => nx_at g) rfl
      have hr : ∀ y, (dfs D n (nx D n (sp D n (i + 1))))[0]? = some y → nx D n (sp D n (i + 1)) < n ∧ y.1 = nx D n (sp D n (i + 1)) := fun y hy => by
        rcases Nat.lt_or_ge (nx D n (sp D n (i + 1))) n with q | q
        · rw [dfs_go q] at hy
          cases hy
          exact ⟨q, rfl⟩
        · rw [dfs_end q] at hy; cases hy
      rw [dfs_go h]
      refine ⟨fun x hx => ?_, fun k k1 k2 k3 => ?_, fun j x y hx hy => ?_, ?_, ?_⟩
      · rcases List.mem_cons.1 hx with rfl | hx
        · exact ⟨⟨by show i < _; omega, s2, hd, s3 (by omega) hd⟩, Nat.le_refl _⟩
        · obtain ⟨b1, b2⟩ := a1 x hx
          exact ⟨b1, by omega⟩
      · rcases Nat.lt_or_ge k (sp D n (i + 1)) with q | q
        · exact ⟨_, List.mem_cons_self .., k1, q⟩
        · rcases Nat.lt_or_ge k (nx D n (sp D n (i + 1))) with r | r
          · rw [nx_no q r] at k3; cases k3
          · obtain ⟨x, b1, b2⟩ := a2 k r k2 k3
            exact ⟨x, List.mem_cons_of_mem _ b1, b2⟩
      · match j, hx, hy with
        | 0, hx, hy =>
          cases hx
          obtain ⟨q1, q2⟩ := hr y hy
          show sp D n (i + 1) + 4 < _
          have := s4 q1
          omega
        | j + 1, hx, hy => exact a3 j x y hx hy
      · have hc := cnt_at hd
        have hc2 := cnt_mono (D := D) (Nat.le_trans s1 hg)
        have hc3 := cnt_mono (D := D) hg
        simp only [List.map_cons, List.sum_cons]
        omega
      · rw [List.length_cons]; omega
    · rw [dfs_end (by omega)]
      refine ⟨fun x hx => absurd hx (by simp), fun k k1 k2 => absurd k2 (by omega), fun j x y hx => (by cases hx), ?_, Nat.zero_le _⟩
      simp only [List.map_nil, List.sum_nil]
      have e : i = n := by omega
      subst e; omega
end

/-! of two texts -/
/-- place i differs -/
def df (a b : ByteArray) (i : Nat) : Bool := a.data.toList.getD i 0 != b.data.toList.getD i 0
/-- what stands from one place to another -/
def sg (b : ByteArray) (x : Nat × Nat) : Md := ⟨(x.1 : Int), b.extract x.1 x.2⟩
def dif (a b : ByteArray) : List Md := (dfs (df a b) a.size (nx (df a b) a.size 0)).map (sg b)
section
variable {a b : ByteArray}
theorem sg_size {x : Nat × Nat} (h : x.2 ≤ b.size) : (sg b x).s.size = x.2 - x.1 := by
  show (b.extract x.1 x.2).size = _
  rw [ByteArray.size_extract]; omega
theorem sg_get {x : Nat × Nat} (h : x.2 ≤ b.size) {k : Nat} (h1 : x.1 ≤ k) (h2 : k < x.2) : (sg b x).s.data.toList[k - x.1]? = b.data.toList[k]? := by
  show (b.extract x.1 x.2).data.toList[k - x.1]? = _
  rw [ByteArray.data_extract, Array.toList_extract, List.extract_eq_take_drop, List.getElem?_take, if_pos (by omega), List.getElem?_drop]
  congr 1; omega
theorem dif_segs (hs : a.size = b.size) : ∀ x ∈ dfs (df a b) a.size (nx (df a b) a.size 0), Seg (df a b) a.size x := fun x hx => ((dfs_all _ (nx_le _) (fun g => nx_at g)).1 x hx).1
theorem dif_may (hs : a.size = b.size) (hp : pg (a.size : Int) = true) : ∀ m ∈ dif a b, may (a.size : Int) m = true := fun m hm => by
  obtain ⟨x, hx, rfl⟩ := List.mem_map.1 hm
  have q := dif_segs hs x hx
  have e := sg_size (b := b) (x := x) (by have := q.le; omega)
  have := q.lt
  have := q.le
  exact may_iff.2 ⟨hp, Int.natCast_nonneg _, by omega, by show (x.1 : Int) + _ ≤ _; omega⟩
theorem wnt_segs (c : Option UInt8) (k : Nat) (L : List (Nat × Nat)) (h : ∀ x ∈ L, x.1 < x.2 ∧ x.2 ≤ b.size) :
    wnt c k (L.map (sg b)) = if ∃ x ∈ L, x.1 ≤ k ∧ k < x.2 then b.data.toList[k]? else c := by
  induction L generalizing c with
  | nil => rw [if_neg (fun ⟨x, hx, _⟩ => absurd hx (by simp))]; rfl
  | cons x L ih =>
    have hx := h x (List.mem_cons_self ..)
    have e := sg_size (b := b) (x := x) hx.2
    rw [List.map_cons, wnt, ih _ (fun y hy => h y (List.mem_cons_of_mem _ hy)), e]
    have ep : (sg b x).p.toNat = x.1 := rfl
    rw [ep]
    by_cases q : ∃ y ∈ L, y.1 ≤ k ∧ k < y.2
    · rw [if_pos q, if_pos (by obtain ⟨y, h1, h2⟩ := q; exact ⟨y, List.mem_cons_of_mem _ h1, h2⟩)]
    · rw [if_neg q]
      by_cases r : x.1 ≤ k ∧ k < x.2
      · rw [if_pos (by omega), if_pos ⟨x, List.mem_cons_self .., r⟩, sg_get hx.2 r.1 r.2]
      · rw [if_neg (by omega), if_neg (fun ⟨y, h1, h2⟩ => by
          rcases List.mem_cons.1 h1 with rfl | h1
          · exact r h2
          · exact q ⟨y, h1, h2⟩)]
theorem getD_some {l r : List UInt8} {k : Nat} (h1 : k < l.length) (h2 : k < r.length) (h : l.getD k 0 = r.getD k 0) : l[k]? = r[k]? := by
  rw [List.getD, List.getD, List.getElem?_eq_getElem h1, List.getElem?_eq_getElem h2] at h
  rw [List.getElem?_eq_getElem h1, List.getElem?_eq_getElem h2]
  exact congrArg some h
theorem df_iff {i : Nat} : df a b i = true ↔ a.data.toList.getD i 0 ≠ b.data.toList.getD i 0 := by unfold df; rw [bne_iff_ne]
theorem df_no {i : Nat} : df a b i = false ↔ a.data.toList.getD i 0 = b.data.toList.getD i 0 := by
  cases h : df a b i with
  | true => exact ⟨fun g => (by cases g), fun g => absurd g (df_iff.1 h)⟩
  | false => exact ⟨fun _ => by unfold df at h; simpa using h, fun _ => rfl⟩
/-- what a difference is applied to becomes the other one -/
theorem dif_app (hs : a.size = b.size) (hp : pg (a.size : Int) = true) : app a.data.toList (dif a b) = b.data.toList := by
  apply List.ext_getElem?
  intro k
  have hla := size_list a
  have hlb := size_list b
  rw [app_get _ _ hla (oks_iff.2 (dif_may hs hp))]
  unfold dif
  rw [wnt_segs _ _ _ (fun x hx => by have := dif_segs hs x hx; exact ⟨this.lt, by rw [← hs]; exact this.le⟩)]
  by_cases q : ∃ x ∈ dfs (df a b) a.size (nx (df a b) a.size 0), x.1 ≤ k ∧ k < x.2
  · rw [if_pos q]
  · rw [if_neg q]
    rcases Nat.lt_or_ge k a.size with h | h
    · refine getD_some (by omega) (by omega) (df_no.1 ?_)
      cases hd : df a b k with
      | false => rfl
      | true =>
        refine absurd ((dfs_all (D := df a b) (n := a.size) _ (nx_le _) (fun g => nx_at g)).2.1 k ?_ h hd) q
        rcases Nat.lt_or_ge k (nx (df a b) a.size 0) with r | r
        · rw [nx_no (Nat.zero_le _) r] at hd; cases hd
        · exact r
    · rw [List.getElem?_eq_none (by omega), List.getElem?_eq_none (by omega)]
theorem dif_nil (hs : a.size = b.size) : dif a b = [] ↔ a = b := by
  constructor
  · intro h
    have hn : nx (df a b) a.size 0 = a.size := by
      rcases Nat.lt_or_ge (nx (df a b) a.size 0) a.size with g | g
      · unfold dif at h; rw [dfs_go g] at h; cases h
      · exact Nat.le_antisymm (nx_le _) g
    have e : a.data.toList = b.data.toList := by
      apply List.ext_getElem?
      intro k
      have hla := size_list a
      have hlb := size_list b
      rcases Nat.lt_or_ge k a.size with r | r
      · exact getD_some (by omega) (by omega) (df_no.1 (nx_no (n := a.size) (Nat.zero_le _) (by rw [hn]; exact r)))
      · rw [List.getElem?_eq_none (by omega), List.getElem?_eq_none (by omega)]
    exact ByteArray.ext (Array.toList_inj.1 e)
  · rintro rfl
    unfold dif
    rw [nx_none (fun k _ _ => df_no.2 rfl), dfs_end (Nat.le_refl _)]; rfl
theorem dif_length (hs : a.size = b.size) : (dif a b).length ≤ a.size := by
  unfold dif
  rw [List.length_map]
  have := (dfs_all (D := df a b) (n := a.size) (nx (df a b) a.size 0) (nx_le _) (fun g => nx_at g)).2.2.2.2
  omega
end
end Go.Proofs.Ytbbfbijgclpjeaa.O
