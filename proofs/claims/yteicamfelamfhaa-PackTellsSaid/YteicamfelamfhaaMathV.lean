/- How leaves are put in order, in plain mathematics: by weight, those of one weight by symbol; moving one, turning two parts about, merging. No program. -/
import Derived.Laws.OwnMore
namespace Go.Proofs.Yteicamfelamfhaa.M
set_option linter.unusedVariables false

/-- which of two leaves stands ahead -/
def lx (p q : Nat × Nat) : Prop := p.1 < q.1 ∨ (p.1 = q.1 ∧ p.2 < q.2)
theorem lx.trans {p q r : Nat × Nat} (h : lx p q) (k : lx q r) : lx p r := by unfold lx at *; omega
theorem lx.irr {p : Nat × Nat} (h : lx p p) : False := by unfold lx at h; omega
/-- leaves from a on up to b stand in order -/
def Ord (e : Nat → Nat × Nat) (a b : Nat) : Prop := ∀ i j, a ≤ i → i < j → j < b → lx (e i) (e j)
/-- of one weight those ahead of m have the lower symbols -/
def Rel (e : Nat → Nat × Nat) (a m b : Nat) : Prop := ∀ i j, a ≤ i → i < m → m ≤ j → j < b → (e i).1 = (e j).1 → (e i).2 < (e j).2
/-- from a on up to b there are the same leaves; all others are as they were -/
structure Same (e e' : Nat → Nat × Nat) (a b : Nat) : Prop where
  out : ∀ i, i < a ∨ b ≤ i → e' i = e i
  fro : ∀ i, a ≤ i → i < b → ∃ j, a ≤ j ∧ j < b ∧ e' i = e j
  to : ∀ i, a ≤ i → i < b → ∃ j, a ≤ j ∧ j < b ∧ e i = e' j
section
variable {e e' e'' : Nat → Nat × Nat} {a b m c d i j k n : Nat}
theorem Same.refl (e : Nat → Nat × Nat) (a b : Nat) : Same e e a b := ⟨fun _ _ => rfl, fun i h g => ⟨i, h, g, rfl⟩, fun i h g => ⟨i, h, g, rfl⟩⟩
theorem Same.trans (h : Same e e' a b) (k : Same e' e'' a b) : Same e e'' a b := by
  refine ⟨fun i hi => (k.out i hi).trans (h.out i hi), fun i h1 h2 => ?_, fun i h1 h2 => ?_⟩
  · obtain ⟨j, j1, j2, q⟩ := k.fro i h1 h2
    obtain ⟨l, l1, l2, r⟩ := h.fro j j1 j2
    exact ⟨l, l1, l2, q.trans r⟩
  · obtain ⟨j, j1, j2, q⟩ := h.to i h1 h2
    obtain ⟨l, l1, l2, r⟩ := k.to j j1 j2
    exact ⟨l, l1, l2, q.trans r⟩
theorem Same.wide (h : Same e e' a b) (hc : c ≤ a) (hd : b ≤ d) : Same e e' c d := by
  refine ⟨fun i hi => h.out i (by omega), fun i h1 h2 => ?_, fun i h1 h2 => ?_⟩
  · by_cases q : a ≤ i ∧ i < b
    · obtain ⟨j, j1, j2, r⟩ := h.fro i q.1 q.2
      exact ⟨j, by omega, by omega, r⟩
    · exact ⟨i, h1, h2, h.out i (by omega)⟩
  · by_cases q : a ≤ i ∧ i < b
    · obtain ⟨j, j1, j2, r⟩ := h.to i q.1 q.2
      exact ⟨j, by omega, by omega, r⟩
    · exact ⟨i, h1, h2, (h.out i (by omega)).symm⟩
theorem Ord.sub (h : Ord e a b) (hc : a ≤ c) (hd : d ≤ b) : Ord e c d := fun i j h1 h2 h3 => h i j (by omega) h2 (by omega)
theorem Ord.congr (h : Ord e a b) (q : ∀ i, a ≤ i → i < b → e' i = e i) : Ord e' a b := fun i j h1 h2 h3 => by
  rw [q i h1 (by omega), q j (by omega) h3]; exact h i j h1 h2 h3
theorem Ord.le (h : Ord e a b) (h1 : a ≤ i) (h2 : i ≤ j) (h3 : j < b) : e i = e j ∨ lx (e i) (e j) := by
  by_cases q : i = j
  · subst q; exact .inl rfl
  · exact .inr (h i j h1 (by omega) h3)

/-- two leaves change places -/
def swp (e : Nat → Nat × Nat) (i j t : Nat) : Nat × Nat := if t = i then e j else if t = j then e i else e t
/-- a leaf is moved down -/
def mvd (e : Nat → Nat × Nat) (j i t : Nat) : Nat × Nat := if t = j then e i else if j < t ∧ t ≤ i then e (t - 1) else e t
/-- a leaf is moved up -/
def mvu (e : Nat → Nat × Nat) (i k t : Nat) : Nat × Nat := if t = k then e i else if i ≤ t ∧ t < k then e (t + 1) else e t
/-- n leaves change places with n others -/
def swr (e : Nat → Nat × Nat) (a b n t : Nat) : Nat × Nat := if a ≤ t ∧ t < a + n then e (t - a + b) else if b ≤ t ∧ t < b + n then e (t - b + a) else e t
/-- two parts change places -/
def rot (e : Nat → Nat × Nat) (a m b t : Nat) : Nat × Nat := if a ≤ t ∧ t < a + (b - m) then e (t - a + m) else if a + (b - m) ≤ t ∧ t < b then e (t - (a + (b - m)) + a) else e t

theorem mvd_self (e : Nat → Nat × Nat) (i t : Nat) : mvd e i i t = e t := by
  unfold mvd; split
  · subst_vars; rfl
  · rw [if_neg (by omega)]
theorem mvd_step (e : Nat → Nat × Nat) {j i : Nat} (h0 : 0 < j) (h : j ≤ i) (t : Nat) : swp (mvd e j i) j (j - 1) t = mvd e (j - 1) i t := by
  unfold swp mvd
  by_cases h1 : t = j
  · subst h1
    rw [if_pos rfl, if_neg (by omega), if_neg (by omega), if_neg (by omega), if_pos (by omega)]
  · rw [if_neg h1]
    by_cases h2 : t = j - 1
    · rw [if_pos h2, if_pos rfl, if_pos h2]
    · rw [if_neg h2, if_neg h1, if_neg h2]
      by_cases h3 : j < t ∧ t ≤ i
      · rw [if_pos h3, if_pos (by omega)]
      · rw [if_neg h3, if_neg (by omega)]
theorem mvu_self (e : Nat → Nat × Nat) (i t : Nat) : mvu e i i t = e t := by
  unfold mvu; split
  · subst_vars; rfl
  · rw [if_neg (by omega)]
theorem mvu_step (e : Nat → Nat × Nat) {i k : Nat} (h : i ≤ k) (t : Nat) : swp (mvu e i k) k (k + 1) t = mvu e i (k + 1) t := by
  unfold swp mvu
  by_cases h1 : t = k
  · subst h1
    rw [if_pos rfl, if_neg (by omega), if_neg (by omega), if_neg (by omega), if_pos (by omega)]
  · rw [if_neg h1]
    by_cases h2 : t = k + 1
    · rw [if_pos h2, if_pos rfl, if_pos h2]
    · rw [if_neg h2, if_neg h1, if_neg h2]
      by_cases h3 : i ≤ t ∧ t < k
      · rw [if_pos h3, if_pos (by omega)]
      · rw [if_neg h3, if_neg (by omega)]
theorem swr_none (e : Nat → Nat × Nat) (a b t : Nat) : swr e a b 0 t = e t := by
  unfold swr; rw [if_neg (by omega), if_neg (by omega)]
theorem swr_step (e : Nat → Nat × Nat) {a b k : Nat} (h : a + k < b) (t : Nat) : swp (swr e a b k) (a + k) (b + k) t = swr e a b (k + 1) t := by
  unfold swp swr
  by_cases h1 : t = a + k
  · subst h1
    rw [if_pos rfl, if_neg (by omega), if_neg (by omega), if_pos (by omega)]
    congr 1; omega
  · rw [if_neg h1]
    by_cases h2 : t = b + k
    · subst h2
      rw [if_pos rfl, if_neg (by omega), if_neg (by omega), if_neg (by omega), if_pos (by omega)]
      congr 1; omega
    · rw [if_neg h2]
      by_cases h3 : a ≤ t ∧ t < a + k
      · rw [if_pos h3, if_pos (by omega)]
      · rw [if_neg h3, if_neg (show ¬ (a ≤ t ∧ t < a + (k + 1)) by omega)]
        by_cases h4 : b ≤ t ∧ t < b + k
        · rw [if_pos h4, if_pos (by omega)]
        · rw [if_neg h4, if_neg (by omega)]
/-- a round of the turning about -/
theorem rot_left (e : Nat → Nat × Nat) {m i j : Nat} (hi : i ≤ m) (h : j < i) (t : Nat) : rot (swr e (m - i) m j) (m - (i - j)) m (m + j) t = rot e (m - i) m (m + j) t := by
  unfold rot swr
  by_cases h1 : t < m - i
  · rw [if_neg (by omega), if_neg (by omega), if_neg (by omega), if_neg (by omega), if_neg (by omega), if_neg (by omega)]
  by_cases h2 : t < m - i + j
  · rw [if_neg (by omega), if_neg (by omega), if_pos (by omega), if_pos (by omega)]
  by_cases h3 : t < m - i + j + j
  · rw [if_pos (by omega), if_neg (by omega), if_pos (by omega), if_neg (by omega), if_pos (by omega)]
    congr 1; omega
  by_cases h4 : t < m + j
  · rw [if_neg (by omega), if_pos (by omega), if_neg (by omega), if_neg (by omega), if_neg (by omega), if_pos (by omega)]
    congr 1; omega
  · rw [if_neg (by omega), if_neg (by omega), if_neg (by omega), if_neg (by omega), if_neg (by omega), if_neg (by omega)]
theorem rot_right (e : Nat → Nat × Nat) {m i j : Nat} (hi : i ≤ m) (h : i < j) (t : Nat) : rot (swr e (m - i) (m + j - i) i) (m - i) m (m + (j - i)) t = rot e (m - i) m (m + j) t := by
  unfold rot swr
  by_cases h1 : t < m - i
  · rw [if_neg (by omega), if_neg (by omega), if_neg (by omega), if_neg (by omega), if_neg (by omega), if_neg (by omega)]
  by_cases h2 : t < m - i + (j - i)
  · rw [if_pos (by omega), if_pos (show m - i ≤ t ∧ t < m - i + (m + j - m) by omega)]
    by_cases h5 : t - (m - i) + m < m + j - i
    · rw [if_neg (by omega), if_neg (by omega)]
    · omega
  by_cases h3 : t < m + (j - i)
  · rw [if_neg (by omega), if_pos (by omega), if_pos (by omega), if_pos (by omega)]
    congr 1; omega
  by_cases h4 : t < m + j
  · rw [if_neg (by omega), if_neg (by omega), if_neg (by omega), if_pos (by omega), if_neg (by omega), if_pos (by omega)]
    congr 1; omega
  · rw [if_neg (by omega), if_neg (by omega), if_neg (by omega), if_neg (by omega), if_neg (by omega), if_neg (by omega)]
theorem rot_end (e : Nat → Nat × Nat) {m i : Nat} (hi : i ≤ m) (t : Nat) : swr e (m - i) m i t = rot e (m - i) m (m + i) t := by
  unfold rot swr
  by_cases h1 : t < m - i
  · rw [if_neg (by omega), if_neg (by omega), if_neg (by omega), if_neg (by omega)]
  by_cases h2 : t < m
  · rw [if_pos (by omega), if_pos (by omega)]
  by_cases h3 : t < m + i
  · rw [if_neg (by omega), if_pos (by omega), if_neg (by omega), if_pos (by omega)]
    congr 1; omega
  · rw [if_neg (by omega), if_neg (by omega), if_neg (by omega), if_neg (by omega)]
theorem rot_none (e : Nat → Nat × Nat) {a m b : Nat} (h : a ≤ m) (g : m ≤ b) (q : a = m ∨ m = b) (t : Nat) : rot e a m b t = e t := by
  unfold rot
  by_cases h1 : a ≤ t ∧ t < a + (b - m)
  · rw [if_pos h1]; congr 1; omega
  · rw [if_neg h1]
    by_cases h2 : a + (b - m) ≤ t ∧ t < b
    · rw [if_pos h2]; congr 1; omega
    · rw [if_neg h2]
theorem rot_same (e : Nat → Nat × Nat) {a m b : Nat} (h : a ≤ m) (g : m ≤ b) : Same e (rot e a m b) a b := by
  refine ⟨fun i hi => ?_, fun i h1 h2 => ?_, fun i h1 h2 => ?_⟩
  · unfold rot; rw [if_neg (by omega), if_neg (by omega)]
  · unfold rot
    by_cases q : i < a + (b - m)
    · rw [if_pos ⟨h1, q⟩]; exact ⟨_, by omega, by omega, rfl⟩
    · rw [if_neg (by omega), if_pos (by omega)]; exact ⟨_, by omega, by omega, rfl⟩
  · by_cases q : i < m
    · refine ⟨i + (b - m), by omega, by omega, ?_⟩
      unfold rot; rw [if_neg (by omega), if_pos (by omega)]; congr 1; omega
    · refine ⟨i - m + a, by omega, by omega, ?_⟩
      unfold rot; rw [if_pos (by omega)]; congr 1; omega
theorem mvd_same (e : Nat → Nat × Nat) {a b j i : Nat} (h1 : a ≤ j) (h2 : j ≤ i) (h3 : i < b) : Same e (mvd e j i) a b := by
  refine ⟨fun t ht => ?_, fun t g1 g2 => ?_, fun t g1 g2 => ?_⟩
  · unfold mvd; rw [if_neg (by omega), if_neg (by omega)]
  · unfold mvd
    split
    · exact ⟨i, by omega, h3, rfl⟩
    · split
      · exact ⟨t - 1, by omega, by omega, rfl⟩
      · exact ⟨t, g1, g2, rfl⟩
  · by_cases q : t = i
    · subst q; exact ⟨j, h1, by omega, by unfold mvd; rw [if_pos rfl]⟩
    · by_cases r : j ≤ t ∧ t < i
      · exact ⟨t + 1, by omega, by omega, by unfold mvd; rw [if_neg (by omega), if_pos (by omega)]; congr 1⟩
      · exact ⟨t, g1, g2, by unfold mvd; rw [if_neg (by omega), if_neg (by omega)]⟩
theorem mvu_same (e : Nat → Nat × Nat) {a b i k : Nat} (h1 : a ≤ i) (h2 : i ≤ k) (h3 : k < b) : Same e (mvu e i k) a b := by
  refine ⟨fun t ht => ?_, fun t g1 g2 => ?_, fun t g1 g2 => ?_⟩
  · unfold mvu; rw [if_neg (by omega), if_neg (by omega)]
  · unfold mvu
    split
    · exact ⟨i, by omega, by omega, rfl⟩
    · split
      · exact ⟨t + 1, by omega, by omega, rfl⟩
      · exact ⟨t, g1, g2, rfl⟩
  · by_cases q : t = i
    · subst q; exact ⟨k, by omega, h3, by unfold mvu; rw [if_pos rfl]⟩
    · by_cases r : i < t ∧ t ≤ k
      · exact ⟨t - 1, by omega, by omega, by unfold mvu; rw [if_neg (by omega), if_pos (by omega)]; congr 1; omega⟩
      · exact ⟨t, g1, g2, by unfold mvu; rw [if_neg (by omega), if_neg (by omega)]⟩
/-- a leaf behind some in order is moved down to its place -/
theorem mvd_ord {e : Nat → Nat × Nat} {a m i : Nat} (h : Ord e a m) (hr : ∀ t, a ≤ t → t < m → (e t).1 = (e m).1 → (e t).2 < (e m).2) (ha : a ≤ i) (hm : i ≤ m)
    (h1 : ∀ t, i ≤ t → t < m → (e m).1 < (e t).1) (h2 : i = a ∨ (e (i - 1)).1 ≤ (e m).1) : Ord (mvd e i m) a (m + 1) := by
  have lo : ∀ t, a ≤ t → t < i → lx (e t) (e m) := by
    intro t g1 g2
    have q : lx (e (i - 1)) (e m) := by
      have := hr (i - 1) (by omega) (by omega)
      unfold lx; omega
    rcases h.le g1 (show t ≤ i - 1 by omega) (by omega) with r | r
    · rw [r]; exact q
    · exact r.trans q
  have hi : ∀ t, i ≤ t → t < m → lx (e m) (e t) := fun t g1 g2 => .inl (h1 t g1 g2)
  intro x y g1 g2 g3
  unfold mvd
  by_cases hx : x = i
  · rw [if_pos hx, if_neg (by omega), if_pos (by omega)]; exact hi _ (by omega) (by omega)
  · rw [if_neg hx]
    by_cases hy : y = i
    · rw [if_pos hy, if_neg (by omega)]; exact lo _ g1 (by omega)
    · rw [if_neg hy]
      by_cases hx2 : i < x ∧ x ≤ m
      · rw [if_pos hx2, if_pos (by omega)]; exact h _ _ (by omega) (by omega) (by omega)
      · rw [if_neg hx2]
        by_cases hy2 : i < y ∧ y ≤ m
        · rw [if_pos hy2]; exact h _ _ g1 (by omega) (by omega)
        · rw [if_neg hy2]; exact h _ _ g1 g2 (by omega)
/-- a leaf ahead of some in order is moved up to its place, ahead of i -/
theorem mvu_ord {e : Nat → Nat × Nat} {a b i : Nat} (h : Ord e (a + 1) b) (hr : ∀ t, a + 1 ≤ t → t < b → (e a).1 = (e t).1 → (e a).2 < (e t).2) (ha : a + 1 ≤ i) (hb : i ≤ b)
    (h1 : i = a + 1 ∨ (e (i - 1)).1 < (e a).1) (h2 : i = b ∨ (e a).1 ≤ (e i).1) : Ord (mvu e a (i - 1)) a b := by
  have lo : ∀ t, a + 1 ≤ t → t < i → lx (e t) (e a) := by
    intro t g1 g2
    have q : lx (e (i - 1)) (e a) := .inl (by omega)
    rcases h.le g1 (show t ≤ i - 1 by omega) (by omega) with r | r
    · rw [r]; exact q
    · exact r.trans q
  have hi : ∀ t, i ≤ t → t < b → lx (e a) (e t) := by
    intro t g1 g2
    have q : lx (e a) (e i) := by
      have := hr i (by omega) (by omega)
      unfold lx; omega
    rcases h.le (show a + 1 ≤ i by omega) g1 g2 with r | r
    · rw [← r]; exact q
    · exact q.trans r
  intro x y g1 g2 g3
  unfold mvu
  by_cases hx : x = i - 1
  · rw [if_pos hx, if_neg (by omega), if_neg (by omega)]; exact hi _ (by omega) (by omega)
  · rw [if_neg hx]
    by_cases hy : y = i - 1
    · rw [if_pos hy, if_pos (by omega)]; exact lo _ (by omega) (by omega)
    · rw [if_neg hy]
      by_cases hx2 : a ≤ x ∧ x < i - 1
      · rw [if_pos hx2]
        by_cases hy2 : a ≤ y ∧ y < i - 1
        · rw [if_pos hy2]; exact h _ _ (by omega) (by omega) (by omega)
        · rw [if_neg hy2]; exact h _ _ (by omega) (by omega) (by omega)
      · rw [if_neg hx2, if_neg (by omega)]; exact h _ _ (by omega) (by omega) (by omega)
/-- the leaves of a part are those of another row's -/
theorem Rel.of (h : Rel e a m b) (h1 : Same e e' a m) (h2 : Same e' e'' m b) : Rel e'' a m b := by
  intro i j g1 g2 g3 g4
  obtain ⟨x, x1, x2, q⟩ := h1.fro i g1 g2
  obtain ⟨y, y1, y2, r⟩ := h2.fro j g3 g4
  rw [h2.out i (by omega), q, r, h1.out y (by omega)]
  exact h x y x1 x2 y1 y2

/-- where two parts are cut: what then stands in order. -/
theorem cut_ord {e : Nat → Nat × Nat} {a m b s f d : Nat} (ol : Ord e a m) (or : Ord e m b) (hr : Rel e a m b) (h1 : a ≤ s) (h2 : s ≤ m) (h3 : m ≤ f) (h4 : f ≤ b) (hd : d = s + (f - m))
    (q1 : s = a ∨ f = b ∨ (e (s - 1)).1 ≤ (e f).1) (q2 : f = m ∨ s = m ∨ (e (f - 1)).1 < (e s).1) :
    (Ord (rot e s m f) a s ∧ Ord (rot e s m f) s d ∧ Rel (rot e s m f) a s d) ∧ (Ord (rot e s m f) d f ∧ Ord (rot e s m f) f b ∧ Rel (rot e s m f) d f b) ∧ (∀ i j, a ≤ i → i < d → d ≤ j → j < b → lx (rot e s m f i) (rot e s m f j)) := by
  have v1 : ∀ t, t < s → rot e s m f t = e t := fun t ht => by unfold rot; rw [if_neg (by omega), if_neg (by omega)]
  have v2 : ∀ t, s ≤ t → t < d → rot e s m f t = e (t - s + m) := fun t g1 g2 => by unfold rot; rw [if_pos (by omega)]
  have v3 : ∀ t, d ≤ t → t < f → rot e s m f t = e (t - d + s) := fun t g1 g2 => by
    unfold rot; rw [if_neg (by omega), if_pos (by omega)]; congr 1; omega
  have v4 : ∀ t, f ≤ t → rot e s m f t = e t := fun t ht => by unfold rot; rw [if_neg (by omega), if_neg (by omega)]
  refine ⟨⟨?_, ?_, ?_⟩, ⟨?_, ?_, ?_⟩, ?_⟩
  · intro i j g1 g2 g3; rw [v1 i (by omega), v1 j g3]; exact ol i j g1 g2 (by omega)
  · intro i j g1 g2 g3; rw [v2 i g1 (by omega), v2 j (by omega) g3]; exact or _ _ (by omega) (by omega) (by omega)
  · intro i j g1 g2 g3 g4; rw [v1 i g2, v2 j g3 g4]; exact hr _ _ g1 (by omega) (by omega) (by omega)
  · intro i j g1 g2 g3; rw [v3 i g1 (by omega), v3 j (by omega) g3]; exact ol _ _ (by omega) (by omega) (by omega)
  · intro i j g1 g2 g3; rw [v4 i g1, v4 j (by omega)]; exact or _ _ (by omega) (by omega) (by omega)
  · intro i j g1 g2 g3 g4; rw [v3 i g1 g2, v4 j g3]; exact hr _ _ (by omega) (by omega) (by omega) g4
  · intro i j g1 g2 g3 g4
    by_cases ci : i < s
    · rw [v1 i ci]
      by_cases cj : j < f
      · rw [v3 j g3 cj]; exact ol _ _ g1 (by omega) (by omega)
      · rw [v4 j (by omega)]
        have k : lx (e (s - 1)) (e f) := by
          have := hr (s - 1) f (by omega) (by omega) h3 (by omega)
          unfold lx; omega
        have k1 := ol.le g1 (show i ≤ s - 1 by omega) (by omega)
        have k2 := or.le h3 (show f ≤ j by omega) g4
        rcases k1 with k1 | k1 <;> rcases k2 with k2 | k2
        · rw [k1, ← k2]; exact k
        · rw [k1]; exact k.trans k2
        · rw [← k2]; exact k1.trans k
        · exact (k1.trans k).trans k2
    · rw [v2 i (by omega) g2]
      by_cases cj : j < f
      · rw [v3 j g3 cj]
        have k : lx (e (f - 1)) (e s) := .inl (by omega)
        have k1 := or.le (show m ≤ i - s + m by omega) (show i - s + m ≤ f - 1 by omega) (by omega)
        have k2 := ol.le h1 (show s ≤ j - d + s by omega) (show j - d + s < m by omega)
        rcases k1 with k1 | k1 <;> rcases k2 with k2 | k2
        · rw [k1, ← k2]; exact k
        · rw [k1]; exact k.trans k2
        · rw [← k2]; exact k1.trans k
        · exact (k1.trans k).trans k2
      · rw [v4 j (by omega)]; exact or _ _ (by omega) (by omega) g4
/-- two parts in order, the first one's all ahead of the other's -/
theorem join_ord {e e1 e2 : Nat → Nat × Nat} {a d b : Nat} (hx : ∀ i j, a ≤ i → i < d → d ≤ j → j < b → lx (e i) (e j)) (s1 : Same e e1 a d) (s2 : Same e1 e2 d b) (o1 : Ord e1 a d) (o2 : Ord e2 d b) : Ord e2 a b := by
  intro i j g1 g2 g3
  by_cases ci : i < d
  · by_cases cj : j < d
    · rw [s2.out i (by omega), s2.out j (by omega)]; exact o1 i j g1 g2 cj
    · obtain ⟨x, x1, x2, q⟩ := s1.fro i g1 ci
      obtain ⟨y, y1, y2, r⟩ := s2.fro j (by omega) g3
      rw [s2.out i (by omega), q, r, s1.out y (by omega)]
      exact hx x y x1 x2 y1 y2
  · exact o2 i j (by omega) g2 g3
/-- what stands in order stands so in one way only -/
theorem ord_one {e e' : Nat → Nat × Nat} {n n' : Nat} (h : Ord e 0 n) (h' : Ord e' 0 n') (q : ∀ i, i < n → ∃ j, j < n' ∧ e i = e' j) (q' : ∀ i, i < n' → ∃ j, j < n ∧ e' i = e j) : n = n' ∧ ∀ i, i < n → e i = e' i := by
  have key : ∀ k, k ≤ n → k ≤ n' → ∀ i, i < k → e i = e' i := by
    intro k
    induction k with
    | zero => intro _ _ i hi; omega
    | succ k ih =>
      intro h1 h2 i hi
      have ih' := ih (by omega) (by omega)
      by_cases c : i < k
      · exact ih' i c
      · obtain rfl : i = k := by omega
        obtain ⟨x, x1, x2⟩ := q i (by omega)
        obtain ⟨y, y1, y2⟩ := q' i (by omega)
        have hx : i ≤ x := by
          apply Nat.le_of_not_lt; intro hlt
          have := h x i (Nat.zero_le _) hlt (by omega)
          rw [x2, ih' x hlt] at this; exact this.irr
        have hy : i ≤ y := by
          apply Nat.le_of_not_lt; intro hlt
          have := h' y i (Nat.zero_le _) hlt (by omega)
          rw [y2, ← ih' y hlt] at this; exact this.irr
        rcases h'.le (Nat.zero_le _) hx x1 with r | r
        · rw [x2, ← r]
        · rcases h.le (Nat.zero_le _) hy y1 with s | s
          · rw [s, ← y2]
          · rw [← y2, x2] at s; exact (r.trans s).irr.elim
  have hn : ¬ n < n' := by
    intro hlt
    obtain ⟨y, y1, y2⟩ := q' n hlt
    rw [key n (Nat.le_refl _) (by omega) y y1] at y2
    have := h' y n (Nat.zero_le _) y1 hlt
    rw [y2] at this; exact this.irr
  have hn' : ¬ n' < n := by
    intro hlt
    obtain ⟨y, y1, y2⟩ := q n' hlt
    rw [← key n' (by omega) (Nat.le_refl _) y y1] at y2
    have := h y n' (Nat.zero_le _) y1 hlt
    rw [y2] at this; exact this.irr
  obtain rfl : n = n' := by omega
  exact ⟨rfl, key n (Nat.le_refl _) (Nat.le_refl _)⟩
end
end Go.Proofs.Yteicamfelamfhaa.M
