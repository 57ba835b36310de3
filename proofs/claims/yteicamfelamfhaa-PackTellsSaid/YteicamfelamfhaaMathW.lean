/- Blocks in order, and blocks of twice the length, in plain mathematics. No program. -/
import Derived.Test.YteicamfelamfhaaMathV
namespace Go.Proofs.Yteicamfelamfhaa.M
set_option linter.unusedVariables false

/-- from a on up to b there are the same leaves -/
structure Mem (e e' : Nat → Nat × Nat) (a b : Nat) : Prop where
  fro : ∀ i, a ≤ i → i < b → ∃ j, a ≤ j ∧ j < b ∧ e' i = e j
  to : ∀ i, a ≤ i → i < b → ∃ j, a ≤ j ∧ j < b ∧ e i = e' j
/-- symbols rise -/
def Inc (e : Nat → Nat × Nat) (n : Nat) : Prop := ∀ i j, i < j → j < n → (e i).2 < (e j).2
/-- the blocks from lo on, ahead of hi, are in order, and have their leaves -/
def Blk (e0 e : Nat → Nat × Nat) (bs lo hi n : Nat) : Prop := ∀ p, lo ≤ p * bs → p * bs < hi → Ord e (p * bs) (min (p * bs + bs) n) ∧ Mem e0 e (p * bs) (min (p * bs + bs) n)
section
variable {e0 e e' : Nat → Nat × Nat} {a b c d m n q bs : Nat}
theorem Same.mem (h : Same e e' a b) : Mem e e' a b := ⟨h.fro, h.to⟩
theorem Mem.trans {e1 e2 : Nat → Nat × Nat} (h : Mem e0 e1 a b) (k : Mem e1 e2 a b) : Mem e0 e2 a b := by
  refine ⟨fun i h1 h2 => ?_, fun i h1 h2 => ?_⟩
  · obtain ⟨j, j1, j2, q⟩ := k.fro i h1 h2
    obtain ⟨l, l1, l2, r⟩ := h.fro j j1 j2
    exact ⟨l, l1, l2, q.trans r⟩
  · obtain ⟨j, j1, j2, q⟩ := h.to i h1 h2
    obtain ⟨l, l1, l2, r⟩ := k.to j j1 j2
    exact ⟨l, l1, l2, q.trans r⟩
theorem Mem.congr (h : Mem e0 e a b) (q : ∀ i, a ≤ i → i < b → e' i = e i) : Mem e0 e' a b := by
  refine ⟨fun i h1 h2 => ?_, fun i h1 h2 => ?_⟩
  · rw [q i h1 h2]; exact h.fro i h1 h2
  · obtain ⟨j, j1, j2, r⟩ := h.to i h1 h2
    exact ⟨j, j1, j2, r.trans (q j j1 j2).symm⟩
theorem Mem.join (h : Mem e0 e a b) (k : Mem e0 e b c) (h1 : a ≤ b) (h2 : b ≤ c) : Mem e0 e a c := by
  refine ⟨fun i g1 g2 => ?_, fun i g1 g2 => ?_⟩
  · by_cases q : i < b
    · obtain ⟨j, j1, j2, r⟩ := h.fro i g1 q; exact ⟨j, j1, by omega, r⟩
    · obtain ⟨j, j1, j2, r⟩ := k.fro i (by omega) g2; exact ⟨j, by omega, j2, r⟩
  · by_cases q : i < b
    · obtain ⟨j, j1, j2, r⟩ := h.to i g1 q; exact ⟨j, j1, by omega, r⟩
    · obtain ⟨j, j1, j2, r⟩ := k.to i (by omega) g2; exact ⟨j, by omega, j2, r⟩
theorem Mem.of_eq (q : ∀ i, a ≤ i → i < b → e i = e0 i) : Mem e0 e a b := ⟨fun i h1 h2 => ⟨i, h1, h2, q i h1 h2⟩, fun i h1 h2 => ⟨i, h1, h2, (q i h1 h2).symm⟩⟩
theorem mem_rel (hi : Inc e0 n) (h1 : Mem e0 e a m) (h2 : Mem e0 e m d) (hd : d ≤ n) : Rel e a m d := by
  intro i j g1 g2 g3 g4 _
  obtain ⟨x, x1, x2, q⟩ := h1.fro i g1 g2
  obtain ⟨y, y1, y2, r⟩ := h2.fro j g3 g4
  rw [q, r]; exact hi x y (by omega) (by omega)
theorem blk_none (e0 e : Nat → Nat × Nat) (bs lo n : Nat) : Blk e0 e bs lo 0 n := fun p _ h => absurd h (by omega)
/-- one block more -/
theorem blk_more (h : Blk e0 e bs 0 a n) (ha : a = q * bs) (ho : Ord e' a (min (a + bs) n)) (hs : ∀ t, t < a → e' t = e t) (hm : Mem e0 e' a (min (a + bs) n)) : Blk e0 e' bs 0 (a + bs) n := by
  intro p h1 h2
  rcases Nat.lt_trichotomy p q with g | g | g
  · have h3 : p * bs + bs ≤ a := by
      have := Nat.mul_le_mul_right bs (show p + 1 ≤ q from g)
      rw [Nat.succ_mul] at this; omega
    by_cases h0 : bs = 0
    · subst h0
      refine ⟨fun i j k1 k2 k3 => ?_, fun i k1 k2 => ?_, fun i k1 k2 => ?_⟩ <;> (rw [Nat.mul_zero] at *; omega)
    obtain ⟨o, k⟩ := h p h1 (by omega)
    exact ⟨o.congr (fun t k1 k2 => hs t (by omega)), k.congr (fun t k1 k2 => hs t (by omega))⟩
  · subst g; rw [← ha]; exact ⟨ho, hm⟩
  · have h3 := Nat.mul_le_mul_right bs (show q + 1 ≤ p from g)
    rw [Nat.succ_mul] at h3
    omega
/-- what is to do from a on -/
theorem blk_at (h : Blk e0 e bs a n n) (ha : a = q * (2 * bs)) (hb : 0 < bs) (han : a < n) : (Ord e a (min (a + bs) n) ∧ Mem e0 e a (min (a + bs) n)) ∧ (a + bs < n → Ord e (a + bs) (min (a + 2 * bs) n) ∧ Mem e0 e (a + bs) (min (a + 2 * bs) n)) := by
  have h1 : 2 * q * bs = a := by rw [ha, Nat.mul_assoc 2, Nat.mul_left_comm 2 q bs]
  have h2 : (2 * q + 1) * bs = a + bs := by rw [Nat.succ_mul, h1]
  refine ⟨?_, fun h3 => ?_⟩
  · have := h (2 * q) (by omega) (by omega)
    rwa [h1] at this
  · have := h (2 * q + 1) (by omega) (by omega)
    rw [h2, show a + bs + bs = a + 2 * bs by omega] at this
    exact this
theorem blk_rest (h : Blk e0 e bs a n n) (hs : ∀ t, a + c ≤ t → e' t = e t) : Blk e0 e' bs (a + c) n n := by
  intro p h1 h2
  obtain ⟨o, k⟩ := h p (by omega) h2
  exact ⟨o.congr (fun t k1 k2 => hs t (by omega)), k.congr (fun t k1 k2 => hs t (by omega))⟩
/-- two blocks are merged -/
theorem blk_merge (hd : Blk e0 e (2 * bs) 0 a n) (ht : Blk e0 e bs a n n) (ha : a = q * (2 * bs)) (hb : 0 < bs) (hm : a + bs < n) (hi : d = min (a + 2 * bs) n) (ho : Ord e' a d) (hs : Same e e' a d) :
    Blk e0 e' (2 * bs) 0 (a + 2 * bs) n ∧ Blk e0 e' bs (a + 2 * bs) n n := by
  obtain ⟨⟨_, m1⟩, k⟩ := blk_at ht ha hb (by omega)
  obtain ⟨_, m2⟩ := k hm
  rw [Nat.min_eq_left (by omega)] at m1
  rw [← hi] at m2
  refine ⟨blk_more hd ha (by rw [← hi]; exact ho) (fun t g => hs.out t (.inl g)) (by rw [← hi]; exact (m1.join m2 (by omega) (by omega)).trans hs.mem), ?_⟩
  intro p h1 h2
  obtain ⟨o, k2⟩ := ht p (by omega) h2
  exact ⟨o.congr (fun t k1 k2 => hs.out t (.inr (by omega))), k2.congr (fun t k1 k2 => hs.out t (.inr (by omega)))⟩
theorem blk_rel (ht : Blk e0 e bs a n n) (ha : a = q * (2 * bs)) (hb : 0 < bs) (hm : a + bs < n) (hi : d = min (a + 2 * bs) n) (hc : Inc e0 n) : Ord e a (a + bs) ∧ Ord e (a + bs) d ∧ Rel e a (a + bs) d := by
  obtain ⟨⟨o1, m1⟩, k⟩ := blk_at ht ha hb (by omega)
  obtain ⟨o2, m2⟩ := k hm
  rw [Nat.min_eq_left (by omega)] at m1 o1
  rw [← hi] at m2 o2
  exact ⟨o1, o2, mem_rel hc m1 m2 (by omega)⟩
/-- behind the last merge -/
theorem blk_last (hd : Blk e0 e (2 * bs) 0 a n) (ht : Blk e0 e bs a n n) (ha : a = q * (2 * bs)) (hb : 0 < bs) (hm : ¬ a + bs < n) (han : a ≤ n) : Blk e0 e (2 * bs) 0 n n := by
  by_cases g : a = n
  · subst g; exact hd
  · obtain ⟨⟨o1, m1⟩, _⟩ := blk_at ht ha hb (by omega)
    rw [Nat.min_eq_right (by omega)] at o1 m1
    have := blk_more hd ha (e' := e) (by rw [Nat.min_eq_right (by omega)]; exact o1) (fun _ _ => rfl) (by rw [Nat.min_eq_right (by omega)]; exact m1)
    intro p h1 h2
    exact this p h1 (by omega)
theorem blk_end (h : Blk e0 e bs 0 n n) (hb : n ≤ bs) : Ord e 0 n ∧ Mem e0 e 0 n := by
  by_cases g : n = 0
  · subst g; exact ⟨fun i j h1 h2 h3 => by omega, fun i h1 h2 => by omega, fun i h1 h2 => by omega⟩
  · have := h 0 (by omega) (by omega)
    rw [Nat.zero_mul, Nat.zero_add, Nat.min_eq_right hb] at this
    exact this
theorem blk_narrow (h : Blk e0 e bs 0 (a + c) n) (hn : n ≤ a + c) : Blk e0 e bs 0 n n := fun p h1 h2 => h p h1 (by omega)
end
end Go.Proofs.Yteicamfelamfhaa.M
