/- What is the same few bytes, again and again, becomes few tokens: mathematics. No program. -/
import Derived.Test.YthemndeljjampaaDoorMathG
namespace Go.Proofs.YthemndeljjampaaDoor.M
set_option linter.unusedVariables false

/-- a text that is the same L bytes again and again -/
structure Per (s : ByteArray) (L : Nat) : Prop where
  pos : 1 ≤ L
  few : L ≤ 100
  same : ∀ i, i + L < s.size → byt s (i + L) = byt s i

section
variable {s : ByteArray} {L : Nat} {r : Lv} {k : Nat}
theorem Per.lng (h : Per s L) (hk : L ≤ k) (hks : k ≤ s.size) : M.lng s (k - L) k = most s k := by
  refine (lng_is s (k - L) k).uniq ⟨Nat.le_refl _, fun i hi => ?_, .inl rfl⟩
  unfold most at hi
  have := h.same (k - L + i) (by omega)
  rw [show k - L + i + L = k + i by omega] at this
  exact this.symm
theorem Per.cand (h : Per s L) (hk : L ≤ k) (h3 : k + 3 ≤ s.size) : k - L ∈ cnd s (List.range k) k := by
  have hp := h.pos
  have hf := h.few
  unfold cnd
  rw [if_pos h3]
  refine List.mem_filter.2 ⟨List.mem_filter.2 ⟨List.mem_range.2 (by omega), at3_iff.2 ⟨by omega, ?_, ?_, ?_⟩⟩, by simp; omega⟩
  · have := h.same (k - L) (by omega); rw [show k - L + L = k by omega] at this; exact this.symm
  · have := h.same (k - L + 1) (by omega); rw [show k - L + 1 + L = k + 1 by omega] at this; exact this.symm
  · have := h.same (k - L + 2) (by omega); rw [show k - L + 2 + L = k + 2 by omega] at this; exact this.symm
/-- a list that falls strictly from below k: what is at least k - L is among its first L -/
theorem fall_mem {l : List Nat} {k L p d : Nat} (hf : ∀ i j x y : Nat, l[i]? = some x → l[j]? = some y → i < j → y < x) (hb : ∀ x ∈ l, x < k) (hp : p ∈ l) (hpk : k ≤ p + L) (hd : L ≤ d) : p ∈ l.take d := by
  obtain ⟨i, hi⟩ := List.mem_iff_getElem?.1 hp
  have hle : ∀ j x, l[j]? = some x → x + j + 1 ≤ k := by
    intro j
    induction j with
    | zero => intro x hx; have := hb x (List.mem_iff_getElem?.2 ⟨0, hx⟩); omega
    | succ j ih =>
      intro x hx
      have hj : j + 1 < l.length := (List.getElem?_eq_some_iff.1 hx).1
      have hy : l[j]? = some l[j] := List.getElem?_eq_getElem (by omega)
      have h1 := ih _ hy
      have h2 := hf j (j + 1) _ _ hy hx (by omega)
      omega
  have := hle i p hi
  exact List.mem_iff_getElem?.2 ⟨i, by rw [List.getElem?_take, if_pos (by omega)]; exact hi⟩
theorem range_sorted (k : Nat) : (List.range k).Pairwise (· < ·) := List.pairwise_lt_range
theorem cnd_fall (s : ByteArray) (k : Nat) : ∀ i j x y : Nat, ((cnd s (List.range k) k).reverse)[i]? = some x → ((cnd s (List.range k) k).reverse)[j]? = some y → i < j → y < x := by
  have hs : (cnd s (List.range k) k).Pairwise (· < ·) := by
    unfold cnd
    split
    · unfold grp
      exact ((range_sorted k).filter _).filter _
    · exact List.Pairwise.nil
  have hr : ((cnd s (List.range k) k).reverse).Pairwise (fun a b => b < a) := List.pairwise_reverse.2 hs
  intro i j x y hx hy hij
  obtain ⟨hi, rfl⟩ := List.getElem?_eq_some_iff.1 hx
  obtain ⟨hj, rfl⟩ := List.getElem?_eq_some_iff.1 hy
  exact List.pairwise_iff_getElem.1 hr i j hi hj hij
theorem Per.near (h : Per s L) (hk : L ≤ k) (h3 : k + 3 ≤ s.size) (hd : 512 ≤ r.d) : k - L ∈ nr s (List.range k) k r.d := by
  unfold nr
  have hf := h.few
  rw [show ((r.d : Int)).toNat = r.d by omega]
  exact fall_mem (k := k) (L := L) (cnd_fall s k) (fun x hx => (cnd_mem (List.mem_reverse.1 hx)).2.1) (List.mem_reverse.2 (h.cand hk h3)) (by omega) (by omega)
/-- no match is longer than may be -/
theorem mt_most (over : Int) : (mt s r k over).1 ≤ most s k := by
  unfold mt
  rcases fnd_one s k r.n over (nr s (List.range k) k r.d) (0, 0) with e | ⟨p, _, e, _⟩
  · rw [e]; exact Nat.zero_le _
  · rw [e]; exact (lng_is s p k).le
theorem mt_none {over : Int} (h : (most s k : Int) ≤ over) : (mt s r k over).1 = 0 := by
  apply Classical.byContradiction
  intro q
  have h1 := (mt_is q).2
  have h2 : (mt s r k over).1 ≤ most s k := mt_most over
  omega
theorem mt_short {over : Int} (h : ¬ k + 3 ≤ s.size) : (mt s r k over).1 = 0 := by
  unfold mt
  have : nr s (List.range k) k r.d = [] := by unfold nr cnd; rw [if_neg h]; simp
  rw [this]; rfl
theorem Per.full (h : Per s L) (hk : L ≤ k) (h3 : k + 3 ≤ s.size) (hd : 512 ≤ r.d) (hn : r.n = 258) {over : Int} (ho : over < (most s k : Int)) : (mt s r k over).1 = most s k := by
  have hm : (mt s r k over).1 ≤ most s k := mt_most over
  have h258 : most s k ≤ 258 := by unfold most; omega
  rcases fnd_all s k r.n over (nr s (List.range k) k r.d) (0, 0) with q | q
  · have : (mt s r k over).1 = (fnd s k r.n over (nr s (List.range k) k r.d) (0, 0)).1 := rfl
    rw [← this, hn] at q
    omega
  · have h1 := q (k - L) (h.near hk h3 hd)
    rw [h.lng hk (by omega)] at h1
    have : (mt s r k over).1 = (fnd s k r.n over (nr s (List.range k) k r.d) (0, 0)).1 := rfl
    rw [← this] at h1
    omega
theorem Per.full_or (h : Per s L) (hk : L ≤ k) (hd : 512 ≤ r.d) (hn : r.n = 258) {over : Int} (hq : (mt s r k over).1 ≠ 0) : (mt s r k over).1 = min 258 (s.size - k) := by
  by_cases h3 : k + 3 ≤ s.size
  · have h1 := (mt_is hq).2
    have h2 : (mt s r k over).1 ≤ most s k := mt_most over
    exact h.full hk h3 hd hn (by omega)
  · exact absurd (mt_short h3) hq
end

/-- how many tokens -/
theorem G_few {s : ByteArray} {L : Nat} {r : Lv} (h : Per s L) (hd : 512 ≤ r.d) (hn : r.n = 258) (k : Nat) (m : Nat × Nat) (hm : m.1 ≠ 0 → Mt s k m) (hf : L ≤ k → m.1 ≠ 0 → m.1 = min 258 (s.size - k)) (hk : k ≤ s.size) :
    (G s r k m).length ≤ (L - k) + (s.size - k) / 258 + 2 := by
  have hpos := h.pos
  induction k, m using G.induct s r with
  | case1 k m hlt hz hq ih =>
    by_cases hL : L ≤ k
    · have h3 : ¬ k + 3 ≤ s.size := fun q => by
        have := h.full hL q hd hn (over := 2) (by unfold most; omega)
        rw [hq] at this; unfold most at this; omega
      have := G_len s r k m hm
      omega
    · rw [G_lit hlt hz hq, List.length_cons]
      have := ih (fun q => absurd rfl q) (fun _ q => absurd rfl q) (by omega)
      omega
  | case2 k m hlt hz hq ih =>
    rw [G_look hlt hz hq]
    exact ih (fun q => (mt_is q).1) (fun hL q => h.full_or hL hd hn q) hk
  | case3 k m hlt hz hc hq ih =>
    rw [G_stay hlt hz hc hq, List.length_cons]
    have hv := hm hz
    have h1 := hv.len
    have h2 := hv.fits
    have := ih (fun q => absurd rfl q) (fun _ q => absurd rfl q) h2
    by_cases hL : L ≤ k
    · have hM := hf hL hz
      by_cases h258 : s.size - k < 258
      · have he : s.size ≤ k + m.1 := by omega
        rw [G_end he]
        simp
      · omega
    · omega
  | case4 k m hlt hz hc hq ih =>
    rw [G_lazy hlt hz hc hq, List.length_cons]
    have hk1 := hc.2
    by_cases hL : L ≤ k
    · have hM := hf hL hz
      exact absurd (mt_none (by unfold most; omega)) hq
    · have := ih (fun q => (mt_is q).1) (fun hL' q => h.full_or hL' hd hn q) (by omega)
      omega
  | case5 k m hlt hz hc ih =>
    rw [G_take hlt hz hc, List.length_cons]
    have hv := hm hz
    have h1 := hv.len
    have h2 := hv.fits
    have := ih (fun q => absurd rfl q) (fun _ q => absurd rfl q) h2
    by_cases hL : L ≤ k
    · have hM := hf hL hz
      by_cases h258 : s.size - k < 258
      · have he : s.size ≤ k + m.1 := by omega
        rw [G_end he]
        simp
      · omega
    · omega
  | case6 k m hlt =>
    rw [G_end (by omega)]; simp
end Go.Proofs.YthemndeljjampaaDoor.M
