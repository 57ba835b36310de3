/- Texts of one place, one behind the other: P8TkK, P8MathG, P8MathR, P8RfA, P8RfF, P8RfG, P8RfH. -/
import Derived.Test.YtldiojnkoobbmaaGreatDoorCMMathT
import Derived.Test.YtldiojnkoobbmaaGreatDoorCMRns
import Derived.Test.YtldiojnkoobbmaaGreatDoorChecked
import Derived.KernelRfl
import Derived.Deep.OwnRows
import Derived.WalkKit
import Derived.Deep.Slices
import Derived.Deep.Fields
import Derived.SizedLaws
import Derived.Laws.IdiomStrings
import Derived.Lib.ConvBytes
import Derived.ArgAppend
import Derived.Laws.OwnMore
import Derived.Deep.AppendLies
import Derived.RangeFuncOwn
import Derived.Lib.Hide
import Derived.Outline
import Derived.Deep.RegionLaw
import Derived.RegionTactic
import Derived.BigRegion
import Derived.BigQuiet
import Derived.Deep.QuietTactic
import Derived.ChangeAlike
import Derived.Laws.Cells
import Derived.WalkSpells
import Derived.WalkMore
import Derived.IntWalk
import Derived.Laws.StructEq
import Derived.Test.YtldiojnkoobbmaaGreatDoorCMP8Cpy
import Derived.OwnWalk
import Derived.Maps.AppendAt
namespace Go.Proofs.YtldiojnkoobbmaaGreatDoor.V.Px
set_option maxRecDepth 1000000
open Go Go.RowKit M
set_option linter.unusedVariables false
set_option linter.unusedSimpArgs false
theorem _root_.Go.Proofs.YtldiojnkoobbmaaGreatDoor.V.Tk.ok_of {l n d : Int} (h1 : 0 ≤ l ∧ l ≤ 255) (h2 : 0 ≤ n ∧ n ≤ 1000000) (h3 : 0 ≤ d ∧ d ≤ 1000000) : Tk.ok ⟨l, n, d⟩ := ⟨h1, ⟨by show _ ≤ n; omega, by show n ≤ _; omega⟩, ⟨by show _ ≤ d; omega, by show d ≤ _; omega⟩⟩
def clt : List Tk → List Value
  | [] => []
  | t :: l => .int .u8 t.l :: .int .i64 t.n :: .int .i64 t.d :: clt l
theorem clt_length : ∀ l, (clt l).length = l.length * 3
  | [] => rfl
  | t :: l => by simp only [clt, List.length_cons]; rw [clt_length l]; omega
theorem clt_at : ∀ (l : List Tk) (i : Nat) (t : Tk), l[i]? = some t → (clt l)[i * 3]? = some (.int .u8 t.l) ∧ (clt l)[i * 3 + 1]? = some (.int .i64 t.n) ∧ (clt l)[i * 3 + 2]? = some (.int .i64 t.d)
  | [], i, t, h => by simp at h
  | a :: l, 0, t, h => by simp at h; subst h; simp [clt]
  | a :: l, i + 1, t, h => by
    rw [List.getElem?_cons_succ] at h
    obtain ⟨h1, h2, h3⟩ := clt_at l i t h
    simp only [clt]
    refine ⟨?_, ?_, ?_⟩
    · rw [show (i + 1) * 3 = i * 3 + 1 + 1 + 1 by omega]; simpa using h1
    · rw [show (i + 1) * 3 + 1 = i * 3 + 1 + 1 + 1 + 1 by omega]; simpa using h2
    · rw [show (i + 1) * 3 + 2 = i * 3 + 2 + 1 + 1 + 1 by omega]; simpa using h3
theorem IsTks.of_own {w : World} {B n : Nat} {v : Value} {L : List Tk} (h : w.ownsRow B 67 3 v n (clt L)) (hok : ∀ c ∈ L, c.ok) (hm : n ≤ maxLen) : ∃ A c, v = .slice A n c ∧ IsTks w A n L := by
  have hl : L.length = n := by have := h.1; rw [clt_length] at this; omega
  have hc := fun g (hg : v.ownBlock = some g) => h.cells hg
  rcases h.2 with ⟨rfl, rfl⟩ | ⟨g, cap, cur, rfl, _, hh, _⟩
  · exact ⟨none, 0, rfl, hl, hm, hok, .inl rfl⟩
  · refine ⟨_, cap, rfl, hl, hm, hok, .inr ⟨g, 0, rfl, (Array.getElem?_eq_some_iff.1 hh).1, fun i t ht => ?_⟩⟩
    obtain ⟨h1, h2, h3⟩ := clt_at L i t ht
    have k := fun j u hu => hc g rfl j u hu
    simp only [cadd_at] at k
    exact ⟨k _ _ h1, k _ _ h2, k _ _ h3⟩
end Go.Proofs.YtldiojnkoobbmaaGreatDoor.V.Px

namespace Go.Proofs.YtldiojnkoobbmaaGreatDoor.V.Px
set_option maxRecDepth 1000000
set_option linter.unusedVariables false
structure Lv where
  d : Nat
  n : Nat
  z : Nat
def mt (s : ByteArray) (r : Lv) (k : Nat) (over : Int) : Nat × Nat := fnd s k r.n over (nr s (List.range k) k r.d) (0, 0)
structure Mt (s : ByteArray) (k : Nat) (m : Nat × Nat) : Prop where
  len : 3 ≤ m.1 ∧ m.1 ≤ 258
  fits : k + m.1 ≤ s.size
  dist : 1 ≤ m.2 ∧ m.2 ≤ 32768
  back : m.2 ≤ k
  same : ∀ i, i < m.1 → byt s (k - m.2 + i) = byt s (k + i)
theorem mt_is {s : ByteArray} {r : Lv} {k : Nat} {over : Int} (h : (mt s r k over).1 ≠ 0) : Mt s k (mt s r k over) ∧ over < ((mt s r k over).1 : Int) := by
  unfold mt at h ⊢
  rcases fnd_one s k r.n over (nr s (List.range k) k r.d) (0, 0) with e | ⟨p, hp, e, ho⟩
  · rw [e] at h; exact absurd rfl h
  · have hc := nr_mem hp
    obtain ⟨_, h1, h2, h3, _⟩ := cnd_mem hc
    have h4 := cnd_long hc
    have h5 := lng_le s p k
    have h6 := (lng_is s p k).same
    rw [e]
    refine ⟨⟨⟨h4, h5.1⟩, by simp only; omega, ⟨by simp only; omega, by simp only; omega⟩, by simp only; omega, fun i hi => ?_⟩, ho⟩
    simp only at hi ⊢
    rw [show k - (k - p) + i = p + i by omega]
    exact h6 i hi
def lit (s : ByteArray) (k : Nat) : Tk := ⟨byt s k, 0, 0⟩
def mtk (m : Nat × Nat) : Tk := ⟨0, m.1, m.2⟩
def G (s : ByteArray) (r : Lv) (k : Nat) (m : Nat × Nat) : List Tk :=
  if hk : k < s.size then
    if hm : m.1 = 0 then
      if hq : (mt s r k 2).1 = 0 then lit s k :: G s r (k + 1) (0, 0) else G s r k (mt s r k 2)
    else if m.1 < r.z ∧ k + 1 < s.size then
      if (mt s r (k + 1) m.1).1 = 0 then mtk m :: G s r (k + m.1) (0, 0) else lit s k :: G s r (k + 1) (mt s r (k + 1) m.1)
    else mtk m :: G s r (k + m.1) (0, 0)
  else []
termination_by (s.size - k, if m.1 = 0 then 1 else 0)
decreasing_by
  · apply Prod.Lex.left; omega
  · rw [if_pos hm, if_neg hq]; apply Prod.Lex.right; omega
  · apply Prod.Lex.left; omega
  · apply Prod.Lex.left; omega
  · apply Prod.Lex.left; omega
section
variable {s : ByteArray} {r : Lv} {k : Nat} {m : Nat × Nat}
theorem G_end (h : s.size ≤ k) : G s r k m = [] := by rw [G, dif_neg (by omega)]
theorem G_lit (h : k < s.size) (hm : m.1 = 0) (hq : (mt s r k 2).1 = 0) : G s r k m = lit s k :: G s r (k + 1) (0, 0) := by rw [G, dif_pos h, dif_pos hm, dif_pos hq]
theorem G_look (h : k < s.size) (hm : m.1 = 0) (hq : (mt s r k 2).1 ≠ 0) : G s r k m = G s r k (mt s r k 2) := by rw [G, dif_pos h, dif_pos hm, dif_neg hq]
theorem G_lazy (h : k < s.size) (hm : m.1 ≠ 0) (hz : m.1 < r.z ∧ k + 1 < s.size) (hq : (mt s r (k + 1) m.1).1 ≠ 0) : G s r k m = lit s k :: G s r (k + 1) (mt s r (k + 1) m.1) := by
  rw [G, dif_pos h, dif_neg hm, if_pos hz, if_neg hq]
theorem G_stay (h : k < s.size) (hm : m.1 ≠ 0) (hz : m.1 < r.z ∧ k + 1 < s.size) (hq : (mt s r (k + 1) m.1).1 = 0) : G s r k m = mtk m :: G s r (k + m.1) (0, 0) := by
  rw [G, dif_pos h, dif_neg hm, if_pos hz, if_pos hq]
theorem G_take (h : k < s.size) (hm : m.1 ≠ 0) (hz : ¬ (m.1 < r.z ∧ k + 1 < s.size)) : G s r k m = mtk m :: G s r (k + m.1) (0, 0) := by
  rw [G, dif_pos h, dif_neg hm, if_neg hz]
end
theorem lit_byte (s : ByteArray) (k : Nat) : isB (lit s k) = true := isB_iff.2 ⟨rfl, rfl⟩
theorem mtk_match {s : ByteArray} {k : Nat} {m : Nat × Nat} (h : Mt s k m) : isM (mtk m) = true := by
  have := h.len; have := h.dist
  exact isM_iff.2 ⟨rfl, by show (3 : Int) ≤ (m.1 : Int); omega, by show (m.1 : Int) ≤ 258; omega, by show (1 : Int) ≤ (m.2 : Int); omega, by show (m.2 : Int) ≤ 32768; omega⟩
theorem G_may (s : ByteArray) (r : Lv) (k : Nat) (m : Nat × Nat) (hm : m.1 ≠ 0 → Mt s k m) : ∀ t ∈ G s r k m, may t = true ∧ (0 ≤ t.l ∧ t.l ≤ 255) ∧ (0 ≤ t.n ∧ t.n ≤ 258) ∧ (0 ≤ t.d ∧ t.d ≤ 32768) := by
  have hlit : ∀ k, may (lit s k) = true ∧ (0 ≤ (lit s k).l ∧ (lit s k).l ≤ 255) ∧ (0 ≤ (lit s k).n ∧ (lit s k).n ≤ 258) ∧ (0 ≤ (lit s k).d ∧ (lit s k).d ≤ 32768) := fun k => by
    have := byt_lt s k
    refine ⟨by unfold may; rw [lit_byte]; rfl, ⟨?_, ?_⟩, ⟨Int.le_refl 0, by show (0 : Int) ≤ 258; decide⟩, ⟨Int.le_refl 0, by show (0 : Int) ≤ 32768; decide⟩⟩
    · show (0 : Int) ≤ (byt s k : Int); omega
    · show (byt s k : Int) ≤ 255; omega
  have hmk : ∀ {k m}, Mt s k m → may (mtk m) = true ∧ (0 ≤ (mtk m).l ∧ (mtk m).l ≤ 255) ∧ (0 ≤ (mtk m).n ∧ (mtk m).n ≤ 258) ∧ (0 ≤ (mtk m).d ∧ (mtk m).d ≤ 32768) := fun {k m} h => by
    have h1 := h.len; have h2 := h.dist
    refine ⟨by unfold may; rw [mtk_match h, Bool.or_true], ⟨Int.le_refl 0, by show (0 : Int) ≤ 255; decide⟩, ⟨?_, ?_⟩, ⟨?_, ?_⟩⟩
    · show (0 : Int) ≤ (m.1 : Int); omega
    · show (m.1 : Int) ≤ 258; omega
    · show (0 : Int) ≤ (m.2 : Int); omega
    · show (m.2 : Int) ≤ 32768; omega
  induction k, m using G.induct s r with
  | case1 k m hlt hz hq ih =>
    rw [G_lit hlt hz hq]
    intro t ht
    rcases List.mem_cons.1 ht with e | e
    · rw [e]; exact hlit k
    · exact ih (fun q => absurd rfl q) t e
  | case2 k m hlt hz hq ih =>
    rw [G_look hlt hz hq]
    exact ih (fun q => (mt_is q).1)
  | case3 k m hlt hz hc hq ih =>
    rw [G_stay hlt hz hc hq]
    intro t ht
    rcases List.mem_cons.1 ht with e | e
    · rw [e]; exact hmk (hm hz)
    · exact ih (fun q => absurd rfl q) t e
  | case4 k m hlt hz hc hq ih =>
    rw [G_lazy hlt hz hc hq]
    intro t ht
    rcases List.mem_cons.1 ht with e | e
    · rw [e]; exact hlit k
    · exact ih (fun q => (mt_is q).1) t e
  | case5 k m hlt hz hc ih =>
    rw [G_take hlt hz hc]
    intro t ht
    rcases List.mem_cons.1 ht with e | e
    · rw [e]; exact hmk (hm hz)
    · exact ih (fun q => absurd rfl q) t e
  | case6 k m hlt =>
    rw [G_end (by omega)]
    intro t ht; cases ht
theorem G_len (s : ByteArray) (r : Lv) (k : Nat) (m : Nat × Nat) (hm : m.1 ≠ 0 → Mt s k m) : (G s r k m).length ≤ s.size - k := by
  induction k, m using G.induct s r with
  | case1 k m hlt hz hq ih => rw [G_lit hlt hz hq, List.length_cons]; have := ih (fun q => absurd rfl q); omega
  | case2 k m hlt hz hq ih => rw [G_look hlt hz hq]; exact ih (fun q => (mt_is q).1)
  | case3 k m hlt hz hc hq ih => rw [G_stay hlt hz hc hq, List.length_cons]; have := ih (fun q => absurd rfl q); omega
  | case4 k m hlt hz hc hq ih => rw [G_lazy hlt hz hc hq, List.length_cons]; have := ih (fun q => (mt_is q).1); omega
  | case5 k m hlt hz hc ih => rw [G_take hlt hz hc, List.length_cons]; have := ih (fun q => absurd rfl q); omega
  | case6 k m hlt => rw [G_end (by omega)]; exact Nat.zero_le _
end Go.Proofs.YtldiojnkoobbmaaGreatDoor.V.Px

namespace Go.Proofs.YtldiojnkoobbmaaGreatDoor.V.Px
set_option maxRecDepth 1000000
set_option linter.unusedVariables false
structure Per (s : ByteArray) (L : Nat) : Prop where
  pos : 1 ≤ L
  few : L ≤ 100
  same : ∀ i, i + L < s.size → byt s (i + L) = byt s i
section
variable {s : ByteArray} {L : Nat} {r : Lv} {k : Nat}
theorem Per.lng (h : Per s L) (hk : L ≤ k) (hks : k ≤ s.size) : lng s (k - L) k = most s k := by
  refine (lng_is s (k - L) k).uniq ⟨Nat.le_refl _, fun i hi => ?_, .inl rfl⟩
  unfold most at hi
  have := h.same (k - L + i) (by omega)
  rw [show k - L + i + L = k + i by omega] at this
  exact this.symm
theorem Per.cand (h : Per s L) (hk : L ≤ k) (h3 : k + 3 ≤ s.size) : k - L ∈ cnd s (List.range k) k := by
  have hp := h.pos
  have hf := h.few
  unfold cnd
  rw [if_pos h3]
  refine List.mem_filter.2 ⟨List.mem_filter.2 ⟨List.mem_range.2 (by omega), at3_iff.2 ⟨by omega, ?_, ?_, ?_⟩⟩, by simp; omega⟩
  · have := h.same (k - L) (by omega); rw [show k - L + L = k by omega] at this; exact this.symm
  · have := h.same (k - L + 1) (by omega); rw [show k - L + 1 + L = k + 1 by omega] at this; exact this.symm
  · have := h.same (k - L + 2) (by omega); rw [show k - L + 2 + L = k + 2 by omega] at this; exact this.symm
theorem fall_mem {l : List Nat} {k L p d : Nat} (hf : ∀ i j x y : Nat, l[i]? = some x → l[j]? = some y → i < j → y < x) (hb : ∀ x ∈ l, x < k) (hp : p ∈ l) (hpk : k ≤ p + L) (hd : L ≤ d) : p ∈ l.take d := by
  obtain ⟨i, hi⟩ := List.mem_iff_getElem?.1 hp
  have hle : ∀ j x, l[j]? = some x → x + j + 1 ≤ k := by
    intro j
    induction j with
    | zero => intro x hx; have := hb x (List.mem_iff_getElem?.2 ⟨0, hx⟩); omega
    | succ j ih =>
      intro x hx
      have hj : j + 1 < l.length := (List.getElem?_eq_some_iff.1 hx).1
      have hy : l[j]? = some l[j] := List.getElem?_eq_getElem (by omega)
      have h1 := ih _ hy
      have h2 := hf j (j + 1) _ _ hy hx (by omega)
      omega
  have := hle i p hi
  exact List.mem_iff_getElem?.2 ⟨i, by rw [List.getElem?_take, if_pos (by omega)]; exact hi⟩
theorem range_sorted (k : Nat) : (List.range k).Pairwise (· < ·) := List.pairwise_lt_range
theorem cnd_fall (s : ByteArray) (k : Nat) : ∀ i j x y : Nat, ((cnd s (List.range k) k).reverse)[i]? = some x → ((cnd s (List.range k) k).reverse)[j]? = some y → i < j → y < x := by
  have hs : (cnd s (List.range k) k).Pairwise (· < ·) := by
    unfold cnd
    split
    · unfold grp
      exact ((range_sorted k).filter _).filter _
    · exact List.Pairwise.nil
  have hr : ((cnd s (List.range k) k).reverse).Pairwise (fun a b => b < a) := List.pairwise_reverse.2 hs
  intro i j x y hx hy hij
  obtain ⟨hi, rfl⟩ := List.getElem?_eq_some_iff.1 hx
  obtain ⟨hj, rfl⟩ := List.getElem?_eq_some_iff.1 hy
  exact List.pairwise_iff_getElem.1 hr i j hi hj hij
theorem Per.near (h : Per s L) (hk : L ≤ k) (h3 : k + 3 ≤ s.size) (hd : 512 ≤ r.d) : k - L ∈ nr s (List.range k) k r.d := by
  unfold nr
  have hf := h.few
  rw [show ((r.d : Int)).toNat = r.d by omega]
  exact fall_mem (k := k) (L := L) (cnd_fall s k) (fun x hx => (cnd_mem (List.mem_reverse.1 hx)).2.1) (List.mem_reverse.2 (h.cand hk h3)) (by omega) (by omega)
theorem mt_most (over : Int) : (mt s r k over).1 ≤ most s k := by
  unfold mt
  rcases fnd_one s k r.n over (nr s (List.range k) k r.d) (0, 0) with e | ⟨p, _, e, _⟩
  · rw [e]; exact Nat.zero_le _
  · rw [e]; exact (lng_is s p k).le
theorem mt_none {over : Int} (h : (most s k : Int) ≤ over) : (mt s r k over).1 = 0 := by
  apply Classical.byContradiction
  intro q
  have h1 := (mt_is q).2
  have h2 : (mt s r k over).1 ≤ most s k := mt_most over
  omega
theorem mt_short {over : Int} (h : ¬ k + 3 ≤ s.size) : (mt s r k over).1 = 0 := by
  unfold mt
  have : nr s (List.range k) k r.d = [] := by unfold nr cnd; rw [if_neg h]; simp
  rw [this]; rfl
theorem Per.full (h : Per s L) (hk : L ≤ k) (h3 : k + 3 ≤ s.size) (hd : 512 ≤ r.d) (hn : r.n = 258) {over : Int} (ho : over < (most s k : Int)) : (mt s r k over).1 = most s k := by
  have hm : (mt s r k over).1 ≤ most s k := mt_most over
  have h258 : most s k ≤ 258 := by unfold most; omega
  rcases fnd_all s k r.n over (nr s (List.range k) k r.d) (0, 0) with q | q
  · have : (mt s r k over).1 = (fnd s k r.n over (nr s (List.range k) k r.d) (0, 0)).1 := rfl
    rw [← this, hn] at q
    omega
  · have h1 := q (k - L) (h.near hk h3 hd)
    rw [h.lng hk (by omega)] at h1
    have : (mt s r k over).1 = (fnd s k r.n over (nr s (List.range k) k r.d) (0, 0)).1 := rfl
    rw [← this] at h1
    omega
theorem Per.full_or (h : Per s L) (hk : L ≤ k) (hd : 512 ≤ r.d) (hn : r.n = 258) {over : Int} (hq : (mt s r k over).1 ≠ 0) : (mt s r k over).1 = min 258 (s.size - k) := by
  by_cases h3 : k + 3 ≤ s.size
  · have h1 := (mt_is hq).2
    have h2 : (mt s r k over).1 ≤ most s k := mt_most over
    exact h.full hk h3 hd hn (by omega)
  · exact absurd (mt_short h3) hq
end
theorem G_few {s : ByteArray} {L : Nat} {r : Lv} (h : Per s L) (hd : 512 ≤ r.d) (hn : r.n = 258) (k : Nat) (m : Nat × Nat) (hm : m.1 ≠ 0 → Mt s k m) (hf : L ≤ k → m.1 ≠ 0 → m.1 = min 258 (s.size - k)) (hk : k ≤ s.size) :
    (G s r k m).length ≤ (L - k) + (s.size - k) / 258 + 2 := by
  have hpos := h.pos
  induction k, m using G.induct s r with
  | case1 k m hlt hz hq ih =>
    by_cases hL : L ≤ k
    · have h3 : ¬ k + 3 ≤ s.size := fun q => by
        have := h.full hL q hd hn (over := 2) (by unfold most; omega)
        rw [hq] at this; unfold most at this; omega
      have := G_len s r k m hm
      omega
    · rw [G_lit hlt hz hq, List.length_cons]
      have := ih (fun q => absurd rfl q) (fun _ q => absurd rfl q) (by omega)
      omega
  | case2 k m hlt hz hq ih =>
    rw [G_look hlt hz hq]
    exact ih (fun q => (mt_is q).1) (fun hL q => h.full_or hL hd hn q) hk
  | case3 k m hlt hz hc hq ih =>
    rw [G_stay hlt hz hc hq, List.length_cons]
    have hv := hm hz
    have h1 := hv.len
    have h2 := hv.fits
    have := ih (fun q => absurd rfl q) (fun _ q => absurd rfl q) h2
    by_cases hL : L ≤ k
    · have hM := hf hL hz
      by_cases h258 : s.size - k < 258
      · have he : s.size ≤ k + m.1 := by omega
        rw [G_end he]
        simp
      · omega
    · omega
  | case4 k m hlt hz hc hq ih =>
    rw [G_lazy hlt hz hc hq, List.length_cons]
    have hk1 := hc.2
    by_cases hL : L ≤ k
    · have hM := hf hL hz
      exact absurd (mt_none (by unfold most; omega)) hq
    · have := ih (fun q => (mt_is q).1) (fun hL' q => h.full_or hL' hd hn q) (by omega)
      omega
  | case5 k m hlt hz hc ih =>
    rw [G_take hlt hz hc, List.length_cons]
    have hv := hm hz
    have h1 := hv.len
    have h2 := hv.fits
    have := ih (fun q => absurd rfl q) (fun _ q => absurd rfl q) h2
    by_cases hL : L ≤ k
    · have hM := hf hL hz
      by_cases h258 : s.size - k < 258
      · have he : s.size ≤ k + m.1 := by omega
        rw [G_end he]
        simp
      · omega
    · omega
  | case6 k m hlt =>
    rw [G_end (by omega)]; simp
end Go.Proofs.YtldiojnkoobbmaaGreatDoor.V.Px

namespace Go.Proofs.YtldiojnkoobbmaaGreatDoor.V.Px
set_option maxRecDepth 1000000
namespace Q
open Go Go.RowKit M
set_option linter.unusedVariables false
set_option linter.unusedSimpArgs false
theorem cadd_at (b o j : Nat) : (⟨b, o, none⟩ : Addr).add j = ⟨b, o + j, none⟩ := by
  unfold Addr.add
  split
  · rename_i h; subst h; rfl
  · rfl
theorem info_of {e : TypeId} {z : Value} {size bytes : Nat} (hi : (Tryz.prog.info? e).map (fun i => (i.zero, i.size, i.bytes)) = some (some z, size, bytes)) : ∃ i, Tryz.prog.info? e = some i ∧ i.zero = some z ∧ i.size = size ∧ i.bytes = bytes := by
  cases hq : Tryz.prog.info? e with
  | none => rw [hq] at hi; cases hi
  | some i => rw [hq] at hi; simp at hi; exact ⟨i, rfl, hi.1, hi.2.1, hi.2.2⟩
section
variable {w w' : World} {T : TypeId} {g : Nat} {x y z : Value}
end
section
variable {w w' : World} {T : TypeId} {g : Nat} {x y : Value}
end
section
variable {w w' : World} {B F b k : Nat} {s : ByteArray}
end
end Q
end Go.Proofs.YtldiojnkoobbmaaGreatDoor.V.Px

namespace Go.Proofs.YtldiojnkoobbmaaGreatDoor.V.Px
set_option maxRecDepth 1000000
namespace Q
open Go Go.RowKit M
set_option linter.unusedVariables false
set_option linter.unusedSimpArgs false
def lvs : List Lv := [⟨0, 0, 0⟩, ⟨4, 8, 0⟩, ⟨8, 16, 0⟩, ⟨16, 32, 0⟩, ⟨8, 16, 4⟩, ⟨16, 32, 16⟩, ⟨64, 128, 16⟩, ⟨128, 128, 32⟩, ⟨512, 258, 128⟩, ⟨2048, 258, 258⟩]
def lv (i : Nat) : Lv := lvs.getD i ⟨0, 0, 0⟩
end Q
end Go.Proofs.YtldiojnkoobbmaaGreatDoor.V.Px

namespace Go.Proofs.YtldiojnkoobbmaaGreatDoor.V.Px
set_option maxRecDepth 1000000
namespace Q
open Go Go.RowKit M
set_option linter.unusedVariables false
set_option linter.unusedSimpArgs false
def clq : List Tk → List Value
  | [] => []
  | t :: l => .int .u8 t.l :: .int .i64 t.n :: .int .i64 t.d :: clq l
theorem clq_append : ∀ l r, clq (l ++ r) = clq l ++ clq r
  | [], _ => rfl
  | t :: l, r => by simp only [List.cons_append, clq]; rw [clq_append l r]
def Owq (B : Nat) (w : World) (v : Value) (L : List Tk) : Prop := w.ownsRow B 67 3 v L.length (clq L)
section
variable {B : Nat} {w w' : World} {v : Value} {L : List Tk}
theorem Owq.nil (B : Nat) (w : World) : Owq B w (.slice none 0 0) [] := World.ownsRow_nil w B _ 3
theorem Owq.alloc (h : Owq B w v L) (o : Obj) : Owq B (w.alloc o) v L := World.ownsRow.alloc h o
theorem Owq.at (h : Owq B w v L) (e : ∀ g, v.ownBlock = some g → w'.heap[g]? = w.heap[g]?) : Owq B w' v L := ownsRow_at h e
theorem Owq.lt (h : Owq B w v L) : ∀ g, v.ownBlock = some g → B ≤ g ∧ g < w.heap.size := World.ownsRow.lt h
end
theorem tokInfo : (Tryz.prog.info? 67).map (fun i => (i.zero, i.size, i.bytes)) = some (some (.agg #[.int .u8 0, .int .i64 0, .int .i64 0]), 3, 24) := by kernel_rfl
theorem wpList_tq {ops : Array Oper} {rest : List Oper} {o : Oper} {a : Act} {w : World} {Q : Exit → Act → World → Prop} (hgd : o.guard = none) (s x : Operand)
    (ho : o.op = .call { callee := .builtin .append, args := #[s, x], argTypes := #[32, 32] }) (B : Nat) (v : Value) (L : List Tk) (hs : a.eval s = v) (h : Owq B w v L) (b c : Nat) (l n d : Int)
    (hx : a.eval x = .slice (some ⟨b, 0, none⟩) 1 c) (hc : w.cell? ⟨b, 0, none⟩ = some (.int .u8 l) ∧ w.cell? ⟨b, 1, none⟩ = some (.int .i64 n) ∧ w.cell? ⟨b, 2, none⟩ = some (.int .i64 d)) (hL : L.length ≤ 3000000) (hB : B ≤ w.heap.size)
    (hK : ∀ v' w', Owq B w' v' (L ++ [⟨l, n, d⟩]) → w.grownBy w' v.ownBlock → Below B w w' → wpList Tryz.prog ops Q rest (a.put o.dst v') w') : wpList Tryz.prog ops Q (o :: rest) a w :=
  wpList_plain hgd fun K hK' => by
    obtain ⟨i, h1, h2, h3, h4⟩ := info_of tokInfo
    obtain ⟨v', w', r1, r2, r3, _⟩ := run_append_own (P := Tryz.prog) w B 32 o.type 67 i _ 3 24 Tryz.underlying32 h1 h2 h3 h4 rfl (by decide) v L.length (clq L) h ⟨b, 0, none⟩ 1 c (clq [⟨l, n, d⟩]) rfl
      (fun j u hu => by
        rw [cadd_at, Nat.zero_add]
        match j, hu with
        | 0, hu => simp [clq] at hu; subst hu; exact hc.1
        | 1, hu => simp [clq] at hu; subst hu; exact hc.2.1
        | 2, hu => simp [clq] at hu; subst hu; exact hc.2.2
        | j + 3, hu => simp [clq] at hu) (by intro u hu; simp [clq] at hu; rcases hu with rfl | rfl | rfl <;> rfl) (by unfold maxLen; omega) (by omega) hB
    unfold Oper.wp execOp
    simp only [ho, resolve, invoke, builtin, Sem.run_bind, Sem.run_pure, Result.andThen_ok, List.map_toArray, List.map_cons, List.map_nil, hs, hx, r1]
    refine hK' _ _ (hK v' w' ?_ r3 ((Below.refl _ w).grown r3 hB (fun k hk => (World.ownsRow.lt h k hk).1)))
    unfold Owq
    rw [List.length_append, clq_append]; exact r2
def lits (s : ByteArray) (j : Nat) : List Tk := (List.range j).map (lit s)
theorem lits_length (s : ByteArray) (j : Nat) : (lits s j).length = j := by simp [lits]
end Q
end Go.Proofs.YtldiojnkoobbmaaGreatDoor.V.Px

namespace Go.Proofs.YtldiojnkoobbmaaGreatDoor.V.Px
set_option maxRecDepth 1000000
namespace Q
open Go Go.RowKit M
set_option linter.unusedVariables false
set_option linter.unusedSimpArgs false
theorem Owq.ty {B : Nat} {w : World} {v : Value} {L : List Tk} (h : Owq B w v L) : ∀ g, v.ownBlock = some g → ∃ cs, w.heap[g]? = some (.cells cs 67 (0, 0)) := by
  intro g hg
  rcases h.2 with ⟨rfl, _⟩ | ⟨g', cap, cur, rfl, _, hh, _⟩
  · simp [Value.ownBlock] at hg
  · simp [Value.ownBlock] at hg
    subst hg
    exact ⟨cur, hh⟩
theorem ty_ne {w : World} {g f : Nat} {cs cs' : Array Value} {T T' : TypeId} {z z' : Nat × Nat} (h : w.heap[g]? = some (.cells cs T z)) (h' : w.heap[f]? = some (.cells cs' T' z')) (hne : T ≠ T') : g ≠ f := fun e => by
  subst e
  rw [h] at h'
  injection h' with e1
  injection e1 with _ e2 _
  exact hne e2
section
variable {W wr w' : World} {F b Rr k : Nat} {s : ByteArray} {r : Lv} {v v' : Value} {L L' : List Tk}
end
theorem lv_le (i : Nat) (hi : i ≤ 9) : (lv i).d ≤ 1000000 ∧ (lv i).n ≤ 258 ∧ (lv i).z ≤ 258 := by
  have h9 : i = 0 ∨ i = 1 ∨ i = 2 ∨ i = 3 ∨ i = 4 ∨ i = 5 ∨ i = 6 ∨ i = 7 ∨ i = 8 ∨ i = 9 := by omega
  rcases h9 with rfl | rfl | rfl | rfl | rfl | rfl | rfl | rfl | rfl | rfl <;> decide
end Q
end Go.Proofs.YtldiojnkoobbmaaGreatDoor.V.Px
