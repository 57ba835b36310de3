/- Which tokens a text becomes, and that they are the text: mathematics. No program. -/
import Derived.Test.YthemndeljjampaaDoorMathC
import Derived.Test.YthemndeljjampaaDoorMathT
namespace Go.Proofs.YthemndeljjampaaDoor.M
set_option linter.unusedVariables false

/-- a level: its depth, its nice, its lazy -/
structure Lv where
  d : Nat
  n : Nat
  z : Nat
/-- the match at k over a length, all ahead of k put -/
def mt (s : ByteArray) (r : Lv) (k : Nat) (over : Int) : Nat × Nat := fnd s k r.n over (nr s (List.range k) k r.d) (0, 0)
/-- m is a match of the text at k -/
structure Mt (s : ByteArray) (k : Nat) (m : Nat × Nat) : Prop where
  len : 3 ≤ m.1 ∧ m.1 ≤ 258
  fits : k + m.1 ≤ s.size
  dist : 1 ≤ m.2 ∧ m.2 ≤ 32768
  back : m.2 ≤ k
  same : ∀ i, i < m.1 → byt s (k - m.2 + i) = byt s (k + i)
theorem mt_is {s : ByteArray} {r : Lv} {k : Nat} {over : Int} (h : (mt s r k over).1 ≠ 0) : Mt s k (mt s r k over) ∧ over < ((mt s r k over).1 : Int) := by
  unfold mt at h ⊢
  rcases fnd_one s k r.n over (nr s (List.range k) k r.d) (0, 0) with e | ⟨p, hp, e, ho⟩
  · rw [e] at h; exact absurd rfl h
  · have hc := nr_mem hp
    obtain ⟨_, h1, h2, h3, _⟩ := cnd_mem hc
    have h4 := cnd_long hc
    have h5 := lng_le s p k
    have h6 := (lng_is s p k).same
    rw [e]
    refine ⟨⟨⟨h4, h5.1⟩, by simp only; omega, ⟨by simp only; omega, by simp only; omega⟩, by simp only; omega, fun i hi => ?_⟩, ho⟩
    simp only at hi ⊢
    rw [show k - (k - p) + i = p + i by omega]
    exact h6 i hi

def lit (s : ByteArray) (k : Nat) : Tk := ⟨byt s k, 0, 0⟩
def mtk (m : Nat × Nat) : Tk := ⟨0, m.1, m.2⟩

/-- The tokens from place k on; m: the match that is at hand there, (0, 0) if none is. -/
def G (s : ByteArray) (r : Lv) (k : Nat) (m : Nat × Nat) : List Tk :=
  if hk : k < s.size then
    if hm : m.1 = 0 then
      if hq : (mt s r k 2).1 = 0 then lit s k :: G s r (k + 1) (0, 0) else G s r k (mt s r k 2)
    else if m.1 < r.z ∧ k + 1 < s.size then
      if (mt s r (k + 1) m.1).1 = 0 then mtk m :: G s r (k + m.1) (0, 0) else lit s k :: G s r (k + 1) (mt s r (k + 1) m.1)
    else mtk m :: G s r (k + m.1) (0, 0)
  else []
termination_by (s.size - k, if m.1 = 0 then 1 else 0)
decreasing_by
  · apply Prod.Lex.left; omega
  · rw [if_pos hm, if_neg hq]; apply Prod.Lex.right; omega
  · apply Prod.Lex.left; omega
  · apply Prod.Lex.left; omega
  · apply Prod.Lex.left; omega

section
variable {s : ByteArray} {r : Lv} {k : Nat} {m : Nat × Nat}
theorem G_end (h : s.size ≤ k) : G s r k m = [] := by rw [G, dif_neg (by omega)]
theorem G_lit (h : k < s.size) (hm : m.1 = 0) (hq : (mt s r k 2).1 = 0) : G s r k m = lit s k :: G s r (k + 1) (0, 0) := by rw [G, dif_pos h, dif_pos hm, dif_pos hq]
theorem G_look (h : k < s.size) (hm : m.1 = 0) (hq : (mt s r k 2).1 ≠ 0) : G s r k m = G s r k (mt s r k 2) := by rw [G, dif_pos h, dif_pos hm, dif_neg hq]
theorem G_lazy (h : k < s.size) (hm : m.1 ≠ 0) (hz : m.1 < r.z ∧ k + 1 < s.size) (hq : (mt s r (k + 1) m.1).1 ≠ 0) : G s r k m = lit s k :: G s r (k + 1) (mt s r (k + 1) m.1) := by
  rw [G, dif_pos h, dif_neg hm, if_pos hz, if_neg hq]
theorem G_stay (h : k < s.size) (hm : m.1 ≠ 0) (hz : m.1 < r.z ∧ k + 1 < s.size) (hq : (mt s r (k + 1) m.1).1 = 0) : G s r k m = mtk m :: G s r (k + m.1) (0, 0) := by
  rw [G, dif_pos h, dif_neg hm, if_pos hz, if_pos hq]
theorem G_take (h : k < s.size) (hm : m.1 ≠ 0) (hz : ¬ (m.1 < r.z ∧ k + 1 < s.size)) : G s r k m = mtk m :: G s r (k + m.1) (0, 0) := by
  rw [G, dif_pos h, dif_neg hm, if_neg hz]
end

/-- the bytes of a text, as a list -/
abbrev bt (s : ByteArray) : List UInt8 := s.data.toList
theorem bt_len (s : ByteArray) : (bt s).length = s.size := Array.length_toList
theorem byt_get (s : ByteArray) (i : Nat) (h : i < s.size) : (bt s)[i]? = some (UInt8.ofNat (byt s i)) := by
  unfold byt
  rw [List.getElem?_eq_getElem (by rw [bt_len]; exact h), List.getD, List.getElem?_eq_getElem (by rw [bt_len]; exact h)]
  simp
theorem take_byte (s : ByteArray) (k : Nat) (h : k < s.size) : (bt s).take k ++ [UInt8.ofNat (byt s k)] = (bt s).take (k + 1) := by
  rw [List.take_add_one, byt_get s k h]; rfl
/-- a match, byte by byte, is the text -/
theorem grow_text {s : ByteArray} {k : Nat} {m : Nat × Nat} (h : Mt s k m) : ∀ i, i ≤ m.1 → grow ((bt s).take k) m.2 i = (bt s).take (k + i)
  | 0, _ => rfl
  | i + 1, hi => by
    have hf := h.fits
    have hb := h.back
    have hd := h.dist
    have hl : ((bt s).take (k + i)).length = k + i := by rw [List.length_take, bt_len]; omega
    have e : ((bt s).take (k + i)).getD (k + i - m.2) 0 = UInt8.ofNat (byt s (k + i)) := by
      rw [List.getD, List.getElem?_take, if_pos (by omega), byt_get s _ (by omega)]
      have := h.same i (by omega)
      rw [show k - m.2 + i = k + i - m.2 by omega] at this
      rw [← this]; rfl
    simp only [grow, grow_text h i (by omega), hl, e]
    rw [show k + (i + 1) = k + i + 1 by omega]
    exact take_byte s (k + i) (by omega)

theorem lit_byte (s : ByteArray) (k : Nat) : isB (lit s k) = true := isB_iff.2 ⟨rfl, rfl⟩
theorem mtk_match {s : ByteArray} {k : Nat} {m : Nat × Nat} (h : Mt s k m) : isM (mtk m) = true := by
  have := h.len; have := h.dist
  exact isM_iff.2 ⟨rfl, by show (3 : Int) ≤ (m.1 : Int); omega, by show (m.1 : Int) ≤ 258; omega, by show (1 : Int) ≤ (m.2 : Int); omega, by show (m.2 : Int) ≤ 32768; omega⟩
theorem step_lit {s : ByteArray} {k d0 : Nat} (h : k < s.size) (h0 : s.size - d0 ≤ 1048576) (hd : d0 ≤ k) : step d0 ((bt s).take k) (lit s k) = (0, (bt s).take (k + 1)) := by
  have hl : ((bt s).take k).length = k := by rw [List.length_take, bt_len]; omega
  rw [step_byte (by rw [hl]; show ¬ (k : Int) < 0; omega) (by rw [hl, szo_byte (lit_byte s k)]; omega) (lit_byte s k)]
  rw [← take_byte s k h]
  rfl
theorem step_mtk {s : ByteArray} {k d0 : Nat} {m : Nat × Nat} (h : Mt s k m) (h0 : s.size - d0 ≤ 1048576) (hd : d0 ≤ k) : step d0 ((bt s).take k) (mtk m) = (0, (bt s).take (k + m.1)) := by
  have hf := h.fits
  have hb := h.back
  have hl : ((bt s).take k).length = k := by rw [List.length_take, bt_len]; omega
  have hn : (mtk m).n.toNat = m.1 := by show ((m.1 : Int)).toNat = m.1; omega
  have hd2 : (mtk m).d.toNat = m.2 := by show ((m.2 : Int)).toNat = m.2; omega
  rw [step_match (by rw [hl]; show ¬ (k : Int) < (m.2 : Int); omega) (by rw [hl, szo_match (mtk_match h), hn]; omega) (mtk_match h), hn, hd2, grow_text h m.1 (Nat.le_refl _)]

/-- The tokens are the text. -/
theorem run_G (s : ByteArray) (r : Lv) (d0 : Nat) (h0 : s.size - d0 ≤ 1048576) (k : Nat) (m : Nat × Nat) (hd : d0 ≤ k) (hk : k ≤ s.size) (hm : m.1 ≠ 0 → Mt s k m) : run d0 ((bt s).take k) (G s r k m) = (0, bt s) := by
  induction k, m using G.induct s r with
  | case1 k m hlt hz hq ih =>
    rw [G_lit hlt hz hq]
    have hs := step_lit hlt h0 hd
    rw [run_go (by rw [hs]), hs]
    exact ih (by omega) (by omega) (fun q => absurd rfl q)
  | case2 k m hlt hz hq ih =>
    rw [G_look hlt hz hq]
    exact ih hd hk (fun q => (mt_is q).1)
  | case3 k m hlt hz hc hq ih =>
    rw [G_stay hlt hz hc hq]
    have hv := hm hz
    have hs := step_mtk hv h0 hd
    rw [run_go (by rw [hs]), hs]
    exact ih (by omega) hv.fits (fun q => absurd rfl q)
  | case4 k m hlt hz hc hq ih =>
    rw [G_lazy hlt hz hc hq]
    have hs := step_lit hlt h0 hd
    rw [run_go (by rw [hs]), hs]
    exact ih (by omega) (by omega) (fun q => (mt_is q).1)
  | case5 k m hlt hz hc ih =>
    rw [G_take hlt hz hc]
    have hv := hm hz
    have hs := step_mtk hv h0 hd
    rw [run_go (by rw [hs]), hs]
    exact ih (by omega) hv.fits (fun q => absurd rfl q)
  | case6 k m hlt =>
    rw [G_end (by omega), List.take_of_length_le (by rw [bt_len]; omega)]
    rfl
/-- what kind of tokens they are -/
theorem G_may (s : ByteArray) (r : Lv) (k : Nat) (m : Nat × Nat) (hm : m.1 ≠ 0 → Mt s k m) : ∀ t ∈ G s r k m, may t = true ∧ (0 ≤ t.l ∧ t.l ≤ 255) ∧ (0 ≤ t.n ∧ t.n ≤ 258) ∧ (0 ≤ t.d ∧ t.d ≤ 32768) := by
  have hlit : ∀ k, may (lit s k) = true ∧ (0 ≤ (lit s k).l ∧ (lit s k).l ≤ 255) ∧ (0 ≤ (lit s k).n ∧ (lit s k).n ≤ 258) ∧ (0 ≤ (lit s k).d ∧ (lit s k).d ≤ 32768) := fun k => by
    have := byt_lt s k
    refine ⟨by unfold may; rw [lit_byte]; rfl, ⟨?_, ?_⟩, ⟨Int.le_refl 0, by show (0 : Int) ≤ 258; decide⟩, ⟨Int.le_refl 0, by show (0 : Int) ≤ 32768; decide⟩⟩
    · show (0 : Int) ≤ (byt s k : Int); omega
    · show (byt s k : Int) ≤ 255; omega
  have hmk : ∀ {k m}, Mt s k m → may (mtk m) = true ∧ (0 ≤ (mtk m).l ∧ (mtk m).l ≤ 255) ∧ (0 ≤ (mtk m).n ∧ (mtk m).n ≤ 258) ∧ (0 ≤ (mtk m).d ∧ (mtk m).d ≤ 32768) := fun {k m} h => by
    have h1 := h.len; have h2 := h.dist
    refine ⟨by unfold may; rw [mtk_match h, Bool.or_true], ⟨Int.le_refl 0, by show (0 : Int) ≤ 255; decide⟩, ⟨?_, ?_⟩, ⟨?_, ?_⟩⟩
    · show (0 : Int) ≤ (m.1 : Int); omega
    · show (m.1 : Int) ≤ 258; omega
    · show (0 : Int) ≤ (m.2 : Int); omega
    · show (m.2 : Int) ≤ 32768; omega
  induction k, m using G.induct s r with
  | case1 k m hlt hz hq ih =>
    rw [G_lit hlt hz hq]
    intro t ht
    rcases List.mem_cons.1 ht with e | e
    · rw [e]; exact hlit k
    · exact ih (fun q => absurd rfl q) t e
  | case2 k m hlt hz hq ih =>
    rw [G_look hlt hz hq]
    exact ih (fun q => (mt_is q).1)
  | case3 k m hlt hz hc hq ih =>
    rw [G_stay hlt hz hc hq]
    intro t ht
    rcases List.mem_cons.1 ht with e | e
    · rw [e]; exact hmk (hm hz)
    · exact ih (fun q => absurd rfl q) t e
  | case4 k m hlt hz hc hq ih =>
    rw [G_lazy hlt hz hc hq]
    intro t ht
    rcases List.mem_cons.1 ht with e | e
    · rw [e]; exact hlit k
    · exact ih (fun q => (mt_is q).1) t e
  | case5 k m hlt hz hc ih =>
    rw [G_take hlt hz hc]
    intro t ht
    rcases List.mem_cons.1 ht with e | e
    · rw [e]; exact hmk (hm hz)
    · exact ih (fun q => absurd rfl q) t e
  | case6 k m hlt =>
    rw [G_end (by omega)]
    intro t ht; cases ht
/-- no more tokens than bytes -/
theorem G_len (s : ByteArray) (r : Lv) (k : Nat) (m : Nat × Nat) (hm : m.1 ≠ 0 → Mt s k m) : (G s r k m).length ≤ s.size - k := by
  induction k, m using G.induct s r with
  | case1 k m hlt hz hq ih => rw [G_lit hlt hz hq, List.length_cons]; have := ih (fun q => absurd rfl q); omega
  | case2 k m hlt hz hq ih => rw [G_look hlt hz hq]; exact ih (fun q => (mt_is q).1)
  | case3 k m hlt hz hc hq ih => rw [G_stay hlt hz hc hq, List.length_cons]; have := ih (fun q => absurd rfl q); omega
  | case4 k m hlt hz hc hq ih => rw [G_lazy hlt hz hc hq, List.length_cons]; have := ih (fun q => (mt_is q).1); omega
  | case5 k m hlt hz hc ih => rw [G_take hlt hz hc, List.length_cons]; have := ih (fun q => absurd rfl q); omega
  | case6 k m hlt => rw [G_end (by omega)]; exact Nat.zero_le _
end Go.Proofs.YthemndeljjampaaDoor.M
