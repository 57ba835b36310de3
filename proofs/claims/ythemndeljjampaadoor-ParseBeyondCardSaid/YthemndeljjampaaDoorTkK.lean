/- Rows of tokens that were made, as slices of tokens. Conditions: as each theorem names them. -/
import Derived.Test.YthemndeljjampaaDoorTkJ
namespace Go.Proofs.YthemndeljjampaaDoor
open Go Go.RowKit M
set_option linter.unusedVariables false
set_option linter.unusedSimpArgs false

theorem Tk.ok_of {l n d : Int} (h1 : 0 ≤ l ∧ l ≤ 255) (h2 : 0 ≤ n ∧ n ≤ 1000000) (h3 : 0 ≤ d ∧ d ≤ 1000000) : Tk.ok ⟨l, n, d⟩ := ⟨h1, ⟨by show _ ≤ n; omega, by show n ≤ _; omega⟩, ⟨by show _ ≤ d; omega, by show d ≤ _; omega⟩⟩
theorem IsTks.lit1 (w : World) (l n d : Int) (h : Tk.ok ⟨l, n, d⟩) : IsTks (w.alloc (.cells #[.int .u8 l, .int .i64 n, .int .i64 d] 38)) (some ⟨w.heap.size, 0, none⟩) 1 [⟨l, n, d⟩] := by
  refine ⟨rfl, by unfold maxLen; omega, fun c hc => by simp at hc; rw [hc]; exact h, .inr ⟨w.heap.size, 0, rfl, by simp, fun i c hc => ?_⟩⟩
  match i, hc with
  | 0, hc => simp at hc; subst hc; exact ⟨by simp, by simp, by simp⟩
theorem IsTks.lit2 (w : World) (l n d l' n' d' : Int) (h : Tk.ok ⟨l, n, d⟩) (h' : Tk.ok ⟨l', n', d'⟩) : IsTks (w.alloc (.cells #[.int .u8 l, .int .i64 n, .int .i64 d, .int .u8 l', .int .i64 n', .int .i64 d'] 38)) (some ⟨w.heap.size, 0, none⟩) 2 [⟨l, n, d⟩, ⟨l', n', d'⟩] := by
  refine ⟨rfl, by unfold maxLen; omega, fun c hc => by simp at hc; rcases hc with rfl | rfl; exact h; exact h', .inr ⟨w.heap.size, 0, rfl, by simp, fun i c hc => ?_⟩⟩
  match i, hc with
  | 0, hc => simp at hc; subst hc; exact ⟨by simp, by simp, by simp⟩
  | 1, hc => simp at hc; subst hc; exact ⟨by simp, by simp, by simp⟩

/-- the cells of tokens -/
def clt : List Tk → List Value
  | [] => []
  | t :: l => .int .u8 t.l :: .int .i64 t.n :: .int .i64 t.d :: clt l
theorem clt_length : ∀ l, (clt l).length = l.length * 3
  | [] => rfl
  | t :: l => by simp only [clt, List.length_cons]; rw [clt_length l]; omega
theorem clt_append : ∀ l r, clt (l ++ r) = clt l ++ clt r
  | [], _ => rfl
  | t :: l, r => by simp only [List.cons_append, clt]; rw [clt_append l r]
theorem clt_at : ∀ (l : List Tk) (i : Nat) (t : Tk), l[i]? = some t → (clt l)[i * 3]? = some (.int .u8 t.l) ∧ (clt l)[i * 3 + 1]? = some (.int .i64 t.n) ∧ (clt l)[i * 3 + 2]? = some (.int .i64 t.d)
  | [], i, t, h => by simp at h
  | a :: l, 0, t, h => by simp at h; subst h; simp [clt]
  | a :: l, i + 1, t, h => by
    rw [List.getElem?_cons_succ] at h
    obtain ⟨h1, h2, h3⟩ := clt_at l i t h
    simp only [clt]
    refine ⟨?_, ?_, ?_⟩
    · rw [show (i + 1) * 3 = i * 3 + 1 + 1 + 1 by omega]; simpa using h1
    · rw [show (i + 1) * 3 + 1 = i * 3 + 1 + 1 + 1 + 1 by omega]; simpa using h2
    · rw [show (i + 1) * 3 + 2 = i * 3 + 2 + 1 + 1 + 1 by omega]; simpa using h3
theorem clt_one : ∀ (l : List Tk), ∀ u ∈ clt l, u.oneCell' = true
  | [], u, h => by simp [clt] at h
  | t :: l, u, h => by
    simp only [clt, List.mem_cons] at h
    rcases h with rfl | rfl | rfl | h
    · rfl
    · rfl
    · rfl
    · exact clt_one l u h
theorem lies_clt {w : World} {b o : Nat} {l : List Tk} (h : ∀ i c, l[i]? = some c → M.Tk.lies w b o i c) : ∀ j u, (clt l)[j]? = some u → w.cell? ((⟨b, o, none⟩ : Addr).add j) = some u := by
  intro j u hu
  rw [cadd_at]
  have hj : j < l.length * 3 := by rw [← clt_length]; exact (List.getElem?_eq_some_iff.1 hu).1
  have hi : j / 3 < l.length := by omega
  obtain ⟨h1, h2, h3⟩ := h (j / 3) _ (List.getElem?_eq_getElem hi)
  obtain ⟨g1, g2, g3⟩ := clt_at l (j / 3) _ (List.getElem?_eq_getElem hi)
  have : j = j / 3 * 3 ∨ j = j / 3 * 3 + 1 ∨ j = j / 3 * 3 + 2 := by omega
  rcases this with e | e | e
  · rw [← e] at g1 h1; rw [g1] at hu; rw [h1, ← hu]
  · rw [← e] at g2; rw [g2] at hu; rw [show o + j = o + j / 3 * 3 + 1 by omega, h2, ← hu]
  · rw [← e] at g3; rw [g3] at hu; rw [show o + j = o + j / 3 * 3 + 2 by omega, h3, ← hu]
/-- a row of tokens that append made is a slice of tokens -/
theorem IsTks.of_own {w : World} {B n : Nat} {v : Value} {L : List Tk} (h : w.ownsRow B 38 3 v n (clt L)) (hok : ∀ c ∈ L, c.ok) (hm : n ≤ maxLen) : ∃ A c, v = .slice A n c ∧ IsTks w A n L := by
  have hl : L.length = n := by have := h.1; rw [clt_length] at this; omega
  have hc := fun g (hg : v.ownBlock = some g) => h.cells hg
  rcases h.2 with ⟨rfl, rfl⟩ | ⟨g, cap, cur, rfl, _, hh, _⟩
  · exact ⟨none, 0, rfl, hl, hm, hok, .inl rfl⟩
  · refine ⟨_, cap, rfl, hl, hm, hok, .inr ⟨g, 0, rfl, (Array.getElem?_eq_some_iff.1 hh).1, fun i t ht => ?_⟩⟩
    obtain ⟨h1, h2, h3⟩ := clt_at L i t ht
    have k := fun j u hu => hc g rfl j u hu
    simp only [cadd_at] at k
    exact ⟨k _ _ h1, k _ _ h2, k _ _ h3⟩

end Go.Proofs.YthemndeljjampaaDoor
