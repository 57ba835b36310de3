/- What heavy answers; the document's example of layer 9: works returns true in any world; a copy of tokens by append. Conditions: as each theorem names them. -/
import Derived.Test.YtglakcdkpeabmaaTkI
namespace Go.Proofs.Ytglakcdkpeabmaa
open Go Go.RowKit M
set_option linter.unusedVariables false
set_option linter.unusedSimpArgs false

theorem heavy_any (s : ByteArray) (A : Option Addr) (n c : Nat) (w : World) (hs : s.size ≤ maxLen) (hn : n ≤ maxLen) :
    Calls Try.prog 6 #[.string s, .slice A n c] w fun e w' => e = .returned (.bool (decide (8192 < s.size ∨ 1000 < n))) ∧ w = w' := by
  by_cases h1 : 8192 < s.size
  · rw [decide_eq_true (Or.inl h1)]
    have d1 : decide (8192 < (s.size : Int)) = true := decide_eq_true (by omega)
    go_enter Try.func6, Try.ntmps6
    go_wp2
    go_ret
    exact ⟨rfl, rfl⟩
  · by_cases h2 : 1000 < n
    · rw [decide_eq_true (Or.inr h2)]
      have d1 : decide (8192 < (s.size : Int)) = false := decide_eq_false (by omega)
      have d2 : decide (1000 < (n : Int)) = true := decide_eq_true (by omega)
      go_enter Try.func6, Try.ntmps6
      go_wp2
      go_ret
      exact ⟨rfl, rfl⟩
    · rw [decide_eq_false (fun q => by omega)]
      have d1 : decide (8192 < (s.size : Int)) = false := decide_eq_false (by omega)
      have d2 : decide (1000 < (n : Int)) = false := decide_eq_false (by omega)
      go_enter Try.func6, Try.ntmps6
      go_wp2
      go_ret
      exact ⟨rfl, rfl⟩

theorem Tk.ok_of {l n d : Int} (h1 : 0 ≤ l ∧ l ≤ 255) (h2 : 0 ≤ n ∧ n ≤ 1000000) (h3 : 0 ≤ d ∧ d ≤ 1000000) : Tk.ok ⟨l, n, d⟩ := ⟨h1, ⟨by show _ ≤ n; omega, by show n ≤ _; omega⟩, ⟨by show _ ≤ d; omega, by show d ≤ _; omega⟩⟩
theorem IsTks.lit1 (w : World) (l n d : Int) (h : Tk.ok ⟨l, n, d⟩) : IsTks (w.alloc (.cells #[.int .u8 l, .int .i64 n, .int .i64 d] 27)) (some ⟨w.heap.size, 0, none⟩) 1 [⟨l, n, d⟩] := by
  refine ⟨rfl, by unfold maxLen; omega, fun c hc => by simp at hc; rw [hc]; exact h, .inr ⟨w.heap.size, 0, rfl, by simp, fun i c hc => ?_⟩⟩
  match i, hc with
  | 0, hc => simp at hc; subst hc; exact ⟨by simp, by simp, by simp⟩
theorem IsTks.lit2 (w : World) (l n d l' n' d' : Int) (h : Tk.ok ⟨l, n, d⟩) (h' : Tk.ok ⟨l', n', d'⟩) : IsTks (w.alloc (.cells #[.int .u8 l, .int .i64 n, .int .i64 d, .int .u8 l', .int .i64 n', .int .i64 d'] 27)) (some ⟨w.heap.size, 0, none⟩) 2 [⟨l, n, d⟩, ⟨l', n', d'⟩] := by
  refine ⟨rfl, by unfold maxLen; omega, fun c hc => by simp at hc; rcases hc with rfl | rfl; exact h; exact h', .inr ⟨w.heap.size, 0, rfl, by simp, fun i c hc => ?_⟩⟩
  match i, hc with
  | 0, hc => simp at hc; subst hc; exact ⟨by simp, by simp, by simp⟩
  | 1, hc => simp at hc; subst hc; exact ⟨by simp, by simp, by simp⟩

theorem ex1 : txt [] [⟨97, 0, 0⟩, ⟨0, 4, 1⟩] = ([97, 97, 97, 97, 97], 0) := by decide +kernel
theorem ex2 : txt [120] [⟨0, 3, 2⟩] = ([], 7) := by decide +kernel
theorem ex3 : szs [⟨0, 0, 0⟩, ⟨0, 4, 1⟩] = 5 := by decide +kernel
theorem ex4 : may ⟨0, 2, 1⟩ = false := by decide +kernel

set_option maxRecDepth 1000000 in
set_option maxHeartbeats 1000000 in
theorem works_any (W : World) : Calls Try.prog 7 #[] W fun e w' => e = .returned (.bool true) ∧ Below W.heap.size W w' := by
  have hT1 : ∀ w, Calls Try.prog 10 #[.string ⟨#[]⟩, .slice (some ⟨w.heap.size, 0, none⟩) 2 2] (w.alloc (.cells #[.int .u8 97, .int .i64 0, .int .i64 0, .int .u8 0, .int .i64 4, .int .i64 1] 27)) fun e w' => e = .returned (.tuple #[.string ⟨#[97, 97, 97, 97, 97]⟩, .int .i64 0]) ∧ Below w.heap.size w w' := fun w => by
    refine (text_any ⟨#[]⟩ (some ⟨w.heap.size, 0, none⟩) 2 2 _ _ (IsTks.lit2 w 97 0 0 0 4 1 (Tk.ok_of (by decide) (by decide) (by decide)) (Tk.ok_of (by decide) (by decide) (by decide))) (by omega) (by decide)).mono ?_
    rintro e w' ⟨rfl, hb⟩
    have e0 : (⟨#[]⟩ : ByteArray).data.toList = [] := rfl
    rw [e0, ex1]
    exact ⟨rfl, (((Below.refl _ w).alloc (Nat.le_refl _) _).trans (hb.mono (by simp)))⟩
  have hT2 : ∀ w, Calls Try.prog 10 #[.string ⟨#[120]⟩, .slice (some ⟨w.heap.size, 0, none⟩) 1 1] (w.alloc (.cells #[.int .u8 0, .int .i64 3, .int .i64 2] 27)) fun e w' => e = .returned (.tuple #[.string ⟨#[]⟩, .int .i64 7]) ∧ Below w.heap.size w w' := fun w => by
    refine (text_any ⟨#[120]⟩ (some ⟨w.heap.size, 0, none⟩) 1 1 _ _ (IsTks.lit1 w 0 3 2 (Tk.ok_of (by decide) (by decide) (by decide))) (by omega) (by decide)).mono ?_
    rintro e w' ⟨rfl, hb⟩
    have e0 : (⟨#[120]⟩ : ByteArray).data.toList = [120] := rfl
    rw [e0, ex2]
    exact ⟨rfl, (((Below.refl _ w).alloc (Nat.le_refl _) _).trans (hb.mono (by simp)))⟩
  have hS : ∀ w, Calls Try.prog 12 #[.slice (some ⟨w.heap.size, 0, none⟩) 2 2] (w.alloc (.cells #[.int .u8 0, .int .i64 0, .int .i64 0, .int .u8 0, .int .i64 4, .int .i64 1] 27)) fun e w' => e = .returned (.int .i64 5) ∧ Below w.heap.size w w' := fun w => by
    refine (size_any (some ⟨w.heap.size, 0, none⟩) 2 2 _ _ (IsTks.lit2 w 0 0 0 0 4 1 (Tk.ok_of (by decide) (by decide) (by decide)) (Tk.ok_of (by decide) (by decide) (by decide))) (by omega)).mono ?_
    rintro e w' ⟨rfl, hb⟩
    rw [ex3]
    exact ⟨rfl, (((Below.refl _ w).alloc (Nat.le_refl _) _).trans (hb.mono (by simp)))⟩
  have hM := may_any 0 2 1
  rw [ex4] at hM
  have HT1 := Lib.hid hT1
  have HT2 := Lib.hid hT2
  have HS := Lib.hid hS
  have HM := Lib.hid hM
  clear hT1 hT2 hS hM
  go_enter Try.func7, Try.ntmps7
  go_wp2_with (first
    | (go_at_call 12; (with_reducible refine (HS.out _).mono ?_); rintro e w3 ⟨rfl, b3⟩; have B3 := Lib.hid (B2.out.trans (b3.mono B2.out.size)); clear b3)
    | (go_at_call 8; (with_reducible refine (HM.out _).mono ?_); rintro e w4 ⟨rfl, b4⟩; have B4 := Lib.hid (B3.out.trans (b4.mono B3.out.size)); clear b4)
    | (go_at_call 10; (with_reducible refine (HT1.out _).mono ?_); rintro e w1 ⟨rfl, b1⟩; have B1 := Lib.hid b1; clear b1)
    | (go_at_call 10; (with_reducible refine (HT2.out _).mono ?_); rintro e w2 ⟨rfl, b2⟩; have B2 := Lib.hid (B1.out.trans (b2.mono B1.out.size)); clear b2))
  go_ret
  exact ⟨rfl, B4.out⟩

/-- the cells of tokens -/
def clt : List Tk → List Value
  | [] => []
  | t :: l => .int .u8 t.l :: .int .i64 t.n :: .int .i64 t.d :: clt l
theorem clt_length : ∀ l, (clt l).length = l.length * 3
  | [] => rfl
  | t :: l => by simp only [clt, List.length_cons]; rw [clt_length l]; omega
theorem clt_append : ∀ l r, clt (l ++ r) = clt l ++ clt r
  | [], _ => rfl
  | t :: l, r => by simp only [List.cons_append, clt]; rw [clt_append l r]
theorem clt_at : ∀ (l : List Tk) (i : Nat) (t : Tk), l[i]? = some t → (clt l)[i * 3]? = some (.int .u8 t.l) ∧ (clt l)[i * 3 + 1]? = some (.int .i64 t.n) ∧ (clt l)[i * 3 + 2]? = some (.int .i64 t.d)
  | [], i, t, h => by simp at h
  | a :: l, 0, t, h => by simp at h; subst h; simp [clt]
  | a :: l, i + 1, t, h => by
    rw [List.getElem?_cons_succ] at h
    obtain ⟨h1, h2, h3⟩ := clt_at l i t h
    simp only [clt]
    refine ⟨?_, ?_, ?_⟩
    · rw [show (i + 1) * 3 = i * 3 + 1 + 1 + 1 by omega]; simpa using h1
    · rw [show (i + 1) * 3 + 1 = i * 3 + 1 + 1 + 1 + 1 by omega]; simpa using h2
    · rw [show (i + 1) * 3 + 2 = i * 3 + 2 + 1 + 1 + 1 by omega]; simpa using h3
theorem clt_one : ∀ (l : List Tk), ∀ u ∈ clt l, u.oneCell' = true
  | [], u, h => by simp [clt] at h
  | t :: l, u, h => by
    simp only [clt, List.mem_cons] at h
    rcases h with rfl | rfl | rfl | h
    · rfl
    · rfl
    · rfl
    · exact clt_one l u h
theorem lies_clt {w : World} {b o : Nat} {l : List Tk} (h : ∀ i c, l[i]? = some c → M.Tk.lies w b o i c) : ∀ j u, (clt l)[j]? = some u → w.cell? ((⟨b, o, none⟩ : Addr).add j) = some u := by
  intro j u hu
  rw [cadd_at]
  have hj : j < l.length * 3 := by rw [← clt_length]; exact (List.getElem?_eq_some_iff.1 hu).1
  have hi : j / 3 < l.length := by omega
  obtain ⟨h1, h2, h3⟩ := h (j / 3) _ (List.getElem?_eq_getElem hi)
  obtain ⟨g1, g2, g3⟩ := clt_at l (j / 3) _ (List.getElem?_eq_getElem hi)
  have : j = j / 3 * 3 ∨ j = j / 3 * 3 + 1 ∨ j = j / 3 * 3 + 2 := by omega
  rcases this with e | e | e
  · rw [← e] at g1 h1; rw [g1] at hu; rw [h1, ← hu]
  · rw [← e] at g2; rw [g2] at hu; rw [show o + j = o + j / 3 * 3 + 1 by omega, h2, ← hu]
  · rw [← e] at g3; rw [g3] at hu; rw [show o + j = o + j / 3 * 3 + 2 by omega, h3, ← hu]
/-- a row of tokens that append made is a slice of tokens -/
theorem IsTks.of_own {w : World} {B n : Nat} {v : Value} {L : List Tk} (h : w.ownsRow B 27 3 v n (clt L)) (hok : ∀ c ∈ L, c.ok) (hm : n ≤ maxLen) : ∃ A c, v = .slice A n c ∧ IsTks w A n L := by
  have hl : L.length = n := by have := h.1; rw [clt_length] at this; omega
  have hc := fun g (hg : v.ownBlock = some g) => h.cells hg
  rcases h.2 with ⟨rfl, rfl⟩ | ⟨g, cap, cur, rfl, _, hh, _⟩
  · exact ⟨none, 0, rfl, hl, hm, hok, .inl rfl⟩
  · refine ⟨_, cap, rfl, hl, hm, hok, .inr ⟨g, 0, rfl, (Array.getElem?_eq_some_iff.1 hh).1, fun i t ht => ?_⟩⟩
    obtain ⟨h1, h2, h3⟩ := clt_at L i t ht
    have k := fun j u hu => hc g rfl j u hu
    simp only [cadd_at] at k
    exact ⟨k _ _ h1, k _ _ h2, k _ _ h3⟩

/-- 'append([]api.Token(nil), l...)' -/
theorem run_copy {w : World} (ty : TypeId) {A : Option Addr} {n c : Nat} {L : List Tk} (h : IsTks w A n L) (hn : n ≤ 1000000) :
    ∃ A' c' w', (Builtin.append_ #[22, 22] ty #[.slice none 0 0, .slice A n c]).run Try.prog w = .ok (.slice A' n c') w' ∧ IsTks w' A' n L ∧ Below w.heap.size w w' := by
  obtain ⟨i, h1, h2, h3, h4⟩ := info_of tokInfo
  rcases h.cells with g | ⟨b, o, rfl, g2, g3⟩
  · subst g
    refine ⟨none, 0, w, ?_, ⟨h.leng, h.most, h.good, .inl rfl⟩, Below.refl _ _⟩
    cases A with
    | none => simp [Builtin.append_, run_underlying Try.underlying22, sizeOf, typeInfo, h1, Builtin.lenOf, Builtin.firstCells]
    | some a =>
      have hl := run_loadCells_list (P := Try.prog) w a [] (fun j v hj => by simp at hj)
      rw [List.length_nil] at hl
      simp [Builtin.append_, run_underlying Try.underlying22, sizeOf, typeInfo, h1, Builtin.lenOf, Builtin.firstCells, hl]
  · obtain ⟨v', w', r1, r2, r3, _⟩ := run_append_own (P := Try.prog) w w.heap.size 22 ty 27 i _ 3 24 Try.underlying22 h1 h2 h3 h4 rfl (by decide) (.slice none 0 0) 0 [] (World.ownsRow_nil w _ _ 3) ⟨b, o, none⟩ n c (clt L) (by rw [clt_length, h.leng])
      (lies_clt g3) (clt_one L) (by unfold maxLen; omega) (by omega) (Nat.le_refl _)
    rw [Nat.zero_add, List.nil_append] at r2
    obtain ⟨A', c', rfl, hI⟩ := IsTks.of_own r2 h.good h.most
    exact ⟨A', c', w', r1, hI, (Below.refl _ w).grown r3 (Nat.le_refl _) (fun k e => by cases e)⟩
end Go.Proofs.Ytglakcdkpeabmaa
