/- What the document's May answers; Same of both; the document's Size. Conditions: as each theorem names them. -/
import Derived.Test.YthemndeljjampaaDoorTok
import Derived.Lib.Hide
import Derived.Outline
import Derived.Deep.RegionLaw
import Derived.RegionTactic
import Derived.BigRegion
import Derived.BigQuiet
import Derived.Deep.QuietTactic
import Derived.ChangeAlike
import Derived.Laws.Cells
import Derived.WalkSpells
import Derived.WalkMore
import Derived.IntWalk
namespace Go.Proofs.YthemndeljjampaaDoor
open Go Go.RowKit M
open Go.ChangeShapes (lits)
set_option linter.unusedVariables false
set_option linter.unusedSimpArgs false

theorem rmay_any (l n d : Int) (w : World) :
    Calls Tryd.prog 14 #[.agg #[.int .u8 l, .int .i64 n, .int .i64 d]] w fun e w' => e = .returned (.bool (may ⟨l, n, d⟩)) ∧ Below w.heap.size w w' := by
  by_cases h0 : n = 0
  · have hv : ∀ b, decide (d = 0) = b → may ⟨l, n, d⟩ = b := fun b h => by
      have hm : isM ⟨l, n, d⟩ = false := by cases q : isM ⟨l, n, d⟩ with | false => rfl | true => (have := isM_iff.1 q; simp only at this; omega)
      unfold may; rw [hm, Bool.or_false]; unfold isB; simp only; rw [decide_eq_true h0, h]; rfl
    have e0 : (n == 0) = true := by rw [beq_iff_eq]; exact h0
    by_cases h1 : d = 0
    · rw [hv true (decide_eq_true h1)]
      have e1 : (d == 0) = true := by rw [beq_iff_eq]; exact h1
      clear h0 h1 hv
      go_enter Tryd.func14, Tryd.ntmps14
      go_wp2
      go_ret
      exact ⟨rfl, (Below.refl _ _).alloc (Nat.le_refl _) _⟩
    · rw [hv false (decide_eq_false h1)]
      have e1 : (d == 0) = false := by rw [beq_eq_false_iff_ne]; exact h1
      clear h0 h1 hv
      go_enter Tryd.func14, Tryd.ntmps14
      go_wp2
      go_ret
      exact ⟨rfl, (Below.refl _ _).alloc (Nat.le_refl _) _⟩
  have hv : ∀ b, (decide (l = 0) && (decide (3 ≤ n) && (decide (n ≤ 258) && (decide (1 ≤ d) && decide (d ≤ 32768))))) = b → may ⟨l, n, d⟩ = b := fun b h => by
    have hb : isB ⟨l, n, d⟩ = false := by cases q : isB ⟨l, n, d⟩ with | false => rfl | true => exact absurd (isB_iff.1 q).1 h0
    unfold may; rw [hb, Bool.false_or]; exact h
  have e0 : (n == 0) = false := by rw [beq_eq_false_iff_ne]; exact h0
  by_cases h2 : 3 ≤ n
  · have d2 : decide (3 ≤ n) = true := decide_eq_true h2
    by_cases h3 : n ≤ 258
    · have d3 : decide (n ≤ 258) = true := decide_eq_true h3
      by_cases h4 : 1 ≤ d
      · have d4 : decide (1 ≤ d) = true := decide_eq_true h4
        by_cases h5 : d ≤ 32768
        · have d5 : decide (d ≤ 32768) = true := decide_eq_true h5
          by_cases h6 : l = 0
          · have d6 : (l == 0) = true := by rw [beq_iff_eq]; exact h6
            rw [hv true (by simp [h2, h3, h4, h5, h6])]
            clear h0 h2 h3 h4 h5 h6 hv
            go_enter Tryd.func14, Tryd.ntmps14
            go_wp2
            go_ret
            exact ⟨rfl, (Below.refl _ _).alloc (Nat.le_refl _) _⟩
          · have d6 : (l == 0) = false := by rw [beq_eq_false_iff_ne]; exact h6
            rw [hv false (by simp [h6])]
            clear h0 h2 h3 h4 h5 h6 hv
            go_enter Tryd.func14, Tryd.ntmps14
            go_wp2
            go_ret
            exact ⟨rfl, (Below.refl _ _).alloc (Nat.le_refl _) _⟩
        · have d5 : decide (d ≤ 32768) = false := decide_eq_false h5
          rw [hv false (by simp [h5])]
          clear h0 h2 h3 h4 h5 hv
          go_enter Tryd.func14, Tryd.ntmps14
          go_wp2
          go_ret
          exact ⟨rfl, (Below.refl _ _).alloc (Nat.le_refl _) _⟩
      · have d4 : decide (1 ≤ d) = false := decide_eq_false h4
        rw [hv false (by simp [h4])]
        clear h0 h2 h3 h4 hv
        go_enter Tryd.func14, Tryd.ntmps14
        go_wp2
        go_ret
        exact ⟨rfl, (Below.refl _ _).alloc (Nat.le_refl _) _⟩
    · have d3 : decide (n ≤ 258) = false := decide_eq_false h3
      rw [hv false (by simp [h3])]
      clear h0 h2 h3 hv
      go_enter Tryd.func14, Tryd.ntmps14
      go_wp2
      go_ret
      exact ⟨rfl, (Below.refl _ _).alloc (Nat.le_refl _) _⟩
  · have d2 : decide (3 ≤ n) = false := decide_eq_false h2
    rw [hv false (by simp [h2])]
    clear h0 h2 hv
    go_enter Tryd.func14, Tryd.ntmps14
    go_wp2
    go_ret
    exact ⟨rfl, (Below.refl _ _).alloc (Nat.le_refl _) _⟩

/-- the cells that a round reads -/
theorem IsTks.at {w : World} {A : Option Addr} {n : Nat} {L : List Tk} (h : IsTks w A n L) (hn : 0 < n) : ∃ b o, A = some ⟨b, o, none⟩ ∧ b < w.heap.size ∧ ∀ i (hi : i < n), w.cell? ⟨b, o + i * 3, none⟩ = some (.int .u8 (L.getD i default).l) ∧ w.cell? ⟨b, o + i * 3 + 1, none⟩ = some (.int .i64 (L.getD i default).n) ∧ w.cell? ⟨b, o + i * 3 + 2, none⟩ = some (.int .i64 (L.getD i default).d) := by
  rcases h.cells with g | ⟨b, o, g1, g2, g3⟩
  · omega
  · refine ⟨b, o, g1, g2, fun i hi => ?_⟩
    have hl := h.leng
    have e : L[i]? = some (L.getD i default) := by rw [List.getD, List.getElem?_eq_getElem (by omega)]; rfl
    have k := g3 i _ e
    exact ⟨k.l, k.n, k.d⟩
theorem getD_take_succ (L : List Tk) (i : Nat) (hi : i < L.length) : L.take (i + 1) = L.take i ++ [L.getD i default] := by
  rw [List.take_add_one, List.getD, List.getElem?_eq_getElem hi]; rfl
theorem szs_take (L : List Tk) (i : Nat) (hi : i < L.length) : szs (L.take (i + 1)) = szs (L.take i) + szo (L.getD i default) := by
  rw [getD_take_succ L i hi, szs_append]; simp [szs]

end Go.Proofs.YthemndeljjampaaDoor
