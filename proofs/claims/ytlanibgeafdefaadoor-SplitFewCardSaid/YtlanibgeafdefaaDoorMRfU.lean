/- Texts of one place, one behind the other: RfU, RfM. -/
import Derived.Test.YtlanibgeafdefaaDoorMPkG
import Derived.Test.YtlanibgeafdefaaDoorMThg
import Derived.Test.YtlanibgeafdefaaDoorMPkM
import Derived.Deep.RegionHeld3
import Derived.ChangeAlike
import Derived.BigQuiet
import Derived.Deep.QuietTactic
import Derived.Test.YtlanibgeafdefaaDoorPkF
namespace Go.Proofs.YtlanibgeafdefaaDoor
open Go.RowKit M
set_option linter.unusedVariables false
def c2 (k : Nat) : List Tp → List Value
  | [] => []
  | t :: l => .int .i64 t.1.wt :: .slice t.2 k k :: c2 k l
theorem c2_length (k : Nat) : ∀ l, (c2 k l).length = l.length * 2
  | [] => rfl
  | t :: l => by simp only [c2, List.length_cons]; rw [c2_length k l]; omega
theorem c2_at (k : Nat) : ∀ (l : List Tp) (i : Nat) (t : Tp), l[i]? = some t → (c2 k l)[i * 2]? = some (.int .i64 t.1.wt) ∧ (c2 k l)[i * 2 + 1]? = some (.slice t.2 k k)
  | [], i, t, h => by simp at h
  | a :: l, 0, t, h => by simp at h; subst h; simp [c2]
  | a :: l, i + 1, t, h => by
    rw [List.getElem?_cons_succ] at h
    obtain ⟨h1, h2⟩ := c2_at k l i t h
    simp only [c2]
    refine ⟨?_, ?_⟩
    · rw [show (i + 1) * 2 = i * 2 + 1 + 1 by omega]; simpa using h1
    · rw [show (i + 1) * 2 + 1 = i * 2 + 1 + 1 + 1 by omega]; simpa using h2
def Trs2 (w : World) (b o k : Nat) (l : List Tp) : Prop := ∀ i t, l[i]? = some t → w.cell? ⟨b, o + i * 2, none⟩ = some (.int .i64 t.1.wt) ∧ w.cell? ⟨b, o + i * 2 + 1, none⟩ = some (.slice t.2 k k)
theorem Trs2.cl {w : World} {b o k : Nat} : ∀ {l : List Tp}, Trs2 w b o k l → ∀ j u, (c2 k l)[j]? = some u → w.cell? ((⟨b, o, none⟩ : Addr).add j) = some u := by
  intro l h j u hu
  rw [add_at]
  have hj : j < l.length * 2 := by rw [← c2_length k]; exact (List.getElem?_eq_some_iff.1 hu).1
  have hi : j / 2 < l.length := by omega
  obtain ⟨h1, h2⟩ := h (j / 2) _ (List.getElem?_eq_getElem hi)
  obtain ⟨g1, g2⟩ := c2_at k l (j / 2) _ (List.getElem?_eq_getElem hi)
  have : j = j / 2 * 2 ∨ j = j / 2 * 2 + 1 := by omega
  rcases this with e | e
  · rw [← e] at g1 h1; rw [g1] at hu; rw [h1, ← hu]
  · rw [← e] at g2; rw [g2] at hu; rw [show o + j = o + j / 2 * 2 + 1 by omega, h2, ← hu]
theorem Trs2.below {w w' : World} {b o k : Nat} {l : List Tp} (h : Trs2 w b o k l) (hl : b < w.heap.size) (hb : Below w.heap.size w w') : Trs2 w' b o k l := fun i t hi => by
  obtain ⟨h1, h2⟩ := h i t hi
  exact ⟨(hb.cell hl).trans h1, (hb.cell hl).trans h2⟩
section
variable {base k : Nat} {w w' : World} {v : Value} {l r : List Tp}
end
def Says (w : World) (B k : Nat) (y : Nat → Nat) (t : Tp) : Prop := ∃ g, t.2 = some ⟨g, 0, none⟩ ∧ (B ≤ g ∧ g < w.heap.size) ∧ Br w g k (fun j => t.1.cn (y j) % 256)
theorem Says.below {w w' : World} {B k : Nat} {y : Nat → Nat} {t : Tp} (h : Says w B k y t) (hb : Below w.heap.size w w') : Says w' B k y t := by
  obtain ⟨g, h1, h2, h3⟩ := h
  exact ⟨g, h1, ⟨h2.1, Nat.lt_of_lt_of_le h2.2 hb.size⟩, h3.at' (hb.block g h2.2)⟩
def Th2 (w : World) (A : Option Addr) (B k : Nat) (y : Nat → Nat) (X : List Tp) : Prop :=
  (0 < X.length → ∃ b o, A = some ⟨b, o, none⟩ ∧ (B ≤ b ∧ b < w.heap.size) ∧ Trs2 w b o k X) ∧ ∀ x ∈ X, Says w B k y x
theorem Th2.below {w w' : World} {A : Option Addr} {B k : Nat} {y : Nat → Nat} {X : List Tp} (h : Th2 w A B k y X) (hb : Below w.heap.size w w') : Th2 w' A B k y X := by
  refine ⟨fun hn => ?_, fun x hx => (h.2 x hx).below hb⟩
  obtain ⟨b, o, e, hl, ht⟩ := h.1 hn
  exact ⟨b, o, e, ⟨hl.1, Nat.lt_of_lt_of_le hl.2 hb.size⟩, ht.below hl.2 hb⟩
end Go.Proofs.YtlanibgeafdefaaDoor

namespace Go.Proofs.YtlanibgeafdefaaDoor
open Go.RowKit M
set_option linter.unusedVariables false
theorem Is.sl {base : Nat} {w : World} {v : Value} {n : Nat} {F : Nat → Int} (h : Is base w v n F) : ∃ A cap, v = .slice A n cap ∧ Nums w .i64 A n F ∧ (0 < n → ∃ b o, A = some ⟨b, o, none⟩) := by
  rcases h.parts with ⟨rfl, rfl⟩ | ⟨g, cap, rfl⟩
  · exact ⟨none, 0, rfl, fun h => absurd h (by omega), fun h => absurd h (by omega)⟩
  · exact ⟨_, cap, rfl, h.nums, fun _ => ⟨g, 0, rfl⟩⟩
end Go.Proofs.YtlanibgeafdefaaDoor
