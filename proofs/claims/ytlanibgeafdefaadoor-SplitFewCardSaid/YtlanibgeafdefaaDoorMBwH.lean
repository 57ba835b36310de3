/- Texts of one place, one behind the other: BwH, BwJ. -/
import Derived.Test.YtlanibgeafdefaaDoorBwG
import Derived.Test.YtlanibgeafdefaaDoorMRfU
import Derived.BigRegion
import Derived.Test.YtlanibgeafdefaaDoorMPkM
import Derived.Laws.Rows
import Derived.Test.YtlanibgeafdefaaDoorMCdR
namespace Go.Proofs.YtlanibgeafdefaaDoor.V
open Go Go.RowKit M U
set_option linter.unusedVariables false
set_option linter.unusedSimpArgs false
def cs (b : Bool) : List Sy → Nat → Nat
  | [], _ => 0
  | y :: S, j => cs b S j + if y.d = b ∧ y.n = j then 1 else 0
theorem cs_append (b : Bool) : ∀ (S T : List Sy) (j : Nat), cs b (S ++ T) j = cs b S j + cs b T j
  | [], T, j => by simp [cs]
  | y :: S, T, j => by simp only [List.cons_append, cs, cs_append b S T j]; omega
theorem cs_le (b : Bool) : ∀ (S : List Sy) (j : Nat), cs b S j ≤ S.length
  | [], j => Nat.le_refl _
  | y :: S, j => by have := cs_le b S j; simp only [cs, List.length_cons]; split <;> omega
theorem sys_in {L : List Tk} (hm : ∀ t ∈ L, may t = true) (hg : ∀ t ∈ L, t.ok) : ∀ y ∈ sys L, (y.d = false → y.n < 286) ∧ (y.d = true → y.n < 30) := by
  intro y hy
  unfold sys at hy
  rw [List.mem_append, List.mem_flatMap] at hy
  rcases hy with ⟨t, ht, hy⟩ | hy
  · have h1 := hm t ht
    have h2 := (hg t ht).l
    unfold sy1 at hy
    split at hy
    · simp only [List.mem_singleton] at hy
      subst hy
      exact ⟨fun _ => by simp only; omega, fun h => by cases h⟩
    · rename_i h0
      have hM : isM t = true := by
        unfold may at h1
        rw [Bool.or_eq_true] at h1
        rcases h1 with q | q
        · exact absurd (isB_iff.1 q).1 h0
        · exact q
      have hM2 := isM_iff.1 hM
      have i1 := (len_in (n := t.n.toNat) (by omega)).1
      have i2 := (dist_in (n := t.d.toNat) (by omega)).1
      simp only [List.mem_cons, List.not_mem_nil, or_false] at hy
      rcases hy with rfl | rfl
      · exact ⟨fun _ => by simp only; omega, fun h => by cases h⟩
      · exact ⟨fun h => (by cases h), fun _ => by simp only; omega⟩
  · simp only [List.mem_singleton] at hy
    subst hy
    exact ⟨fun _ => by simp only; omega, fun h => by cases h⟩
theorem sys_len (L : List Tk) : (sys L).length ≤ 2 * L.length + 1 := by
  unfold sys
  rw [List.length_append, List.length_singleton]
  have := fsy_len L
  omega
theorem results_row_tmp {P : Program} {fn : Func} {p u : Tmp} {ty : TypeId} (h : fn.results = #[.cell p ty, .tmp u]) (tmps : Array Value) (w : World) (g : Nat) (t : TypeId) (cs : Array Value) (fr : Nat × Nat) (d : TypeDesc)
    (hp : tmps.getD p undef = .pointer (some ⟨g, 0, none⟩)) (hg : w.heap[g]? = some (.cells cs t fr))
    (hu : P.underlying ty = some d) (hd : (match d with | .struct _ | .array _ _ => true | _ => false) = true) (hi : (P.info? ty).map (·.size) = some cs.size) :
    (results fn tmps).run P w = .ok (.tuple #[.agg cs, tmps.getD u undef]) w := by
  have hp' : tmps[p]?.getD undef = .pointer (some ⟨g, 0, none⟩) := by simpa using hp
  simp [results, h, hp', asAddr, run_loadVar_row w g t ty cs fr d hg hu hd hi, Sem.run_bind]
section
variable {w0 w : World} {lb db bs : Nat} {v : Value} {S : List Sy} {f g : Nat → Nat}
end
end Go.Proofs.YtlanibgeafdefaaDoor.V

namespace Go.Proofs.YtlanibgeafdefaaDoor.V
open Go Go.RowKit M U
set_option linter.unusedVariables false
set_option linter.unusedSimpArgs false
def wsy (l1 : Nat → Nat) (n1 : Nat) (l2 : Nat → Nat) (n2 : Nat) (y : Sy) : List Nat := (if y.d = true then cdb (cod l2 n2 y.n) (l2 y.n) else cdb (cod l1 n1 y.n) (l1 y.n)) ++ put y.e y.b
structure Fine (l : Nat → Nat) (n : Nat) : Prop where
  may : May l n
  wt : weight l n ≤ 32768
  byte : ∀ i, l i ≤ 255
theorem Fine.erc {l : Nat → Nat} {n : Nat} (h : Fine l n) : M.erc l n = 0 ∧ outn l n = n := by
  have hk := kind_of h.may
  have hw := h.wt
  have h5 : kind l n ≠ 5 ∧ kind l n ≠ 4 := by
    rw [hk]
    constructor
    · split
      · omega
      · split
        · omega
        · split
          · omega
          · split <;> omega
    · split
      · omega
      · split
        · omega
        · split
          · omega
          · split <;> omega
  have e0 : M.erc l n = 0 := by unfold M.erc; rw [if_neg h5.1, if_neg h5.2]
  exact ⟨e0, by unfold outn; rw [if_pos e0]⟩
theorem Crow.at' {w w' : World} {b n : Nat} {F G : Nat → Nat} (h : C.Crow w b n F G) (e : w'.heap[b]? = w.heap[b]?) : C.Crow w' b n F G := by
  obtain ⟨c, h1, h2⟩ := h
  exact ⟨c, e.trans h1, h2⟩
theorem Chg.drew {P : Nat} {g g' : Option Nat} {w w' : World} (h : Chg P g w g' w') : Chg P g w g' w'.drew := h.trans (Chg.of_below (Below.refl w'.heap.size w').drew)
theorem Ap.grow {P b : Nat} {g : Option Nat} {w w' : World} (h : Ap P g w b) (hs : w.heap.size ≤ w'.heap.size) : Ap P g w' b := ⟨Nat.lt_of_lt_of_le h.1 hs, h.2⟩
section
variable {B P ba n1 bb n2 Z sb q c : Nat} {w w' : World} {v v' : Value} {bs bs' : List Nat} {l1 l2 : Nat → Nat} {S : List Sy}
end
theorem sys_b {L : List Tk} (hm : ∀ t ∈ L, may t = true) : ∀ y ∈ sys L, y.b ≤ 13 ∧ y.e ≤ 32768 := by
  intro y hy
  unfold sys at hy
  rw [List.mem_append, List.mem_flatMap] at hy
  rcases hy with ⟨t, ht, hy⟩ | hy
  · have h1 := hm t ht
    unfold sy1 at hy
    split at hy
    · simp only [List.mem_singleton] at hy
      subst hy
      simp
    · rename_i h0
      have hM : isM t = true := by
        unfold may at h1
        rw [Bool.or_eq_true] at h1
        rcases h1 with q | q
        · exact absurd (isB_iff.1 q).1 h0
        · exact q
      have hM2 := isM_iff.1 hM
      have i1 := (len_in (n := t.n.toNat) (by omega)).1
      have i2 := (dist_in (n := t.d.toNat) (by omega)).1
      have j1 := lb_le _ i1
      have j2 := db_le _ i2
      have x1 : lex t.n.toNat ≤ t.n.toNat := Nat.sub_le _ _
      have x2 : dex t.d.toNat ≤ t.d.toNat := Nat.sub_le _ _
      simp only [List.mem_cons, List.not_mem_nil, or_false] at hy
      rcases hy with rfl | rfl
      · exact ⟨by simp only; omega, by simp only; omega⟩
      · exact ⟨by simp only; omega, by simp only; omega⟩
  · simp only [List.mem_singleton] at hy
    subst hy
    simp
theorem wsy_len (l1 : Nat → Nat) (n1 : Nat) (l2 : Nat → Nat) (n2 : Nat) (y : Sy) (h1 : l1 y.n ≤ 255) (h2 : l2 y.n ≤ 255) (hb : y.b ≤ 13) : (wsy l1 n1 l2 n2 y).length ≤ 268 := by
  unfold wsy
  rw [List.length_append, put_length]
  split <;> rw [cdb_length] <;> omega
theorem wss_len (l1 : Nat → Nat) (n1 : Nat) (l2 : Nat → Nat) (n2 : Nat) (h1 : ∀ i, l1 i ≤ 255) (h2 : ∀ i, l2 i ≤ 255) : ∀ (S : List Sy), (∀ y ∈ S, y.b ≤ 13) → (S.flatMap (wsy l1 n1 l2 n2)).length ≤ 268 * S.length
  | [], _ => by simp
  | y :: S, hS => by
    rw [List.flatMap_cons, List.length_append, List.length_cons]
    have := wsy_len l1 n1 l2 n2 y (h1 _) (h2 _) (hS y (by simp))
    have := wss_len l1 n1 l2 n2 h1 h2 S (fun z hz => hS z (by simp [hz]))
    omega
end Go.Proofs.YtlanibgeafdefaaDoor.V
