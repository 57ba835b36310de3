/- A symbol that is parted in two, in plain numbers: what lengths are, and what they weigh; a symbol without a code among others. No program. -/
import Derived.Test.YtgcdmgilgknneaaMathQ
import Derived.IntWalk
namespace Go.Proofs.Ytgcdmgilgknneaa.M
open Go Go.RowKit
set_option linter.unusedVariables false

/-- l, but x at k -/
def upd (l : Nat → Nat) (k x i : Nat) : Nat := if i = k then x else l i
theorem weight_upd (l : Nat → Nat) (k x : Nat) : ∀ n, k < n → weight (upd l k x) n + wt (l k) = weight l n + wt x
  | 0, h => by omega
  | n + 1, h => by
    simp only [weight]
    by_cases e : k = n
    · subst e
      have h1 : weight (upd l k x) k = weight l k := weight_congr k (fun i hi => by unfold upd; rw [if_neg (by omega)])
      have h2 : upd l k x k = x := by unfold upd; rw [if_pos rfl]
      rw [h1, h2]; omega
    · have h1 := weight_upd l k x n (by omega)
      have h2 : upd l k x n = l n := by unfold upd; rw [if_neg (fun q => e q.symm)]
      rw [h2]; omega
/-- the lengths with symbol k parted in two -/
def spl (l : Nat → Nat) (n k i : Nat) : Nat := if i = n then l k + 1 else upd l k (l k + 1) i
theorem wt_half {x : Nat} (h1 : 1 ≤ x) (h2 : x ≤ 14) : wt (x + 1) + wt (x + 1) = wt x := by
  unfold wt
  rw [if_neg (by omega), if_neg (by omega), show 15 - x = (15 - (x + 1)) + 1 by omega, Nat.pow_succ]; omega
theorem spl_weight {l : Nat → Nat} {n k : Nat} (hk : k < n) (h1 : 1 ≤ l k) (h2 : l k ≤ 14) : weight (spl l n k) (n + 1) = weight l n := by
  simp only [weight]
  have e1 : weight (spl l n k) n = weight (upd l k (l k + 1)) n := weight_congr n (fun i hi => by unfold spl; rw [if_neg (by omega)])
  have e2 : spl l n k n = l k + 1 := by unfold spl; rw [if_pos rfl]
  have e3 := weight_upd l k (l k + 1) n hk
  have e4 := wt_half h1 h2
  rw [e1, e2]; omega
theorem spl_may {l : Nat → Nat} {n k : Nat} (hm : May l n) (hn : n ≤ 300) (hk : k < n) (h2 : l k ≤ 14) : May (spl l n k) (n + 1) := by
  refine ⟨by omega, fun i hi => ?_⟩
  unfold spl upd
  split
  · omega
  · split
    · omega
    · exact hm.2 i (by omega)
theorem weight_pos {l : Nat → Nat} {k : Nat} (h : l k ≠ 0) : ∀ n, k < n → weight l n ≠ 0
  | 0, g => by omega
  | n + 1, g => by
    simp only [weight]
    by_cases e : k = n
    · subst e; have := wt_pos h; omega
    · have := weight_pos h n (by omega); omega
/-- What lengths are stays, where a symbol is parted. -/
theorem spl_kind {l : Nat → Nat} {n k : Nat} (hm : May l n) (hn : n ≤ 300) (hk : k < n) (h1 : 1 ≤ l k) (h2 : l k ≤ 14) : kind l n = kind (spl l n k) (n + 1) ∨ (kind l n = 1 ∧ kind (spl l n k) (n + 1) = 3) := by
  have hm' := spl_may hm hn hk h2
  have hw := spl_weight hk h1 h2
  have h0 := weight_pos (show l k ≠ 0 by omega) n hk
  have hl : lst (spl l n k) (n + 1) ≠ 1 := by
    have e2 : spl l n k n = l k + 1 := by unfold spl; rw [if_pos rfl]
    simp only [lst]
    rw [e2, if_neg (by omega)]; omega
  have hz := (nz_facts (spl l n k) (n + 1)).2.2.1
  have e1 := kind_of hm
  have e2 := kind_ref hm'
  rw [hw] at e2
  rw [if_neg h0] at e1
  rw [if_neg (fun q => h0 (hw ▸ hz q)), if_neg (show ¬ (nz (spl l n k) (n + 1) = 1 ∧ lst (spl l n k) (n + 1) = 1) from fun q => hl q.2)] at e2
  by_cases a : 32768 < weight l n
  · rw [if_pos a] at e1 e2
    exact .inl (e1.trans e2.symm)
  · rw [if_neg a] at e1 e2
    by_cases b : weight l n = 32768
    · rw [if_pos b] at e1 e2
      exact .inl (e1.trans e2.symm)
    · rw [if_neg b] at e1 e2
      by_cases c : c0 l n 1 = 1 ∧ weight l n = 16384
      · rw [if_pos c] at e1
        exact .inr ⟨e1, e2⟩
      · rw [if_neg c] at e1
        exact .inl (e1.trans e2.symm)

/-- what the first k lengths weigh with their counts -/
def sw (l y : Nat → Nat) : Nat → Nat
  | 0 => 0
  | k + 1 => sw l y k + l k * y k
theorem sw_congr {l l' y y' : Nat → Nat} : ∀ n, (∀ i, i < n → l i = l' i ∧ y i = y' i) → sw l y n = sw l' y' n
  | 0, _ => rfl
  | n + 1, h => by simp only [sw]; rw [sw_congr n (fun i hi => h i (by omega)), (h n (by omega)).1, (h n (by omega)).2]
theorem sw_upd (l y : Nat → Nat) (k x z : Nat) : ∀ n, k < n → sw (upd l k x) (upd y k z) n + l k * y k = sw l y n + x * z
  | 0, h => by omega
  | n + 1, h => by
    simp only [sw]
    by_cases e : k = n
    · subst e
      have h1 : sw (upd l k x) (upd y k z) k = sw l y k := sw_congr k (fun i hi => by unfold upd; rw [if_neg (by omega), if_neg (by omega)]; exact ⟨rfl, rfl⟩)
      have h2 : upd l k x k = x := by unfold upd; rw [if_pos rfl]
      have h3 : upd y k z k = z := by unfold upd; rw [if_pos rfl]
      rw [h1, h2, h3]; omega
    · have h1 := sw_upd l y k x z n (by omega)
      have h2 : upd l k x n = l n := by unfold upd; rw [if_neg (fun q => e q.symm)]
      have h3 : upd y k z n = y n := by unfold upd; rw [if_neg (fun q => e q.symm)]
      rw [h2, h3]; omega
theorem sw_le {l y : Nat → Nat} (hl : ∀ i, l i ≤ 255) (hy : ∀ i, y i ≤ 65535) : ∀ n, sw l y n ≤ n * 16711425
  | 0 => by simp [sw]
  | n + 1 => by
    have h1 := sw_le hl hy n
    have h2 : l n * y n ≤ 255 * 65535 := Nat.mul_le_mul (hl n) (hy n)
    simp only [sw]; omega
/-- the counts with symbol k's parted in two -/
def spy (y : Nat → Nat) (n k q i : Nat) : Nat := if i = n then q else upd y k (y k - q) i
theorem spl_sw {l y : Nat → Nat} {n k q : Nat} (hk : k < n) (hq : q ≤ y k) : sw (spl l n k) (spy y n k q) (n + 1) = sw l y n + y k := by
  simp only [sw]
  have e1 : sw (spl l n k) (spy y n k q) n = sw (upd l k (l k + 1)) (upd y k (y k - q)) n := sw_congr n (fun i hi => by unfold spl spy; rw [if_neg (by omega), if_neg (by omega)]; exact ⟨rfl, rfl⟩)
  have e2 : spl l n k n = l k + 1 := by unfold spl; rw [if_pos rfl]
  have e3 : spy y n k q n = q := by unfold spy; rw [if_pos rfl]
  have e4 := sw_upd l y k (l k + 1) (y k - q) n hk
  have e5 : (l k + 1) * (y k - q) + (l k + 1) * q = (l k + 1) * y k := by rw [← Nat.mul_add, Nat.sub_add_cancel hq]
  have e6 : (l k + 1) * y k = l k * y k + y k := by rw [Nat.add_mul, Nat.one_mul]
  rw [e1, e2, e3]; omega

/-! a symbol without a code among others -/
/-- l, with a 0 put in at k -/
def ins (l : Nat → Nat) (k i : Nat) : Nat := if i < k then l i else if i = k then 0 else l (i - 1)
theorem ins_cnt (l : Nat → Nat) (k s : Nat) (hs : s ≠ 0) : ∀ m, cnt (ins l k) s m = cnt l s (if m ≤ k then m else m - 1)
  | 0 => by rw [if_pos (Nat.zero_le _)]; rfl
  | m + 1 => by
    have e1 : cnt (ins l k) s (m + 1) = cnt (ins l k) s m + if ins l k m = s then 1 else 0 := rfl
    rw [e1, ins_cnt l k s hs m]
    by_cases a : m + 1 ≤ k
    · have h1 : ins l k m = l m := by unfold ins; rw [if_pos (by omega)]
      rw [if_pos (show m ≤ k by omega), if_pos a, h1]; rfl
    · by_cases b : m = k
      · have h1 : ins l k m = 0 := by unfold ins; rw [if_neg (by omega), if_pos b]
        rw [if_pos (show m ≤ k by omega), if_neg a, h1, if_neg (fun q => hs q.symm)]; rfl
      · have h1 : ins l k m = l (m - 1) := by unfold ins; rw [if_neg (by omega), if_neg b]
        rw [if_neg (show ¬ m ≤ k by omega), if_neg a, h1, show m + 1 - 1 = (m - 1) + 1 by omega]; rfl
theorem ins_c0 (l : Nat → Nat) (k n : Nat) (hk : k ≤ n) (s : Nat) : c0 (ins l k) (n + 1) s = c0 l n s := by
  unfold c0
  by_cases h : s = 0
  · rw [if_pos h, if_pos h]
  · rw [if_neg h, if_neg h, ins_cnt l k s h, if_neg (by omega)]; rfl
theorem ins_c0' (l : Nat → Nat) (k n : Nat) (hk : k ≤ n) : c0 (ins l k) (n + 1) = c0 l n := funext fun s => ins_c0 l k n hk s
theorem ins_may {l : Nat → Nat} {k n : Nat} (hk : k ≤ n) (hn : n ≤ 300) (hm : May l n) : May (ins l k) (n + 1) := by
  refine ⟨by omega, fun i hi => ?_⟩
  unfold ins
  split
  · exact hm.2 i (by omega)
  · split
    · omega
    · exact hm.2 (i - 1) (by omega)
theorem ins_weight {l : Nat → Nat} {k n : Nat} (hk : k ≤ n) (hn : n ≤ 300) (hm : May l n) : weight (ins l k) (n + 1) = weight l n := by
  rw [← aw_weight _ _ (ins_may hk hn hm).2, ins_c0' l k n hk, aw_weight _ _ hm.2]
theorem ins_kind {l : Nat → Nat} {k n : Nat} (hk : k ≤ n) (hn : n ≤ 300) (hm : May l n) : kind (ins l k) (n + 1) = kind l n := by
  rw [kind_of hm, kind_of (ins_may hk hn hm), ins_weight hk hn hm, ins_c0 l k n hk]
theorem ins_at (l : Nat → Nat) (k : Nat) : ins l k k = 0 := by unfold ins; rw [if_neg (by omega), if_pos rfl]
theorem ins_lo (l : Nat → Nat) {k i : Nat} (h : i < k) : ins l k i = l i := by unfold ins; rw [if_pos h]
theorem ins_hi (l : Nat → Nat) {k i : Nat} (h : k ≤ i) : ins l k (i + 1) = l i := by unfold ins; rw [if_neg (by omega), if_neg (by omega)]; rfl
theorem ins_cod_at (l : Nat → Nat) (k n : Nat) : cod (ins l k) (n + 1) k = 0 := by unfold cod; rw [if_pos (ins_at l k)]
theorem ins_cod_lo {l : Nat → Nat} {k n i : Nat} (hk : k ≤ n) (h : i < k) : cod (ins l k) (n + 1) i = cod l n i := by
  unfold cod
  rw [ins_lo l h, ins_c0' l k n hk]
  by_cases e : l i = 0
  · rw [if_pos e, if_pos e]
  · rw [if_neg e, if_neg e, ins_cnt l k _ e, if_pos (by omega)]
theorem ins_cod_hi {l : Nat → Nat} {k n i : Nat} (hk : k ≤ n) (h : k ≤ i) : cod (ins l k) (n + 1) (i + 1) = cod l n i := by
  unfold cod
  rw [ins_hi l h, ins_c0' l k n hk]
  by_cases e : l i = 0
  · rw [if_pos e, if_pos e]
  · rw [if_neg e, if_neg e, ins_cnt l k _ e, if_neg (by omega)]; rfl
end Go.Proofs.Ytgcdmgilgknneaa.M
