/- Texts of one place, one behind the other: PkM, PkN, Isr, LwA, OwI, RfS. -/
import Derived.Test.YtlanibgeafdefaaDoorMPkG
import Derived.Test.YtlanibgeafdefaaDoorMCnA
import Derived.Deep.QuietTactic
import Derived.BigQuiet
import Derived.Test.YtlanibgeafdefaaDoorLay
import Derived.ChangeSlices
import Derived.Deep.Slices
namespace Go.Proofs.YtlanibgeafdefaaDoor
open Go.RowKit M
set_option linter.unusedVariables false
theorem sm_pick {m i0 x : Nat} (P : Nat → Prop) [DecidablePred P] (h0 : i0 < m) (hp : P i0) (hu : ∀ i, i < m → P i → i = i0) : sm (fun i => if P i then x else 0) m = x := by
  induction m with
  | zero => omega
  | succ m ih =>
    simp only [sm]
    by_cases q : i0 = m
    · subst q
      rw [if_pos hp, sm_congr i0 (g := fun _ => 0) (fun i hi => if_neg (fun g => by have := hu i (by omega) g; omega)), sm_zero]; omega
    · rw [ih (by omega) (fun i hi g => hu i (by omega) g), if_neg (fun g => q (hu m (by omega) g).symm)]; omega
theorem sm_at (F : Nat → Nat) {n a : Nat} (h : a < n) : sm (fun s => if a = s then F s else 0) n = F a := by
  rw [sm_congr n (g := fun s => if a = s then F a else 0) (fun s _ => by by_cases q : a = s <;> simp [q])]
  exact sm_pick (fun s => a = s) h rfl (fun i _ g => g.symm)
section
variable {c : Nat → Nat} {n m L K : Nat} {e : Nat → Nat × Nat}
theorem reidx (h : IsLv c n m e) (F : Nat → Nat) (hF : ∀ s, s < n → c s = 0 → F s = 0) : sm F n = sm (fun i => F (ly e i)) m := by
  have h1 : ∀ s, s < n → sm (fun i => if ly e i = s then F s else 0) m = F s := by
    intro s hs
    by_cases q : c s = 0
    · rw [hF s hs q]
      rw [sm_congr m (g := fun _ => 0) (fun i _ => by split <;> rfl), sm_zero]
    · obtain ⟨i, hi, r⟩ := h.all s hs (Nat.pos_of_ne_zero q)
      exact sm_pick (fun i => ly e i = s) hi r (fun j hj g => lv_inj h j i hj hi (g.trans r.symm))
  rw [← sm_congr n h1, sm_swap]
  exact sm_congr m (fun i hi => sm_at F (h.is_ i hi).1)
theorem pl_zero (h : IsLv c n m e) (hL : nds m ≤ L) (h1 : 1 ≤ L) {s : Nat} (hs : s < n) : pl m e L s = 0 ↔ c s = 0 := by
  constructor
  · intro g
    apply Classical.byContradiction
    intro q
    obtain ⟨i, hi, rfl⟩ := h.all s hs (Nat.pos_of_ne_zero q)
    by_cases h2 : 2 ≤ m
    · have hp := ln_pos (lvs_up (g := ly e) (lv_rise h)) (by rw [lvs_length]; exact h2) (k := L) (i := i) (row_enough _ L (by rw [lvs_length]; exact (nds_le h1).1 hL)) (by rw [lvs_length]; exact hi)
      rw [lvs_length] at hp
      have := pl_leaf h h2 hL h1 hi
      unfold ly at this
      rw [g] at this
      unfold ly at hp
      omega
    · unfold pl at g
      rw [if_neg (by omega), if_pos (by omega), if_pos (by unfold ly; rw [show i = 0 by omega])] at g
      omega
  · intro g
    refine pl_none h hL h1 (fun i hi q => ?_)
    have := (h.is_ i hi).2.1
    unfold ly at q
    rw [q] at this; omega
theorem pl_kraft (h : IsLv c n m e) (h2 : 2 ≤ m) (hL : nds m ≤ L) (h1 : 1 ≤ L) : sm (fun i => 2 ^ (L - pl m e L (ly e i))) m = 2 ^ L := by
  have hk := kraft (lvs_up (g := ly e) (lv_rise h)) L (by rw [lvs_length]; omega) (row_enough _ L (by rw [lvs_length]; exact (nds_le h1).1 hL))
  rw [lvs_length] at hk
  rw [← hk]
  exact sm_congr m (fun i hi => by rw [pl_leaf h h2 hL h1 hi])
def wl (c : Nat → Nat) (n m : Nat) (e : Nat → Nat × Nat) (L : Nat) : Nat := sm (fun s => pl m e L s * c s) n
theorem pow_shift {L K x : Nat} (hx : x ≤ L) (hK : L ≤ K) : 2 ^ (K - x) = 2 ^ (L - x) * 2 ^ (K - L) := by
  rw [← Nat.pow_add]; congr 1; omega
end
theorem weight_sm (l : Nat → Nat) : ∀ n, weight l n = sm (fun s => wt (l s)) n
  | 0 => rfl
  | n + 1 => by simp only [weight, sm]; rw [weight_sm l n]
theorem cnt_sm (l : Nat → Nat) (x : Nat) : ∀ n, cnt l x n = sm (fun s => if l s = x then 1 else 0) n
  | 0 => rfl
  | n + 1 => by
    have : cnt l x (n + 1) = cnt l x n + if l n = x then 1 else 0 := rfl
    rw [this, cnt_sm l x n]; rfl
theorem pl_may {c : Nat → Nat} {n m L : Nat} {e : Nat → Nat × Nat} (h : IsLv c n m e) (hn : n ≤ 320) (hL : nds m ≤ L) (h1 : 1 ≤ L) (h15 : L ≤ 15) : May (pl m e L) n := ⟨hn, fun i _ => Nat.le_trans (pl_le h hL h1 i) h15⟩
theorem pl_kind {c : Nat → Nat} {n m L : Nat} {e : Nat → Nat × Nat} (h : IsLv c n m e) (hn : n ≤ 320) (hL : nds m ≤ L) (h1 : 1 ≤ L) (h15 : L ≤ 15) : kind (pl m e L) n = if m = 0 then 0 else if m = 1 then 1 else 2 := by
  have hw : weight (pl m e L) n = sm (fun i => wt (pl m e L (ly e i))) m := by
    rw [weight_sm, reidx h _ (fun s hs g => by rw [(pl_zero h hL h1 hs).2 g]; rfl)]
  rw [kind_of (pl_may h hn hL h1 h15)]
  by_cases m0 : m = 0
  · subst m0
    rw [if_pos rfl, hw]; rfl
  rw [if_neg m0]
  by_cases m1 : m = 1
  · subst m1
    have hp : pl 1 e L (ly e 0) = 1 := by unfold pl; rw [if_neg m0, if_pos rfl, if_pos rfl]
    have w1 : weight (pl 1 e L) n = 16384 := by rw [hw]; simp only [sm]; rw [hp]; rfl
    have c1 : c0 (pl 1 e L) n 1 = 1 := by
      unfold c0
      rw [if_neg (by omega), cnt_sm, reidx h _ (fun s hs g => by rw [(pl_zero h hL h1 hs).2 g, if_neg (by omega)])]
      simp only [sm]; rw [hp]; rfl
    rw [if_pos rfl, w1, c1]; rfl
  · rw [if_neg m1]
    have h2 : 2 ≤ m := by omega
    have w2 : weight (pl m e L) n = 32768 := by
      have kr := pl_kraft h h2 hL h1
      rw [hw]
      have e1 : sm (fun i => wt (pl m e L (ly e i))) m = sm (fun i => 2 ^ (L - pl m e L (ly e i))) m * 2 ^ (15 - L) := by
        rw [← sm_mul]
        refine sm_congr m (fun i hi => ?_)
        have hne : pl m e L (ly e i) ≠ 0 := fun g => by
          have := (pl_zero h hL h1 (h.is_ i hi).1).1 g
          have := (h.is_ i hi).2.1
          omega
        unfold M.wt
        rw [if_neg hne]
        exact pow_shift (pl_le h hL h1 _) h15
      rw [e1, kr, ← Nat.pow_add, show L + (15 - L) = 15 by omega]
    rw [w2]; rfl
end Go.Proofs.YtlanibgeafdefaaDoor

namespace Go.Proofs.YtlanibgeafdefaaDoor
open Go.RowKit M
set_option linter.unusedVariables false
def tm (k : Nat) (φ : Nat → Nat) : Th → Th
  | .lf w s => .lf (k * w) (φ s)
  | .pk a b => .pk (tm k φ a) (tm k φ b)
section
variable {k : Nat} {φ : Nat → Nat}
end
end Go.Proofs.YtlanibgeafdefaaDoor

namespace Go.Proofs.YtlanibgeafdefaaDoor
open Go Go.RowKit M
open Go.ChangeShapes Go.WideShapes
set_option linter.unusedVariables false
def IsRow (k : IntKind) (w : World) (a : Option Addr) (len cap : Nat) (zs : List Int) : Prop :=
  (a = none ∧ len = 0 ∧ cap = 0 ∧ zs = []) ∨
  ∃ ad, a = some ad ∧ len ≤ cap ∧ cap ≤ maxLen ∧ zs.length = cap ∧ (∀ i, i < zs.length → w.cell? (ad.add i) = some (.int k (zs.getD i 0))) ∧ (∀ n ∈ zs, (Lit.int k n).wf = true)
theorem iadd_at (b o j : Nat) : (⟨b, o, none⟩ : Addr).add j = ⟨b, o + j, none⟩ := by
  unfold Addr.add
  split
  · rename_i h; subst h; rfl
  · rfl
section
variable {k : IntKind} {w : World} {a : Option Addr} {len cap : Nat} {zs : List Int}
theorem IsRow.most (h : IsRow k w a len cap zs) : len ≤ cap ∧ cap ≤ maxLen := by
  rcases h with ⟨_, h1, h2, _⟩ | ⟨ad, _, h1, h2, _⟩
  · rw [h1, h2]; exact ⟨Nat.le_refl _, by decide⟩
  · exact ⟨h1, h2⟩
theorem IsRow.nums (h : IsRow k w a len cap zs) : Nums w k a len (fun i => zs.getD i 0) := fun hn => by
  rcases h with ⟨_, h1, _, _⟩ | ⟨ad, rfl, h1, h2, h3, h4, h5⟩
  · omega
  · have c0 := h4 0 (by omega)
    have hsp : ad.spot = none := by
      have := World.cell?_spot c0
      rw [Addr.add, if_pos rfl] at this
      exact this
    obtain ⟨b, o, sp⟩ := ad
    obtain rfl : sp = none := hsp
    refine ⟨b, o, rfl, ?_, fun i hi => ?_⟩
    · have := World.block_lt_of_cell? _ _ c0
      rwa [iadd_at] at this
    · rw [← iadd_at]; exact h4 i (by omega)
theorem IsRow.wf (h : IsRow k w a len cap zs) (h0 : (Lit.int k 0).wf = true) (i : Nat) : (Lit.int k (zs.getD i 0)).wf = true := by
  rw [List.getD]
  rcases h with ⟨_, _, _, rfl⟩ | ⟨ad, rfl, h1, h2, h3, h4, h5⟩
  · simpa using h0
  · cases e : zs[i]? with
    | none => simpa using h0
    | some x => exact h5 x (List.mem_of_getElem? e)
end
end Go.Proofs.YtlanibgeafdefaaDoor

namespace Go.Proofs.YtlanibgeafdefaaDoor
open Go.RowKit M
set_option linter.unusedVariables false
def Irow (w : World) (b n : Nat) (z : Nat → Int) : Prop := w.rowIs b 3 n (fun i => .int .i64 (z i))
section
variable {w w' : World} {b n : Nat} {z y : Nat → Int}
theorem Irow.lt (h : Irow w b n z) : b < w.heap.size := World.rowIs.lt h
theorem Irow.nums (h : Irow w b n z) : Nums w .i64 (some ⟨b, 0, none⟩) n z := fun hn =>
  ⟨b, 0, rfl, World.rowIs.lt h, fun i hi => by rw [Nat.zero_add]; exact World.rowIs.cell h hi⟩
theorem Irow.cell (h : Irow w b n z) {i : Nat} (hi : i < n) : w.cell? ⟨b, i, none⟩ = some (.int .i64 (z i)) := World.rowIs.cell h hi
theorem Irow.frozen (h : Irow w b n z) (i : Nat) : w.frozen? ⟨b, i, none⟩ = false := World.rowIs.frozen h i
theorem Irow.congr (h : Irow w b n z) (e : ∀ i, i < n → z i = y i) : Irow w b n y := World.rowIs.congr h (fun i hi => by rw [e i hi])
theorem Irow.made (w : World) (n : Nat) : Irow (w.alloc (.cells (madeCells #[.int .i64 0] n) 3)) w.heap.size n (fun _ => 0) := World.rowIs_made w (.int .i64 0) n 3
theorem Irow.set (h : Irow w b n z) (i : Nat) (v : Int) : Irow (w.setCell ⟨b, i, none⟩ (.int .i64 v)) b n (fun j => if j = i then v else z j) :=
  World.rowIs.congr (World.rowIs.set h i (.int .i64 v)) (fun j hj => by by_cases e : j = i <;> simp [e])
theorem Irow.other (h : Irow w b n z) {a : Addr} (ha : b ≠ a.block) (v : Value) : Irow (w.setCell a v) b n z := World.rowIs.setOther h ha v
theorem Irow.alloc (h : Irow w b n z) (o : Obj) : Irow (w.alloc o) b n z := World.rowIs.alloc h o
theorem Irow.drew (h : Irow w b n z) : Irow w.drew b n z := h
theorem Irow.drewN (h : Irow w b n z) (k : Nat) : Irow (w.drewN k) b n z := h
theorem Irow.at' (h : Irow w b n z) (e : w'.heap[b]? = w.heap[b]?) : Irow w' b n z := World.rowIs.of_block h e
theorem Irow.below (h : Irow w b n z) {B : Nat} (hb : Below B w w') (hB : b < B) : Irow w' b n z := h.at' (hb.block b hB)
end
theorem Br.drewN {w : World} {g n : Nat} {f : Nat → Nat} (h : Br w g n f) (k : Nat) : Br (w.drewN k) g n f := h
end Go.Proofs.YtlanibgeafdefaaDoor

namespace Go.Proofs.YtlanibgeafdefaaDoor
open Go.RowKit M
set_option linter.unusedVariables false
def il (n : Nat) (F : Nat → Int) : List Value := (List.range n).map fun i => Value.int .i64 (F i)
theorem il_length (n : Nat) (F : Nat → Int) : (il n F).length = n := by unfold il; simp
theorem il_at (n : Nat) (F : Nat → Int) (i : Nat) (h : i < n) : (il n F)[i]? = some (.int .i64 (F i)) := by unfold il; simp [h]
theorem il_congr {n : Nat} {F G : Nat → Int} (h : ∀ i, i < n → F i = G i) : il n F = il n G := by
  unfold il
  apply List.map_congr_left
  intro i hi
  rw [h i (List.mem_range.1 hi)]
def Is (base : Nat) (w : World) (v : Value) (n : Nat) (F : Nat → Int) : Prop := w.ownsRow base 3 1 v n (il n F)
section
variable {base : Nat} {w w' : World} {v : Value} {n m : Nat} {F G : Nat → Int}
theorem Is.congr (h : Is base w v n F) (e : ∀ i, i < n → F i = G i) : Is base w v n G := by
  unfold Is at h ⊢
  rw [← il_congr e]; exact h
theorem Is.alloc (h : Is base w v n F) (o : Obj) : Is base (w.alloc o) v n F := World.ownsRow.alloc h o
theorem Is.drew (h : Is base w v n F) : Is base w.drew v n F := h
theorem Is.drewN (h : Is base w v n F) (k : Nat) : Is base (w.drewN k) v n F := h
theorem Is.nil (base : Nat) (w : World) (F : Nat → Int) : Is base w (.slice none 0 0) 0 F := World.ownsRow_nil w base _ 1
theorem Is.at' (h : Is base w v n F) (q : ∀ g, v.ownBlock = some g → w'.heap[g]? = w.heap[g]?) : Is base w' v n F := ownsRow_at h q
theorem Is.lt' (h : Is base w v n F) : ∀ k, v.ownBlock = some k → base ≤ k ∧ k < w.heap.size := World.ownsRow.lt h
theorem Is.below (h : Is base w v n F) (hb : Below w.heap.size w w') : Is base w' v n F := h.at' fun g hg => hb.block g (h.lt' g hg).2
theorem Is.grown (h : Is base w v n F) {row : Option Nat} (hg : w.grownBy w' row) (hne : v.ownBlock = none ∨ v.ownBlock ≠ row) : Is base w' v n F := World.ownsRow.kept h hg hne
theorem Is.form (h : Is base w v n F) (hn : 0 < n) : ∃ g cap, v = .slice (some ⟨g, 0, none⟩) n cap ∧ base ≤ g ∧ g < w.heap.size := World.ownsRow.form h hn
theorem Is.cap {g cap : Nat} (h : Is base w (.slice (some ⟨g, 0, none⟩) n cap) n F) : n ≤ cap ∧ cap ≤ maxLen := by
  rcases h.2 with ⟨h', _⟩ | ⟨g', cap', cur, h', _, _, hnc, hcm, _⟩
  · simp at h'
  · simp only [Value.slice.injEq, Option.some.injEq, Addr.mk.injEq, and_true, true_and] at h'
    obtain ⟨rfl, rfl⟩ := h'
    exact ⟨hnc, hcm⟩
theorem Is.cell {g cap : Nat} (h : Is base w (.slice (some ⟨g, 0, none⟩) n cap) n F) {i : Nat} (hi : i < n) : w.cell? ⟨g, i, none⟩ = some (.int .i64 (F i)) := by
  rw [World.ownsRow.cellAt h i (by omega), il_at n F i hi]
theorem Is.frozen {g cap : Nat} (h : Is base w (.slice (some ⟨g, 0, none⟩) n cap) n F) (i : Nat) : w.frozen? ⟨g, i, none⟩ = false := World.ownsRow.frozenAt h i
theorem Is.lt {g cap : Nat} (h : Is base w (.slice (some ⟨g, 0, none⟩) n cap) n F) : base ≤ g ∧ g < w.heap.size := World.ownsRow.lt h g rfl
theorem Is.nums {g cap : Nat} (h : Is base w (.slice (some ⟨g, 0, none⟩) n cap) n F) : Nums w .i64 (some ⟨g, 0, none⟩) n F := fun hn =>
  ⟨g, 0, rfl, h.lt.2, fun i hi => by rw [Nat.zero_add]; exact h.cell hi⟩
theorem Is.set {g cap : Nat} (h : Is base w (.slice (some ⟨g, 0, none⟩) n cap) n F) (j : Nat) (x : Int) : Is base (w.setCell ⟨g, j, none⟩ (.int .i64 x)) (.slice (some ⟨g, 0, none⟩) n cap) n (fun i => if i = j then x else F i) := by
  have h2 := (World.ownsRow.stored h j (.int .i64 x)).1
  have e : (il n F).set j (.int .i64 x) = il n (fun i => if i = j then x else F i) := by
    apply List.ext_getElem?
    intro i
    rw [List.getElem?_set, il_length]
    by_cases hi : i < n
    · by_cases e : j = i
      · subst e
        rw [if_pos rfl, if_pos hi, il_at _ _ _ hi, if_pos rfl]
      · rw [if_neg e, il_at _ _ _ hi, il_at _ _ _ hi, if_neg (fun q => e q.symm)]
    · have h1 : (il n F)[i]? = none := List.getElem?_eq_none (by rw [il_length]; omega)
      have h2 : (il n fun k => if k = j then x else F k)[i]? = none := List.getElem?_eq_none (by rw [il_length]; omega)
      rw [h1, h2]
      by_cases e : j = i
      · rw [if_pos e, if_neg (by omega)]
      · rw [if_neg e]
  unfold Is
  rw [← e]; exact h2
theorem Is.other (h : Is base w v n F) {a : Addr} (ha : v.ownBlock ≠ some a.block) (u : Value) : Is base (w.setCell a u) v n F :=
  h.at' fun g hg => Below.heap_setCell w a u g (fun e => ha (by rw [hg, e]))
end
end Go.Proofs.YtlanibgeafdefaaDoor

namespace Go.Proofs.YtlanibgeafdefaaDoor
open Go.RowKit M
set_option linter.unusedVariables false
theorem Is.parts {base : Nat} {w : World} {v : Value} {n : Nat} {F : Nat → Int} (h : Is base w v n F) : (v = .slice none 0 0 ∧ n = 0) ∨ ∃ g cap, v = .slice (some ⟨g, 0, none⟩) n cap := by
  rcases h.2 with ⟨h1, h2⟩ | ⟨g, cap, cur, rfl, _⟩
  · exact .inl ⟨h1, h2⟩
  · exact .inr ⟨g, cap, rfl⟩
end Go.Proofs.YtlanibgeafdefaaDoor
