/- Rows of ints that append made. Conditions: as each theorem names them. -/
import Derived.Test.YthemndeljjampaaDoorChC
namespace Go.Proofs.YthemndeljjampaaDoor
open Go.RowKit M
set_option linter.unusedVariables false

/-- the cells of n ints -/
def il (n : Nat) (F : Nat → Int) : List Value := (List.range n).map fun i => Value.int .i64 (F i)
theorem il_length (n : Nat) (F : Nat → Int) : (il n F).length = n := by unfold il; simp
theorem il_at (n : Nat) (F : Nat → Int) (i : Nat) (h : i < n) : (il n F)[i]? = some (.int .i64 (F i)) := by unfold il; simp [h]
theorem il_one (n : Nat) (F : Nat → Int) : ∀ u ∈ il n F, u.oneCell' = true := by
  intro u hu
  obtain ⟨i, _, rfl⟩ := List.mem_map.1 hu
  rfl
/-- n ints, and others behind them -/
def catI (n : Nat) (F G : Nat → Int) (i : Nat) : Int := if i < n then F i else G (i - n)
theorem il_cat (n m : Nat) (F G : Nat → Int) : il n F ++ il m G = il (n + m) (catI n F G) := by
  apply List.ext_getElem?
  intro i
  by_cases h1 : i < n
  · rw [List.getElem?_append_left (by rw [il_length]; exact h1), il_at n F i h1, il_at _ _ i (by omega)]
    unfold catI; rw [if_pos h1]
  · rw [List.getElem?_append_right (by rw [il_length]; omega), il_length]
    by_cases h2 : i < n + m
    · rw [il_at m G _ (by omega), il_at _ _ i h2]
      unfold catI; rw [if_neg h1]
    · rw [List.getElem?_eq_none (by rw [il_length]; omega), List.getElem?_eq_none (by rw [il_length]; omega)]
theorem il_congr {n : Nat} {F G : Nat → Int} (h : ∀ i, i < n → F i = G i) : il n F = il n G := by
  unfold il
  apply List.map_congr_left
  intro i hi
  rw [h i (List.mem_range.1 hi)]

/-- v is a slice of n ints in a block from base on. -/
def Is (base : Nat) (w : World) (v : Value) (n : Nat) (F : Nat → Int) : Prop := w.ownsRow base 3 1 v n (il n F)
section
variable {base : Nat} {w w' : World} {v : Value} {n m : Nat} {F G : Nat → Int}
theorem Is.congr (h : Is base w v n F) (e : ∀ i, i < n → F i = G i) : Is base w v n G := by
  unfold Is at h ⊢
  rw [← il_congr e]; exact h
theorem Is.alloc (h : Is base w v n F) (o : Obj) : Is base (w.alloc o) v n F := World.ownsRow.alloc h o
theorem Is.drew (h : Is base w v n F) : Is base w.drew v n F := h
theorem Is.drewN (h : Is base w v n F) (k : Nat) : Is base (w.drewN k) v n F := h
theorem Is.nil (base : Nat) (w : World) (F : Nat → Int) : Is base w (.slice none 0 0) 0 F := World.ownsRow_nil w base _ 1
theorem Is.at' (h : Is base w v n F) (q : ∀ g, v.ownBlock = some g → w'.heap[g]? = w.heap[g]?) : Is base w' v n F := ownsRow_at h q
theorem Is.lt' (h : Is base w v n F) : ∀ k, v.ownBlock = some k → base ≤ k ∧ k < w.heap.size := World.ownsRow.lt h
theorem Is.below (h : Is base w v n F) (hb : Below w.heap.size w w') : Is base w' v n F := h.at' fun g hg => hb.block g (h.lt' g hg).2
theorem Is.grown (h : Is base w v n F) {row : Option Nat} (hg : w.grownBy w' row) (hne : v.ownBlock = none ∨ v.ownBlock ≠ row) : Is base w' v n F := World.ownsRow.kept h hg hne
theorem Is.form (h : Is base w v n F) (hn : 0 < n) : ∃ g cap, v = .slice (some ⟨g, 0, none⟩) n cap ∧ base ≤ g ∧ g < w.heap.size := World.ownsRow.form h hn
theorem Is.cap {g cap : Nat} (h : Is base w (.slice (some ⟨g, 0, none⟩) n cap) n F) : n ≤ cap ∧ cap ≤ maxLen := by
  rcases h.2 with ⟨h', _⟩ | ⟨g', cap', cur, h', _, _, hnc, hcm, _⟩
  · simp at h'
  · simp only [Value.slice.injEq, Option.some.injEq, Addr.mk.injEq, and_true, true_and] at h'
    obtain ⟨rfl, rfl⟩ := h'
    exact ⟨hnc, hcm⟩
theorem Is.cell {g cap : Nat} (h : Is base w (.slice (some ⟨g, 0, none⟩) n cap) n F) {i : Nat} (hi : i < n) : w.cell? ⟨g, i, none⟩ = some (.int .i64 (F i)) := by
  rw [World.ownsRow.cellAt h i (by omega), il_at n F i hi]
theorem Is.frozen {g cap : Nat} (h : Is base w (.slice (some ⟨g, 0, none⟩) n cap) n F) (i : Nat) : w.frozen? ⟨g, i, none⟩ = false := World.ownsRow.frozenAt h i
theorem Is.lt {g cap : Nat} (h : Is base w (.slice (some ⟨g, 0, none⟩) n cap) n F) : base ≤ g ∧ g < w.heap.size := World.ownsRow.lt h g rfl
theorem Is.nums {g cap : Nat} (h : Is base w (.slice (some ⟨g, 0, none⟩) n cap) n F) : Nums w .i64 (some ⟨g, 0, none⟩) n F := fun hn =>
  ⟨g, 0, rfl, h.lt.2, fun i hi => by rw [Nat.zero_add]; exact h.cell hi⟩
theorem Is.set {g cap : Nat} (h : Is base w (.slice (some ⟨g, 0, none⟩) n cap) n F) (j : Nat) (x : Int) : Is base (w.setCell ⟨g, j, none⟩ (.int .i64 x)) (.slice (some ⟨g, 0, none⟩) n cap) n (fun i => if i = j then x else F i) := by
  have h2 := (World.ownsRow.stored h j (.int .i64 x)).1
  have e : (il n F).set j (.int .i64 x) = il n (fun i => if i = j then x else F i) := by
    apply List.ext_getElem?
    intro i
    rw [List.getElem?_set, il_length]
    by_cases hi : i < n
    · by_cases e : j = i
      · subst e
        rw [if_pos rfl, if_pos hi, il_at _ _ _ hi, if_pos rfl]
      · rw [if_neg e, il_at _ _ _ hi, il_at _ _ _ hi, if_neg (fun q => e q.symm)]
    · have h1 : (il n F)[i]? = none := List.getElem?_eq_none (by rw [il_length]; omega)
      have h2 : (il n fun k => if k = j then x else F k)[i]? = none := List.getElem?_eq_none (by rw [il_length]; omega)
      rw [h1, h2]
      by_cases e : j = i
      · rw [if_pos e, if_neg (by omega)]
      · rw [if_neg e]
  unfold Is
  rw [← e]; exact h2
theorem Is.other (h : Is base w v n F) {a : Addr} (ha : v.ownBlock ≠ some a.block) (u : Value) : Is base (w.setCell a u) v n F :=
  h.at' fun g hg => Below.heap_setCell w a u g (fun e => ha (by rw [hg, e]))
end
theorem run_api (w : World) (ty : TypeId) (base : Nat) (v : Value) (n : Nat) (F : Nat → Int) (hown : Is base w v n F) (ad : Addr) (m c : Nat) (G : Nat → Int) (hG : ∀ j, j < m → w.cell? (ad.add j) = some (.int .i64 (G j))) (hm : n + m ≤ 2000000) (hb : base ≤ w.heap.size) :
    ∃ v' w', (Builtin.append_ #[71, 71] ty #[v, .slice (some ad) m c]).run Tryd.prog w = .ok v' w' ∧ Is base w' v' (n + m) (catI n F G) ∧ w.grownBy w' v.ownBlock ∧ Below base w w' ∧ (v'.ownBlock = v.ownBlock ∨ v'.ownBlock = some w.heap.size) := by
  obtain ⟨i, h1, h2, h3, h4⟩ := info_of intInfo
  obtain ⟨v', w', r1, r2, r3, _, r5⟩ := run_append_own_at (P := Tryd.prog) w base 71 ty 3 i _ 1 8 Tryd.underlying71 h1 h2 h3 h4 rfl (by decide) v n (il n F) hown ad m c (il m G) (by rw [il_length]; omega)
    (fun j u hu => by
      have hj : j < m := by have := (List.getElem?_eq_some_iff.1 hu).1; rwa [il_length] at this
      rw [il_at m G j hj] at hu
      rw [hG j hj]; exact hu) (il_one m G) (by unfold maxLen; omega) (by omega) hb
  refine ⟨v', w', r1, ?_, r3, (Below.refl base w).grown r3 hb (fun k hk => (World.ownsRow.lt hown k hk).1), r5⟩
  unfold Is
  rw [← il_cat]; exact r2
theorem wp_api {o : Oper} {a : Act} {w : World} {K : Act → World → Prop} {Q : Exit → Act → World → Prop} {d : Option Tmp} (hd : o.dst = d) (s x : Operand) (ho : o.op = .call { callee := .builtin .append, args := #[s, x], argTypes := #[71, 71] })
    (base : Nat) (v : Value) (n : Nat) (F : Nat → Int) (hs : a.eval s = v) (hown : Is base w v n F) (ad : Addr) (m c : Nat) (G : Nat → Int) (hx : a.eval x = .slice (some ad) m c) (hG : ∀ j, j < m → w.cell? (ad.add j) = some (.int .i64 (G j))) (hm : n + m ≤ 2000000) (hb : base ≤ w.heap.size)
    (h : ∀ v' w', Is base w' v' (n + m) (catI n F G) → w.grownBy w' v.ownBlock → Below base w w' → (v'.ownBlock = v.ownBlock ∨ v'.ownBlock = some w.heap.size) → K (a.put d v') w') : o.wp Tryd.prog a w K Q := by
  obtain ⟨v', w', r1, r2, r3, r4, r5⟩ := run_api w o.type base v n F hown ad m c G hG hm hb
  unfold Oper.wp execOp
  simp only [ho, resolve, invoke, builtin, Sem.run_bind, Sem.run_pure, Result.andThen_ok, List.map_toArray, List.map_cons, List.map_nil, hs, hx, r1]
  subst hd
  exact h v' w' r2 r3 r4 r5
theorem wpList_api {ops : Array Oper} {rest : List Oper} {o : Oper} {a : Act} {w : World} {Q : Exit → Act → World → Prop} (hgd : o.guard = none) (s x : Operand) (ho : o.op = .call { callee := .builtin .append, args := #[s, x], argTypes := #[71, 71] })
    (base : Nat) (v : Value) (n : Nat) (F : Nat → Int) (hs : a.eval s = v) (hown : Is base w v n F) (ad : Addr) (m c : Nat) (G : Nat → Int) (hx : a.eval x = .slice (some ad) m c) (hG : ∀ j, j < m → w.cell? (ad.add j) = some (.int .i64 (G j))) (hm : n + m ≤ 2000000) (hb : base ≤ w.heap.size)
    (h : ∀ v' w', Is base w' v' (n + m) (catI n F G) → w.grownBy w' v.ownBlock → Below base w w' → (v'.ownBlock = v.ownBlock ∨ v'.ownBlock = some w.heap.size) → wpList Tryd.prog ops Q rest (a.put o.dst v') w') : wpList Tryd.prog ops Q (o :: rest) a w :=
  wpList_plain hgd fun _ hK => wp_api rfl s x ho base v n F hs hown ad m c G hx hG hm hb fun v' w' h1 h2 h3 h4 => hK _ _ (h v' w' h1 h2 h3 h4)
theorem one_int (w : World) (x : Int) : ∀ j, j < 1 → (w.alloc (.cells #[.int .i64 x] 3)).cell? ((⟨w.heap.size, 0, none⟩ : Addr).add j) = some (.int .i64 x) := by
  intro j hj
  obtain rfl : j = 0 := by omega
  simp [Addr.add]
end Go.Proofs.YthemndeljjampaaDoor
