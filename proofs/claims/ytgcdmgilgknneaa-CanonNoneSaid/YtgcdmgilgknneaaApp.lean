/- A row of bytes that a law makes by append: what it holds, where it lies, what of memory stays. Conditions: as each theorem names them. -/
import Derived.Test.YtgcdmgilgknneaaDrw
import Derived.Maps.AppendAt
import Derived.OwnWalk
namespace Go.Proofs.Ytgcdmgilgknneaa
open Go.RowKit M
set_option linter.unusedVariables false

/-- the cells of n bytes -/
def bl (n : Nat) (F : Nat → Nat) : List Value := (List.range n).map fun i => Value.int .u8 (F i)
theorem bl_length (n : Nat) (F : Nat → Nat) : (bl n F).length = n := by unfold bl; simp
theorem bl_at (n : Nat) (F : Nat → Nat) (i : Nat) (h : i < n) : (bl n F)[i]? = some (.int .u8 (F i)) := by unfold bl; simp [h]
theorem bl_one (n : Nat) (F : Nat → Nat) : ∀ u ∈ bl n F, u.oneCell' = true := by
  intro u hu
  obtain ⟨i, _, rfl⟩ := List.mem_map.1 hu
  rfl
/-- n bytes, and others behind them -/
def cat (n : Nat) (F G : Nat → Nat) (i : Nat) : Nat := if i < n then F i else G (i - n)
theorem bl_cat (n m : Nat) (F G : Nat → Nat) : bl n F ++ bl m G = bl (n + m) (cat n F G) := by
  apply List.ext_getElem?
  intro i
  by_cases h1 : i < n
  · rw [List.getElem?_append_left (by rw [bl_length]; exact h1), bl_at n F i h1, bl_at _ _ i (by omega)]
    unfold cat; rw [if_pos h1]
  · rw [List.getElem?_append_right (by rw [bl_length]; omega), bl_length]
    by_cases h2 : i < n + m
    · rw [bl_at m G _ (by omega), bl_at _ _ i h2]
      unfold cat; rw [if_neg h1]
    · rw [List.getElem?_eq_none (by rw [bl_length]; omega), List.getElem?_eq_none (by rw [bl_length]; omega)]
theorem bl_congr {n : Nat} {F G : Nat → Nat} (h : ∀ i, i < n → F i = G i) : bl n F = bl n G := by
  unfold bl
  apply List.map_congr_left
  intro i hi
  rw [h i (List.mem_range.1 hi)]

/-- v is a slice of n bytes in a block from base on. -/
def Bs (base : Nat) (w : World) (v : Value) (n : Nat) (F : Nat → Nat) : Prop := w.ownsRow base 5 1 v n (bl n F)
section
variable {base : Nat} {w w' : World} {v : Value} {n m : Nat} {F G : Nat → Nat}
theorem Bs.congr (h : Bs base w v n F) (e : ∀ i, i < n → F i = G i) : Bs base w v n G := by
  unfold Bs at h ⊢
  rw [← bl_congr e]; exact h
theorem Bs.alloc (h : Bs base w v n F) (o : Obj) : Bs base (w.alloc o) v n F := World.ownsRow.alloc h o
theorem Bs.drew (h : Bs base w v n F) : Bs base w.drew v n F := h
theorem Bs.below (h : Bs base w v n F) (hb : Below w.heap.size w w') : Bs base w' v n F := by
  obtain ⟨h1, h2⟩ := h
  refine ⟨h1, ?_⟩
  rcases h2 with h2 | ⟨g, cap, cur, rfl, hg, hh, r⟩
  · exact .inl h2
  · have hl : g < w.heap.size := by
      rcases Nat.lt_or_ge g w.heap.size with q | q
      · exact q
      · rw [Array.getElem?_eq_none q] at hh; cases hh
    exact .inr ⟨g, cap, cur, rfl, hg, by rw [hb.block g hl]; exact hh, r⟩
theorem Bs.empty (w : World) (hb : base ≤ w.heap.size) (F : Nat → Nat) : Bs base (w.alloc (.cells #[] 5)) (.slice (some ⟨w.heap.size, 0, none⟩) 0 0) 0 F :=
  World.ownsRow_lit (e := 5) w #[] 0 hb (by decide) rfl
theorem Bs.form (h : Bs base w v n F) (hn : 0 < n) : ∃ g cap, v = .slice (some ⟨g, 0, none⟩) n cap ∧ base ≤ g ∧ g < w.heap.size := World.ownsRow.form h hn
theorem Bs.cap {g cap : Nat} (h : Bs base w (.slice (some ⟨g, 0, none⟩) n cap) n F) : n ≤ cap ∧ cap ≤ maxLen := by
  rcases h.2 with ⟨h', _⟩ | ⟨g', cap', cur, h', _, _, hnc, hcm, _⟩
  · simp at h'
  · simp only [Value.slice.injEq, Option.some.injEq, Addr.mk.injEq, and_true, true_and] at h'
    obtain ⟨rfl, rfl⟩ := h'
    exact ⟨hnc, hcm⟩
theorem Bs.cell {g cap : Nat} (h : Bs base w (.slice (some ⟨g, 0, none⟩) n cap) n F) {i : Nat} (hi : i < n) : w.cell? ⟨g, i, none⟩ = some (.int .u8 (F i)) := by
  rw [World.ownsRow.cellAt h i (by omega), bl_at n F i hi]
theorem Bs.frozen {g cap : Nat} (h : Bs base w (.slice (some ⟨g, 0, none⟩) n cap) n F) (i : Nat) : w.frozen? ⟨g, i, none⟩ = false := World.ownsRow.frozenAt h i
theorem Bs.lt {g cap : Nat} (h : Bs base w (.slice (some ⟨g, 0, none⟩) n cap) n F) : base ≤ g ∧ g < w.heap.size := World.ownsRow.lt h g rfl
theorem Bs.nums {g cap : Nat} (h : Bs base w (.slice (some ⟨g, 0, none⟩) n cap) n F) : Nums w .u8 (some ⟨g, 0, none⟩) n (fun i => (F i : Int)) := fun hn =>
  ⟨g, 0, rfl, h.lt.2, fun i hi => by rw [Nat.zero_add]; exact h.cell hi⟩
theorem Bs.set {g cap : Nat} (h : Bs base w (.slice (some ⟨g, 0, none⟩) n cap) n F) (j x : Nat) : Bs base (w.setCell ⟨g, j, none⟩ (.int .u8 x)) (.slice (some ⟨g, 0, none⟩) n cap) n (fun i => if i = j then x else F i) := by
  have h2 := (World.ownsRow.stored h j (.int .u8 (x : Int))).1
  have e : (bl n F).set j (.int .u8 (x : Int)) = bl n (fun i => if i = j then x else F i) := by
    apply List.ext_getElem?
    intro i
    rw [List.getElem?_set, bl_length]
    by_cases hi : i < n
    · by_cases e : j = i
      · subst e
        rw [if_pos rfl, if_pos hi, bl_at _ _ _ hi, if_pos rfl]
      · rw [if_neg e, bl_at _ _ _ hi, bl_at _ _ _ hi, if_neg (fun q => e q.symm)]
    · have h1 : (bl n F)[i]? = none := List.getElem?_eq_none (by rw [bl_length]; omega)
      have h2 : (bl n fun k => if k = j then x else F k)[i]? = none := List.getElem?_eq_none (by rw [bl_length]; omega)
      rw [h1, h2]
      by_cases e : j = i
      · rw [if_pos e, if_neg (by omega)]
      · rw [if_neg e]
  unfold Bs
  rw [← e]; exact h2
theorem Bs.other (h : Bs base w v n F) {a : Addr} (ha : v.ownBlock ≠ some a.block) (u : Value) : Bs base (w.setCell a u) v n F := by
  obtain ⟨h1, h2⟩ := h
  refine ⟨h1, ?_⟩
  rcases h2 with h2 | ⟨g, cap, cur, rfl, hg, hh, r⟩
  · exact .inl h2
  · exact .inr ⟨g, cap, cur, rfl, hg, by rw [Below.heap_setCell w a u g (fun e => ha (by rw [← e]; rfl))]; exact hh, r⟩
end

theorem byteInfo' : ∃ i, Try.prog.info? 5 = some i ∧ i.zero = some (.int .u8 0) ∧ i.size = 1 ∧ i.bytes = 1 := by
  have hi := byteInfo
  cases hq : Try.prog.info? 5 with
  | none => rw [hq] at hi; cases hi
  | some i => rw [hq] at hi; simp at hi; exact ⟨i, rfl, hi.1, hi.2.1, hi.2.2⟩

theorem run_app (w : World) (ty : TypeId) (base : Nat) (v : Value) (n : Nat) (F : Nat → Nat) (hown : Bs base w v n F) (ad : Addr) (m c : Nat) (G : Nat → Nat) (hG : ∀ j, j < m → w.cell? (ad.add j) = some (.int .u8 (G j))) (hm : n + m ≤ 1000) (hb : base ≤ w.heap.size) :
    ∃ v' w', (Builtin.append_ #[22, 22] ty #[v, .slice (some ad) m c]).run Try.prog w = .ok v' w' ∧ Bs base w' v' (n + m) (cat n F G) ∧ w.grownBy w' v.ownBlock ∧ Below base w w' := by
  obtain ⟨i, h1, h2, h3, h4⟩ := byteInfo'
  obtain ⟨v', w', r1, r2, r3, _⟩ := run_append_own_at (P := Try.prog) w base 22 ty 5 i _ 1 1 Try.underlying22 h1 h2 h3 h4 rfl (by decide) v n (bl n F) hown ad m c (bl m G) (by rw [bl_length]; omega)
    (fun j u hu => by
      have hj : j < m := by have := (List.getElem?_eq_some_iff.1 hu).1; rwa [bl_length] at this
      rw [bl_at m G j hj] at hu
      rw [hG j hj]; exact hu) (bl_one m G) (by unfold maxLen; omega) (by omega) hb
  refine ⟨v', w', r1, ?_, r3, (Below.refl base w).grown r3 hb (fun k hk => (World.ownsRow.lt hown k hk).1)⟩
  unfold Bs
  rw [← bl_cat]; exact r2

theorem wp_app {o : Oper} {a : Act} {w : World} {K : Act → World → Prop} {Q : Exit → Act → World → Prop} (s x : Operand) (ho : o.op = .call { callee := .builtin .append, args := #[s, x], argTypes := #[22, 22] })
    (base : Nat) (v : Value) (n : Nat) (F : Nat → Nat) (hs : a.eval s = v) (hown : Bs base w v n F) (ad : Addr) (m c : Nat) (G : Nat → Nat) (hx : a.eval x = .slice (some ad) m c) (hG : ∀ j, j < m → w.cell? (ad.add j) = some (.int .u8 (G j))) (hm : n + m ≤ 1000) (hb : base ≤ w.heap.size)
    (h : ∀ v' w', Bs base w' v' (n + m) (cat n F G) → w.grownBy w' v.ownBlock → Below base w w' → K (a.put o.dst v') w') : o.wp Try.prog a w K Q := by
  obtain ⟨v', w', r1, r2, r3, r4⟩ := run_app w o.type base v n F hown ad m c G hG hm hb
  unfold Oper.wp execOp
  simp only [ho, resolve, invoke, builtin, Sem.run_bind, Sem.run_pure, Result.andThen_ok, List.map_toArray, List.map_cons, List.map_nil, hs, hx, r1]
  exact h v' w' r2 r3 r4

theorem wpList_app {ops : Array Oper} {rest : List Oper} {o : Oper} {a : Act} {w : World} {Q : Exit → Act → World → Prop} (hgd : o.guard = none) (s x : Operand) (ho : o.op = .call { callee := .builtin .append, args := #[s, x], argTypes := #[22, 22] })
    (base : Nat) (v : Value) (n : Nat) (F : Nat → Nat) (hs : a.eval s = v) (hown : Bs base w v n F) (ad : Addr) (m c : Nat) (G : Nat → Nat) (hx : a.eval x = .slice (some ad) m c) (hG : ∀ j, j < m → w.cell? (ad.add j) = some (.int .u8 (G j))) (hm : n + m ≤ 1000) (hb : base ≤ w.heap.size)
    (h : ∀ v' w', Bs base w' v' (n + m) (cat n F G) → w.grownBy w' v.ownBlock → Below base w w' → wpList Try.prog ops Q rest (a.put o.dst v') w') : wpList Try.prog ops Q (o :: rest) a w :=
  wpList_plain hgd fun _ hK => wp_app s x ho base v n F hs hown ad m c G hx hG hm hb fun v' w' h1 h2 h3 => hK _ _ (h v' w' h1 h2 h3)
end Go.Proofs.Ytgcdmgilgknneaa
