/- Rows of things of the document's layer 6, and what its next answers. Conditions: as each theorem names them. -/
import Derived.Test.YteicamfelamfhaaRfT
import Derived.Test.YteicamfelamfhaaPkC
import Derived.Test.YteicamfelamfhaaDrw
import Derived.BigQuiet
import Derived.Deep.QuietTactic
namespace Go.Proofs.Yteicamfelamfhaa
open Go.RowKit M
set_option linter.unusedVariables false

/-- cells of things: weights, rows of k bytes -/
def c2 (k : Nat) : List Tp → List Value
  | [] => []
  | t :: l => .int .i64 t.1.wt :: .slice t.2 k k :: c2 k l
theorem c2_length (k : Nat) : ∀ l, (c2 k l).length = l.length * 2
  | [] => rfl
  | t :: l => by simp only [c2, List.length_cons]; rw [c2_length k l]; omega
theorem c2_append (k : Nat) : ∀ l r, c2 k (l ++ r) = c2 k l ++ c2 k r
  | [], _ => rfl
  | t :: l, r => by simp only [List.cons_append, c2]; rw [c2_append k l r]
theorem c2_at (k : Nat) : ∀ (l : List Tp) (i : Nat) (t : Tp), l[i]? = some t → (c2 k l)[i * 2]? = some (.int .i64 t.1.wt) ∧ (c2 k l)[i * 2 + 1]? = some (.slice t.2 k k)
  | [], i, t, h => by simp at h
  | a :: l, 0, t, h => by simp at h; subst h; simp [c2]
  | a :: l, i + 1, t, h => by
    rw [List.getElem?_cons_succ] at h
    obtain ⟨h1, h2⟩ := c2_at k l i t h
    simp only [c2]
    refine ⟨?_, ?_⟩
    · rw [show (i + 1) * 2 = i * 2 + 1 + 1 by omega]; simpa using h1
    · rw [show (i + 1) * 2 + 1 = i * 2 + 1 + 1 + 1 by omega]; simpa using h2
theorem c2_one (k : Nat) : ∀ (l : List Tp), ∀ u ∈ c2 k l, u.oneCell' = true
  | [], u, h => by simp [c2] at h
  | t :: l, u, h => by
    simp only [c2, List.mem_cons] at h
    rcases h with rfl | rfl | h
    · rfl
    · rfl
    · exact c2_one k l u h
/-- where cells of things lie -/
def Trs2 (w : World) (b o k : Nat) (l : List Tp) : Prop := ∀ i t, l[i]? = some t → w.cell? ⟨b, o + i * 2, none⟩ = some (.int .i64 t.1.wt) ∧ w.cell? ⟨b, o + i * 2 + 1, none⟩ = some (.slice t.2 k k)
theorem Trs2.cl {w : World} {b o k : Nat} : ∀ {l : List Tp}, Trs2 w b o k l → ∀ j u, (c2 k l)[j]? = some u → w.cell? ((⟨b, o, none⟩ : Addr).add j) = some u := by
  intro l h j u hu
  rw [add_at]
  have hj : j < l.length * 2 := by rw [← c2_length k]; exact (List.getElem?_eq_some_iff.1 hu).1
  have hi : j / 2 < l.length := by omega
  obtain ⟨h1, h2⟩ := h (j / 2) _ (List.getElem?_eq_getElem hi)
  obtain ⟨g1, g2⟩ := c2_at k l (j / 2) _ (List.getElem?_eq_getElem hi)
  have : j = j / 2 * 2 ∨ j = j / 2 * 2 + 1 := by omega
  rcases this with e | e
  · rw [← e] at g1 h1; rw [g1] at hu; rw [h1, ← hu]
  · rw [← e] at g2; rw [g2] at hu; rw [show o + j = o + j / 2 * 2 + 1 by omega, h2, ← hu]
theorem Trs2.below {w w' : World} {b o k : Nat} {l : List Tp} (h : Trs2 w b o k l) (hl : b < w.heap.size) (hb : Below w.heap.size w w') : Trs2 w' b o k l := fun i t hi => by
  obtain ⟨h1, h2⟩ := h i t hi
  exact ⟨(hb.cell hl).trans h1, (hb.cell hl).trans h2⟩
/-- v is a slice of things in a block from base on. -/
def Ow2 (base : Nat) (w : World) (v : Value) (k : Nat) (l : List Tp) : Prop := w.ownsRow base 56 2 v l.length (c2 k l)
section
variable {base k : Nat} {w w' : World} {v : Value} {l r : List Tp}
theorem Ow2.alloc (h : Ow2 base w v k l) (o : Obj) : Ow2 base (w.alloc o) v k l := World.ownsRow.alloc h o
theorem Ow2.drew (h : Ow2 base w v k l) : Ow2 base w.drew v k l := h
theorem Ow2.drewN (h : Ow2 base w v k l) (n : Nat) : Ow2 base (w.drewN n) v k l := h
theorem Ow2.at' (h : Ow2 base w v k l) (q : ∀ g, v.ownBlock = some g → w'.heap[g]? = w.heap[g]?) : Ow2 base w' v k l := ownsRow_at h q
theorem Ow2.nil (base k : Nat) (w : World) : Ow2 base w (.slice none 0 0) k [] := World.ownsRow_nil w base _ 2
theorem Ow2.lt (h : Ow2 base w v k l) : ∀ g, v.ownBlock = some g → base ≤ g ∧ g < w.heap.size := World.ownsRow.lt h
theorem Ow2.below (h : Ow2 base w v k l) (hb : Below w.heap.size w w') : Ow2 base w' v k l := h.at' fun g hg => hb.block g (h.lt g hg).2
theorem Ow2.grown (h : Ow2 base w v k l) {row : Option Nat} (hg : w.grownBy w' row) (hne : v.ownBlock = none ∨ v.ownBlock ≠ row) : Ow2 base w' v k l := World.ownsRow.kept h hg hne
end
theorem run_ap2 (w : World) (ty : TypeId) (base k : Nat) (v : Value) (l r : List Tp) (hown : Ow2 base w v k l) (b o c : Nat) (hG : Trs2 w b o k r) (hm : l.length + r.length ≤ 2000) (hb : base ≤ w.heap.size) :
    ∃ v' w', (Builtin.append_ #[54, 54] ty #[v, .slice (some ⟨b, o, none⟩) r.length c]).run Try.prog w = .ok v' w' ∧ Ow2 base w' v' k (l ++ r) ∧ w.grownBy w' v.ownBlock ∧ Below base w w' ∧ (v'.ownBlock = v.ownBlock ∨ v'.ownBlock = some w.heap.size) := by
  obtain ⟨i, h1, h2, h3, h4⟩ := info_of thing2Info
  obtain ⟨v', w', r1, r2, r3, _, r5⟩ := run_append_own_at (P := Try.prog) w base 54 ty 56 i _ 2 32 Try.underlying54 h1 h2 h3 h4 rfl (by decide) v l.length (c2 k l) hown ⟨b, o, none⟩ r.length c (c2 k r) (c2_length k r)
    hG.cl (c2_one k r) (by unfold maxLen; omega) (by omega) hb
  refine ⟨v', w', r1, ?_, r3, (Below.refl base w).grown r3 hb (fun k hk => (World.ownsRow.lt hown k hk).1), r5⟩
  unfold Ow2
  rw [List.length_append, c2_append]; exact r2
theorem wp_ap2 {o : Oper} {a : Act} {w : World} {K : Act → World → Prop} {Q : Exit → Act → World → Prop} {d : Option Tmp} (hd : o.dst = d) (s x : Operand) (ho : o.op = .call { callee := .builtin .append, args := #[s, x], argTypes := #[54, 54] })
    (base k : Nat) (v : Value) (l r : List Tp) (hs : a.eval s = v) (hown : Ow2 base w v k l) (b o' n c : Nat) (hx : a.eval x = .slice (some ⟨b, o', none⟩) n c) (hn : r.length = n) (hG : Trs2 w b o' k r) (hm : l.length + r.length ≤ 2000) (hb : base ≤ w.heap.size)
    (h : ∀ v' w', Ow2 base w' v' k (l ++ r) → w.grownBy w' v.ownBlock → Below base w w' → (v'.ownBlock = v.ownBlock ∨ v'.ownBlock = some w.heap.size) → K (a.put d v') w') : o.wp Try.prog a w K Q := by
  subst hn
  obtain ⟨v', w', r1, r2, r3, r4, r5⟩ := run_ap2 w o.type base k v l r hown b o' c hG hm hb
  unfold Oper.wp execOp
  simp only [ho, resolve, invoke, builtin, Sem.run_bind, Sem.run_pure, Result.andThen_ok, List.map_toArray, List.map_cons, List.map_nil, hs, hx, r1]
  subst hd
  exact h v' w' r2 r3 r4 r5
theorem wpList_ap2 {ops : Array Oper} {rest : List Oper} {o : Oper} {a : Act} {w : World} {Q : Exit → Act → World → Prop} (hgd : o.guard = none) (s x : Operand) (ho : o.op = .call { callee := .builtin .append, args := #[s, x], argTypes := #[54, 54] })
    (base k : Nat) (v : Value) (l r : List Tp) (hs : a.eval s = v) (hown : Ow2 base w v k l) (b o' n c : Nat) (hx : a.eval x = .slice (some ⟨b, o', none⟩) n c) (hn : r.length = n) (hG : Trs2 w b o' k r) (hm : l.length + r.length ≤ 2000) (hb : base ≤ w.heap.size)
    (h : ∀ v' w', Ow2 base w' v' k (l ++ r) → w.grownBy w' v.ownBlock → Below base w w' → (v'.ownBlock = v.ownBlock ∨ v'.ownBlock = some w.heap.size) → wpList Try.prog ops Q rest (a.put o.dst v') w') : wpList Try.prog ops Q (o :: rest) a w :=
  wpList_plain hgd fun _ hK => wp_ap2 rfl s x ho base k v l r hs hown b o' n c hx hn hG hm hb fun v' w' h1 h2 h3 h4 => hK _ _ (h v' w' h1 h2 h3 h4)

theorem mr2_pk {L P : List Tp} {p : Tp} {i j : Nat} (hp : P[j]? = some p) (h : ∀ l, L[i]? = some l → p.1.wt < l.1.wt) : mr2 (L.drop i) (P.drop j) = p :: mr2 (L.drop i) (P.drop (j + 1)) := by
  by_cases hi : i < L.length
  · exact mr2_less (List.getElem?_eq_getElem hi) hp (h _ (List.getElem?_eq_getElem hi))
  · obtain ⟨hj, rfl⟩ := List.getElem?_eq_some_iff.1 hp
    rw [show L.drop i = [] from List.drop_eq_nil_of_le (by omega), mr2_nil, mr2_nil, List.drop_eq_getElem_cons hj]
/-- a thing's row of bytes says how often each of k leaves is in it -/
def Says (w : World) (B k : Nat) (y : Nat → Nat) (t : Tp) : Prop := ∃ g, t.2 = some ⟨g, 0, none⟩ ∧ (B ≤ g ∧ g < w.heap.size) ∧ Br w g k (fun j => t.1.cn (y j) % 256)
theorem Says.below {w w' : World} {B k : Nat} {y : Nat → Nat} {t : Tp} (h : Says w B k y t) (hb : Below w.heap.size w w') : Says w' B k y t := by
  obtain ⟨g, h1, h2, h3⟩ := h
  exact ⟨g, h1, ⟨h2.1, Nat.lt_of_lt_of_le h2.2 hb.size⟩, h3.at' (hb.block g h2.2)⟩
theorem Ow2.apart {base k g n : Nat} {w : World} {v : Value} {l : List Tp} {f : Nat → Nat} (h : Ow2 base w v k l) (hb : Br w g n f) : v.ownBlock ≠ some g := by
  intro e
  rcases h.2 with ⟨h1, _⟩ | ⟨g', cap, cur, h1, hg, hh, _⟩
  · rw [h1] at e; cases e
  · rw [h1] at e
    have : g' = g := Option.some.inj e
    subst this
    obtain ⟨c, hc, _⟩ := hb
    rw [hc] at hh
    simp at hh
theorem Says.grown {base B k : Nat} {w w' : World} {v : Value} {l : List Tp} {y : Nat → Nat} {t : Tp} (h : Says w B k y t) (ho : Ow2 base w v k l) (hg : w.grownBy w' v.ownBlock) (hs : w.heap.size ≤ w'.heap.size) : Says w' B k y t := by
  obtain ⟨g, h1, h2, h3⟩ := h
  exact ⟨g, h1, ⟨h2.1, Nat.lt_of_lt_of_le h2.2 hs⟩, h3.at' (hg.block g h2.2 (fun e => ho.apart h3 e.symm))⟩
/-- A slice at A holds these things. -/
def Th2 (w : World) (A : Option Addr) (B k : Nat) (y : Nat → Nat) (X : List Tp) : Prop :=
  (0 < X.length → ∃ b o, A = some ⟨b, o, none⟩ ∧ (B ≤ b ∧ b < w.heap.size) ∧ Trs2 w b o k X) ∧ ∀ x ∈ X, Says w B k y x
theorem Th2.below {w w' : World} {A : Option Addr} {B k : Nat} {y : Nat → Nat} {X : List Tp} (h : Th2 w A B k y X) (hb : Below w.heap.size w w') : Th2 w' A B k y X := by
  refine ⟨fun hn => ?_, fun x hx => (h.2 x hx).below hb⟩
  obtain ⟨b, o, e, hl, ht⟩ := h.1 hn
  exact ⟨b, o, e, ⟨hl.1, Nat.lt_of_lt_of_le hl.2 hb.size⟩, ht.below hl.2 hb⟩
theorem Ow2.parts {base k : Nat} {w : World} {v : Value} {l : List Tp} (h : Ow2 base w v k l) : ∃ A cap, v = .slice A l.length cap ∧ (0 < l.length → ∃ b o, A = some ⟨b, o, none⟩ ∧ (base ≤ b ∧ b < w.heap.size) ∧ Trs2 w b o k l) := by
  rcases h.2 with ⟨h1, h2⟩ | ⟨g, cap, cur, rfl, hg, hh, _⟩
  · exact ⟨none, 0, by rw [h1, h2], fun g => by omega⟩
  · refine ⟨some ⟨g, 0, none⟩, cap, rfl, fun _ => ⟨g, 0, rfl, ⟨hg, ?_⟩, fun i t hi => ?_⟩⟩
    · rcases Nat.lt_or_ge g w.heap.size with q | q
      · exact q
      · rw [Array.getElem?_eq_none q] at hh; cases hh
    · have hlt := (List.getElem?_eq_some_iff.1 hi).1
      obtain ⟨h1, h2⟩ := c2_at k l i t hi
      rw [Nat.zero_add]
      have q := fun j hj => World.ownsRow.cellAt (w := w) h j hj
      exact ⟨(q _ (by omega)).trans h1, (q _ (by omega)).trans h2⟩
theorem one_trs2 (w : World) (k : Nat) (t : Tp) (x : Int) (hx : (t.1.wt : Int) = x) : Trs2 (w.alloc (.cells #[.int .i64 x, .slice t.2 k k] 56)) w.heap.size 0 k [t] := by
  intro i u h
  match i, h with
  | 0, h =>
    simp at h
    subst h
    rw [hx]
    simp
theorem pks_take (R : List Th) (j : Nat) (h : 2 * j + 1 < R.length) : (pks R).take (j + 1) = (pks R).take j ++ [.pk (R.getD (2 * j) (.lf 0 0)) (R.getD (2 * j + 1) (.lf 0 0))] := by
  rw [List.take_add_one, pks_at R j (by omega)]; rfl

set_option maxHeartbeats 1000000 in
set_option maxRecDepth 1000000 in
theorem rnext_any (A1 A2 : Option Addr) (a1 a2 B k n1 n2 : Nat) (y : Nat → Nat) (L R : List Tp) (W : World) (hBW : B ≤ W.heap.size) (hk : k ≤ 320) (hl : L.length = n1) (hr : R.length = n2) (hn : n1 ≤ 320) (hm : n2 ≤ 640)
    (wl : ∀ x ∈ L, x.1.wt ≤ 1125899906842624) (wr : ∀ x ∈ R, x.1.wt ≤ 1125899906842624) (H1 : Th2 W A1 B k y L) (H2 : Th2 W A2 B k y R) :
    Calls Try.prog 23 #[.slice A1 n1 a1, .slice A2 n2 a2] W fun e w' => ∃ A' n' cap X, e = .returned (.slice A' n' cap) ∧ X.length = n' ∧ X.map (·.1) = mrg (L.map (·.1)) (pks (R.map (·.1))) ∧ Th2 w' A' B k y X ∧ Below W.heap.size W w' := by
  have HBW := Lib.hid hBW
  have NL := Lib.hid hl
  have NR := Lib.hid hr
  have K1 := Lib.hid H1
  have K2 := Lib.hid H2
  have WL := Lib.hid wl
  have WR := Lib.hid wr
  clear hl hr H1 H2 wl wr hBW
  go_enter Try.func23, Try.ntmps23
  go_wp2_with fail
  go_loopw [5, 7] (fun v i wr => ∃ (u j : Nat) (P : List Tp), i = .int .i64 u ∧ u ≤ 641 ∧ Hid (u = 2 * j ∧ P.length = j ∧ P.map (·.1) = (pks (R.map (·.1))).take j ∧ Ow2 W.heap.size wr v k P ∧ (∀ x ∈ P, Says wr B k y x) ∧ Below W.heap.size W wr)) (fun _ i _ => 700 - (intOf i).toNat)
  case atStart => exact ⟨0, 0, [], rfl, by omega, Lib.hid ⟨rfl, rfl, rfl, Ow2.nil _ _ _, fun x hx => (by cases hx), Below.refl _ _⟩⟩
  case round =>
    obtain ⟨u, j, P, rfl, hu, HB⟩ := hrel
    obtain ⟨v, hv⟩ : ∃ v, u + 1 = v := ⟨_, rfl⟩
    have ev : (u : Int) + 1 = (v : Int) := by omega
    have ev2 : IntKind.i64.wrap ((u : Int) + 1) = (v : Int) := by rw [IntWalk.i64_in _ (by omega)]; omega
    have ev3 : IntKind.i64.wrap (v : Int) = (v : Int) := IntWalk.i64_in _ (by omega)
    have HV := Lib.hid hv
    by_cases c1 : v < n2
    · have l1 : u < R.length := by rw [NR.out]; omega
      have l2 : v < R.length := by rw [NR.out]; exact c1
      have hun : u < n2 := by omega
      obtain ⟨b, o, rfl, hbs, ht⟩ := K2.out.1 (by omega)
      obtain ⟨x1, x2⟩ := ht u _ (List.getElem?_eq_getElem l1)
      obtain ⟨y1, y2⟩ := ht v _ (List.getElem?_eq_getElem l2)
      obtain ⟨gx, ex, gxl, bx⟩ := K2.out.2 _ (List.getElem_mem l1)
      obtain ⟨gy, ey, gyl, by_⟩ := K2.out.2 _ (List.getElem_mem l2)
      have wx := WR.out _ (List.getElem_mem l1)
      have wy := WR.out _ (List.getElem_mem l2)
      have HP := Lib.hid (show (pks (R.map (·.1))).take (j + 1) = (pks (R.map (·.1))).take j ++ [.pk R[u].1 R[v].1] by
        have e := HB.out.1
        rw [pks_take _ j (by rw [List.length_map]; omega), getD_map, getD_map]
        have f1 : 2 * j = u := e.symm
        have f2 : u + 1 = v := HV.out
        rw [f1, f2, List.getD, List.getD, List.getElem?_eq_getElem l1, List.getElem?_eq_getElem l2]; rfl)
      obtain ⟨p, hp⟩ : ∃ p, R[u] = p := ⟨_, rfl⟩
      obtain ⟨q, hq⟩ : ∃ q, R[v] = q := ⟨_, rfl⟩
      rw [hp] at x1 x2 ex bx wx HP
      rw [hq] at y1 y2 ey by_ wy HP
      obtain ⟨p, px⟩ := p
      obtain ⟨q, qx⟩ := q
      simp only at x1 x2 ex bx wx y1 y2 ey by_ wy HP
      subst ex ey
      have hbw := HB.out.2.2.2.2.2
      have x1' := (hbw.cell hbs.2).trans x1
      have x2' := (hbw.cell hbs.2).trans x2
      have y1' := (hbw.cell hbs.2).trans y1
      have y2' := (hbw.cell hbs.2).trans y2
      have BX := Lib.hid (bx.at' (hbw.block gx gxl.2))
      have BY := Lib.hid (by_.at' (hbw.block gy gyl.2))
      obtain ⟨xw, hxw⟩ : ∃ t, p.wt = t := ⟨_, rfl⟩
      obtain ⟨yw, hyw⟩ : ∃ t, q.wt = t := ⟨_, rfl⟩
      rw [hxw] at x1' wx
      rw [hyw] at y1' wy
      have HXW := Lib.hid (And.intro hxw hyw)
      clear x1 x2 y1 y2 ht hp hq l1 l2 bx by_ hv hbw hxw hyw
      go_wp2_with fail
      refine take_region (fun w' => w'.cell? ⟨b, o + u * 2, none⟩ = some (.int .i64 xw) ∧ w'.cell? ⟨b, o + u * 2 + 1, none⟩ = some (.slice (some ⟨gx, 0, none⟩) k k) ∧ w'.cell? ⟨b, o + v * 2, none⟩ = some (.int .i64 yw) ∧ w'.cell? ⟨b, o + v * 2 + 1, none⟩ = some (.slice (some ⟨gy, 0, none⟩) k k)) ⟨x1', x2', y1', y2'⟩ (fun h0 => ?_)
      first
      | (refine take_no (i := 0) (d := some 17) rfl rfl (by kernel_rfl) (by kernel_rfl) (by kernel_rfl) (fun _ _ _ h => h) (by rfl) h0 ?_; (try simp only [Act.put, List.setIfInBounds_toArray, List.set_cons_zero, List.set_cons_succ]))
      | (refine take_op (i := 0) (d := some 17) (v := ?_) rfl rfl (by kernel_rfl) (by kernel_rfl) (by kernel_rfl) (fun _ _ _ h => h) (by rfl) (fun w hSw => ?_) h0 ?_; rotate_left; (focus ((try dsimp only at hSw); go_simp; (try with_reducible rfl))); (try simp only [Act.put, List.setIfInBounds_toArray, List.set_cons_zero, List.set_cons_succ]))
      first
      | (refine take_no (i := 1) (d := some 18) rfl rfl (by kernel_rfl) (by kernel_rfl) (by kernel_rfl) (fun _ _ _ h => h) (by rfl) h0 ?_; (try simp only [Act.put, List.setIfInBounds_toArray, List.set_cons_zero, List.set_cons_succ]))
      | (refine take_op (i := 1) (d := some 18) (v := ?_) rfl rfl (by kernel_rfl) (by kernel_rfl) (by kernel_rfl) (fun _ _ _ h => h) (by rfl) (fun w hSw => ?_) h0 ?_; rotate_left; (focus ((try dsimp only at hSw); go_simp; (try with_reducible rfl))); (try simp only [Act.put, List.setIfInBounds_toArray, List.set_cons_zero, List.set_cons_succ]))
      first
      | (refine take_no (i := 2) (d := some 19) rfl rfl (by kernel_rfl) (by kernel_rfl) (by kernel_rfl) (fun _ _ _ h => h) (by rfl) h0 ?_; (try simp only [Act.put, List.setIfInBounds_toArray, List.set_cons_zero, List.set_cons_succ]))
      | (refine take_op (i := 2) (d := some 19) (v := ?_) rfl rfl (by kernel_rfl) (by kernel_rfl) (by kernel_rfl) (fun _ _ _ h => h) (by rfl) (fun w hSw => ?_) h0 ?_; rotate_left; (focus ((try dsimp only at hSw); go_simp; (try with_reducible rfl))); (try simp only [Act.put, List.setIfInBounds_toArray, List.set_cons_zero, List.set_cons_succ]))
      first
      | (refine take_no (i := 3) (d := some 20) rfl rfl (by kernel_rfl) (by kernel_rfl) (by kernel_rfl) (fun _ _ _ h => h) (by rfl) h0 ?_; (try simp only [Act.put, List.setIfInBounds_toArray, List.set_cons_zero, List.set_cons_succ]))
      | (refine take_op (i := 3) (d := some 20) (v := ?_) rfl rfl (by kernel_rfl) (by kernel_rfl) (by kernel_rfl) (fun _ _ _ h => h) (by rfl) (fun w hSw => ?_) h0 ?_; rotate_left; (focus ((try dsimp only at hSw); go_simp; (try with_reducible rfl))); (try simp only [Act.put, List.setIfInBounds_toArray, List.set_cons_zero, List.set_cons_succ]))
      first
      | (refine take_no (i := 4) (d := some 21) rfl rfl (by kernel_rfl) (by kernel_rfl) (by kernel_rfl) (fun _ _ _ h => h) (by rfl) h0 ?_; (try simp only [Act.put, List.setIfInBounds_toArray, List.set_cons_zero, List.set_cons_succ]))
      | (refine take_op (i := 4) (d := some 21) (v := ?_) rfl rfl (by kernel_rfl) (by kernel_rfl) (by kernel_rfl) (fun _ _ _ h => h) (by rfl) (fun w hSw => ?_) h0 ?_; rotate_left; (focus ((try dsimp only at hSw); go_simp; (try with_reducible rfl))); (try simp only [Act.put, List.setIfInBounds_toArray, List.set_cons_zero, List.set_cons_succ]))
      first
      | (refine take_no (i := 5) (d := some 22) rfl rfl (by kernel_rfl) (by kernel_rfl) (by kernel_rfl) (fun _ _ _ h => h) (by rfl) h0 ?_; (try simp only [Act.put, List.setIfInBounds_toArray, List.set_cons_zero, List.set_cons_succ]))
      | (refine take_op (i := 5) (d := some 22) (v := ?_) rfl rfl (by kernel_rfl) (by kernel_rfl) (by kernel_rfl) (fun _ _ _ h => h) (by rfl) (fun w hSw => ?_) h0 ?_; rotate_left; (focus ((try dsimp only at hSw); go_simp; (try with_reducible rfl))); (try simp only [Act.put, List.setIfInBounds_toArray, List.set_cons_zero, List.set_cons_succ]))
      first
      | (refine take_no (i := 6) (d := some 23) rfl rfl (by kernel_rfl) (by kernel_rfl) (by kernel_rfl) (fun _ _ _ h => h) (by rfl) h0 ?_; (try simp only [Act.put, List.setIfInBounds_toArray, List.set_cons_zero, List.set_cons_succ]))
      | (refine take_op (i := 6) (d := some 23) (v := ?_) rfl rfl (by kernel_rfl) (by kernel_rfl) (by kernel_rfl) (fun _ _ _ h => h) (by rfl) (fun w hSw => ?_) h0 ?_; rotate_left; (focus ((try dsimp only at hSw); go_simp; (try with_reducible rfl))); (try simp only [Act.put, List.setIfInBounds_toArray, List.set_cons_zero, List.set_cons_succ]))
      first
      | (refine take_no (i := 7) (d := some 24) rfl rfl (by kernel_rfl) (by kernel_rfl) (by kernel_rfl) (fun _ _ _ h => h) (by rfl) h0 ?_; (try simp only [Act.put, List.setIfInBounds_toArray, List.set_cons_zero, List.set_cons_succ]))
      | (refine take_op (i := 7) (d := some 24) (v := ?_) rfl rfl (by kernel_rfl) (by kernel_rfl) (by kernel_rfl) (fun _ _ _ h => h) (by rfl) (fun w hSw => ?_) h0 ?_; rotate_left; (focus ((try dsimp only at hSw); go_simp; (try with_reducible rfl))); (try simp only [Act.put, List.setIfInBounds_toArray, List.set_cons_zero, List.set_cons_succ]))
      first
      | (refine take_no (i := 8) (d := some 25) rfl rfl (by kernel_rfl) (by kernel_rfl) (by kernel_rfl) (fun _ _ _ h => h) (by rfl) h0 ?_; (try simp only [Act.put, List.setIfInBounds_toArray, List.set_cons_zero, List.set_cons_succ]))
      | (refine take_op (i := 8) (d := some 25) (v := ?_) rfl rfl (by kernel_rfl) (by kernel_rfl) (by kernel_rfl) (fun _ _ _ h => h) (by rfl) (fun w hSw => ?_) h0 ?_; rotate_left; (focus ((try dsimp only at hSw); go_simp; (try with_reducible rfl))); (try simp only [Act.put, List.setIfInBounds_toArray, List.set_cons_zero, List.set_cons_succ]))
      first
      | (refine take_no (i := 9) (d := some 26) rfl rfl (by kernel_rfl) (by kernel_rfl) (by kernel_rfl) (fun _ _ _ h => h) (by rfl) h0 ?_; (try simp only [Act.put, List.setIfInBounds_toArray, List.set_cons_zero, List.set_cons_succ]))
      | (refine take_op (i := 9) (d := some 26) (v := ?_) rfl rfl (by kernel_rfl) (by kernel_rfl) (by kernel_rfl) (fun _ _ _ h => h) (by rfl) (fun w hSw => ?_) h0 ?_; rotate_left; (focus ((try dsimp only at hSw); go_simp; (try with_reducible rfl))); (try simp only [Act.put, List.setIfInBounds_toArray, List.set_cons_zero, List.set_cons_succ]))
      refine take_call (i := 10) (by kernel_rfl) rfl (fun K hK => ?_)
      go_simp
      refine (rboth_any xw yw gx gy k _ _ _ hk wx wy BX.out.drew BY.out.drew).mono ?_; rintro e w3 ⟨g3, rfl, q1, q2, q3⟩
      have cb : b < wr.drew.heap.size := World.block_lt_of_cell? _ _ x1'
      refine hK.out _ _ ⟨(q3.cell cb).trans x1', (q3.cell cb).trans x2', (q3.cell cb).trans y1', (q3.cell cb).trans y2'⟩ (fun h1 => ?_)
      clear hK K h0
      (try simp only [Act.put, List.setIfInBounds_toArray, List.set_cons_zero, List.set_cons_succ])
      refine take_call (i := 11) (by kernel_rfl) rfl (fun K hK => ?_)
      go_simp
      have b3 := (Below.refl w3.heap.size w3).alloc (Nat.le_refl _) (.cells #[.int .i64 ((xw + yw : Nat) : Int), .slice (some ⟨g3, 0, none⟩) k k] 56)
      have cb3 : b < w3.heap.size := World.block_lt_of_cell? _ _ h1.1
      refine hK.out _ _ ⟨(b3.cell cb3).trans h1.1, (b3.cell cb3).trans h1.2.1, (b3.cell cb3).trans h1.2.2.1, (b3.cell cb3).trans h1.2.2.2⟩ (fun h2 => ?_)
      clear hK K h1
      (try simp only [Act.put, List.setIfInBounds_toArray, List.set_cons_zero, List.set_cons_succ])
      refine take_call (i := 12) (by kernel_rfl) rfl (fun K hK => ?_)
      rw [if_pos (by rfl)]
      have HO := (HB.out.2.2.2.1.drew.below q3).alloc (.cells #[.int .i64 ((xw + yw : Nat) : Int), .slice (some ⟨g3, 0, none⟩) k k] 56)
      have HT := one_trs2 w3 k (Th.pk p q, some ⟨g3, 0, none⟩) ((xw + yw : Nat) : Int) (by simp only [Th.wt]; rw [HXW.out.1, HXW.out.2])
      have hs3 : W.heap.size ≤ (w3.alloc (.cells #[.int .i64 ((xw + yw : Nat) : Int), .slice (some ⟨g3, 0, none⟩) k k] 56)).heap.size := by have e1 := HB.out.2.2.2.2.2.size; have e2 := q3.size; simp at e2 ⊢; omega
      have hpl : P.length ≤ 1000 := by have := HB.out.1; have := HB.out.2.1; omega
      refine wp_ap2 (d := some 29) rfl (.tmp 17) (.tmp 28) rfl W.heap.size k _ P [(Th.pk p q, some ⟨g3, 0, none⟩)] rfl HO w3.heap.size 0 1 1 rfl rfl HT (by simp; omega) hs3 ?_
      intro v4 w4 o4 g4 b4 k4
      refine hK.out _ _ ⟨(b4.cell (Nat.lt_of_lt_of_le hbs.2 (Nat.le_refl _))).trans h2.1, (b4.cell (Nat.lt_of_lt_of_le hbs.2 (Nat.le_refl _))).trans h2.2.1, (b4.cell (Nat.lt_of_lt_of_le hbs.2 (Nat.le_refl _))).trans h2.2.2.1, (b4.cell (Nat.lt_of_lt_of_le hbs.2 (Nat.le_refl _))).trans h2.2.2.2⟩ (fun h3 => ?_)
      clear hK K h2
      (try simp only [Act.put, List.setIfInBounds_toArray, List.set_cons_zero, List.set_cons_succ])
      first
      | (refine take_no (i := 13) (d := some 5) rfl rfl (by kernel_rfl) (by kernel_rfl) (by kernel_rfl) (fun _ _ _ h => h) (by rfl) h3 ?_; (try simp only [Act.put, List.setIfInBounds_toArray, List.set_cons_zero, List.set_cons_succ]))
      | (refine take_op (i := 13) (d := some 5) (v := ?_) rfl rfl (by kernel_rfl) (by kernel_rfl) (by kernel_rfl) (fun _ _ _ h => h) (by rfl) (fun w hSw => ?_) h3 ?_; rotate_left; (focus ((try dsimp only at hSw); go_simp; (try with_reducible rfl))); (try simp only [Act.put, List.setIfInBounds_toArray, List.set_cons_zero, List.set_cons_succ]))
      refine wpAnyH_done (by kernel_rfl) ?_ _

      have O4 := Lib.hid o4
      have bal := (Below.refl w3.heap.size w3).alloc (Nat.le_refl _) (.cells #[.int .i64 ((xw + yw : Nat) : Int), .slice (some ⟨g3, 0, none⟩) k k] 56)
      have B0 : Below W.heap.size W wr.drew := HB.out.2.2.2.2.2.drew
      have S4 : Hid (∀ x ∈ P ++ [(Th.pk p q, some ⟨g3, 0, none⟩)], Says w4 B k y x) := Lib.hid (fun x hx => by
        rcases List.mem_append.1 hx with hx | hx
        · have s1 : Says wr.drew B k y x := HB.out.2.2.2.2.1 x hx
          exact ((s1.below q3).below bal).grown HO g4 b4.size
        · obtain rfl : x = (Th.pk p q, some ⟨g3, 0, none⟩) := List.mem_singleton.1 hx
          have s1 : Says w3 B k y (Th.pk p q, some ⟨g3, 0, none⟩) := ⟨g3, rfl, ⟨Nat.le_trans HBW.out (Nat.le_trans B0.size q1), q2.lt⟩, q2.congr (fun j _ => by
            show (Th.cn (y j) p % 256 + Th.cn (y j) q % 256) % 256 = (Th.cn (y j) p + Th.cn (y j) q) % 256
            omega)⟩
          exact (s1.below bal).grown HO g4 b4.size)
      have B4 := Lib.hid (((B0.trans (q3.mono B0.size)).trans (bal.mono (Nat.le_trans B0.size q3.size))).trans b4)
      clear o4 g4 b4 k4 h3 HO HT hs3 hpl q1 q2 q3 cb cb3 b3 bal B0
      go_wp2_with fail
      go_roundw
      case rel => exact ⟨u + 2, j + 1, P ++ [(Th.pk p q, some ⟨g3, 0, none⟩)], by go_num, by omega, Lib.hid ⟨by have := HB.out.1; omega, by rw [List.length_append, HB.out.2.1]; rfl, by rw [List.map_append, HB.out.2.2.1, HP.out]; rfl, O4.out, S4.out, B4.out⟩⟩
      case measure => simp [intOf]; omega
    · have HPK := Lib.hid (show P.map (·.1) = pks (R.map (·.1)) by
        rw [HB.out.2.2.1, List.take_of_length_le (by rw [pks_length, List.length_map, NR.out]; have := HB.out.1; have := HV.out; omega)])
      have NPL := Lib.hid (show P.length ≤ 320 by have := congrArg List.length HPK.out; rw [List.length_map, pks_length, List.length_map, NR.out] at this; omega)
      obtain ⟨A5, c5, hu5, hp5⟩ := HB.out.2.2.2.1.parts
      subst hu5
      have J2 := Lib.hid (show Th2 wr A5 B k y P from ⟨fun h0 => by obtain ⟨b, o, e1, e2, e3⟩ := hp5 h0; exact ⟨b, o, e1, ⟨Nat.le_trans HBW.out e2.1, e2.2⟩, e3⟩, HB.out.2.2.2.2.1⟩)
      have J1 := Lib.hid (K1.out.below (HB.out.2.2.2.2.2))
      have BW := Lib.hid HB.out.2.2.2.2.2
      obtain ⟨pn, hpn⟩ : ∃ n, P.length = n := ⟨_, rfl⟩
      rw [hpn] at NPL ⊢
      have hp320 := NPL.out
      have NP := Lib.hid hpn
      obtain ⟨w1, hw1⟩ : ∃ w, w = wr := ⟨_, rfl⟩
      rw [← hw1] at J1 J2 BW ⊢
      clear hp5 hpn HB hv hw1
      go_wp2_with fail
      clear ev ev2 ev3 HV c1 hu
      go_loopw [6, 8, 9] (fun v i0 j0 wr => ∃ (i j : Nat) (X : List Tp), i0 = .int .i64 i ∧ j0 = .int .i64 j ∧ i ≤ n1 ∧ j ≤ pn ∧ Hid (X ++ mr2 (L.drop i) (P.drop j) = mr2 L P ∧ X.length = i + j ∧ Ow2 w1.heap.size wr v k X ∧ Below w1.heap.size w1 wr)) (fun _ i0 j0 _ => n1 + pn - (intOf i0).toNat - (intOf j0).toNat)
      case atStart => exact ⟨0, 0, [], rfl, rfl, Nat.zero_le _, Nat.zero_le _, Lib.hid ⟨rfl, rfl, Ow2.nil _ _ _, Below.refl _ _⟩⟩
      case round =>
        obtain ⟨i, j, X, rfl, rfl, hi0, hj0, HB⟩ := hrel
        by_cases hi : i < n1
        · by_cases hj : j < pn
          · have d0 : decide (pn ≤ j) = false := decide_eq_false (by omega)
            have l1 : i < L.length := by rw [NL.out]; exact hi
            obtain ⟨b, o, rfl, hbs, ht⟩ := J1.out.1 (by omega)
            obtain ⟨x1, x2⟩ := ht i _ (List.getElem?_eq_getElem l1)
            have HG := Lib.hid (List.getElem?_eq_getElem l1)
            have wx := WL.out _ (List.getElem_mem l1)
            obtain ⟨t, htt⟩ : ∃ t, L[i] = t := ⟨_, rfl⟩
            rw [htt] at x1 x2 HG wx
            obtain ⟨xw, hxw⟩ : ∃ z, t.1.wt = z := ⟨_, rfl⟩
            rw [hxw] at x1 wx
            have HXW := Lib.hid hxw
            have x1' := (HB.out.2.2.2.cell hbs.2).trans x1
            have x2' := (HB.out.2.2.2.cell hbs.2).trans x2
            clear x1 x2 ht htt hxw l1
            have l2 : j < P.length := by rw [NP.out]; exact hj
            obtain ⟨b2, o2, rfl, hbs2, ht2⟩ := J2.out.1 (by omega)
            obtain ⟨y1, y2⟩ := ht2 j _ (List.getElem?_eq_getElem l2)
            have HG2 := Lib.hid (List.getElem?_eq_getElem l2)
            obtain ⟨t2, htt2⟩ : ∃ t, P[j] = t := ⟨_, rfl⟩
            rw [htt2] at y1 y2 HG2
            obtain ⟨yw, hyw⟩ : ∃ z, t2.1.wt = z := ⟨_, rfl⟩
            rw [hyw] at y1
            have HYW := Lib.hid hyw
            have y1' := (HB.out.2.2.2.cell hbs2.2).trans y1
            have y2' := (HB.out.2.2.2.cell hbs2.2).trans y2
            clear y1 y2 ht2 htt2 hyw l2
            by_cases hc : xw ≤ yw
            · have d1 : decide (xw ≤ yw) = true := decide_eq_true hc
              have HO := Lib.hid (show ∀ q : Nat, Ow2 w1.heap.size ((wr.drewN q).alloc (.cells #[.int .i64 (xw : Nat), .slice t.2 k k] 56)) u6 k X from fun q => ((HB.out.2.2.1.drewN q).alloc _))
              have HT := Lib.hid (fun q : Nat => one_trs2 (wr.drewN q) k t ((xw : Nat) : Int) (by rw [HXW.out]))
              have HS := Lib.hid (show ∀ q : Nat, w1.heap.size ≤ ((wr.drewN q).alloc (.cells #[.int .i64 (xw : Nat), .slice t.2 k k] 56)).heap.size from fun q => by have := HB.out.2.2.2.size; simp [World.drewN]; omega)
              have HM := Lib.hid (show X.length + [t].length ≤ 2000 by rw [HB.out.2.1]; simp; omega)
              have HA := Lib.hid (show Below w1.heap.size w1 (wr.alloc (.cells #[.int .i64 (xw : Nat), .slice t.2 k k] 56)) from HB.out.2.2.2.alloc HB.out.2.2.2.size (.cells #[.int .i64 (xw : Nat), .slice t.2 k k] 56))
              have HE := Lib.hid (show (X ++ [t]) ++ mr2 (L.drop (i + 1)) (P.drop j) = mr2 L P by rw [List.append_assoc, List.singleton_append, ← mr2_leaf HG.out (fun z hz => by rw [HG2.out] at hz; obtain rfl := Option.some.inj hz; rw [HXW.out, HYW.out]; omega)]; exact HB.out.1)
              go_wp2_with fail
              go_quiet (fail)
              go_wp2_with (at_builtin; refine wpList_ap2 rfl _ _ rfl w1.heap.size k _ X [t] rfl (HO.out _) _ 0 1 1 rfl rfl (HT.out _) HM.out (HS.out _) ?_; intro v2 w2 o3 g3 b3 k3; have O2 := Lib.hid o3; have B2 := Lib.hid b3; clear o3 g3 b3 k3)
              go_roundw
              case rel => exact ⟨(i + 1), j, X ++ [t], by go_num, by go_num, by omega, by omega, Lib.hid ⟨HE.out, by rw [List.length_append, HB.out.2.1]; simp; omega, O2.out, (below_drewN HA.out _).trans B2.out⟩⟩
              case measure => simp [intOf]; omega
            · have d1 : decide (xw ≤ yw) = false := decide_eq_false hc
              have HO := Lib.hid (show ∀ q : Nat, Ow2 w1.heap.size ((wr.drewN q).alloc (.cells #[.int .i64 (yw : Nat), .slice t2.2 k k] 56)) u6 k X from fun q => ((HB.out.2.2.1.drewN q).alloc _))
              have HT := Lib.hid (fun q : Nat => one_trs2 (wr.drewN q) k t2 ((yw : Nat) : Int) (by rw [HYW.out]))
              have HS := Lib.hid (show ∀ q : Nat, w1.heap.size ≤ ((wr.drewN q).alloc (.cells #[.int .i64 (yw : Nat), .slice t2.2 k k] 56)).heap.size from fun q => by have := HB.out.2.2.2.size; simp [World.drewN]; omega)
              have HM := Lib.hid (show X.length + [t2].length ≤ 2000 by rw [HB.out.2.1]; simp; omega)
              have HA := Lib.hid (show Below w1.heap.size w1 (wr.alloc (.cells #[.int .i64 (yw : Nat), .slice t2.2 k k] 56)) from HB.out.2.2.2.alloc HB.out.2.2.2.size (.cells #[.int .i64 (yw : Nat), .slice t2.2 k k] 56))
              have HE := Lib.hid (show (X ++ [t2]) ++ mr2 (L.drop i) (P.drop (j + 1)) = mr2 L P by rw [List.append_assoc, List.singleton_append, ← mr2_pk HG2.out (fun z hz => by rw [HG.out] at hz; obtain rfl := Option.some.inj hz; rw [HXW.out, HYW.out]; omega)]; exact HB.out.1)
              go_wp2_with fail
              go_quiet (fail)
              go_wp2_with (at_builtin; refine wpList_ap2 rfl _ _ rfl w1.heap.size k _ X [t2] rfl (HO.out _) _ 0 1 1 rfl rfl (HT.out _) HM.out (HS.out _) ?_; intro v2 w2 o3 g3 b3 k3; have O2 := Lib.hid o3; have B2 := Lib.hid b3; clear o3 g3 b3 k3)
              go_roundw
              case rel => exact ⟨i, (j + 1), X ++ [t2], by go_num, by go_num, by omega, by omega, Lib.hid ⟨HE.out, by rw [List.length_append, HB.out.2.1]; simp; omega, O2.out, (below_drewN HA.out _).trans B2.out⟩⟩
              case measure => simp [intOf]; omega
          · obtain rfl : j = pn := by omega
            have d0 : decide (j ≤ j) = true := decide_eq_true (Nat.le_refl _)
            have l1 : i < L.length := by rw [NL.out]; exact hi
            obtain ⟨b, o, rfl, hbs, ht⟩ := J1.out.1 (by omega)
            obtain ⟨x1, x2⟩ := ht i _ (List.getElem?_eq_getElem l1)
            have HG := Lib.hid (List.getElem?_eq_getElem l1)
            have wx := WL.out _ (List.getElem_mem l1)
            obtain ⟨t, htt⟩ : ∃ t, L[i] = t := ⟨_, rfl⟩
            rw [htt] at x1 x2 HG wx
            obtain ⟨xw, hxw⟩ : ∃ z, t.1.wt = z := ⟨_, rfl⟩
            rw [hxw] at x1 wx
            have HXW := Lib.hid hxw
            have x1' := (HB.out.2.2.2.cell hbs.2).trans x1
            have x2' := (HB.out.2.2.2.cell hbs.2).trans x2
            clear x1 x2 ht htt hxw l1
            have HO := Lib.hid (show ∀ q : Nat, Ow2 w1.heap.size ((wr.drewN q).alloc (.cells #[.int .i64 (xw : Nat), .slice t.2 k k] 56)) u6 k X from fun q => ((HB.out.2.2.1.drewN q).alloc _))
            have HT := Lib.hid (fun q : Nat => one_trs2 (wr.drewN q) k t ((xw : Nat) : Int) (by rw [HXW.out]))
            have HS := Lib.hid (show ∀ q : Nat, w1.heap.size ≤ ((wr.drewN q).alloc (.cells #[.int .i64 (xw : Nat), .slice t.2 k k] 56)).heap.size from fun q => by have := HB.out.2.2.2.size; simp [World.drewN]; omega)
            have HM := Lib.hid (show X.length + [t].length ≤ 2000 by rw [HB.out.2.1]; simp; omega)
            have HA := Lib.hid (show Below w1.heap.size w1 (wr.alloc (.cells #[.int .i64 (xw : Nat), .slice t.2 k k] 56)) from HB.out.2.2.2.alloc HB.out.2.2.2.size (.cells #[.int .i64 (xw : Nat), .slice t.2 k k] 56))
            have HE := Lib.hid (show (X ++ [t]) ++ mr2 (L.drop (i + 1)) (P.drop j) = mr2 L P by rw [List.append_assoc, List.singleton_append, ← mr2_leaf HG.out (fun z hz => by have := (List.getElem?_eq_some_iff.1 hz).1; rw [NP.out] at this; omega)]; exact HB.out.1)
            go_wp2_with fail
            go_quiet (fail)
            go_wp2_with (at_builtin; refine wpList_ap2 rfl _ _ rfl w1.heap.size k _ X [t] rfl (HO.out _) _ 0 1 1 rfl rfl (HT.out _) HM.out (HS.out _) ?_; intro v2 w2 o3 g3 b3 k3; have O2 := Lib.hid o3; have B2 := Lib.hid b3; clear o3 g3 b3 k3)
            go_roundw
            case rel => exact ⟨(i + 1), j, X ++ [t], by go_num, by go_num, by omega, by omega, Lib.hid ⟨HE.out, by rw [List.length_append, HB.out.2.1]; simp; omega, O2.out, (below_drewN HA.out _).trans B2.out⟩⟩
            case measure => simp [intOf]; omega
        · obtain rfl : i = n1 := by omega
          by_cases hj : j < pn
          · have d0 : decide (pn ≤ j) = false := decide_eq_false (by omega)
            have l2 : j < P.length := by rw [NP.out]; exact hj
            obtain ⟨b2, o2, rfl, hbs2, ht2⟩ := J2.out.1 (by omega)
            obtain ⟨y1, y2⟩ := ht2 j _ (List.getElem?_eq_getElem l2)
            have HG2 := Lib.hid (List.getElem?_eq_getElem l2)
            obtain ⟨t2, htt2⟩ : ∃ t, P[j] = t := ⟨_, rfl⟩
            rw [htt2] at y1 y2 HG2
            obtain ⟨yw, hyw⟩ : ∃ z, t2.1.wt = z := ⟨_, rfl⟩
            rw [hyw] at y1
            have HYW := Lib.hid hyw
            have y1' := (HB.out.2.2.2.cell hbs2.2).trans y1
            have y2' := (HB.out.2.2.2.cell hbs2.2).trans y2
            clear y1 y2 ht2 htt2 hyw l2
            have HO := Lib.hid (show ∀ q : Nat, Ow2 w1.heap.size ((wr.drewN q).alloc (.cells #[.int .i64 (yw : Nat), .slice t2.2 k k] 56)) u6 k X from fun q => ((HB.out.2.2.1.drewN q).alloc _))
            have HT := Lib.hid (fun q : Nat => one_trs2 (wr.drewN q) k t2 ((yw : Nat) : Int) (by rw [HYW.out]))
            have HS := Lib.hid (show ∀ q : Nat, w1.heap.size ≤ ((wr.drewN q).alloc (.cells #[.int .i64 (yw : Nat), .slice t2.2 k k] 56)).heap.size from fun q => by have := HB.out.2.2.2.size; simp [World.drewN]; omega)
            have HM := Lib.hid (show X.length + [t2].length ≤ 2000 by rw [HB.out.2.1]; simp; omega)
            have HA := Lib.hid (show Below w1.heap.size w1 (wr.alloc (.cells #[.int .i64 (yw : Nat), .slice t2.2 k k] 56)) from HB.out.2.2.2.alloc HB.out.2.2.2.size (.cells #[.int .i64 (yw : Nat), .slice t2.2 k k] 56))
            have HE := Lib.hid (show (X ++ [t2]) ++ mr2 (L.drop i) (P.drop (j + 1)) = mr2 L P by rw [List.append_assoc, List.singleton_append, ← mr2_pk HG2.out (fun z hz => by have := (List.getElem?_eq_some_iff.1 hz).1; rw [NL.out] at this; omega)]; exact HB.out.1)
            go_wp2_with fail
            go_quiet (fail)
            go_wp2_with (at_builtin; refine wpList_ap2 rfl _ _ rfl w1.heap.size k _ X [t2] rfl (HO.out _) _ 0 1 1 rfl rfl (HT.out _) HM.out (HS.out _) ?_; intro v2 w2 o3 g3 b3 k3; have O2 := Lib.hid o3; have B2 := Lib.hid b3; clear o3 g3 b3 k3)
            go_roundw
            case rel => exact ⟨i, (j + 1), X ++ [t2], by go_num, by go_num, by omega, by omega, Lib.hid ⟨HE.out, by rw [List.length_append, HB.out.2.1]; simp; omega, O2.out, (below_drewN HA.out _).trans B2.out⟩⟩
            case measure => simp [intOf]; omega
          · obtain rfl : j = pn := by omega
            have HX := Lib.hid (show X = mr2 L P by
              have := HB.out.1
              rw [List.drop_eq_nil_of_le (by rw [NL.out]; omega), List.drop_eq_nil_of_le (by rw [NP.out]; omega), mr2_nil, List.append_nil] at this
              exact this)
            obtain ⟨A6, c6, hu6, hp6⟩ := HB.out.2.2.1.parts
            subst hu6
            have HF : Hid (Th2 wr A6 B k y X) := Lib.hid ⟨fun h0 => by obtain ⟨b, o, e1, e2, e3⟩ := hp6 h0; exact ⟨b, o, e1, ⟨Nat.le_trans HBW.out (Nat.le_trans BW.out.size e2.1), e2.2⟩, e3⟩, fun x hx => by
              rw [HX.out] at hx
              rcases mr2_mem x L P hx with g | g
              · exact (J1.out.2 x g).below HB.out.2.2.2
              · exact (J2.out.2 x g).below HB.out.2.2.2⟩
            clear hp6
            go_wp2_with fail
            go_ret
            exact ⟨A6, X.length, c6, X, rfl, rfl, by rw [HX.out, mr2_fst, HPK.out], HF.out, BW.out.trans (HB.out.2.2.2.mono BW.out.size)⟩
end Go.Proofs.Yteicamfelamfhaa
