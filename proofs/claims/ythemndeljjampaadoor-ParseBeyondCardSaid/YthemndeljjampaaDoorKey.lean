/- Maps of slices of ints, keyed by three bytes: what they read as, as a function of bytes; a finder in memory. Conditions: as each theorem names them. -/
import Derived.Test.YthemndeljjampaaDoorEnt
import Derived.Test.YthemndeljjampaaDoorMathC
import Derived.Test.YthemndeljjampaaDoorLay
import Derived.Test.YthemndeljjampaaDoorFrm
import Derived.Test.YthemndeljjampaaDoorChecked
import Derived.DeepKeys4
import Derived.KernelRfl
import Derived.Deep.OwnRows
namespace Go.Proofs.YthemndeljjampaaDoor
open Go Go.RowKit M
open Go.ChangeShapes (lits)
set_option linter.unusedVariables false

theorem laidAll : laidOutB Tryd.prog = true := by kernel_rfl
theorem rowWide : (match Tryd.prog.underlying 75 with | some (.array _ _) | some (.struct _) => true | _ => false) = true := by kernel_rfl
set_option maxRecDepth 1000000 in
theorem rowDeep : WideMaps.KeyLaw Tryd.prog 75 := deep_law_laid laidAll (m := 2) (by omega) (of_decide_eq_true (by kernel_rfl)) (by kernel_rfl) rowWide
theorem rowLaw : Maps.Keyed Tryd.prog 75 := Maps.Keyed.of_law rowDeep

/-- three bytes as a value -/
def rkey (a b c : Nat) : Value := .agg #[.int .u8 a, .int .u8 b, .int .u8 c]
/-- .. as a key -/
def rk (a b c : Nat) : Lit := .string (keyBytes [.int .u8 a, .int .u8 b, .int .u8 c])
theorem rowTy : Tryd.prog.keyType 75 = true := by kernel_rfl
theorem rowCells : Tryd.prog.cellsOf 75 = 3 := by kernel_rfl
theorem u8Cells : Tryd.prog.cellsOf 5 = 1 := by kernel_rfl
theorem tySize : ∃ d, Tryd.prog.types.size = d + 1 := ⟨Tryd.prog.types.size - 1, by have : (0 : Nat) < Tryd.prog.types.size := of_decide_eq_true (by kernel_rfl); omega⟩

theorem u8_wf {a : Nat} (h : a ≤ 255) : (Lit.int .u8 (a : Int)).wf = true := by simp [Lit.wf, IntKind.min, IntKind.max, IntKind.signed, IntKind.bits]; omega
theorem keyLits_row (a b c : Nat) (ha : a ≤ 255) (hb : b ≤ 255) (hc : c ≤ 255) : Tryd.prog.keyLits (Tryd.prog.types.size + 1) 75 [.int .u8 a, .int .u8 b, .int .u8 c] = some [.int .u8 a, .int .u8 b, .int .u8 c] := by
  obtain ⟨d, hd⟩ := tySize
  have e1 : ∀ x : Nat, x ≤ 255 → Tryd.prog.keyLits (d + 1) 5 [.int .u8 (x : Int)] = some [.int .u8 (x : Int)] := fun x hx => by
    rw [Program.keyLits.eq_def]
    simp only [Tryd.underlying5]
    simp [u8_wf hx]
  rw [hd, Program.keyLits.eq_def]
  simp only [Tryd.underlying75]
  rw [if_pos (by rw [rowCells]; rfl)]
  have e2 : (List.range 3) = [0, 1, 2] := rfl
  rw [e2]
  simp [u8Cells, e1 a ha, e1 b hb, e1 c hc]
set_option maxRecDepth 1000000 in
theorem rk_some {a b c : Nat} (ha : a ≤ 255) (hb : b ≤ 255) (hc : c ≤ 255) : keyOf Tryd.prog 75 (rkey a b c) = some (rk a b c) := by
  have hf : (rkey a b c).formed Tryd.prog 75 = true := by simp [rkey, Value.formed, Tryd.underlying75, rowCells]
  have hk := keyLits_row a b c ha hb hc
  unfold keyOf
  simp only [Tryd.underlying75]
  rw [if_pos (by rw [rowTy, hf]; rfl)]
  show (Tryd.prog.keyLits (Tryd.prog.types.size + 1) 75 [.int .u8 a, .int .u8 b, .int .u8 c]).map _ = _
  rw [hk]; rfl
theorem rkey_inj {a b c a' b' c' : Nat} (h : rkey a b c = rkey a' b' c') : a = a' ∧ b = b' ∧ c = c' := by
  unfold rkey at h
  injection h with h
  simp at h
  omega
theorem rk_inj {a b c a' b' c' : Nat} (ha : a ≤ 255) (hb : b ≤ 255) (hc : c ≤ 255) (ha' : a' ≤ 255) (hb' : b' ≤ 255) (hc' : c' ≤ 255) (h : rk a b c = rk a' b' c') : a = a' ∧ b = b' ∧ c = c' :=
  rkey_inj (rowLaw.inj (rk_some ha hb hc) (by rw [h]; exact rk_some ha' hb' hc'))
theorem rk_key (a b c : Nat) : WideAt.IsKeyLit (rk a b c) := trivial

/-- numbers as ints -/
def ints (l : List Nat) : List Int := l.map fun x : Nat => (x : Int)
theorem ints_length (l : List Nat) : (ints l).length = l.length := by simp [ints]
theorem ints_snoc (l : List Nat) (x : Nat) : ints (l ++ [x]) = ints l ++ [(x : Int)] := by simp [ints]
theorem ints_inj {l l' : List Nat} (h : ints l = ints l') : l = l' := by
  unfold ints at h
  exact (List.map_inj_right (fun a b hab => by omega)).1 h
theorem lits_inj {q : IntKind} {l l' : List Int} (h : (lits q l : List (DataW Value)) = lits q l') : l = l' := by
  unfold lits at h
  exact (List.map_inj_right (fun a b hab => by injection hab with e; injection e)).1 h

/-- a map of groups reads as G: what stands at a key -/
structure Dic (D : DataW Value) (G : Nat → Nat → Nat → List Nat) : Prop where
  isMap : Maps.IsMap D
  yes : ∀ a b c, a ≤ 255 → b ≤ 255 → c ≤ 255 → D.atKey (rk a b c) .nil = if G a b c = [] then .nil else .slice (lits .i64 (ints (G a b c))) []
section
variable {D : DataW Value} {G G' : Nat → Nat → Nat → List Nat}
theorem Dic.empty : Dic (.map []) (fun _ _ _ => []) := ⟨Maps.isMap_empty, fun a b c _ _ _ => by
  rw [if_pos rfl]
  rw [Maps.atKey_of_not_has (show Maps.has (.map []) (rk a b c) = false by simp [Maps.has])]⟩
theorem Dic.congr (h : Dic D G) (e : ∀ a b c, a ≤ 255 → b ≤ 255 → c ≤ 255 → G a b c = G' a b c) : Dic D G' := ⟨h.isMap, fun a b c ha hb hc => by rw [← e a b c ha hb hc]; exact h.yes a b c ha hb hc⟩
theorem Dic.put (h : Dic D G) {a b c : Nat} (ha : a ≤ 255) (hb : b ≤ 255) (hc : c ≤ 255) (l : List Nat) (hl : l ≠ []) : Dic (D.put (rk a b c) (.slice (lits .i64 (ints l)) [])) (fun a' b' c' => if a' = a ∧ b' = b ∧ c' = c then l else G a' b' c') := by
  refine ⟨h.isMap.put _ _, fun a' b' c' ha' hb' hc' => ?_⟩
  by_cases q : a' = a ∧ b' = b ∧ c' = c
  · rw [if_pos q, if_neg hl]
    obtain ⟨rfl, rfl, rfl⟩ := q
    exact Maps.atKey_put_same h.isMap (rk_key _ _ _) _ _
  · rw [if_neg q, Maps.atKey_put_other (fun k => q (rk_inj ha' hb' hc' ha hb hc k))]
    exact h.yes a' b' c' ha' hb' hc'
/-- what a key's slice owns -/
theorem Dic.owned (h : Dic D G) {a b c : Nat} (ha : a ≤ 255) (hb : b ≤ 255) (hc : c ≤ 255) {w : World} {base : Nat} {e : TypeId} {v : Value} {zs : List Int} (hat : D.atKey (rk a b c) .nil = rowDatum .i64 v zs) (ho : w.ownsInts base e .i64 v zs) : zs = ints (G a b c) := by
  rw [h.yes a b c ha hb hc] at hat
  by_cases q : G a b c = []
  · rw [if_pos q] at hat
    rcases ho.datum (H := Value) with ⟨_, h2⟩ | h2
    · rw [h2, q]; rfl
    · rw [h2] at hat; cases hat
  · rw [if_neg q] at hat
    rcases ho.datum (H := Value) with ⟨h1, _⟩ | h2
    · rw [h1] at hat; cases hat
    · rw [h2] at hat
      injection hat with hat
      exact (lits_inj hat).symm
end

/-! a finder in memory: its block F, the text s, the places L that were put -/
/-- the last place that was put -/
def lst (L : List Nat) : Int := match L.getLast? with | some x => (x : Int) | none => -1
theorem lst_snoc (L : List Nat) (x : Nat) : lst (L ++ [x]) = x := by simp [lst]
theorem lst_nil : lst [] = -1 := rfl
/-- its blocks lie from B on; la is what it holds as the last place -/
structure Fd (w : World) (B F : Nat) (s : ByteArray) (L : List Nat) (la : Int) : Prop where
  c0 : w.cell? ⟨F, 0, none⟩ = some (.string s)
  c1 : w.cell? ⟨F, 1, none⟩ = some (.int .i64 la)
  fz : w.frozen? ⟨F, 1, none⟩ = false
  own : ∃ b base D, w.cell? ⟨F, 2, none⟩ = some (.map (some b)) ∧ w.ownsGroups Tryd.prog 75 base 3 .i64 b L.length D ∧ Dic D (grp s L) ∧ F < base ∧ base ≤ w.heap.size ∧ F ≠ b ∧ B ≤ b
  base : B ≤ F
  rise : L.Pairwise (· < ·)
  most : ∀ p, p ∈ L → p < s.size
  len : s.size ≤ 1048576
section
variable {w w' : World} {B F : Nat} {s : ByteArray} {L : List Nat} {la : Int}
theorem below_grown (h : Below w.heap.size w w') : w.grownBy w' none := ⟨h.os, h.tape, h.output, h.size, fun k hk _ => h.block k hk⟩
theorem Fd.lt (h : Fd w B F s L la) : F < w.heap.size := World.block_lt_of_cell? _ _ h.c0
theorem Fd.below (h : Fd w B F s L la) (hb : Below w.heap.size w w') : Fd w' B F s L la := by
  obtain ⟨b, base, D, h1, h2, h3, h4, h5, h6⟩ := h.own
  have hc := fun o => hb.cell (p := ⟨F, o, none⟩) h.lt
  refine ⟨(hc 0).trans h.c0, (hc 1).trans h.c1, (hb.frozen (p := ⟨F, 1, none⟩) h.lt).trans h.fz, ⟨b, base, D, (hc 2).trans h1, ?_, h3, h4, Nat.le_trans h5 hb.size, h6⟩, h.base, h.rise, h.most, h.len⟩
  exact h2.kept (below_grown hb) (by simp) (fun es clock _ x _ => by
    cases x.val.ownBlock <;> simp)
theorem Fd.count (h : Fd w B F s L la) : L.length ≤ s.size := by
  -- rising places below a bound are no more than it
  have : ∀ (l : List Nat) (n : Nat), l.Pairwise (· < ·) → (∀ p, p ∈ l → p < n) → l.length ≤ n := by
    intro l
    induction l with
    | nil => intro n _ _; exact Nat.zero_le _
    | cons x r ih =>
      intro n hp hm
      obtain ⟨h1, h2⟩ := List.pairwise_cons.1 hp
      have := ih n h2 (fun p q => hm p (by simp [q]))
      have h3 : ∀ (l : List Nat) (a n : Nat), l.Pairwise (· < ·) → (∀ p, p ∈ l → a < p ∧ p < n) → l.length + a < n ∨ l = [] := by
        intro l
        induction l with
        | nil => intro a n _ _; exact .inr rfl
        | cons y t ih2 =>
          intro a n hp hm
          obtain ⟨g1, g2⟩ := List.pairwise_cons.1 hp
          have g3 := hm y (by simp)
          rcases ih2 y n g2 (fun p q => ⟨g1 p q, (hm p (by simp [q])).2⟩) with g | g
          · refine .inl ?_; simp only [List.length_cons]; omega
          · subst g; refine .inl ?_; simp only [List.length_cons, List.length_nil]; omega
      have hx := hm x (by simp)
      rcases h3 r x n h2 (fun p q => ⟨h1 p q, hm p (by simp [q])⟩) with g | g
      · simp only [List.length_cons]; omega
      · subst g; simp only [List.length_cons, List.length_nil]; omega
  exact this L _ h.rise h.most
end
end Go.Proofs.YthemndeljjampaaDoor
