/- Texts of one place, one behind the other: QtB, QtC. -/
import Derived.Test.YtkegkfmikplgdaaDoorQtA
import Derived.RegionTactic
import Derived.BigRegion
import Derived.ChangeAlike
import Derived.Deep.LoopGhost
import Derived.Deep.AppendLies
import Derived.Deep.RegionLaw
import Derived.WalkMore
import Derived.Test.YtkegkfmikplgdaaDoorStr
/- What put of package bitw leaves: the bits behind those that were there. Conditions: as each theorem names them. -/
namespace Go.Proofs.YtkegkfmikplgdaaDoor
open Go.RowKit M
set_option linter.unusedVariables false
set_option maxRecDepth 1000000
variable {w w' : World} {B p k c V L : Nat} {ao : Option Addr} {most : Int} {S T : Nat → Prop}

theorem info_u8 : (Tryd.prog.info? 5).map (fun i => (i.zero, i.size, i.bytes)) = some (some (.int .u8 0), 1, 1) := by kernel_rfl

theorem set_ne {i j : Nat} {v : Value} (h : i ≠ j) : (w.setCell ⟨p, i, none⟩ v).cell? ⟨p, j, none⟩ = w.cell? ⟨p, j, none⟩ := World.cell?_setCell_other w _ _ _ (fun e => h (by injection e))
theorem set_eq {i : Nat} {u v : Value} (h : w.cell? ⟨p, i, none⟩ = some u) : (w.setCell ⟨p, i, none⟩ v).cell? ⟨p, i, none⟩ = some v := World.cell?_setCell_same' w _ _ (by rw [h]; rfl)
theorem set_fz {a b : Addr} {v : Value} (h : w.frozen? b = false) : (w.setCell a v).frozen? b = false := by rw [World.frozen?_setCell]; exact h

theorem Wr.keep34 (h : Wr w B p most ao c k V L) (x y : Value) : Kept (foot p ao) w ((w.setCell ⟨p, 3, none⟩ x).setCell ⟨p, 4, none⟩ y) :=
  ((Kept.refl _ w).setCell _ (.inl (.inl rfl)) _).setCell _ (.inl (.inl rfl)) _
theorem Wr.put34 (h : Wr w B p most ao c k V L) {V' L' : Nat} (hs : bys V' k = bys V k) (hV : V' < 2 ^ L') (hL : 8 * k ≤ L') (Y Z : Int) (hY : Y = ((V' / 256 ^ k : Nat) : Int)) (hZ : Z = ((L' - 8 * k : Nat) : Int)) :
    Wr ((w.setCell ⟨p, 3, none⟩ (.int .u64 Y)).setCell ⟨p, 4, none⟩ (.int .i64 Z)).drew B p most ao c k V' L' := by
  subst hY hZ
  have h0 := h.c0
  have h1 := h.c1
  have h2 := h.c2
  have h3 := h.c3
  have h4 := h.c4
  have hf := h.fz
  have hk : Kept (fun j => j = p) w ((w.setCell ⟨p, 3, none⟩ (.int .u64 ((V' / 256 ^ k : Nat) : Int))).setCell ⟨p, 4, none⟩ (.int .i64 ((L' - 8 * k : Nat) : Int))).drew :=
    (((Kept.refl (fun j => j = p) w).setCell ⟨p, 3, none⟩ (.inl rfl) _).setCell ⟨p, 4, none⟩ (.inl rfl) _).drew
  refine ⟨(set_ne (by decide)).trans ((set_ne (by decide)).trans h0), (set_ne (by decide)).trans ((set_ne (by decide)).trans h1), (set_ne (by decide)).trans ((set_ne (by decide)).trans h2), (set_ne (by decide)).trans (set_eq h3), set_eq ((set_ne (by decide)).trans h4),
    fun i => set_fz (set_fz (hf i)), ?_, h.ap, h.base, hV, hL⟩
  · rw [hs]
    refine hk.own h.own fun g hg => ?_
    cases ao with
    | none => simp [Value.ownBlock] at hg
    | some a =>
      have := h.ap a rfl
      simp [Value.ownBlock] at hg
      omega

theorem Wr.row_ne (h : Wr w B p most ao c k V L) : ¬ Value.ownBlock (.slice ao k c) = some p := by
  intro g1
  cases ao with
  | none => simp [Value.ownBlock] at g1
  | some a => exact h.ap a rfl (by simpa [Value.ownBlock] using g1)

/-- A byte that was appended: the writer behind the three stores. -/
theorem Wr.pushed {w0 w1 : World} {g cap : Nat} (h : Wr w B p most ao c k V L) (hL : 8 * (k + 1) ≤ L) (hk0 : Kept NoB w w0) (hg : w0.grownBy w1 (Value.ownBlock (.slice ao k c))) (hat : Value.ownBlock (.slice ao k c) = some g ∨ g = w0.heap.size)
    (x : Int) (hx : x = ((V / 256 ^ k % 256 : Nat) : Int)) (hown : w1.ownsRow B 5 1 (.slice (some ⟨g, 0, none⟩) (k + 1) cap) (k + 1) ((bys V k).map (Value.int .u8) ++ [.int .u8 x])) (Y Z : Int) (hY : Y = ((V / 256 ^ (k + 1) : Nat) : Int)) (hZ : Z = ((L - 8 * (k + 1) : Nat) : Int)) :
    Wr (((w1.setCell ⟨p, 2, none⟩ (.slice (some ⟨g, 0, none⟩) (k + 1) cap)).setCell ⟨p, 3, none⟩ (.int .u64 Y)).setCell ⟨p, 4, none⟩ (.int .i64 Z)) B p most (some ⟨g, 0, none⟩) cap (k + 1) V L ∧
      Kept (foot p ao) w (((w1.setCell ⟨p, 2, none⟩ (.slice (some ⟨g, 0, none⟩) (k + 1) cap)).setCell ⟨p, 3, none⟩ (.int .u64 Y)).setCell ⟨p, 4, none⟩ (.int .i64 Z)) ∧
      (∀ j, foot p (some ⟨g, 0, none⟩) j → foot p ao j ∨ w.heap.size ≤ j) := by
  subst hY hZ hx
  have hrow : ∀ j, Value.ownBlock (.slice ao k c) = some j → foot p ao j := by
    intro j hj
    cases ao with
    | none => simp [Value.ownBlock] at hj
    | some a => exact .inr ⟨a, rfl, by simpa [Value.ownBlock] using hj.symm⟩
  have hg0 : foot p ao g ∧ g ≠ p ∨ w.heap.size ≤ g := by
    rcases hat with hat | hat
    · refine .inl ⟨hrow g hat, ?_⟩
      cases ao with
      | none => simp [Value.ownBlock] at hat
      | some a =>
        have := h.ap a rfl
        simp [Value.ownBlock] at hat
        omega
    · exact .inr (by rw [hat]; exact hk0.size)
  have hgp : g ≠ p := by
    rcases hg0 with h0 | h0
    · exact h0.2
    · have := h.lt; omega
  have hk1 : Kept (foot p ao) w w1 := (hk0.none _).grown hg (fun j hj => .inl (hrow j hj))
  have hr1 : Wr w0 B p most ao c k V L := h.keep hk0 (fun _ _ g => g.elim)
  have hn : Kept (fun j => Value.ownBlock (.slice ao k c) = some j) w0 w1 := Kept.of_grown hg
  have hpn := h.row_ne
  have e0 := hn.cell hr1.c0 hpn
  have e1 := hn.cell hr1.c1 hpn
  have e2 := hn.cell hr1.c2 hpn
  have e3 := hn.cell hr1.c3 hpn
  have e4 := hn.cell hr1.c4 hpn
  have ef : ∀ i, w1.frozen? ⟨p, i, none⟩ = false := fun i => (hn.frozen (a := ⟨p, i, none⟩) hr1.lt hpn).trans (hr1.fz i)
  have hk2 : Kept (fun j => j = p) w1 (((w1.setCell ⟨p, 2, none⟩ (.slice (some ⟨g, 0, none⟩) (k + 1) cap)).setCell ⟨p, 3, none⟩ (.int .u64 ((V / 256 ^ (k + 1) : Nat) : Int))).setCell ⟨p, 4, none⟩ (.int .i64 ((L - 8 * (k + 1) : Nat) : Int))) :=
    (((Kept.refl (fun j => j = p) w1).setCell ⟨p, 2, none⟩ (.inl rfl) _).setCell ⟨p, 3, none⟩ (.inl rfl) _).setCell ⟨p, 4, none⟩ (.inl rfl) _
  refine ⟨⟨(set_ne (by decide)).trans ((set_ne (by decide)).trans ((set_ne (by decide)).trans e0)), (set_ne (by decide)).trans ((set_ne (by decide)).trans ((set_ne (by decide)).trans e1)), (set_ne (by decide)).trans ((set_ne (by decide)).trans (set_eq e2)),
    (set_ne (by decide)).trans (set_eq ((set_ne (by decide)).trans e3)), set_eq ((set_ne (by decide)).trans ((set_ne (by decide)).trans e4)), fun i => set_fz (set_fz (set_fz (ef i))), ?_, ?_, h.base, h.val, hL⟩, hk1.trans hk2 (fun j hj => .inl (.inl hj)), ?_⟩
  · rw [bys_next, List.map_append]
    exact hk2.own hown fun i hi => by
      have : g = i := by simpa [Value.ownBlock] using hi
      omega
  · intro a ha
    obtain rfl : (⟨g, 0, none⟩ : Addr) = a := by simpa using ha
    exact hgp
  · intro j hj
    rcases hj with hj | ⟨a, ha, hj⟩
    · exact .inl (.inl hj)
    · obtain rfl : (⟨g, 0, none⟩ : Addr) = a := by simpa using ha
      subst hj
      rcases hg0 with h0 | h0
      · exact .inl h0.1
      · exact .inr h0

end Go.Proofs.YtkegkfmikplgdaaDoor

/- What Bits, Code, Align and Bytes of package bitw answer and leave. Conditions: as each theorem names them. -/
namespace Go.Proofs.YtkegkfmikplgdaaDoor
open Go.RowKit M
set_option linter.unusedVariables false
set_option maxRecDepth 1000000
variable {w w' : World} {B p k c V L : Nat} {ao : Option Addr} {most : Int} {S T : Nat → Prop}

theorem Wr.drewN (h : Wr w B p most ao c k V L) (n : Nat) : Wr (w.drewN n) B p most ao c k V L := h.keep ((Kept.refl NoB w).drewN n) (fun _ _ g => g)
/-- What a call answers and leaves: r: the error's number, and the bits. -/
def Did (w : World) (B p : Nat) (S : Nat → Prop) (most : Int) (r : Int × Nat × Nat) (e : Ending) (w' : World) : Prop :=
  e = .returned (.int .i64 r.1) ∧ ∃ S', Wt w' B p S' most r.2.1 r.2.2 ∧ Kept S w w' ∧ ∀ j, S' j → S j ∨ w.heap.size ≤ j

theorem Did.same (h : Wt w B p S most V L) (r : Int) (n : Nat) : Did w B p S most (r, V, L) (.returned (.int .i64 r)) (w.drewN n) :=
  ⟨rfl, S, h.keep ((Kept.refl NoB w).drewN n) (fun _ _ g => g), (Kept.refl S w).drewN n, fun _ g => .inl g⟩

theorem Did.from {w0 : World} {r : Int × Nat × Nat} {e : Ending} (hk : Kept NoB w w0) (h : Did w0 B p S most r e w') : Did w B p S most r e w' := by
  obtain ⟨he, S', h1, h2, h3⟩ := h
  exact ⟨he, S', h1, (hk.none S).trans h2 (fun j hj => .inl hj), fun j hj => (h3 j hj).imp id (fun g => Nat.le_trans hk.size g)⟩

/-- Bytes that were appended to whole bytes. -/
theorem Wr.strung {w1 : World} {q : Nat} {s : ByteArray} {ao2 : Option Addr} {c2 : Nat} (h : Wr w B p most ao c q V (8 * q)) (hg : w.grownBy w1 (Value.ownBlock (.slice ao q c))) (hat : ∀ a, ao2 = some a → Value.ownBlock (.slice ao q c) = some a.block ∨ w.heap.size ≤ a.block)
    (hown : w1.ownsRow B 5 1 (.slice ao2 (q + s.size) c2) (q + s.size) ((bys V q).map (Value.int .u8) ++ Lib.strCells s)) :
    Wr (w1.setCell ⟨p, 2, none⟩ (.slice ao2 (q + s.size) c2)) B p most ao2 c2 (q + s.size) (V + vl s.data.toList * 2 ^ (8 * q)) (8 * q + 8 * s.size) ∧
      Kept (foot p ao) w (w1.setCell ⟨p, 2, none⟩ (.slice ao2 (q + s.size) c2)) ∧ (∀ j, foot p ao2 j → foot p ao j ∨ w.heap.size ≤ j) := by
  have hrow : ∀ j, Value.ownBlock (.slice ao q c) = some j → foot p ao j := by
    intro j hj
    cases ao with
    | none => simp [Value.ownBlock] at hj
    | some a => exact .inr ⟨a, rfl, by simpa [Value.ownBlock] using hj.symm⟩
  have hpn := h.row_ne
  have hn : Kept (fun j => Value.ownBlock (.slice ao q c) = some j) w w1 := Kept.of_grown hg
  have e0 := hn.cell h.c0 hpn
  have e1 := hn.cell h.c1 hpn
  have e2 := hn.cell h.c2 hpn
  have e3 := hn.cell h.c3 hpn
  have e4 := hn.cell h.c4 hpn
  have hk1 : Kept (foot p ao) w w1 := (Kept.refl _ w).grown hg (fun j hj => .inl (hrow j hj))
  have hap : ∀ a, ao2 = some a → a.block ≠ p := by
    intro a ha e
    rcases hat a ha with g | g
    · exact hpn (by rw [← e]; exact g)
    · have := h.lt; omega
  have hv : V < 256 ^ q := by rw [p256]; exact h.val
  have hvl := vl_lt s.data.toList
  rw [size_list, p256] at hvl
  have hv2 := more_lt (N := vl s.data.toList) h.val hvl
  have z1 : V / 256 ^ q = 0 := Nat.div_eq_of_lt hv
  have z2 : (V + vl s.data.toList * 2 ^ (8 * q)) / 256 ^ (q + s.size) = 0 := Nat.div_eq_of_lt (by rw [p256, Nat.mul_add]; exact hv2)
  have hk2 : Kept (fun j => j = p) w1 (w1.setCell ⟨p, 2, none⟩ (.slice ao2 (q + s.size) c2)) := (Kept.refl (fun j => j = p) w1).setCell ⟨p, 2, none⟩ (.inl rfl) _
  refine ⟨⟨(set_ne (by decide)).trans e0, (set_ne (by decide)).trans e1, set_eq e2, (set_ne (by decide)).trans (by rw [z2, e3, z1]), (set_ne (by decide)).trans (by rw [e4]; congr 2; omega),
    fun i => set_fz ((hn.frozen (a := ⟨p, i, none⟩) h.lt hpn).trans (h.fz i)), ?_, hap, h.base, hv2, by omega⟩, hk1.trans hk2 (fun j hj => .inl (.inl hj)), ?_⟩
  · rw [← p256, ← cells_more V q s hv]
    refine hk2.own hown fun i hi g => ?_
    cases ao2 with
    | none => simp [Value.ownBlock] at hi
    | some a =>
      have := hap a rfl
      simp [Value.ownBlock] at hi
      omega
  · intro j hj
    rcases hj with hj | ⟨a, ha, hj⟩
    · exact .inl (.inl hj)
    · subst hj
      rcases hat a ha with g | g
      · exact .inl (hrow _ g)
      · exact .inr g

end Go.Proofs.YtkegkfmikplgdaaDoor
