/- The document's example of layer 12, as its laws ask it. Conditions: as each theorem names them. -/
import Derived.Test.YtogbohompffcbaaDoorLwX
namespace Go.Proofs.YtogbohompffcbaaDoor.U
open Go Go.RowKit M
set_option linter.unusedVariables false
set_option linter.unusedSimpArgs false

def wl17 : List Nat := [0, 0, 0, 0, 0, 0, 0, 0, 0, 0, 0, 0, 3, 3, 3, 3, 3]
theorem pk17 : pk wl17 = [⟨18, 1⟩, ⟨3, 0⟩, ⟨16, 1⟩] := by
  unfold wl17
  rw [pk_cons, show ru 0 [0, 0, 0, 0, 0, 0, 0, 0, 0, 0, 0, 3, 3, 3, 3, 3] = 11 from rfl, show ([0, 0, 0, 0, 0, 0, 0, 0, 0, 0, 0, 3, 3, 3, 3, 3] : List Nat).drop 11 = [3, 3, 3, 3, 3] from rfl, pk_cons, show ru 3 [3, 3, 3, 3] = 4 from rfl, show ([3, 3, 3, 3] : List Nat).drop 4 = [] from rfl, pk_nil]
  have h1 : one 0 12 = [⟨18, 1⟩] := by
    unfold one
    rw [if_pos rfl, zrs_many (by decide), zrs_few (by decide)]
    rfl
  have h2 : one 3 5 = [⟨3, 0⟩, ⟨16, 1⟩] := by
    unfold one oth
    rw [if_neg (by decide), oths_many (by decide), oths_few (by decide)]
    rfl
  rw [h1, h2]
  rfl
theorem bys17 (w : World) : IsBys (w.alloc (.cells #[.int .u8 0, .int .u8 0, .int .u8 0, .int .u8 0, .int .u8 0, .int .u8 0, .int .u8 0, .int .u8 0, .int .u8 0, .int .u8 0, .int .u8 0, .int .u8 0, .int .u8 3, .int .u8 3, .int .u8 3, .int .u8 3, .int .u8 3] 5)) (some ⟨w.heap.size, 0, none⟩) 17 wl17 := by
  have h := heap_alloc_new w (.cells #[.int .u8 0, .int .u8 0, .int .u8 0, .int .u8 0, .int .u8 0, .int .u8 0, .int .u8 0, .int .u8 0, .int .u8 0, .int .u8 0, .int .u8 0, .int .u8 0, .int .u8 3, .int .u8 3, .int .u8 3, .int .u8 3, .int .u8 3] 5)
  have e : (#[.int .u8 0, .int .u8 0, .int .u8 0, .int .u8 0, .int .u8 0, .int .u8 0, .int .u8 0, .int .u8 0, .int .u8 0, .int .u8 0, .int .u8 0, .int .u8 0, .int .u8 3, .int .u8 3, .int .u8 3, .int .u8 3, .int .u8 3] : Array Value) = (clb wl17).toArray := rfl
  rw [e] at h ⊢
  refine ⟨rfl, by decide, by decide, .inr ⟨w.heap.size, 0, rfl, by simp, fun i x hx => ?_⟩⟩
  rw [Nat.zero_add]
  simp only [World.cell?, h]
  unfold clb
  rw [List.getElem?_toArray, List.getElem?_map, hx]
  rfl
theorem rn16 (w : World) : IsRns (w.alloc (.cells #[.int .u8 16, .int .u8 0] 33)) (some ⟨w.heap.size, 0, none⟩) 1 [⟨16, 0⟩] :=
  ⟨rfl, by decide, by decide, .inr ⟨w.heap.size, 0, rfl, by simp, fun i x hx => by
    match i, hx with
    | 0, hx =>
      simp only [List.getElem?_cons_zero, Option.some.injEq] at hx
      subst hx
      exact ⟨by simp, by simp⟩⟩⟩

set_option maxRecDepth 1000000 in
set_option maxHeartbeats 4000000 in
theorem works_any {T : World → Prop} (C : Cts T) (w : World) (H : T w) : Calls Tryd.prog 7 #[] w fun e w' => e = .returned (.bool true) ∧ Below w.heap.size w w' := by
  have HP := Lib.hid (show Calls Tryd.prog 8 #[.slice (some ⟨w.heap.size, 0, none⟩) 17 17] (w.alloc (.cells #[.int .u8 0, .int .u8 0, .int .u8 0, .int .u8 0, .int .u8 0, .int .u8 0, .int .u8 0, .int .u8 0, .int .u8 0, .int .u8 0, .int .u8 0, .int .u8 0, .int .u8 3, .int .u8 3, .int .u8 3, .int .u8 3, .int .u8 3] 5)) (RnP (w.alloc (.cells #[.int .u8 0, .int .u8 0, .int .u8 0, .int .u8 0, .int .u8 0, .int .u8 0, .int .u8 0, .int .u8 0, .int .u8 0, .int .u8 0, .int .u8 0, .int .u8 0, .int .u8 3, .int .u8 3, .int .u8 3, .int .u8 3, .int .u8 3] 5)) [⟨18, 1⟩, ⟨3, 0⟩, ⟨16, 1⟩]) from by
    rw [← pk17]
    exact C.pack _ 17 17 wl17 _ (C.keep H ((Below.refl _ _).alloc (Nat.le_refl _) _)) (bys17 w) (Nat.le_refl _) (by decide) (by decide))
  have HU := Lib.hid (fun w2 (h2 : T w2) => (show Calls Tryd.prog 10 #[.slice (some ⟨w2.heap.size, 0, none⟩) 1 1, .int .i64 3] (w2.alloc (.cells #[.int .u8 16, .int .u8 0] 33)) (fun e w' => ∃ A c, e = .returned (.tuple #[.slice A 0 c, .int .i64 7]) ∧ IsBys w' A 0 [] ∧ Below (w2.alloc (.cells #[.int .u8 16, .int .u8 0] 33)).heap.size (w2.alloc (.cells #[.int .u8 16, .int .u8 0] 33)) w') from
    C.unpack _ 1 1 [⟨16, 0⟩] 3 _ (C.keep h2 ((Below.refl _ _).alloc (Nat.le_refl _) _)) (rn16 w2) (by decide) (by decide)))
  have HK := Lib.hid (fun (w w' : World) (h : T w) (hb : Below w.heap.size w w') => C.keep h hb)
  have HH := Lib.hid H
  clear H C
  go_enter Tryd.func7, Tryd.ntmps7
  go_wp2_with (first
    | (go_at_call 8; (with_reducible refine HP.out.mono ?_); rintro e w1 ⟨v, rfl, o1, b1⟩; obtain ⟨A1, c1, hv, i1⟩ := Owr.rns o1 (by decide) (by decide); subst hv; have B1 := Lib.hid (((Below.refl _ _).alloc (Nat.le_refl _) _).trans (b1.mono (by simp))); obtain ⟨bb, oo, rfl, hbb, hcc⟩ := i1.at (by decide); have c00 : w1.cell? ⟨bb, oo, none⟩ = some (.int .u8 18) := (hcc 0 (by decide)).1; have c01 : w1.cell? ⟨bb, oo + 1, none⟩ = some (.int .u8 1) := (hcc 0 (by decide)).2; have c10 : w1.cell? ⟨bb, oo + 2, none⟩ = some (.int .u8 3) := (hcc 1 (by decide)).1; have c11 : w1.cell? ⟨bb, oo + 3, none⟩ = some (.int .u8 0) := (hcc 1 (by decide)).2; have c20 : w1.cell? ⟨bb, oo + 4, none⟩ = some (.int .u8 16) := (hcc 2 (by decide)).1; have c21 : w1.cell? ⟨bb, oo + 5, none⟩ = some (.int .u8 1) := (hcc 2 (by decide)).2; clear o1 b1 i1 hcc)
    | (go_at_call 10; (with_reducible refine (HU.out w1 (HK.out _ _ HH.out B1.out)).mono ?_); rintro e w2 ⟨A2, c2, rfl, _, b2⟩; have B2 := Lib.hid ((B1.out.alloc B1.out.size _).trans (b2.mono (by have := B1.out.size; simp; omega))); have cx := fun (j : Nat) (v : Value) (h : w1.cell? ⟨bb, j, none⟩ = some v) => (b2.cell (p := ⟨bb, j, none⟩) (by simp; omega)).trans (((Below.cell ((Below.refl w1.heap.size w1).alloc (Nat.le_refl _) (.cells #[.int .u8 16, .int .u8 0] 33)) (p := ⟨bb, j, none⟩) hbb)).trans h); have g00 := cx _ _ c00; have g01 := cx _ _ c01; have g10 := cx _ _ c10; have g11 := cx _ _ c11; have g20 := cx _ _ c20; have g21 := cx _ _ c21; clear b2 cx c00 c01 c10 c11 c20 c21))
  go_ret
  exact ⟨rfl, B2.out⟩
end Go.Proofs.YtogbohompffcbaaDoor.U
