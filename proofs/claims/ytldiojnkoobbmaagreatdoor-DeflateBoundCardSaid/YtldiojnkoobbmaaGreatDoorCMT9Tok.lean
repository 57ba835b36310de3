/- Texts of one place, one behind the other: T9Tok, T9TkA. -/
import Derived.Test.YtldiojnkoobbmaaGreatDoorCMMathT
import Derived.Test.YtldiojnkoobbmaaGreatDoorCMRns
import Derived.Test.YtldiojnkoobbmaaGreatDoorChecked
import Derived.KernelRfl
import Derived.Deep.OwnRows
import Derived.WalkKit
import Derived.Deep.Slices
import Derived.Deep.Fields
import Derived.SizedLaws
import Derived.Laws.IdiomStrings
import Derived.Lib.ConvBytes
import Derived.ArgAppend
import Derived.Laws.OwnMore
import Derived.Deep.AppendLies
import Derived.RangeFuncOwn
import Derived.Lib.Hide
import Derived.Outline
import Derived.Deep.RegionLaw
import Derived.RegionTactic
import Derived.BigRegion
import Derived.BigQuiet
import Derived.Deep.QuietTactic
import Derived.ChangeAlike
import Derived.Laws.Cells
import Derived.WalkSpells
import Derived.WalkMore
import Derived.IntWalk
namespace Go.Proofs.YtldiojnkoobbmaaGreatDoor.V.Tx
set_option maxRecDepth 1000000
open Go Go.RowKit M
open Go.ChangeShapes Go.WideShapes Go.Deep
set_option linter.unusedVariables false
section
variable {H : Type} {enc : TypeId × Value → H} {w : World} {spare : Nat → Bool} {held : Bool}
end
def three (a b c : Value) (i : Nat) : Value := if i = 0 then a else if i = 1 then b else c
def R3 (w : World) (T : TypeId) (g : Nat) (a b c : Value) : Prop := w.rowIs g T 3 (three a b c)
section
variable {w w' : World} {T : TypeId} {g : Nat} {a b c : Value}
theorem R3.new (w : World) (T : TypeId) (a b c : Value) : R3 (w.alloc (.cells #[a, b, c] T)) T w.heap.size a b c := ⟨#[a, b, c], heap_alloc_new _ _, rfl, fun i hi => by
  match i, hi with
  | 0, _ => rfl
  | 1, _ => rfl
  | 2, _ => rfl⟩
theorem R3.lt (h : R3 w T g a b c) : g < w.heap.size := World.rowIs.lt h
theorem R3.at0 (h : R3 w T g a b c) : w.cell? ⟨g, 0, none⟩ = some a := World.rowIs.cell h (i := 0) (by omega)
theorem R3.at1 (h : R3 w T g a b c) : w.cell? ⟨g, 1, none⟩ = some b := World.rowIs.cell h (i := 1) (by omega)
theorem R3.at2 (h : R3 w T g a b c) : w.cell? ⟨g, 2, none⟩ = some c := World.rowIs.cell h (i := 2) (by omega)
theorem R3.of_block (h : R3 w T g a b c) (e : w'.heap[g]? = w.heap[g]?) : R3 w' T g a b c := World.rowIs.of_block h e
theorem R3.below (h : R3 w T g a b c) {B : Nat} (hb : Below B w w') (hB : g < B) : R3 w' T g a b c := World.rowIs.of_block h (hb.block g hB)
end
section
variable {w w' : World} {g cp : Nat} {bs : List UInt8}
end
end Go.Proofs.YtldiojnkoobbmaaGreatDoor.V.Tx

namespace Go.Proofs.YtldiojnkoobbmaaGreatDoor.V.Tx
set_option maxRecDepth 1000000
open Go Go.RowKit M
open Go.ChangeShapes (lits)
set_option linter.unusedVariables false
set_option linter.unusedSimpArgs false
theorem sizeOf_any (l n d : Int) (w : World) :
    Calls Tryz.prog 96 #[.agg #[.int .u8 l, .int .i64 n, .int .i64 d]] w fun e w' => e = .returned (.int .i64 (szo ⟨l, n, d⟩ : Nat)) ∧ Below w.heap.size w w' := by
  have hB := isByte_any l n d
  have hM := isMatch_any l n d
  have hR := R3.new w 67 (.int .u8 l) (.int .i64 n) (.int .i64 d)
  have hlt := hR.lt
  have hb0 : Below w.heap.size w (w.alloc (.cells #[.int .u8 l, .int .i64 n, .int .i64 d] 67)) := (Below.refl _ _).alloc (Nat.le_refl _) _
  have HR := Lib.hid hR
  have HB0 := Lib.hid hb0
  clear hR hb0
  by_cases h1 : isB ⟨l, n, d⟩ = true
  · rw [szo_byte h1]
    rw [h1] at hB
    clear h1
    have HB := Lib.hid hB
    clear hB hM
    go_enter Tryz.func96, Tryz.ntmps96
    go_wp2_with (go_at_call 93; refine (HB.out _).mono ?_; rintro e w1 ⟨rfl, b1⟩; have B1 := Lib.hid (HB0.out.trans (b1.mono (by simp))); clear b1)
    go_ret
    exact ⟨rfl, B1.out⟩
  · have h1' : isB ⟨l, n, d⟩ = false := by simpa using h1
    rw [h1'] at hB
    by_cases h2 : isM ⟨l, n, d⟩ = true
    · rw [szo_match h2]
      have hn : ((n.toNat : Nat) : Int) = n := by have := isM_iff.1 h2; simp only at this; omega
      show Calls _ _ _ _ fun e w' => e = .returned (.int .i64 ((n.toNat : Nat) : Int)) ∧ _
      rw [hn]
      rw [h2] at hM
      have HB := Lib.hid hB
      have HM := Lib.hid hM
      clear hB hM hn h1 h1' h2
      go_enter Tryz.func96, Tryz.ntmps96
      go_wp2_with (go_at_call 93; refine (HB.out _).mono ?_; rintro e w1 ⟨rfl, b1⟩; have hR1 := HR.out.below b1 hlt; have c0 := hR1.at0; have c1 := hR1.at1; have c2 := hR1.at2; have HR1 := Lib.hid hR1; have hlt1 := hR1.lt; have B1 := Lib.hid (HB0.out.trans (b1.mono (by simp))); clear b1 hR1)
      go_wp2_with (go_at_call 94; refine (HM.out _).mono ?_; rintro e w2 ⟨rfl, b2⟩; have hR2 := HR1.out.below b2 hlt1; have c0' := hR2.at0; have c1' := hR2.at1; have B2 := Lib.hid (B1.out.trans (b2.mono B1.out.size)); clear b2 hR2)
      go_ret
      exact ⟨rfl, B2.out⟩
    · have h2' : isM ⟨l, n, d⟩ = false := by simpa using h2
      have hv : szo ⟨l, n, d⟩ = 0 := by unfold szo; rw [if_neg h1, if_neg h2]
      rw [hv]
      rw [h2'] at hM
      have HB := Lib.hid hB
      have HM := Lib.hid hM
      clear hB hM h1 h1' h2 h2' hv
      go_enter Tryz.func96, Tryz.ntmps96
      go_wp2_with (go_at_call 93; refine (HB.out _).mono ?_; rintro e w1 ⟨rfl, b1⟩; have hR1 := HR.out.below b1 hlt; have c0 := hR1.at0; have c1 := hR1.at1; have c2 := hR1.at2; have B1 := Lib.hid (HB0.out.trans (b1.mono (by simp))); clear b1 hR1)
      go_wp2_with (go_at_call 94; refine (HM.out _).mono ?_; rintro e w2 ⟨rfl, b2⟩; have B2 := Lib.hid (B1.out.trans (b2.mono B1.out.size)); clear b2)
      go_ret
      exact ⟨rfl, B2.out⟩
end Go.Proofs.YtldiojnkoobbmaaGreatDoor.V.Tx
