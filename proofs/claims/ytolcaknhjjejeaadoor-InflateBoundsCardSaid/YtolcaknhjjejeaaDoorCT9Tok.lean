import Derived.Test.YtolcaknhjjejeaaDoorCFrm
import Derived.Test.YtolcaknhjjejeaaDoorCMRns
import Derived.Test.YtolcaknhjjejeaaDoorChecked
import Derived.KernelRfl
import Derived.Deep.OwnRows
import Derived.WalkKit
import Derived.Deep.Slices
import Derived.Deep.Fields
import Derived.SizedLaws
import Derived.Laws.IdiomStrings
import Derived.Lib.ConvBytes
import Derived.ArgAppend
import Derived.Laws.OwnMore
import Derived.Deep.AppendLies
import Derived.RangeFuncOwn
namespace Go.Proofs.YtolcaknhjjejeaaDoor.V.Tx
set_option maxRecDepth 1000000
open Go Go.RowKit M
open Go.ChangeShapes Go.WideShapes Go.Deep
set_option linter.unusedVariables false
section
variable {H : Type} {enc : TypeId × Value → H} {w : World} {spare : Nat → Bool} {held : Bool}
end
section
variable {w w' : World} {T : TypeId} {g : Nat} {a b c : Value}
end
structure Rb (w : World) (g cp : Nat) (bs : List UInt8) : Prop where
  lt : g < w.heap.size
  nc : bs.length ≤ cp
  room : ∀ j, j < cp → (w.cell? ⟨g, j, none⟩).isSome = true
  free : ∀ j, j < cp → w.frozen? ⟨g, j, none⟩ = false
  byte : ∀ j u, bs[j]? = some u → w.cell? ⟨g, j, none⟩ = some (.int .u8 (u.toNat : Int))
  obj : ∀ o : Obj, w.heap[g]? = some o → o.isCells = true
section
variable {w w' : World} {g cp : Nat} {bs : List UInt8}
end
theorem byteInfo : (Tryd.prog.info? 5).map (fun i => (i.zero, i.size, i.bytes)) = some (some (.int .u8 0), 1, 1) := by kernel_rfl
theorem info_of {e : TypeId} {z : Value} {size bytes : Nat} (hi : (Tryd.prog.info? e).map (fun i => (i.zero, i.size, i.bytes)) = some (some z, size, bytes)) : ∃ i, Tryd.prog.info? e = some i ∧ i.zero = some z ∧ i.size = size ∧ i.bytes = bytes := by
  cases hq : Tryd.prog.info? e with
  | none => rw [hq] at hi; cases hi
  | some i => rw [hq] at hi; simp at hi; exact ⟨i, rfl, hi.1, hi.2.1, hi.2.2⟩
theorem Rb.of_own {w : World} {B n : Nat} {v : Value} {bs : List UInt8} (h : w.ownsRow B 5 1 v n (bs.map fun u => Value.int .u8 (u.toNat : Int))) (hn : 0 < n) : ∃ g cp, v = .slice (some ⟨g, 0, none⟩) n cp ∧ bs.length = n ∧ B ≤ g ∧ Rb w g cp bs := by
  obtain ⟨h1, h2⟩ := h
  rw [List.length_map, Nat.mul_one] at h1
  rcases h2 with ⟨_, h2⟩ | ⟨g, cp, cur, rfl, hg, hh, hnc, hcm, hs, ht⟩
  · omega
  · rw [Nat.mul_one] at hs ht
    refine ⟨g, cp, rfl, h1, hg, (Array.getElem?_eq_some_iff.1 hh).1, by omega, fun j hj => ?_, fun j hj => ?_, fun j u hu => ?_, fun o ho => by rw [hh] at ho; cases ho; rfl⟩
    · rw [cell_of_row _ _ _ _ _ _ hh, Array.getElem?_eq_getElem (by omega)]; rfl
    · simp [World.frozen?, hh]
    · rw [cell_of_row _ _ _ _ _ _ hh]
      have hj : j < n := by have := (List.getElem?_eq_some_iff.1 hu).1; omega
      have e : (cur.toList.take n)[j]? = some (Value.int .u8 (u.toNat : Int)) := by rw [ht, List.getElem?_map, hu]; rfl
      rw [List.getElem?_take, if_pos hj, Array.getElem?_toList] at e
      exact e
theorem run_bytes (w : World) (s : ByteArray) (hs : s.size ≤ 100000000) : ∃ cp W', (convert 9 34 (.string s)).run Tryd.prog w = .ok (.slice (some ⟨w.heap.size, 0, none⟩) s.size cp) W' ∧ Rb W' w.heap.size cp s.data.toList ∧ Below w.heap.size w W' ∧ W'.heap.size = w.heap.size + 1 := by
  refine ⟨_, _, Lib.run_convert_string_bytes (P := Tryd.prog) w 9 34 5 s Tryd.underlying9 Tryd.underlying34 Tryd.underlying5, ?_, ?_, Lib.bytesWorld_size w _ s⟩
  · have hge := grownCap_ge w s.size 0 5
    have hz : (Lib.bytesCells w 5 s).size = grownCap w s.size 0 5 := by
      unfold Lib.bytesCells
      have : s.data.size = s.size := rfl
      simp
      omega
    have hat := Lib.bytesWorld_at_new w 5 s
    refine ⟨by rw [Lib.bytesWorld_size]; omega, by have : s.data.toList.length = s.size := Array.length_toList; omega, fun j hj => ?_, fun j hj => ?_, fun j u hu => ?_, fun o ho => by rw [hat] at ho; cases ho; rfl⟩
    · rw [cell_of_row _ _ _ _ _ _ hat, Array.getElem?_eq_getElem (by omega)]; rfl
    · simp only [World.frozen?, hat, Bool.and_eq_false_iff, decide_eq_false_iff_not]; left; omega
    · have hj : j < s.size := by have := (List.getElem?_eq_some_iff.1 hu).1; rwa [Array.length_toList] at this
      rw [Lib.bytesWorld_cell w _ s j hj, List.getD, hu]; rfl
  · exact ⟨rfl, rfl, rfl, by rw [Lib.bytesWorld_size]; omega, fun k hk => Lib.bytesWorld_at_old w _ s k hk⟩
theorem conv_rb {w : World} {g cp c : Nat} {bs : List UInt8} (h : Rb w g cp bs) (o n : Nat) (hn : bs.length = n) (ho : o ≤ n) (ad : Addr) (ha : o < n → ad = ⟨g, o, none⟩) :
    (convert 34 9 (.slice (some ad) (n - o) c)).run Tryd.prog w = .ok (.string ⟨(bs.drop o).toArray⟩) w := by
  have hl : (bs.drop o).length = n - o := by rw [List.length_drop, hn]
  have := run_convert_bytes_back (P := Tryd.prog) w 34 9 5 ad c (bs.drop o) Tryd.underlying34 Tryd.underlying5 Tryd.underlying9 (fun i hi => by
    rw [hl] at hi
    rw [ha (by omega), cadd_at]
    exact h.byte (o + i) _ (by rw [← List.getElem?_drop]; exact List.getElem?_eq_getElem _))
  rw [hl] at this
  exact this
end Go.Proofs.YtolcaknhjjejeaaDoor.V.Tx
