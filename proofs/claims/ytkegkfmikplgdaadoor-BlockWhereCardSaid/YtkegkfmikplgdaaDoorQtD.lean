/- What slices.Clone and Text of package bitw answer. Conditions: as each theorem names them. -/
import Derived.Test.YtkegkfmikplgdaaDoorMQtB
import Derived.Laws.BytesString
import Derived.Laws.Cells
import Derived.WalkSpells
namespace Go.Proofs.YtkegkfmikplgdaaDoor
open Go.RowKit M
set_option linter.unusedVariables false
set_option maxRecDepth 1000000
variable {w w' : World} {B p k c V L : Nat} {ao : Option Addr} {most : Int} {S T : Nat → Prop}

/-- an owned row of bytes, as a string -/
theorem conv_own {w : World} {B n : Nat} {v : Value} {ns : List Int} (h : w.ownsRow B 5 1 v n (ns.map (Value.int .u8))) :
    (convert 25 9 v).run Tryd.prog w = .ok (.string (bstr (ns.map fun n => UInt8.ofNat n.toNat))) w := by
  have hlen := h.1
  rw [List.length_map, Nat.mul_one] at hlen
  rcases h.2 with ⟨rfl, hn⟩ | ⟨g, cap, cur, rfl, r⟩
  · subst hn
    obtain rfl := List.eq_nil_of_length_eq_zero hlen
    rw [run_convert_bytes_string (P := Tryd.prog) w 25 9 5 _ _ _ Tryd.underlying25 Tryd.underlying5 Tryd.underlying9]
    rfl
  · have hc := h.cellAt
    rw [run_convert_bytes_string (P := Tryd.prog) w 25 9 5 _ _ _ Tryd.underlying25 Tryd.underlying5 Tryd.underlying9]
    have hl := run_loadCells_list (P := Tryd.prog) w ⟨g, 0, none⟩ (ns.map (Value.int .u8)) (fun j v hj => by
      have hjl : j < n := by
        have := (List.getElem?_eq_some_iff.1 hj).1
        rw [List.length_map] at this; omega
      have := hc j (by omega)
      rw [hj] at this
      by_cases e : j = 0
      · subst e; simpa [Addr.add] using this
      · simpa [Addr.add, e] using this)
    rw [List.length_map, hlen] at hl
    rw [run_bytesToString (P := Tryd.prog) w ⟨g, 0, none⟩ n cap ns hl, foldl_push]
    rfl

theorem own_zero {B n size : Nat} {e : TypeId} {v : Value} {xs : List Value} (h : w.ownsRow B e size v n xs) : w.ownsRow 0 e size v n xs := by
  obtain ⟨h1, h2⟩ := h
  refine ⟨h1, ?_⟩
  rcases h2 with h2 | ⟨g, cap, cur, hv, hg, r⟩
  · exact .inl h2
  · exact .inr ⟨g, cap, cur, hv, Nat.zero_le _, r⟩

end Go.Proofs.YtkegkfmikplgdaaDoor
