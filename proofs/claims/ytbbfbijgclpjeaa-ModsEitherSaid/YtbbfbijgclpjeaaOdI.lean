/- Rows of bytes that a call writes: []byte of a string, copy into it, a string of it. Conditions: as each theorem names them. -/
import Derived.Test.YtbbfbijgclpjeaaOdE
import Derived.Lib.ConvBytes
import Derived.Laws.IdiomCopy
namespace Go.Proofs.Ytbbfbijgclpjeaa.O
open Go Go.RowKit M
set_option linter.unusedVariables false
set_option linter.unusedSimpArgs false

/-- block g begins with the bytes l, and may be written there -/
structure Byt (w : World) (g : Nat) (l : List UInt8) : Prop where
  lt : g < w.heap.size
  byte : ∀ j u, l[j]? = some u → w.cell? ⟨g, j, none⟩ = some (.int .u8 (u.toNat : Int))
  free : ∀ j, j < l.length → w.frozen? ⟨g, j, none⟩ = false
section
variable {w w' : World} {g : Nat} {l : List UInt8}
theorem Byt.of_block (h : Byt w g l) (e : w'.heap[g]? = w.heap[g]?) : Byt w' g l := by
  have hl : g < w'.heap.size := by
    rcases Nat.lt_or_ge g w'.heap.size with q | q
    · exact q
    · rw [Array.getElem?_eq_none q, Array.getElem?_eq_getElem h.lt] at e; cases e
  exact ⟨hl, fun j u hu => (World.cell?_of_block (a := ⟨g, j, none⟩) e).trans (h.byte j u hu), fun j hj => (World.frozen?_of_block (a := ⟨g, j, none⟩) e).trans (h.free j hj)⟩
theorem Byt.kept {S : Nat → Prop} (h : Byt w g l) (hk : Kept S w w') (hS : ¬ S g) : Byt w' g l := h.of_block (hk.block g h.lt hS)
theorem Byt.below (h : Byt w g l) (hb : Below w.heap.size w w') : Byt w' g l := h.of_block (hb.block g h.lt)
theorem Byt.alloc (h : Byt w g l) (o : Obj) : Byt (w.alloc o) g l := h.of_block (Below.heap_alloc _ _ _ h.lt)
theorem Byt.drew (h : Byt w g l) : Byt w.drew g l := ⟨h.lt, h.byte, h.free⟩
theorem Byt.drewN (h : Byt w g l) (n : Nat) : Byt (w.drewN n) g l := ⟨h.lt, h.byte, h.free⟩
theorem setCells_heap (b : Nat) : ∀ (vs : List Value) (o : Nat) (w : World) (k : Nat), k ≠ b → (w.setCells b o vs).heap[k]? = w.heap[k]?
  | [], _, _, _, _ => rfl
  | v :: r, o, w, k, h => by
    rw [World.setCells, setCells_heap b r _ _ k h]
    exact Below.heap_setCell _ _ _ _ h
theorem setCells_size (b : Nat) : ∀ (vs : List Value) (o : Nat) (w : World), (w.setCells b o vs).heap.size = w.heap.size
  | [], _, _ => rfl
  | v :: r, o, w => by rw [World.setCells, setCells_size b r]; simp [World.setCell]
theorem setCells_rest (b : Nat) : ∀ (vs : List Value) (o : Nat) (w : World), (w.setCells b o vs).os = w.os ∧ (w.setCells b o vs).tape = w.tape ∧ (w.setCells b o vs).output = w.output
  | [], _, _ => ⟨rfl, rfl, rfl⟩
  | v :: r, o, w => by
    rw [World.setCells]
    obtain ⟨h1, h2, h3⟩ := setCells_rest b r (o + 1) (w.setCell ⟨b, o, none⟩ v)
    exact ⟨h1, h2, h3⟩
/-- copy of a string into a row -/
theorem run_cpy (h : Byt w g l) (o dLen dCap m : Nat) (s : ByteArray) (hm : m = Nat.min s.size dLen) (ho : o + m ≤ l.length) :
    ∃ w', (Builtin.copy_ #[61, 9] 3 #[.slice (some ⟨g, o, none⟩) dLen dCap, .string s]).run Try.prog w = .ok (goInt m) w' ∧ Byt w' g (l.take o ++ s.data.toList.take m ++ l.drop (o + m)) ∧ Kept (fun j => j = g) w w' := by
  have hms : m ≤ s.size := by rw [hm]; exact Nat.min_le_left _ _
  have hl1 : (s.data.toList.take m).length = m := by rw [List.length_take, size_list]; omega
  have hlen : (Lib.byteCells (s.data.toList.take m)).length = m := by rw [Lib.byteCells_length, hl1]
  have hcs : ∀ j, j < m → (w.cell? ⟨g, o + j, none⟩).isSome = true := fun j hj => by rw [h.byte (o + j) _ (List.getElem?_eq_getElem (by omega))]; rfl
  have hst := run_storeCells_cells (P := Try.prog) g o (Lib.byteCells (s.data.toList.take m)) 0 w (fun j hj => by rw [hlen] at hj; exact hcs j hj) (fun j hj => by rw [hlen] at hj; exact h.free _ (by omega)) (Lib.byteCells_one _)
  refine ⟨w.setCells g (o + 0) (Lib.byteCells (s.data.toList.take m)), ?_, ⟨?_, fun j u hu => ?_, fun j hj => ?_⟩, ⟨(setCells_rest _ _ _ _).1, (setCells_rest _ _ _ _).2.1, (setCells_rest _ _ _ _).2.2, by rw [setCells_size]; exact Nat.le_refl _, fun k hk hg => setCells_heap _ _ _ _ _ hg⟩⟩
  · obtain ⟨i, h1, h2, h3, h4⟩ := info_of byteInfo
    have htk : List.take m (List.map (fun b : UInt8 => Value.int IntKind.u8 (b.toNat : Int)) s.data.toList) = Lib.byteCells (s.data.toList.take m) := by
      rw [← List.map_take]; rfl
    simp [Builtin.copy_, run_underlying Try.underlying61, Builtin.lenOf, Builtin.firstCells, sizeOf, typeInfo, h1, h3, ← hm]
    rw [htk, hst]
    simp [Result.andThen]
  · rw [setCells_size]; exact h.lt
  · by_cases c1 : j < o
    · rw [World.cell?_setCells_out _ _ _ _ _ (fun _ _ => .inl (by show j < o + 0; omega))]
      rw [List.append_assoc, List.getElem?_append_left (by rw [List.length_take]; omega), List.getElem?_take, if_pos c1] at hu
      exact h.byte j u hu
    · by_cases c2 : j < o + m
      · obtain ⟨t, rfl⟩ : ∃ t, j = o + t := ⟨j - o, by omega⟩
        have hts : t < (Lib.byteCells (s.data.toList.take m)).length := by rw [hlen]; omega
        have hg2 := World.cell?_setCells_in g (Lib.byteCells (s.data.toList.take m)) (o + 0) w (fun j hj => by rw [hlen] at hj; exact hcs j hj) t hts
        rw [Nat.add_zero] at hg2 ⊢
        rw [hg2]
        have hto : (l.take o).length = o := by rw [List.length_take]; omega
        rw [List.append_assoc, List.getElem?_append_right (by rw [hto]; omega), hto, Nat.add_sub_cancel_left, List.getElem?_append_left (by rw [hl1]; omega)] at hu
        congr 1
        have : (Lib.byteCells (s.data.toList.take m))[t]? = some (.int .u8 (u.toNat : Int)) := by unfold Lib.byteCells; rw [List.getElem?_map, hu]; rfl
        rw [List.getElem?_eq_getElem hts] at this
        exact Option.some.inj this
      · rw [World.cell?_setCells_out _ _ _ _ _ (fun _ _ => .inr (by show o + 0 + _ ≤ j; rw [hlen]; omega))]
        have hto : (l.take o ++ s.data.toList.take m).length = o + m := by rw [List.length_append, List.length_take, hl1]; omega
        rw [List.getElem?_append_right (by rw [hto]; omega), hto, List.getElem?_drop, show o + m + (j - (o + m)) = j by omega] at hu
        exact h.byte j u hu
  · rw [World.frozen?_setCells]
    refine h.free j ?_
    rw [List.length_append, List.length_append, List.length_take, hl1, List.length_drop] at hj
    omega
end
/-- '[]byte(s)' -/
theorem run_bytes (w : World) (s : ByteArray) : ∃ cp W', (convert 9 61 (.string s)).run Try.prog w = .ok (.slice (some ⟨w.heap.size, 0, none⟩) s.size cp) W' ∧ s.size ≤ cp ∧ Byt W' w.heap.size s.data.toList ∧ Below w.heap.size w W' ∧ W'.heap.size = w.heap.size + 1 := by
  have hge := grownCap_ge w s.size 0 5
  have hz : (Lib.bytesCells w 5 s).size = grownCap w s.size 0 5 := by
    unfold Lib.bytesCells
    have : s.data.size = s.size := rfl
    simp
    omega
  have hat := Lib.bytesWorld_at_new w 5 s
  refine ⟨_, _, Lib.run_convert_string_bytes (P := Try.prog) w 9 61 5 s Try.underlying9 Try.underlying61 Try.underlying5, ?_, ⟨?_, fun j u hu => ?_, fun j hj => ?_⟩, ?_, Lib.bytesWorld_size w _ s⟩
  · omega
  · rw [Lib.bytesWorld_size]; omega
  · have hj : j < s.size := by have := (List.getElem?_eq_some_iff.1 hu).1; rwa [Array.length_toList] at this
    rw [Lib.bytesWorld_cell w _ s j hj, List.getD, hu]; rfl
  · rw [size_list] at hj
    simp only [World.frozen?, hat, Bool.and_eq_false_iff, decide_eq_false_iff_not]; left; omega
  · exact ⟨rfl, rfl, rfl, by rw [Lib.bytesWorld_size]; omega, fun k hk => Lib.bytesWorld_at_old w _ s k hk⟩
/-- 'string(b)' -/
theorem conv_byt {w : World} {g n c : Nat} {l : List UInt8} (h : Byt w g l) (hn : l.length = n) : (convert 61 9 (.slice (some ⟨g, 0, none⟩) n c)).run Try.prog w = .ok (.string (bstr l)) w := by
  have := run_convert_bytes_back (P := Try.prog) w 61 9 5 ⟨g, 0, none⟩ c l Try.underlying61 Try.underlying5 Try.underlying9 (fun i hi => by
    rw [madd_at, Nat.zero_add]
    exact h.byte i _ (List.getElem?_eq_getElem hi))
  rw [hn] at this
  exact this
end Go.Proofs.Ytbbfbijgclpjeaa.O
