/- Rows of ints that a law fills; parameters as plain numbers. Conditions: as each theorem names them. -/
import Derived.Test.YteicamfelamfhaaPkN
import Derived.Test.YteicamfelamfhaaPkH
import Derived.Test.YteicamfelamfhaaIsr
namespace Go.Proofs.Yteicamfelamfhaa
open Go.RowKit M
set_option linter.unusedVariables false

/-- Block b holds n ints. -/
def Irow (w : World) (b n : Nat) (z : Nat → Int) : Prop := w.rowIs b 3 n (fun i => .int .i64 (z i))
section
variable {w w' : World} {b n : Nat} {z y : Nat → Int}
theorem Irow.lt (h : Irow w b n z) : b < w.heap.size := World.rowIs.lt h
theorem Irow.nums (h : Irow w b n z) : Nums w .i64 (some ⟨b, 0, none⟩) n z := fun hn =>
  ⟨b, 0, rfl, World.rowIs.lt h, fun i hi => by rw [Nat.zero_add]; exact World.rowIs.cell h hi⟩
theorem Irow.cell (h : Irow w b n z) {i : Nat} (hi : i < n) : w.cell? ⟨b, i, none⟩ = some (.int .i64 (z i)) := World.rowIs.cell h hi
theorem Irow.frozen (h : Irow w b n z) (i : Nat) : w.frozen? ⟨b, i, none⟩ = false := World.rowIs.frozen h i
theorem Irow.congr (h : Irow w b n z) (e : ∀ i, i < n → z i = y i) : Irow w b n y := World.rowIs.congr h (fun i hi => by rw [e i hi])
theorem Irow.made (w : World) (n : Nat) : Irow (w.alloc (.cells (madeCells #[.int .i64 0] n) 3)) w.heap.size n (fun _ => 0) := World.rowIs_made w (.int .i64 0) n 3
theorem Irow.set (h : Irow w b n z) (i : Nat) (v : Int) : Irow (w.setCell ⟨b, i, none⟩ (.int .i64 v)) b n (fun j => if j = i then v else z j) :=
  World.rowIs.congr (World.rowIs.set h i (.int .i64 v)) (fun j hj => by by_cases e : j = i <;> simp [e])
theorem Irow.other (h : Irow w b n z) {a : Addr} (ha : b ≠ a.block) (v : Value) : Irow (w.setCell a v) b n z := World.rowIs.setOther h ha v
theorem Irow.alloc (h : Irow w b n z) (o : Obj) : Irow (w.alloc o) b n z := World.rowIs.alloc h o
theorem Irow.drew (h : Irow w b n z) : Irow w.drew b n z := h
theorem Irow.drewN (h : Irow w b n z) (k : Nat) : Irow (w.drewN k) b n z := h
theorem Irow.at' (h : Irow w b n z) (e : w'.heap[b]? = w.heap[b]?) : Irow w' b n z := World.rowIs.of_block h e
theorem Irow.below (h : Irow w b n z) {B : Nat} (hb : Below B w w') (hB : b < B) : Irow w' b n z := h.at' (hb.block b hB)
end
theorem madeInt (w : World) (n : Nat) (hn : n ≤ 400) :
    (Instr.makeSlice 22 (.int .i64 (n : Int)) (.int .i64 (n : Int))).run Try.prog w = .ok (.slice (some ⟨w.heap.size, 0, none⟩) n n) (w.alloc (.cells (madeCells #[.int .i64 0] (n * 1)) 3)) :=
  run_made w Try.underlying22 intInfo (by decide) n n (Nat.le_refl _) (by omega)
theorem Br.drewN {w : World} {g n : Nat} {f : Nat → Nat} (h : Br w g n f) (k : Nat) : Br (w.drewN k) g n f := h
theorem u8_nat {a : Int} (h : (Lit.int .u8 a).wf = true) : ∃ n : Nat, a = n ∧ n < 256 := by
  have g : 0 ≤ a ∧ a ≤ 255 := by simpa [Lit.wf, IntKind.min, IntKind.max, IntKind.signed, IntKind.bits] using h
  exact ⟨a.toNat, by omega, by omega⟩
theorem u16_nat {a : Int} (h : (Lit.int .u16 a).wf = true) : ∃ n : Nat, a = n ∧ n < 65536 := by
  have g : 0 ≤ a ∧ a ≤ 65535 := by simpa [Lit.wf, IntKind.min, IntKind.max, IntKind.signed, IntKind.bits] using h
  exact ⟨a.toNat, by omega, by omega⟩
end Go.Proofs.Yteicamfelamfhaa
