/- The document's Write (layer 13) in all its ways, and its Size. Conditions: as each theorem names them. -/
import Derived.Test.YtkegkfmikplgdaaDoorMBwK
import Derived.Test.YtkegkfmikplgdaaDoorMBwX
namespace Go.Proofs.YtkegkfmikplgdaaDoor.V
open Go Go.RowKit M U
set_option linter.unusedVariables false
set_option linter.unusedSimpArgs false

/-- a row of zeros, one's own -/
theorem Owb.zeros (w : World) (B r : Nat) (hB : B ≤ w.heap.size) (hr : r ≤ 100) : Owb B (w.alloc (.cells (madeCells #[.int .u8 0] r) 5)) (.slice (some ⟨w.heap.size, 0, none⟩) r r) (List.replicate r 0) := by
  unfold Owb
  refine ⟨by simp [clb_length], .inr ⟨w.heap.size, r, _, by simp, hB, heap_alloc_new _ _, by simp, by unfold maxLen; omega, by rw [size_madeCells]; omega, ?_⟩⟩
  rw [toList_madeCells_one, List.length_replicate, Nat.mul_one, List.take_of_length_le (by simp)]
  unfold clb
  simp
theorem blk_len (k : Nat) (L : List Tk) (raw : ByteArray) (last : Bool) (o : Nat) (hr : k = 0 → raw.size ≤ 5000) (hn : L.length ≤ 1000) (hm : k ≠ 0 → ∀ t ∈ L, may t = true) : (blk k L raw last o).length ≤ 600000 := by
  have hs := sys_len L
  unfold blk
  by_cases h0 : k = 0
  · rw [if_pos h0, stb_length]
    have h1 := hr h0
    have : pd (o + 3) ≤ 7 := by unfold pd; omega
    omega
  · rw [if_neg h0]
    have hb : ∀ y ∈ sys L, y.b ≤ 13 := fun y hy => (sys_b (hm h0) y hy).1
    split
    · unfold sfx
      rw [List.length_append, hdb_length]
      have := wss_len fxl 288 (fun _ => 5) 30 fxl_fine.byte (fun _ => by show 5 ≤ 255; decide) (sys L) hb
      omega
    · unfold sbs
      rw [List.length_append, List.length_append, hdb_length]
      have h1 := hdd_len L
      have := wss_len (ll1 L) 286 (ll2 L) 30 (fun i => Nat.le_trans (hfl_le _ (by decide) (by decide) i) (by decide)) (fun i => Nat.le_trans (hfl_le _ (by decide) (by decide) i) (by decide)) (sys L) hb
      omega
end Go.Proofs.YtkegkfmikplgdaaDoor.V
