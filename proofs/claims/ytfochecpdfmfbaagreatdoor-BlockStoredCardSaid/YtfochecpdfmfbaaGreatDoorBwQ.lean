/- The document's Write (layer 13) in all its ways, and its Size. Conditions: as each theorem names them. -/
import Derived.Test.YtfochecpdfmfbaaGreatDoorMBwK
import Derived.Test.YtfochecpdfmfbaaGreatDoorMBwX
namespace Go.Proofs.YtfochecpdfmfbaaGreatDoor.V
open Go Go.RowKit M U
set_option linter.unusedVariables false
set_option linter.unusedSimpArgs false

theorem write_any {B P : Nat} {v : Value} {bs : List Nat} {w : World} (h : Bw B w P v bs) (k : Nat) (hk : k ≤ 2) (A : Option Addr) (n c : Nat) (L : List Tk) (raw : ByteArray) (last : Bool) (hr : k = 0 → raw.size ≤ 5000) (hT : ∀ w', Below B w w' → IsTks w' A n L) (hn : n ≤ 1000) (hm : k ≠ 0 → ∀ t ∈ L, may t = true) (hl : bs.length ≤ 900000) (hB : B ≤ w.heap.size) :
    Calls Tryz.prog 14 #[.pointer (some ⟨P, 0, none⟩), .int .u8 k, .slice A n c, .string raw, .bool last] w fun e w' => e = .returned (.tuple #[]) ∧ ∃ v', Bw B w' P v' (bs ++ blk k L raw last bs.length) ∧ Chg P v.ownBlock w v'.ownBlock w' := by
  match k, hk with
  | 0, _ => exact write_stored h A n c L raw last (hr rfl) (by omega) hB
  | 1, _ => exact write_fixed h A n c L raw last hT hn (hm (by decide)) hl hB
  | 2, _ => exact write_dynamic h A n c L raw last hT hn (hm (by decide)) hl hB

/-- a row of zeros, one's own -/
theorem Owb.zeros (w : World) (B r : Nat) (hB : B ≤ w.heap.size) (hr : r ≤ 100) : Owb B (w.alloc (.cells (madeCells #[.int .u8 0] r) 5)) (.slice (some ⟨w.heap.size, 0, none⟩) r r) (List.replicate r 0) := by
  unfold Owb
  refine ⟨by simp [clb_length], .inr ⟨w.heap.size, r, _, by simp, hB, heap_alloc_new _ _, by simp, by unfold maxLen; omega, by rw [size_madeCells]; omega, ?_⟩⟩
  rw [toList_madeCells_one, List.length_replicate, Nat.mul_one, List.take_of_length_le (by simp)]
  unfold clb
  simp
theorem Bw.zeros (w : World) (r : Nat) (hr : r ≤ 100) : Bw w.heap.size ((w.alloc (.cells (madeCells #[.int .u8 0] r) 5)).alloc (.cells #[.slice (some ⟨w.heap.size, 0, none⟩) r r] 38)) (w.heap.size + 1) (.slice (some ⟨w.heap.size, 0, none⟩) r r) (List.replicate r 0) :=
  ⟨by have := heap_alloc_new (w.alloc (.cells (madeCells #[.int .u8 0] r) 5)) (.cells #[.slice (some ⟨w.heap.size, 0, none⟩) r r] 38); simpa using this, (Owb.zeros w _ r (Nat.le_refl _) hr).alloc _, by omega⟩

set_option maxRecDepth 1000000 in
theorem size_any (k : Nat) (hk : k ≤ 2) (A : Option Addr) (n c : Nat) (L : List Tk) (raw : ByteArray) (p : Nat) (w : World) (hr : k = 0 → raw.size ≤ 5000) (hT : ∀ w', Below w.heap.size w w' → IsTks w' A n L) (hn : n ≤ 1000) (hm : k ≠ 0 → ∀ t ∈ L, may t = true) (hlen : (blk k L raw false (p % 8)).length ≤ 1000000) :
    Calls Tryz.prog 15 #[.int .u8 k, .slice A n c, .string raw, .int .i64 p] w fun e w' => e = .returned (.int .i64 ((blk k L raw false (p % 8)).length : Nat)) ∧ Below w.heap.size w w' := by
  obtain ⟨r, hr8⟩ : ∃ r, p % 8 = r := ⟨_, rfl⟩
  have hr7 : r < 8 := by omega
  have e1 : (p : Int) % 8 = (r : Int) := by omega
  rw [hr8] at hlen ⊢
  have hmk := made_any w r (by omega)
  have hz := Bw.zeros w r (by omega)
  have hbel : Below w.heap.size w ((w.alloc (.cells (madeCells #[.int .u8 0] r) 5)).alloc (.cells #[.slice (some ⟨w.heap.size, 0, none⟩) r r] 38)) := ((Below.refl _ _).alloc (Nat.le_refl _) _).alloc (by simp) _
  have hw := write_any hz k hk A n c L raw false hr (fun w' hb => hT w' (hbel.trans hb)) hn hm (by simp; omega) (by simp; omega)
  rw [List.length_replicate] at hw
  obtain ⟨q, hq⟩ : ∃ q, (blk k L raw false r).length = q := ⟨_, rfl⟩
  have hlq : (List.replicate r 0 ++ blk k L raw false r).length = r + q := by rw [List.length_append, List.length_replicate, hq]
  obtain ⟨bs, hbs⟩ : ∃ bs, List.replicate r 0 ++ blk k L raw false r = bs := ⟨_, rfl⟩
  rw [hbs] at hw hlq
  rw [hq] at hlen ⊢
  have HW := Lib.hid hw
  have HLQ := Lib.hid hlq
  have HBL := Lib.hid hbel
  have HZ := Lib.hid hz
  clear hw hlq hbel hz hbs hq hT hm hr hr8
  go_enter Tryz.func15, Tryz.ntmps15
  go_wp2_with (go_at_call 14; (with_reducible refine HW.out.mono ?_); rintro e w1 ⟨rfl, v1, h1, c1⟩; obtain ⟨A1, c2, hv⟩ := Owb.form h1.ow; rw [HLQ.out] at hv; have k0 := h1.at0; rw [hv] at k0; have B1 := Lib.hid (HBL.out.trans (HZ.out.base c1 (by simp; omega))); clear h1 c1 hv)
  go_ret
  exact ⟨by simp; omega, B1.out⟩
end Go.Proofs.YtfochecpdfmfbaaGreatDoor.V
