/- What Table of package sums, and the document's Table, answer. Conditions: none. -/
import Derived.Test.YtoloamlodmefkaaSmA
import Derived.Test.YtoloamlodmefkaaArr
namespace Go.Proofs.Ytoloamlodmefkaa
open Go.RowKit M
set_option linter.unusedVariables false

/-- the table as far as its first k numbers -/
def upTo (k : Nat) (i : Nat) : Nat := if i < k then st i else 0

set_option maxHeartbeats 1000000 in
set_option maxRecDepth 1000000 in
theorem table_any (W : World) :
    Calls Try.prog 10 #[] W fun e w' => e = .returned (.agg (TV st)) ∧ Below W.heap.size W w' := by
  have hz := arrZero
  go_enter Try.func10, Try.ntmps10
  go_wp2_with fail
  clear hz
  go_loopw [4] (fun i wr => ∃ k : Nat, k ≤ 256 ∧ i = .int .i64 k ∧ Tb wr W.heap.size (fun _ => 0) ∧ Tb wr (W.heap.size + 1) (upTo k) ∧ Below W.heap.size W wr) (fun i _ => 256 - (intOf i).toNat)
  case atStart =>
    refine ⟨0, Nat.zero_le _, rfl, (Tb.made W _).alloc _, ?_, ((Below.refl _ _).alloc (Nat.le_refl _) _).alloc (by simp) _⟩
    have h := Tb.made (W.alloc (.cells (TV fun x => 0) 25)) (fun x => 0)
    rw [show (W.alloc (.cells (TV fun x => 0) 25)).heap.size = W.heap.size + 1 by simp] at h
    exact h.congr (fun i hi => by unfold upTo; rw [if_neg (by omega)])
  case round =>
    obtain ⟨k, hk, rfl, ht0, ht1, hb⟩ := hrel
    by_cases hlt : k < 256
    · have hc := ht1.cell hlt
      have hf := ht1.frozen k
      have hd : decide ((k : Int) < 256) = true := by simp; omega
      have hkb := Lib.hid (show k < big32 from Nat.lt_trans hlt (by decide))
      have HT0 := Lib.hid ht0
      have HT1 := Lib.hid ht1
      have HB := Lib.hid hb
      clear ht0 ht1 hb
      go_wp2_with fail
      go_loop [3, 9] (fun n j => ∃ m : Nat, m ≤ 8 ∧ j = .int .i64 m ∧ n = .int .u32 (sk k m)) (fun _ j => 8 - (intOf j).toNat)
      case atStart => exact ⟨0, Nat.zero_le _, rfl, rfl⟩
      case round =>
        obtain ⟨m, hm, rfl, rfl⟩ := hrel
        by_cases hlm : m < 8
        · go_wp2_with (go_at_call 21; refine (half_any _ _ (sk_lt hkb.out m)).mono ?_; rintro e w' ⟨rfl, rfl⟩)
          go_round
          case rel => exact ⟨m + 1, by omega, by go_num, rfl⟩
          case measure => simp [intOf]; omega
        · obtain rfl : m = 8 := by omega
          go_wp2_with fail
          go_roundw
          case rel =>
            refine ⟨k + 1, by omega, by go_num, HT0.out.other (by simp) _, (HT1.out.set k (sk k 8)).congr ?_, HB.out.setCell (by simp) _⟩
            intro i hi
            by_cases e : i = k
            · subst e
              simp [upTo, st]
            · rw [if_neg e]
              unfold upTo
              by_cases e2 : i < k
              · rw [if_pos e2, if_pos (by omega)]
              · rw [if_neg e2, if_neg (by omega)]
          case measure => simp [intOf]; omega
    · obtain rfl : k = 256 := by omega
      have ht : Tb wr (W.heap.size + 1) st := ht1.congr (fun i hi => by unfold upTo; rw [if_pos hi])
      have HT0 := Lib.hid ht0
      have HT := Lib.hid ht
      have HB := Lib.hid hb
      clear ht0 ht1 ht hb
      go_wp2_with (first | (refine step_load _ rfl rfl _ rfl st HT.out ?_) | (refine step_store_row rfl _ _ rfl _ _ st rfl rfl HT0.out ?_))
      have hr := HT0.out.setRow st
      refine bodyPost_ret (v := .agg (TV st)) (results_cell_row rfl _ _ _ _ _ _ _ rfl hr.row Try.underlying25 rfl (arrSizeV st)) rfl ⟨rfl, below_setRow HB.out _ _ (Nat.le_refl _)⟩

end Go.Proofs.Ytoloamlodmefkaa
