/- What sizesOf of package huff answers: of each table how many bits choose a cell. Conditions: as each theorem names them. -/
import Derived.Test.YtnkkccieidlacaaDic
import Derived.Test.YtnkkccieidlacaaDrw
import Derived.StillTailTactics
import Derived.BigRegion
import Derived.RegionTactic
namespace Go.Proofs.Ytnkkccieidlacaa
open Go.RowKit M
set_option linter.unusedVariables false

set_option maxRecDepth 1000000 in
set_option maxHeartbeats 1000000 in
theorem sizesOf_any (A : Option Addr) (n c : Nat) (l : Nat → Nat) (f : Nat) (W : World) (hm : May l n) (H : Cods W A n (rc l n) l) (h1 : 1 ≤ f) (hf : f ≤ 15) :
    Calls Try.prog 30 #[.slice A n c, .int .i64 f] W fun e w' => e = .returned (.map (some W.heap.size)) ∧
      ∃ N D, w'.ownsMap Try.prog 74 (plainElem Try.prog 3) W.heap.size N D ∧ N ≤ n + 1 ∧ Dic D datI (fun b s => sz l n f b s n) ∧ Below W.heap.size W w' := by
  have h320 := hm.1
  have HH := Lib.hid H
  have HM := Lib.hid hm
  have hn : n ≤ 9223372036854775807 := by omega
  have hmm := @run_makeMap Try.prog
  have ho := World.ownsMap_made W Try.prog 74 (plainElem (H := Value) Try.prog 3)
  obtain ⟨w1, D1, hr1, o1, d1, g1⟩ := storeI ho (Dic.empty datI) (b := 0) (s := 0) (by omega) (by omega) (by decide) f (by omega)
  have hr1' : (Instr.mapUpdate 71 (.map (some W.heap.size)) (.agg #[.int .u64 0, .int .i64 0]) (.int .i64 f)).run Try.prog (W.alloc (.map #[] 0)) = .ok () w1 := hr1
  have HO := Lib.hid o1
  have HD := Lib.hid (d1.congr (g := fun b s => sz l n f b s 0) (fun b s => by simp only [sz]))
  have HB := Lib.hid (((Below.refl W.heap.size W).alloc (Nat.le_refl _) (.map #[] 0)).grown g1 (by simp) (fun j hj => by cases hj; exact Nat.le_refl _))
  clear H hm hr1 o1 d1 g1 ho
  go_enter Try.func30, Try.ntmps30
  go_wp2_with fail
  clear hmm hr1'
  go_loopw [15] (fun i wr => ∃ k N : Nat, ∃ D, k ≤ n ∧ i = .int .i64 k ∧ wr.ownsMap Try.prog 74 (plainElem Try.prog 3) W.heap.size N D ∧ N ≤ k + 1 ∧ Dic D datI (fun b s => sz l n f b s k) ∧ Below W.heap.size W wr) (fun i _ => n - (intOf i).toNat)
  case atStart => exact ⟨0, 1, D1, Nat.zero_le _, rfl, HO.out, Nat.le_refl _, HD.out, HB.out⟩
  case round =>
    clear HO HD HB
    obtain ⟨k, N, D, hkn, rfl, ho, hN, hd, hb⟩ := hrel
    have HO := Lib.hid ho
    have HD := Lib.hid hd
    have HB := Lib.hid hb
    clear ho hd hb
    by_cases hlt : k < n
    · obtain ⟨b, o, rfl, hbs, hc⟩ := HH.out (by omega)
      have h15 := HM.out.2 k hlt
      have g1 := (HB.out.cell hbs).trans (hc k hlt).1
      have g2 := (HB.out.cell hbs).trans (hc k hlt).2
      have HA := Lib.hid (fun w => aheadOf_any l n f k w h15 hf)
      have hab := ahb_lt l n f k
      have hab2 : 2 ^ f ≤ 2 ^ 15 := Nat.pow_le_pow_right (by omega) hf
      have has := ahs_cases l n f k
      obtain ⟨x, hx⟩ : ∃ x, rc l n k = x := ⟨_, rfl⟩
      obtain ⟨z, hz⟩ : ∃ z, l k = z := ⟨_, rfl⟩
      obtain ⟨ab, e1⟩ : ∃ ab, ahb l n f k = ab := ⟨_, rfl⟩
      obtain ⟨ag, e2⟩ : ∃ ag, ahs l f k = ag := ⟨_, rfl⟩
      rw [hx] at g1
      rw [hz] at g2 h15
      rw [hx, hz, e1, e2] at HA
      rw [e1] at hab
      have has2 : ag ≤ 15 ∧ (ag ≤ z ∨ ag = 0) := by rw [e2, hz] at has; omega
      have hkk : ((k : Int)).toNat = k := by omega
      clear has hc
      go_wp2_with fail
      refine (HA.out _).mono ?_; rintro e w2 ⟨rfl, b2⟩
      have hlt0 := HO.out.lt
      have cc := ((R2.new wr 52 (.int .u32 x) (.int .u8 z)).below b2 (R2.lt (R2.new wr 52 (.int .u32 x) (.int .u8 z))))
      have RR := R2.new w2 74 (.int .u64 ab) (.int .i64 ag)
      have B2 := Lib.hid (((Below.refl wr.heap.size wr).alloc (Nat.le_refl _) (.cells #[.int .u32 x, .int .u8 z] 52)).trans (b2.mono (by simp)))
      have B3 := Lib.hid (B2.out.alloc B2.out.size (.cells #[.int .u64 ab, .int .i64 ag] 74))
      have O3 := Lib.hid (ownsMap_below HO.out B3.out hlt0)
      have c1 := (cc.alloc (.cells #[.int .u64 ab, .int .i64 ag] 74)).drew.at1
      have r0 := RR.drew.at0
      have r1 := RR.drew.at1
      have hlk := lookI (w := (w2.alloc (.cells #[.int .u64 ab, .int .i64 ag] 74)).drew) O3.out.drew HD.out (b := ab) (s := ag) (by omega) (by omega)
      obtain ⟨y, hy⟩ : ∃ y, (sz l n f ab ag k).getD 0 = y := ⟨_, rfl⟩
      rw [hy] at hlk
      obtain ⟨d, hdd⟩ : ∃ d, z - ag = d := ⟨_, rfl⟩
      have hsub : (z : Int) - (ag : Int) = (d : Int) := by omega
      obtain ⟨M, hM⟩ : ∃ M, max y d = M := ⟨_, rfl⟩
      have hyb : y ≤ 15 := by
        cases q : sz l n f ab ag k with
        | none => rw [q] at hy; simp at hy; omega
        | some m' => rw [q] at hy; have := sz_le hf k (fun i hi => HM.out.2 i (by omega)) m' q; simp at hy; omega
      have hmx : (if (y : Int) < (d : Int) then (d : Int) else (y : Int)) = (M : Int) := by split <;> omega
      have hmx2 : (if y < d then (d : Int) else (y : Int)) = (M : Int) := by split <;> omega
      have hwz : IntKind.i64.wrap (z : Int) = (z : Int) := IntWalk.i64_in _ ⟨by omega, by omega⟩
      have hws : IntKind.i64.wrap (d : Int) = (d : Int) := IntWalk.i64_in _ ⟨by omega, by omega⟩
      have B4 := Lib.hid (Below.drew B3.out)
      have O4 := Lib.hid O3.out.drew
      unfold rkey at hlk
      clear b2 cc RR
      go_wp2_with fail
      refine wp_region_still_tail 12 (by kernel_rfl) (by kernel_rfl) ?_
      change wpStill _ _ (w2.alloc (.cells #[.int .u64 ab, .int .i64 ag] 74)).drew (fun a' => wpList _ _ _ _ a' (w2.alloc (.cells #[.int .u64 ab, .int .i64 ag] 74)).drew) _ _
      generalize (w2.alloc (.cells #[.int .u64 ab, .int .i64 ag] 74)).drew = w4 at c1 r0 r1 hlk B4 O4 ⊢
      simp only [List.take_succ_cons, List.take_zero, List.drop_succ_cons, List.drop_zero]
      repeat still_step
      refine wpStill_nil ?_
      obtain ⟨w5, D5, hst, o5, d5, g5⟩ := storeI O4.out HD.out (b := ab) (s := ag) (by omega) (by omega) (by unfold maxLen; omega) M (by omega)
      unfold rkey at hst
      have B5 := Lib.hid ((HB.out.trans (B4.out.mono HB.out.size)).grown g5 (by have := HB.out.size; have := B4.out.size; omega) (fun j hj => by cases hj; exact Nat.le_refl _))
      have O5 := Lib.hid o5
      have D6 := Lib.hid (d5.congr (g := fun b s => sz l n f b s (k + 1)) (fun b s => by
        simp only [sz]
        rw [e1, e2]
        by_cases q : b = ab ∧ s = ag
        · rw [if_pos q, if_pos ⟨q.1.symm, q.2.symm⟩, q.1, q.2, hy, hz, hdd, hM]
        · rw [if_neg q, if_neg (fun k => q ⟨k.1.symm, k.2.symm⟩)]))
      clear o5 d5 g5 c1 r0 r1 hlk hmx hmx2 hwz hws O4
      go_wp2_with fail
      go_roundw
      case rel => exact ⟨k + 1, N + 1, D5, by omega, by go_num, O5.out, by omega, D6.out, B5.out⟩
      case measure => simp [intOf]; omega
    · obtain rfl : k = n := by omega
      go_wp2_with fail
      go_ret
      exact ⟨rfl, N, D, HO.out, hN, HD.out, HB.out⟩
end Go.Proofs.Ytnkkccieidlacaa
