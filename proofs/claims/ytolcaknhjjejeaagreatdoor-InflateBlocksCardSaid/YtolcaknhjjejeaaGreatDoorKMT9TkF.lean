/- Texts of one place, one behind the other: T9TkF, T9TkJ. -/
import Derived.Test.YtolcaknhjjejeaaGreatDoorKMT9Tok
import Derived.Laws.StructEq
import Derived.RangeFuncNested
import Derived.RangeFuncBox
import Derived.RangeFuncCalls
import Derived.RangeFuncLeaves
import Derived.RangeFuncWrites
import Derived.Shelf.Abstract
import Derived.OwnWalkIn
import Derived.TacticsInMore
import Derived.LoopNIn
import Derived.LoopIn
import Derived.RegionIn
import Derived.Shelf.RegionOpen
import Derived.Deep.RegionHeld3
namespace Go.Proofs.YtolcaknhjjejeaaGreatDoor.V.Tx
set_option maxRecDepth 1000000
open Go Go.RowKit M
open Go.ChangeShapes (lits)
set_option linter.unusedVariables false
set_option linter.unusedSimpArgs false
theorem wpList_app1 {ops : Array Oper} {rest : List Oper} {o : Oper} {a : Act} {w : World} {Q : Exit → Act → World → Prop} (hgd : o.guard = none) (s x : Operand)
    (ho : o.op = .call { callee := .builtin .append, args := #[s, x], argTypes := #[23, 23] }) (g n cp : Nat) (bs : List UInt8) (hs : a.eval s = .slice (some ⟨g, 0, none⟩) n cp) (h : Rb w g cp bs) (hn : bs.length = n)
    (ad : Addr) (c : Nat) (xv : Int) (hx : a.eval x = .slice (some ad) 1 c) (hc : w.cell? ad = some (.int .u8 xv)) (h0 : 0 ≤ xv ∧ xv ≤ 255) (hm : n ≤ 100000000)
    (hK : ∀ g' cp' w', Rb w' g' cp' (bs ++ [UInt8.ofNat xv.toNat]) → w.grownBy w' (some g) → (g' = g ∨ w.heap.size ≤ g') → wpList Tryz.prog ops Q rest (a.put o.dst (.slice (some ⟨g', 0, none⟩) (n + 1) cp')) w') : wpList Tryz.prog ops Q (o :: rest) a w :=
  wpList_plain hgd fun K hK' => by
    obtain ⟨g', cp', w', r1, r2, r3, r4⟩ := run_app1 w o.type g n cp bs h hn ad c xv hc h0 hm
    unfold Oper.wp execOp
    simp only [ho, resolve, invoke, builtin, Sem.run_bind, Sem.run_pure, Result.andThen_ok, List.map_toArray, List.map_cons, List.map_nil, hs, hx, r1]
    exact hK' _ _ (hK g' cp' w' r2 r3 r4)
end Go.Proofs.YtolcaknhjjejeaaGreatDoor.V.Tx

namespace Go.Proofs.YtolcaknhjjejeaaGreatDoor.V.Tx
set_option maxRecDepth 1000000
open Go Go.RowKit M
open Go.ChangeShapes (lits)
set_option linter.unusedVariables false
set_option linter.unusedSimpArgs false
structure Rw (w wr : World) (g cp : Nat) (b : List UInt8) : Prop where
  rb : Rb wr g cp b
  hg : w.heap.size ≤ g
  bl : Below w.heap.size w wr
theorem Rw.below {w wr w' : World} {g cp : Nat} {b : List UInt8} (h : Rw w wr g cp b) (hb : Below wr.heap.size wr w') : Rw w w' g cp b :=
  ⟨h.rb.of_block (hb.block g h.rb.lt), h.hg, h.bl.trans (hb.mono h.bl.size)⟩
theorem Rw.alloc {w wr : World} {g cp : Nat} {b : List UInt8} (h : Rw w wr g cp b) (o : Obj) : Rw w (wr.alloc o) g cp b := h.below ((Below.refl _ _).alloc (Nat.le_refl _) o)
theorem Rw.next {w w3 w4 : World} {b b' : List UInt8} {g cp g' cp' : Nat} (h : Rw w w3 g cp b) (gr : w3.grownBy w4 (some g)) (r2 : Rb w4 g' cp' b') (o4 : g' = g ∨ w3.heap.size ≤ g') : Rw w w4 g' cp' b' :=
  ⟨r2, by rcases o4 with e | e; exact e ▸ h.hg; exact Nat.le_trans h.bl.size e, h.bl.grown gr h.bl.size (fun k e => by cases e; exact h.hg)⟩
structure Un (q : Nat) (D : List UInt8) (L : List Tk) (j : Nat) (b : List UInt8) : Prop where
  all : ∀ rest, run q D (L.take j ++ rest) = run q b rest
  lo : q ≤ b.length
  hi : b.length - q ≤ 1048576
theorem Un.next {q : Nat} {D : List UInt8} {L : List Tk} {j : Nat} {b : List UInt8} (h : Un q D L j b) (hj : j < L.length) (hs : (step q b (L.getD j default)).1 = 0) : Un q D L (j + 1) (step q b (L.getD j default)).2 := by
  obtain ⟨h1, h2⟩ := step_len hs
  have hlo := h.lo
  refine ⟨fun rest => ?_, by omega, by omega⟩
  rw [getD_take_succ L j hj, List.append_assoc, h.all]
  exact run_go hs
theorem Un.stop {q : Nat} {D : List UInt8} {L : List Tk} {j : Nat} {b : List UInt8} (h : Un q D L j b) (hj : j < L.length) (hq : q = D.length) (hs : (step q b (L.getD j default)).1 ≠ 0) : txt D L = ([], (step q b (L.getD j default)).1) := by
  have h1 := h.all (L.drop j)
  rw [List.take_append_drop, List.drop_eq_getElem_cons hj] at h1
  have e : L[j] = L.getD j default := by rw [List.getD, List.getElem?_eq_getElem hj]; rfl
  rw [e, run_no hs] at h1
  rw [txt_no (by rw [← hq, h1]; exact hs), ← hq, h1]
theorem Un.done {q : Nat} {D : List UInt8} {L : List Tk} {j : Nat} {b : List UInt8} (h : Un q D L j b) (hj : L.length ≤ j) (hq : q = D.length) : txt D L = (b.drop q, 0) := by
  have h1 := h.all []
  rw [List.append_nil, List.take_of_length_le hj] at h1
  have h2 : run q b [] = (0, b) := rfl
  rw [h2] at h1
  rw [txt_ok (by rw [← hq, h1]), ← hq, h1]
set_option maxRecDepth 1000000 in
set_option maxHeartbeats 2000000 in
theorem rtext_any (s : ByteArray) (A : Option Addr) (n c : Nat) (L : List Tk) (w : World) (h : IsTks w A n L) (hn : n ≤ 1000000) (hs : s.size ≤ 900000) :
    Calls Tryz.prog 13 #[.string s, .slice A n c] w fun e w' => e = .returned (.tuple #[.string ⟨(txt s.data.toList L).1.toArray⟩, .int .i64 (txt s.data.toList L).2]) ∧ Below w.heap.size w w' := by
  have hl := h.leng
  have hgood := h.good
  obtain ⟨X, Y, hXY⟩ : ∃ X Y, txt s.data.toList L = (X, Y) := ⟨_, _, rfl⟩
  have HXY := Lib.hid hXY
  rw [hXY]
  clear hXY
  have HH := Lib.hid h
  have HL := Lib.hid hl
  have HGd := Lib.hid hgood
  obtain ⟨q, hq⟩ : ∃ q, s.size = q := ⟨_, rfl⟩
  have hq1 : (s.size : Int) = (q : Int) := by rw [hq]
  have HQ := Lib.hid (show q = s.data.toList.length by rw [← hq]; exact Array.length_toList.symm)
  have hq9 : q ≤ 900000 := by omega
  obtain ⟨cp0, w1, hconv, hrb, hbl, hz1⟩ := run_bytes w s (by omega)
  have HR0 := Lib.hid (Rw.mk hrb (Nat.le_refl _) hbl)
  have HQs := Lib.hid hq
  rw [hq] at hconv
  clear hrb hbl h hl hgood hs hz1 hq
  go_enter Tryz.func13, Tryz.ntmps13
  go_wp2_with fail
  clear hconv
  go_loopw [6, 7] (fun v i wr => ∃ j g cp b, j ≤ n ∧ i = .int .i64 (j : Nat) ∧ v = .slice (some ⟨g, 0, none⟩) b.length cp ∧ Rw w wr g cp b ∧ Un q s.data.toList L j b) (fun v i _ => n - (intOf i).toNat)
  case atStart => exact ⟨0, w.heap.size, cp0, s.data.toList, Nat.zero_le _, rfl, by rw [← HQ.out], HR0.out, ⟨fun rest => rfl, by rw [← HQ.out]; exact Nat.le_refl _, by rw [← HQ.out]; omega⟩⟩
  case round =>
    obtain ⟨j, g, cp, b, hj, rfl, rfl, hR, hU⟩ := hrel
    obtain ⟨m, hm⟩ : ∃ m, b.length = m := ⟨_, rfl⟩
    have hlo := hU.lo
    have hhi := hU.hi
    rw [hm] at hlo hhi ⊢
    by_cases hlt : j < n
    · obtain ⟨b0, o, rfl, hbl, hc⟩ := (HH.out.below hR.bl).at (by omega)
      obtain ⟨c0, c1, c2⟩ := hc j hlt
      have hgd := HGd.out (L.getD j default) (by rw [List.getD, List.getElem?_eq_getElem (by rw [HL.out]; exact hlt)]; exact List.getElem_mem _)
      obtain ⟨t, ht⟩ : ∃ t, L.getD j default = t := ⟨_, rfl⟩
      have hnx := hU.next (by rw [HL.out]; exact hlt)
      have hsp := hU.stop (by rw [HL.out]; exact hlt) HQ.out
      rw [ht] at c0 c1 c2 hgd hnx hsp
      rw [HXY.out] at hsp
      obtain ⟨l, tn, d⟩ := t
      obtain ⟨g1, g2, g3⟩ := hgd
      simp only at c0 c1 c2 g1 g2 g3
      have hb0g : b0 < wr.heap.size := hbl
      have hw := step_ways q b ⟨l, tn, d⟩
      have hsp1 := hsp
      have hM := rmay_any l tn d
      obtain ⟨P, hP⟩ : ∃ P, wr.heap.size = P := ⟨_, rfl⟩
      have hta := R3.new wr 57 (.int .u8 l) (.int .i64 tn) (.int .i64 d)
      have hRa := hR.alloc (.cells #[.int .u8 l, .int .i64 tn, .int .i64 d] 57)
      rw [hP] at hta
      have hgP : g < P := by have := hR.rb.lt; omega
      have t0 := hta.at0
      have t1 := hta.at1
      have t2 := hta.at2
      have htl := hta.lt
      have HTA := Lib.hid hta
      have HRA := Lib.hid hRa
      have HNX := Lib.hid hnx
      have HSP := Lib.hid hsp
      have hlen : b.length < 9223372036854775807 := by omega
      have hm9 : m ≤ 2000000 := by omega
      clear hta hRa hnx hsp hsp1 hR hU hc ht
      rw [hm] at hw
      rcases hw with h1 | ⟨h1, h2⟩ | ⟨h1, h2, h3⟩ | ⟨h2, h3, h4⟩ | ⟨h2, h3, h4⟩
      · have hs := step_arg (d0 := q) (b := b) h1
        have hxy := HSP.out (by rw [hs]; simp)
        rw [hs] at hxy
        obtain ⟨rfl, rfl⟩ : X = [] ∧ Y = 2 := by injection hxy with a b; exact ⟨a, b⟩
        rw [h1] at hM
        have HM := Lib.hid hM
        clear hM hs hxy h1
        go_wp2_with (go_at_call 22; (with_reducible refine (HM.out _).mono ?_); rintro e w2 ⟨rfl, b2⟩; have HR2 := Lib.hid (HRA.out.below b2); clear b2)
        go_ret2
        exact ⟨rfl, HR2.out.bl⟩
      · have hs := step_far (d0 := q) (b := b) h1 (by rw [hm]; exact h2)
        have hxy := HSP.out (by rw [hs]; simp)
        rw [hs] at hxy
        obtain ⟨rfl, rfl⟩ : X = [] ∧ Y = 7 := by injection hxy with a b; exact ⟨a, b⟩
        rw [h1] at hM
        have HM := Lib.hid hM
        have e2 : decide ((m : Int) < d) = true := decide_eq_true h2
        clear hM hs hxy h1 h2
        go_wp2_with (go_at_call 22; (with_reducible refine (HM.out _).mono ?_); rintro e w2 ⟨rfl, b2⟩; have HR2 := Lib.hid (HRA.out.below b2); have htk2 := HTA.out.below b2 htl; have p0 := htk2.at0; have p1 := htk2.at1; have p2 := htk2.at2; have HT2 := Lib.hid htk2; clear b2 htk2)
        go_ret2
        exact ⟨rfl, HR2.out.bl⟩
      · have hs := step_long (d0 := q) (b := b) h1 (by rw [hm]; exact h2) (by rw [hm]; exact h3)
        have hxy := HSP.out (by rw [hs]; simp)
        rw [hs] at hxy
        obtain ⟨rfl, rfl⟩ : X = [] ∧ Y = 5 := by injection hxy with a b; exact ⟨a, b⟩
        rw [h1] at hM
        have HM := Lib.hid hM
        have e2 : decide ((m : Int) < d) = false := decide_eq_false h2
        obtain ⟨z, hz⟩ : ∃ z, szo ⟨l, tn, d⟩ = z := ⟨_, rfl⟩
        have hz258 := szo_le ⟨l, tn, d⟩
        rw [hz] at h3 hz258
        have hmx : (if tn < 1 then (1 : Int) else tn) = (z : Int) := by
          rw [← hz]
          have q' := h1
          unfold may at q'
          rw [Bool.or_eq_true] at q'
          rcases q' with q' | q'
          · rw [szo_byte q']; have := isB_iff.1 q'; simp only at this; rw [if_pos (by omega)]; rfl
          · rw [szo_match q']; have := isM_iff.1 q'; simp only at this; rw [if_neg (by omega)]; simp only; omega
        obtain ⟨v, hv⟩ : ∃ v, m - q = v := ⟨_, rfl⟩
        obtain ⟨y, hy⟩ : ∃ y, v + z = y := ⟨_, rfl⟩
        rw [hv, hy] at h3
        have x1 : (m : Int) - (q : Int) = (v : Int) := by omega
        have x2 : (v : Int) + (z : Int) = (y : Int) := by omega
        have hy9 : y ≤ 4000000 := by omega
        have hv9 : v ≤ 4000000 := by omega
        have e3 : decide (1048576 < (y : Int)) = true := decide_eq_true (by omega)
        have e4 : decide (1048576 < y) = true := decide_eq_true h3
        clear hM hs hxy h1 h2 h3 hz hv hy hz258 g1 g2 g3
        go_wp2_with (go_at_call 22; (with_reducible refine (HM.out _).mono ?_); rintro e w2 ⟨rfl, b2⟩; have HR2 := Lib.hid (HRA.out.below b2); have htk2 := HTA.out.below b2 htl; have p0 := htk2.at0; have p1 := htk2.at1; have p2 := htk2.at2; have HT2 := Lib.hid htk2; clear b2 htk2)
        go_ret2
        exact ⟨rfl, HR2.out.bl⟩
      · have h1 : may ⟨l, tn, d⟩ = true := by unfold may; rw [h4]; rfl
        have hs := step_byte (d0 := q) (b := b) (t := ⟨l, tn, d⟩) (by rw [hm]; exact h2) (by rw [hm]; exact h3) h4
        have hU1 := HNX.out (by rw [hs])
        rw [hs] at hU1
        simp only at hU1
        rw [h1] at hM
        have HM := Lib.hid hM
        have e2 : decide ((m : Int) < d) = false := decide_eq_false h2
        obtain ⟨z, hz⟩ : ∃ z, szo ⟨l, tn, d⟩ = z := ⟨_, rfl⟩
        have hz258 := szo_le ⟨l, tn, d⟩
        rw [hz] at h3 hz258
        have hmx : (if tn < 1 then (1 : Int) else tn) = (z : Int) := by
          rw [← hz]
          have q' := h1
          unfold may at q'
          rw [Bool.or_eq_true] at q'
          rcases q' with q' | q'
          · rw [szo_byte q']; have := isB_iff.1 q'; simp only at this; rw [if_pos (by omega)]; rfl
          · rw [szo_match q']; have := isM_iff.1 q'; simp only at this; rw [if_neg (by omega)]; simp only; omega
        obtain ⟨v, hv⟩ : ∃ v, m - q = v := ⟨_, rfl⟩
        obtain ⟨y, hy⟩ : ∃ y, v + z = y := ⟨_, rfl⟩
        rw [hv, hy] at h3
        have x1 : (m : Int) - (q : Int) = (v : Int) := by omega
        have x2 : (v : Int) + (z : Int) = (y : Int) := by omega
        have hy9 : y ≤ 4000000 := by omega
        have hv9 : v ≤ 4000000 := by omega
        have e3 : decide (1048576 < (y : Int)) = false := decide_eq_false (by omega)
        have e4 : decide (1048576 < y) = false := decide_eq_false h3
        have hz1 : z = 1 := by rw [← hz]; exact szo_byte h4
        have x2' : (v : Int) + 1 = (y : Int) := by omega
        clear x2 hmx
        have hn0 : tn = 0 := (isB_iff.1 h4).1
        have hbl1 : (b ++ [UInt8.ofNat l.toNat]).length = m + 1 := by rw [List.length_append, hm]; rfl
        have HBL := Lib.hid hbl1
        have HU1 := Lib.hid hU1
        have hm8 : m ≤ 100000000 := by omega
        clear hM hs h1 h2 h3 h4 hz hv hy hz258 g2 g3 hU1 hbl1 HSP HNX hz1
        subst hn0
        go_wp2_with (first | (go_at_call 22; (with_reducible refine (HM.out _).mono ?_); rintro e w2 ⟨rfl, b2⟩; have HR2 := Lib.hid (HRA.out.below b2); have htk2 := HTA.out.below b2 htl; have p0 := htk2.at0; have p1 := htk2.at1; have p2 := htk2.at2; have HT2 := Lib.hid htk2; clear b2 htk2) | (at_builtin; refine wpList_app1 rfl (.tmp 43) (.tmp 46) rfl g m cp b rfl (HR2.out.rb.alloc _) hm ⟨w2.heap.size, 0, none⟩ 1 l rfl (by simp) g1 hm8 ?_; intro g' cp' w4 r2 gr o4; have HR4 := Lib.hid ((HR2.out.alloc _).next gr r2 o4); have htk4 := (HT2.out.alloc (.cells #[.int .u8 l] 5)).of_block (gr.block P (Nat.lt_of_lt_of_le HT2.out.lt (by simp)) (by intro e; injection e with e; omega)); have p1 := htk4.at1; have HT4 := Lib.hid htk4; clear r2 gr o4 htk4))
        go_loopw [6, 9] (fun v i wr2 => v = .slice (some ⟨g', 0, none⟩) (m + 1) cp' ∧ i = .int .i64 0 ∧ Rw w wr2 g' cp' (b ++ [UInt8.ofNat l.toNat]) ∧ R3 wr2 57 P (.int .u8 l) (.int .i64 0) (.int .i64 d)) (fun _ _ _ => 0)
        case atStart => exact ⟨rfl, rfl, HR4.out, HT4.out⟩
        case round =>
          obtain ⟨rfl, rfl, hR5, hT5⟩ := hrel
          have p5 := hT5.at1
          have HR5 := Lib.hid hR5
          clear hR5 hT5
          go_wp2_with fail
          go_roundw
          case rel => exact ⟨j + 1, g', cp', _, by omega, by go_num, by rw [HBL.out], HR5.out, HU1.out⟩
          case measure => simp [intOf]; omega
      · have h1 : may ⟨l, tn, d⟩ = true := by unfold may; rw [h4, Bool.or_true]
        have hs := step_match (d0 := q) (b := b) (t := ⟨l, tn, d⟩) (by rw [hm]; exact h2) (by rw [hm]; exact h3) h4
        have hU1 := HNX.out (by rw [hs])
        rw [hs] at hU1
        simp only at hU1
        rw [h1] at hM
        have HM := Lib.hid hM
        have hiff := isM_iff.1 h4
        simp only at hiff
        obtain ⟨hf1, hf2, hf3, hf4, hf5⟩ := hiff
        obtain ⟨N, hN⟩ : ∃ N : Nat, tn.toNat = N := ⟨_, rfl⟩
        obtain ⟨D, hD⟩ : ∃ D : Nat, d.toNat = D := ⟨_, rfl⟩
        rw [hN, hD] at hU1
        have hnN : tn = (N : Int) := by omega
        have hdD : d = (D : Int) := by omega
        have hN2 : N ≤ 258 := by omega
        have hD1 : 1 ≤ D := by omega
        have hD2 : D ≤ m := by have h2' : ¬ (m : Int) < d := h2; omega
        have e2' : decide (m < D) = false := decide_eq_false (by omega)
        have en : ((N : Int) == 0) = false := by rw [beq_eq_false_iff_ne]; omega
        have en2 : (N == 0) = false := by rw [beq_eq_false_iff_ne]; omega
        have en3 : ¬ N = 0 := by omega
        have e2 : decide ((m : Int) < d) = false := decide_eq_false h2
        obtain ⟨z, hz⟩ : ∃ z, szo ⟨l, tn, d⟩ = z := ⟨_, rfl⟩
        have hz258 := szo_le ⟨l, tn, d⟩
        rw [hz] at h3 hz258
        have hmx : (if tn < 1 then (1 : Int) else tn) = (z : Int) := by
          rw [← hz]
          have q' := h1
          unfold may at q'
          rw [Bool.or_eq_true] at q'
          rcases q' with q' | q'
          · rw [szo_byte q']; have := isB_iff.1 q'; simp only at this; rw [if_pos (by omega)]; rfl
          · rw [szo_match q']; have := isM_iff.1 q'; simp only at this; rw [if_neg (by omega)]; simp only; omega
        obtain ⟨v, hv⟩ : ∃ v, m - q = v := ⟨_, rfl⟩
        obtain ⟨y, hy⟩ : ∃ y, v + z = y := ⟨_, rfl⟩
        rw [hv, hy] at h3
        have x1 : (m : Int) - (q : Int) = (v : Int) := by omega
        have x2 : (v : Int) + (z : Int) = (y : Int) := by omega
        have hy9 : y ≤ 4000000 := by omega
        have hv9 : v ≤ 4000000 := by omega
        have hzN : z = N := by rw [← hz, ← hN]; exact szo_match h4
        have e3 : decide (1048576 < (y : Int)) = false := decide_eq_false (by omega)
        have e4 : decide (1048576 < y) = false := decide_eq_false h3
        subst hzN
        have hmx' : (if (z : Int) < 1 then (1 : Int) else (z : Int)) = (z : Int) := if_neg (by omega)
        have hmx2 : (if z < 1 then (1 : Int) else (z : Int)) = (z : Int) := if_neg (by omega)
        have hU2 := Lib.hid hU1
        have hm8 : m ≤ 100000000 := by omega
        subst hnN hdD
        clear hM hs h1 h2 h3 h4 hz hv hy hz258 g1 g2 g3 hU1 HSP HNX hf1 hf2 hf3 hf4 hf5 hN hD hmx
        go_wp2_with (go_at_call 22; (with_reducible refine (HM.out _).mono ?_); rintro e w2 ⟨rfl, b2⟩; have HR2 := Lib.hid (HRA.out.below b2); have htk2 := HTA.out.below b2 htl; have p0 := htk2.at0; have p1 := htk2.at1; have p2 := htk2.at2; have HT2 := Lib.hid htk2; clear b2 htk2)
        go_loopw [6, 9] (fun v i wr2 => ∃ k g cp, k ≤ z ∧ i = .int .i64 (k : Nat) ∧ v = .slice (some ⟨g, 0, none⟩) (m + k) cp ∧ Rw w wr2 g cp (grow b D k) ∧ R3 wr2 57 P (.int .u8 l) (.int .i64 (z : Int)) (.int .i64 (D : Int)) ∧ g ≠ P) (fun _ i _ => z - (intOf i).toNat)
        case atStart => exact ⟨0, g, cp, Nat.zero_le _, rfl, rfl, HR2.out, HT2.out, Nat.ne_of_lt hgP⟩
        case round =>
          clear p0 p1 p2
          obtain ⟨k, g1, cp1, hk, rfl, rfl, hR5, hT5, hgP1⟩ := hrel
          have hgl := grow_length b D k
          rw [hm] at hgl
          obtain ⟨M, hM⟩ : ∃ M, m + k = M := ⟨_, rfl⟩
          rw [hM] at hgl ⊢
          have p5 := hT5.at1
          have p6 := hT5.at2
          by_cases hlt2 : k < z
          · obtain ⟨u, hu⟩ : ∃ u, M - D = u := ⟨_, rfl⟩
            have hM8 : M ≤ 100000000 := by omega
            have y1 : (M : Int) - (D : Int) = (u : Int) := by omega
            have hu2 : u < M := by omega
            have hgx : (grow b D k)[u]? = some ((grow b D k).getD u 0) := by rw [List.getD, List.getElem?_eq_getElem (by omega)]; rfl
            have hstep : grow b D (k + 1) = grow b D k ++ [(grow b D k).getD u 0] := by
              show grow b D k ++ [(grow b D k).getD ((grow b D k).length - D) 0] = _
              rw [hgl, hu]
            have wx := hR5.rb.byte u _ hgx
            obtain ⟨x, hx⟩ : ∃ x, (grow b D k).getD u 0 = x := ⟨_, rfl⟩
            rw [hx] at wx hstep
            obtain ⟨xv, hxv⟩ : ∃ xv : Int, ((x.toNat : Nat) : Int) = xv := ⟨_, rfl⟩
            rw [hxv] at wx
            have hxb : 0 ≤ xv ∧ xv ≤ 255 := by have := x.toNat_lt; omega
            have hback : UInt8.ofNat xv.toNat = x := by rw [← hxv]; simp
            have HR5 := Lib.hid hR5
            have HT5 := Lib.hid hT5
            have HX := Lib.hid hback
            have HG := Lib.hid hgl
            have HST := Lib.hid hstep
            have HM2 := Lib.hid hM
            clear hR5 hT5 hback hgl hstep hx hxv hgx hM hu
            go_wp2_with (at_builtin; refine wpList_app1 rfl (.tmp 54) (.tmp 63) rfl g1 M cp1 (grow b D k) rfl (HR5.out.rb.alloc _) HG.out ⟨wr.heap.size, 0, none⟩ 1 xv rfl (by simp) hxb hM8 ?_; intro g' cp' w4 r2 gr o4; have hPs := HT5.out.lt; have HR6 := Lib.hid ((HR5.out.alloc _).next gr r2 o4); have HT6 := Lib.hid ((HT5.out.alloc (.cells #[.int .u8 xv] 5)).of_block (gr.block P (Nat.lt_of_lt_of_le HT5.out.lt (by simp)) (by intro e; injection e with e; exact hgP1 e.symm))); have HGP := Lib.hid (show g' ≠ P by rcases o4 with e | e; exact e ▸ hgP1; (simp at e; omega)); clear r2 gr o4)
            go_roundw
            case rel => exact ⟨k + 1, g', cp', by omega, by go_num, by rw [← HM2.out]; rfl, by rw [HST.out, ← HX.out]; exact HR6.out, HT6.out, HGP.out⟩
            case measure => simp [intOf]; omega
          · obtain rfl : k = z := by omega
            have HR5 := Lib.hid hR5
            clear hR5 hT5
            go_wp2_with fail
            go_roundw
            case rel => exact ⟨j + 1, g1, cp1, _, by omega, by go_num, by rw [hgl], HR5.out, hU2.out⟩
            case measure => simp [intOf]; omega
    · obtain rfl : j = n := by omega
      have ht := hU.done (by rw [HL.out]; exact Nat.le_refl _) HQ.out
      rw [HXY.out] at ht
      obtain ⟨rfl, rfl⟩ : X = b.drop q ∧ Y = 0 := by injection ht with a b; exact ⟨a, b⟩
      have HR := Lib.hid hR
      have hnc := hR.rb.nc
      rw [hm] at hnc
      by_cases hcq : cp = q
      · obtain rfl : m = q := by omega
        obtain rfl : m = cp := hcq.symm
        have hc := conv_rb hR.rb m m hm (Nat.le_refl _) ⟨g, 0, none⟩ (c := 0) (fun e => absurd e (by omega))
        rw [Nat.sub_self] at hc
        clear ht hU hR hnc hlo hhi hcq
        go_wp2_with fail
        go_ret2
        exact ⟨rfl, HR.out.bl⟩
      · have hc := conv_rb hR.rb q m hm hlo ⟨g, q, none⟩ (c := cp - q) (fun e => rfl)
        have hcq' : ¬ q = cp := fun e => hcq e.symm
        clear ht hU hR
        go_wp2_with fail
        go_ret2
        exact ⟨rfl, HR.out.bl⟩
end Go.Proofs.YtolcaknhjjejeaaGreatDoor.V.Tx
