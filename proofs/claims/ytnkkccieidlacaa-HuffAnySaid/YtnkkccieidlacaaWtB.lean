/- What put of package bitw leaves: the bits behind those that were there. Conditions: as each theorem names them. -/
import Derived.Test.YtnkkccieidlacaaWtA
import Derived.RegionTactic
import Derived.BigRegion
import Derived.ChangeAlike
import Derived.Deep.LoopGhost
import Derived.Deep.AppendLies
import Derived.Deep.RegionLaw
import Derived.WalkMore
namespace Go.Proofs.Ytnkkccieidlacaa
open Go.RowKit M
set_option linter.unusedVariables false
variable {w w' : World} {B p k c V L : Nat} {ao : Option Addr} {most : Int} {S T : Nat → Prop}

theorem info_u8 : (Try.prog.info? 5).map (fun i => (i.zero, i.size, i.bytes)) = some (some (.int .u8 0), 1, 1) := by kernel_rfl

theorem set_ne {i j : Nat} {v : Value} (h : i ≠ j) : (w.setCell ⟨p, i, none⟩ v).cell? ⟨p, j, none⟩ = w.cell? ⟨p, j, none⟩ := World.cell?_setCell_other w _ _ _ (fun e => h (by injection e))
theorem set_eq {i : Nat} {u v : Value} (h : w.cell? ⟨p, i, none⟩ = some u) : (w.setCell ⟨p, i, none⟩ v).cell? ⟨p, i, none⟩ = some v := World.cell?_setCell_same' w _ _ (by rw [h]; rfl)
theorem set_fz {a b : Addr} {v : Value} (h : w.frozen? b = false) : (w.setCell a v).frozen? b = false := by rw [World.frozen?_setCell]; exact h

theorem Wr.keep34 (h : Wr w B p most ao c k V L) (x y : Value) : Kept (foot p ao) w ((w.setCell ⟨p, 3, none⟩ x).setCell ⟨p, 4, none⟩ y) :=
  ((Kept.refl _ w).setCell _ (.inl (.inl rfl)) _).setCell _ (.inl (.inl rfl)) _
theorem Wr.put34 (h : Wr w B p most ao c k V L) {V' L' : Nat} (hs : bys V' k = bys V k) (hV : V' < 2 ^ L') (hL : 8 * k ≤ L') (Y Z : Int) (hY : Y = ((V' / 256 ^ k : Nat) : Int)) (hZ : Z = ((L' - 8 * k : Nat) : Int)) :
    Wr ((w.setCell ⟨p, 3, none⟩ (.int .u64 Y)).setCell ⟨p, 4, none⟩ (.int .i64 Z)).drew B p most ao c k V' L' := by
  subst hY hZ
  have h0 := h.c0
  have h1 := h.c1
  have h2 := h.c2
  have h3 := h.c3
  have h4 := h.c4
  have hf := h.fz
  have hk : Kept (fun j => j = p) w ((w.setCell ⟨p, 3, none⟩ (.int .u64 ((V' / 256 ^ k : Nat) : Int))).setCell ⟨p, 4, none⟩ (.int .i64 ((L' - 8 * k : Nat) : Int))).drew :=
    (((Kept.refl (fun j => j = p) w).setCell ⟨p, 3, none⟩ (.inl rfl) _).setCell ⟨p, 4, none⟩ (.inl rfl) _).drew
  refine ⟨(set_ne (by decide)).trans ((set_ne (by decide)).trans h0), (set_ne (by decide)).trans ((set_ne (by decide)).trans h1), (set_ne (by decide)).trans ((set_ne (by decide)).trans h2), (set_ne (by decide)).trans (set_eq h3), set_eq ((set_ne (by decide)).trans h4),
    fun i => set_fz (set_fz (hf i)), ?_, h.ap, h.base, hV, hL⟩
  · rw [hs]
    refine hk.own h.own fun g hg => ?_
    cases ao with
    | none => simp [Value.ownBlock] at hg
    | some a =>
      have := h.ap a rfl
      simp [Value.ownBlock] at hg
      omega

theorem Wr.row_ne (h : Wr w B p most ao c k V L) : ¬ Value.ownBlock (.slice ao k c) = some p := by
  intro g1
  cases ao with
  | none => simp [Value.ownBlock] at g1
  | some a => exact h.ap a rfl (by simpa [Value.ownBlock] using g1)

/-- A byte that was appended: the writer behind the three stores. -/
theorem Wr.pushed {w0 w1 : World} {g cap : Nat} (h : Wr w B p most ao c k V L) (hL : 8 * (k + 1) ≤ L) (hk0 : Kept NoB w w0) (hg : w0.grownBy w1 (Value.ownBlock (.slice ao k c))) (hat : Value.ownBlock (.slice ao k c) = some g ∨ g = w0.heap.size)
    (x : Int) (hx : x = ((V / 256 ^ k % 256 : Nat) : Int)) (hown : w1.ownsRow B 5 1 (.slice (some ⟨g, 0, none⟩) (k + 1) cap) (k + 1) ((bys V k).map (Value.int .u8) ++ [.int .u8 x])) (Y Z : Int) (hY : Y = ((V / 256 ^ (k + 1) : Nat) : Int)) (hZ : Z = ((L - 8 * (k + 1) : Nat) : Int)) :
    Wr (((w1.setCell ⟨p, 2, none⟩ (.slice (some ⟨g, 0, none⟩) (k + 1) cap)).setCell ⟨p, 3, none⟩ (.int .u64 Y)).setCell ⟨p, 4, none⟩ (.int .i64 Z)) B p most (some ⟨g, 0, none⟩) cap (k + 1) V L ∧
      Kept (foot p ao) w (((w1.setCell ⟨p, 2, none⟩ (.slice (some ⟨g, 0, none⟩) (k + 1) cap)).setCell ⟨p, 3, none⟩ (.int .u64 Y)).setCell ⟨p, 4, none⟩ (.int .i64 Z)) ∧
      (∀ j, foot p (some ⟨g, 0, none⟩) j → foot p ao j ∨ w.heap.size ≤ j) := by
  subst hY hZ hx
  have hrow : ∀ j, Value.ownBlock (.slice ao k c) = some j → foot p ao j := by
    intro j hj
    cases ao with
    | none => simp [Value.ownBlock] at hj
    | some a => exact .inr ⟨a, rfl, by simpa [Value.ownBlock] using hj.symm⟩
  have hg0 : foot p ao g ∧ g ≠ p ∨ w.heap.size ≤ g := by
    rcases hat with hat | hat
    · refine .inl ⟨hrow g hat, ?_⟩
      cases ao with
      | none => simp [Value.ownBlock] at hat
      | some a =>
        have := h.ap a rfl
        simp [Value.ownBlock] at hat
        omega
    · exact .inr (by rw [hat]; exact hk0.size)
  have hgp : g ≠ p := by
    rcases hg0 with h0 | h0
    · exact h0.2
    · have := h.lt; omega
  have hk1 : Kept (foot p ao) w w1 := (hk0.none _).grown hg (fun j hj => .inl (hrow j hj))
  have hr1 : Wr w0 B p most ao c k V L := h.keep hk0 (fun _ _ g => g.elim)
  have hn : Kept (fun j => Value.ownBlock (.slice ao k c) = some j) w0 w1 := Kept.of_grown hg
  have hpn := h.row_ne
  have e0 := hn.cell hr1.c0 hpn
  have e1 := hn.cell hr1.c1 hpn
  have e2 := hn.cell hr1.c2 hpn
  have e3 := hn.cell hr1.c3 hpn
  have e4 := hn.cell hr1.c4 hpn
  have ef : ∀ i, w1.frozen? ⟨p, i, none⟩ = false := fun i => (hn.frozen (a := ⟨p, i, none⟩) hr1.lt hpn).trans (hr1.fz i)
  have hk2 : Kept (fun j => j = p) w1 (((w1.setCell ⟨p, 2, none⟩ (.slice (some ⟨g, 0, none⟩) (k + 1) cap)).setCell ⟨p, 3, none⟩ (.int .u64 ((V / 256 ^ (k + 1) : Nat) : Int))).setCell ⟨p, 4, none⟩ (.int .i64 ((L - 8 * (k + 1) : Nat) : Int))) :=
    (((Kept.refl (fun j => j = p) w1).setCell ⟨p, 2, none⟩ (.inl rfl) _).setCell ⟨p, 3, none⟩ (.inl rfl) _).setCell ⟨p, 4, none⟩ (.inl rfl) _
  refine ⟨⟨(set_ne (by decide)).trans ((set_ne (by decide)).trans ((set_ne (by decide)).trans e0)), (set_ne (by decide)).trans ((set_ne (by decide)).trans ((set_ne (by decide)).trans e1)), (set_ne (by decide)).trans ((set_ne (by decide)).trans (set_eq e2)),
    (set_ne (by decide)).trans (set_eq ((set_ne (by decide)).trans e3)), set_eq ((set_ne (by decide)).trans ((set_ne (by decide)).trans e4)), fun i => set_fz (set_fz (set_fz (ef i))), ?_, ?_, h.base, h.val, hL⟩, hk1.trans hk2 (fun j hj => .inl (.inl hj)), ?_⟩
  · rw [bys_next, List.map_append]
    exact hk2.own hown fun i hi => by
      have : g = i := by simpa [Value.ownBlock] using hi
      omega
  · intro a ha
    obtain rfl : (⟨g, 0, none⟩ : Addr) = a := by simpa using ha
    exact hgp
  · intro j hj
    rcases hj with hj | ⟨a, ha, hj⟩
    · exact .inl (.inl hj)
    · obtain rfl : (⟨g, 0, none⟩ : Addr) = a := by simpa using ha
      subst hj
      rcases hg0 with h0 | h0
      · exact .inl h0.1
      · exact .inr h0

theorem put_any (h : Wr w B p most ao c k V L) (h7 : L - 8 * k ≤ 7) (N s : Nat) (hN : N < 2 ^ s) (hs : s ≤ 56) (hL : L ≤ 1000000000) :
    Calls Try.prog 43 #[.pointer (some ⟨p, 0, none⟩), .int .u64 N, .int .i64 s] w fun e w' => e = .returned (.tuple #[]) ∧ ∃ ao' c', Wr w' B p most ao' c' ((L + s) / 8) (V + N * 2 ^ L) (L + s) ∧ Kept (foot p ao) w w' ∧ (∀ j, foot p ao' j → foot p ao j ∨ w.heap.size ≤ j) := by
  obtain ⟨i0, hi, hz0, hz1, hz2⟩ := info_parts info_u8
  have c3 := h.c3
  have c4 := h.c4
  have f3 := h.fz 3
  have f4 := h.fz 4
  obtain ⟨m, hm⟩ : ∃ m, L - 8 * k = m := ⟨_, rfl⟩
  rw [hm] at c4 h7
  have hor := or_wait h.val h.ge hm h7 hN hs
  obtain ⟨X, hX⟩ : ∃ X, V / 256 ^ k = X := ⟨_, rfl⟩
  obtain ⟨Y, hY⟩ : ∃ Y, (V + N * 2 ^ L) / 256 ^ k = Y := ⟨_, rfl⟩
  rw [hX] at c3 hor
  rw [hY] at hor
  have HX := Lib.hid hX
  have HY := Lib.hid hY
  have Hm := Lib.hid hm
  have HW := Lib.hid h
  clear hX hY hm h
  have hm0 : 0 ≤ (m : Int) := by omega
  go_enter Try.func43, Try.ntmps43
  go_step3
  go_wp2_with fail
  go_region
  go_wp2_with fail
  go_step3
  go_wp2_with fail
  go_loopg [] ((L + s) / 8 - k) (fun g wr => ∃ ao' c' j, k ≤ j ∧ g = (L + s) / 8 - j ∧ Wr wr B p most ao' c' j (V + N * 2 ^ L) (L + s) ∧ Kept (foot p ao) w wr ∧ (∀ i, foot p ao' i → foot p ao i ∨ w.heap.size ≤ i))
  case atStart => 
    exact ⟨ao, c, k, Nat.le_refl _, rfl, HW.out.put34 (bys_same HW.out.ge) (more_lt HW.out.val hN) (by have := HW.out.ge; omega) _ _ (by rw [HY.out]) (by have := HW.out.ge; have := Hm.out; omega), (HW.out.keep34 _ _).drew, fun i hi => .inl hi⟩
  case round =>
    obtain ⟨ao', c', j, hkj, rfl, hr, hkp, hft⟩ := hrel
    have d2 := hr.c2
    have d3 := hr.c3
    have d4 := hr.c4
    have g2 := hr.fz 2
    have g3 := hr.fz 3
    have g4 := hr.fz 4
    have hge := hr.ge
    obtain ⟨q, hq⟩ : ∃ q, L + s - 8 * j = q := ⟨_, rfl⟩
    obtain ⟨X', hX'⟩ : ∃ X', (V + N * 2 ^ L) / 256 ^ j = X' := ⟨_, rfl⟩
    rw [hq] at d4
    rw [hX'] at d3
    have HX' := Lib.hid hX'
    have Hq := Lib.hid hq
    have HR := Lib.hid hr
    have HK := Lib.hid hkp
    have HF := Lib.hid hft
    clear hX' hr hkp hft c3 c4 f3 f4 hor
    by_cases hlt : q < 8
    · have hlt' : decide ((q : Int) < 8) = true := by simp; omega
      have Hj := Lib.hid (show j = (L + s) / 8 by omega)
      clear hq
      go_wp2_with fail
      rw [Exit.noGoto_normal]
      go_end0
      exact ⟨rfl, ao', c', by rw [← Hj.out]; exact HR.out, HK.out, HF.out⟩
    · have hlt' : decide ((q : Int) < 8) = false := by simp; omega
      clear hq
      have h8 : 8 ≤ (q : Int) := by omega
      have h9 : (q : Int) ≤ 2000000000 := by have := Hq.out; omega
      have hown := HR.out.own
      have hlen : j ≤ 1000000000 := by omega
      have hbase := HR.out.base
      have hplt := HR.out.lt
      go_wp2_with fail
      go_region_law (refine step_append_lies _ rfl (.tmp 36) (.tmp 42) 22 rfl B 5 i0 (.int .u8 0) 1 1 Try.underlying22 hi hz0 hz1 hz2 rfl (by decide) (.slice ao' j c') j ((bys (V + N * 2 ^ L) j).map (Value.int .u8)) (by simp [Act.eval]) (World.ownsRow.alloc (w := wr.drew) hown _) ⟨wr.heap.size, 0, none⟩ 1 1 [.int .u8 (IntKind.u8.wrap (X' : Int))] (by simp [Act.eval]) rfl (by intro i u hi; match i, hi with | 0, hi => (simp at hi; subst hi; simp [Addr.add])) (by intro u hu; simp at hu; subst hu; rfl) (by decide) (by unfold maxLen; omega) (by omega) (by simp; omega) (wr.heap.size + 1) (by simp) ?_; intro g cap w1 hown1 hgrow hat hlt1; have hn := ((Kept.refl (fun i => Value.ownBlock (.slice ao' j c') = some i) wr).drew.alloc _).grown hgrow (fun i hi => .inl hi); have hpn := HR.out.row_ne; have k2 := hn.cell d2 hpn; have k3 := hn.cell d3 hpn; have k4 := hn.cell d4 hpn; have k2f := (hn.frozen (a := ⟨p, 2, none⟩) hplt hpn).trans g2; have k3f := (hn.frozen (a := ⟨p, 3, none⟩) hplt hpn).trans g3; have k4f := (hn.frozen (a := ⟨p, 4, none⟩) hplt hpn).trans g4; have HO := Lib.hid hown1; have HG := Lib.hid hgrow; have HA := Lib.hid hat; clear hn hpn hown1 hgrow hat)
      all_goals
        clear hown
        go_wp2_with fail
        go_roundg ((L + s) / 8 - (j + 1))
        case measure => have := Hq.out; omega
        case rel =>
          have R := HR.out.pushed (w0 := wr.drew.alloc _) (by have := Hq.out; omega) ((Kept.refl NoB wr).drew.alloc _) HG.out (HA.out.imp id (fun e => by rw [e]; simp)) _ (by rw [HX'.out, IntKind.wrap_u8]; rfl) HO.out ((X' : Int) / 256) ((q : Int) - 8) (by rw [← div_next, HX'.out]; rfl) (by have := Hq.out; omega)
          exact ⟨_, cap, j + 1, by omega, rfl, R.1, HK.out.trans R.2.1 HF.out, fun i hi => (R.2.2 i hi).elim (fun g => HF.out i g) (fun g => .inr (Nat.le_trans HK.out.size g))⟩
end Go.Proofs.Ytnkkccieidlacaa
