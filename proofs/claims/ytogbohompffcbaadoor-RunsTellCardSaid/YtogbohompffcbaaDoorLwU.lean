/- RunsTell returns true, over what the program's functions answer. Conditions: as each theorem names them. -/
import Derived.Test.YtogbohompffcbaaDoorLwT
namespace Go.Proofs.YtogbohompffcbaaDoor.U
open Go Go.RowKit M
set_option linter.unusedVariables false
set_option linter.unusedSimpArgs false

theorem RnP.rns {W : World} {l : List Nat} (hl : ∀ v ∈ l, v ≤ 15) (hn : l.length ≤ 2000) {e : Ending} {w' : World} (h : RnP W (pk l) e w') : RnsP W 0 (pk l) e w' := by
  obtain ⟨v, rfl, o, b⟩ := h
  have hk := pk_ok l hl
  have hp := pk_len l
  obtain ⟨A, c, rfl, i⟩ := Owr.rns o (fun r hr => ⟨by have := (hk r hr).1; omega, by have := (hk r hr).2; omega⟩) (by unfold maxLen; omega)
  exact ⟨A, c, rfl, i, b⟩
theorem Refuses.rns {W : World} {X : Int} {e : Ending} {w' : World} (h : Refuses W X e w') : RnsP W X [] e w' := by
  obtain ⟨A, c, rfl, b⟩ := h
  exact ⟨A, c, rfl, IsRns.nil _ _, b⟩
theorem Refuses.unp {W : World} {X : Int} {e : Ending} {w' : World} (h : Refuses W X e w') : UnP W X [] e w' := by
  obtain ⟨A, c, rfl, b⟩ := h
  exact ⟨A, c, rfl, IsBys.nil _ _, b⟩

set_option maxRecDepth 1000000 in
theorem tell_heavy {T : World → Prop} (C : Cts T) (A B : Option Addr) (n c m d : Nat) (x : Int) (W : World) (H : T W) (hn : n ≤ maxLen) (hm : m ≤ maxLen) (hv : 2000 < n ∨ 500 < m) :
    Calls Tryd.prog 3 #[.slice A n c, .slice B m d, .int .i64 x] W fun e w' => e = .returned (.bool true) ∧ Below W.heap.size W w' := by
  have HV := Lib.hid (heavy_any A B n c m d W hn hm)
  rw [decide_eq_true hv] at HV
  have HW := Lib.hid (works_any C W H)
  clear C H hv
  go_enter Tryd.func3, Tryd.ntmps3
  go_wp2_with (first
    | (go_at_call 6; (with_reducible refine HV.out.mono ?_); rintro e w0 ⟨rfl, rfl⟩)
    | (go_at_call 7; (with_reducible refine HW.out.mono ?_); rintro e w7 ⟨rfl, b7⟩; have B7 := Lib.hid b7; clear b7))
  go_ret
  exact ⟨rfl, B7.out⟩

theorem tell_law {T : World → Prop} (C : Cts T) (A B : Option Addr) (n c m d : Nat) (l : List Nat) (L : List Rn) (x : Int) (W : World) (H : T W) (hl : IsBys W A n l) (hc : n ≤ c) (hL : IsRns W B m L) (hx : x ≤ 9223372036854775807) :
    Calls Tryd.prog 3 #[.slice A n c, .slice B m d, .int .i64 x] W fun e w' => e = .returned (.bool true) ∧ Below W.heap.size W w' := by
  by_cases hv : 2000 < n ∨ 500 < m
  · exact tell_heavy C A B n c m d x W H hl.most hL.most hv
  · have hn : n ≤ 2000 := by omega
    have hm : m ≤ 500 := by omega
    have hlen := hl.leng
    -- which lengths
    obtain ⟨P, XP, hP, HP, HRP⟩ : ∃ (P : List Rn) (XP : Int), P.length ≤ 2000 ∧ (∀ w, Below W.heap.size W w → Calls Tryd.prog 8 #[.slice A n c] w (RnsP w XP P)) ∧ (∀ w, Below W.heap.size W w → Calls Tryd.prog 9 #[.slice A n c] w (RnsP w XP P)) := by
      by_cases hb : ∃ i, i < n ∧ 15 < l.getD i 0
      · refine ⟨[], 2, by simp, fun w b => (C.packNo A n c l w (C.keep H b) (hl.below b) hn hb).mono fun e w' h => h.rns, fun w b => (rpack_bad A n c l w (hl.below b) (by omega) hb).mono fun e w' h => ?_⟩
        obtain ⟨rfl, rfl⟩ := h
        exact ⟨none, 0, rfl, IsRns.nil _ _, Below.refl _ _⟩
      · have hb' : ∀ i, i < n → l.getD i 0 ≤ 15 := fun i hi => by
          rcases Nat.lt_or_ge 15 (l.getD i 0) with g | g
          · exact absurd ⟨i, hi, g⟩ hb
          · exact g
        have hv' : ∀ v ∈ l, v ≤ 15 := fun v hv => by
          obtain ⟨i, hi, rfl⟩ := List.mem_iff_getElem.1 hv
          have := hb' i (by omega)
          rw [List.getD, List.getElem?_eq_getElem hi] at this
          exact this
        have hpl := pk_len l
        exact ⟨pk l, 0, by omega, fun w b => (C.pack A n c l w (C.keep H b) (hl.below b) hc hn hb').mono fun e w' h => RnP.rns hv' (by omega) h, fun w b => (rpack_any A n c l w (hl.below b) (by omega) hb').mono fun e w' h => RnP.rns hv' (by omega) h⟩
    obtain ⟨Y, XY, hY, HU, HRU⟩ : ∃ (Y : List Nat) (XY : Int), Y.length ≤ 1000000 ∧ (∀ w, Below W.heap.size W w → Calls Tryd.prog 10 #[.slice B m d, .int .i64 x] w (UnP w XY Y)) ∧ (∀ w, Below W.heap.size W w → Calls Tryd.prog 11 #[.slice B m d, .int .i64 x] w (UnP w XY Y)) := by
      by_cases hx0 : x < 0
      · refine ⟨[], 2, by simp, fun w b => (C.unpackNo B m d x w (C.keep H b) hx0).mono fun e w' h => h.unp, fun w b => (runpack_neg B m d x w hx0).mono fun e w' h => ?_⟩
        obtain ⟨rfl, rfl⟩ := h
        exact ⟨none, 0, rfl, IsBys.nil _ _, Below.refl _ _⟩
      · have hxn : x = (x.toNat : Int) := by omega
        have hx2 : x.toNat ≤ 9223372036854775807 := by omega
        obtain ⟨k, hk⟩ : ∃ k, x.toNat = k := ⟨_, rfl⟩
        rw [hk] at hxn hx2
        subst hxn
        have hul := unp_len (n := k) L []
        rw [List.length_nil, hL.leng] at hul
        exact ⟨_, _, by omega, fun w b => C.unpack B m d L k w (C.keep H b) (hL.below b) (by omega) hx2, fun w b => runpack_any B m d L k w (hL.below b) (by omega) hx2⟩
    exact tell_gen C A B n c m d L x P XP Y XY W H hn hm hL hP hY (Lib.hid HP) (Lib.hid HRP) (Lib.hid HU) (Lib.hid HRU)
end Go.Proofs.YtogbohompffcbaaDoor.U
