/- The document's writer as it lies in memory, and what New, Room, Bits and Align of the document's answers answer and leave. Conditions: as each theorem names them. -/
import Derived.Test.YtilogllncjlkfaaWtE
namespace Go.Proofs.Ytilogllncjlkfaa
open Go.RowKit M
set_option linter.unusedVariables false

/-- A writer of the document's at block p: the bits of V, L of them, one by one. -/
structure Rf (w : World) (B p : Nat) (most : Int) (ao : Option Addr) (c V L : Nat) : Prop where
  c0 : w.cell? ⟨p, 0, none⟩ = some (.slice ao L c)
  c1 : w.cell? ⟨p, 1, none⟩ = some (.int .i64 most)
  fz : ∀ i, w.frozen? ⟨p, i, none⟩ = false
  own : w.ownsRow B 5 1 (.slice ao L c) L ((bts V L).map (Value.int .u8))
  ap : ∀ a, ao = some a → a.block ≠ p
  base : B ≤ p
  val : V < 2 ^ L

/-- A writer of the document's between two calls; S: its blocks. -/
def Rt (w : World) (B p : Nat) (S : Nat → Prop) (most : Int) (V L : Nat) : Prop := ∃ ao c, Rf w B p most ao c V L ∧ ∀ j, S j ↔ foot p ao j

variable {w w' : World} {B p k c V L : Nat} {ao : Option Addr} {most : Int} {S T : Nat → Prop}

theorem Rf.lt (h : Rf w B p most ao c V L) : p < w.heap.size := World.block_lt_of_cell? w _ h.c0
theorem Rf.foot_lt (h : Rf w B p most ao c V L) {j : Nat} (hj : foot p ao j) : B ≤ j ∧ j < w.heap.size := by
  rcases hj with rfl | ⟨a, ha, rfl⟩
  · exact ⟨h.base, h.lt⟩
  · exact h.own.lt a.block (by rw [ha]; rfl)
theorem foot_row {L c : Nat} {j : Nat} (hj : Value.ownBlock (.slice ao L c) = some j) : foot p ao j := by
  cases ao with
  | none => simp [Value.ownBlock] at hj
  | some a => exact .inr ⟨a, rfl, by simpa [Value.ownBlock] using hj.symm⟩
theorem Rf.row_ne (h : Rf w B p most ao c V L) : ¬ Value.ownBlock (.slice ao L c) = some p := by
  intro g1
  cases ao with
  | none => simp [Value.ownBlock] at g1
  | some a => exact h.ap a rfl (by simpa [Value.ownBlock] using g1)
theorem Rf.keep (h : Rf w B p most ao c V L) (hk : Kept T w w') (hT : ∀ j, foot p ao j → ¬ T j) : Rf w' B p most ao c V L :=
  ⟨hk.cell h.c0 (hT p (.inl rfl)), hk.cell h.c1 (hT p (.inl rfl)), fun i => (hk.frozen (a := ⟨p, i, none⟩) h.lt (hT p (.inl rfl))).trans (h.fz i),
    hk.own h.own fun g hg => hT g (foot_row hg), h.ap, h.base, h.val⟩
theorem Rt.keep (h : Rt w B p S most V L) (hk : Kept T w w') (hT : ∀ j, S j → ¬ T j) : Rt w' B p S most V L := by
  obtain ⟨ao, c, h, hS⟩ := h
  exact ⟨ao, c, h.keep hk (fun j hj => hT j ((hS j).2 hj)), hS⟩
theorem Rt.lt (h : Rt w B p S most V L) {j : Nat} (hj : S j) : B ≤ j ∧ j < w.heap.size := by
  obtain ⟨ao, c, h, hS⟩ := h
  exact h.foot_lt ((hS j).1 hj)
theorem Rt.self (h : Rt w B p S most V L) : S p := by
  obtain ⟨ao, c, h, hS⟩ := h
  exact (hS p).2 (.inl rfl)
theorem Rt.base (h : Rt w B p S most V L) : B ≤ w.heap.size := by have := h.lt h.self; omega

theorem rnew_rt (w : World) (m : Int) (hB : B ≤ w.heap.size) : Rt (w.alloc (.cells #[.slice none 0 0, .int .i64 m] 36)) B w.heap.size (fun j => j = w.heap.size) m 0 0 := by
  refine ⟨none, 0, ⟨?_, ?_, ?_, World.ownsRow_nil _ _ _ _, ?_, hB, by decide⟩, fun j => ⟨fun h => .inl h, fun h => ?_⟩⟩
  · simp
  · simp
  · intro i; simp
  · intro a ha; cases ha
  · rcases h with h | ⟨a, ha, _⟩
    · exact h
    · cases ha
theorem rnew_any (m : Int) (w : World) (hB : B ≤ w.heap.size) :
    Calls Try.prog 11 #[.int .i64 m] w fun e w' => e = .returned (.pointer (some ⟨w.heap.size, 0, none⟩)) ∧ Kept NoB w w' ∧ Rt w' B w.heap.size (fun j => j = w.heap.size) (max 0 m) 0 0 ∧ w.heap.size < w'.heap.size := by
  by_cases hm : m < 0
  · have H1 := Lib.hid (show max 0 m = 0 by omega)
    go_enter Try.func11, Try.ntmps11
    go_wp2
    go_ret
    exact ⟨rfl, (Kept.refl _ _).alloc _, by rw [H1.out]; exact rnew_rt w 0 hB, by simp⟩
  · have H1 := Lib.hid (show max 0 m = m by omega)
    have hm' : 0 ≤ m := by omega
    clear hm
    go_enter Try.func11, Try.ntmps11
    go_wp2
    go_ret
    exact ⟨rfl, (Kept.refl _ _).alloc _, by rw [H1.out]; exact rnew_rt w m hB, by simp⟩

theorem room_is (h : Rf w B p most ao c V L) (s : Nat) (hL : L ≤ 900000000) (hs : s ≤ 56) (b : Bool) (hb : decide ((((L + s + 7) / 8 : Nat) : Int) ≤ most) = b) :
    Calls Try.prog 29 #[.pointer (some ⟨p, 0, none⟩), .int .i64 s] w fun e w' => e = .returned (.bool b) ∧ ∃ n, w' = w.drewN n := by
  have c0 := h.c0
  have c1 := h.c1
  obtain ⟨P, hP⟩ : ∃ P, L + s = P := ⟨_, rfl⟩
  obtain ⟨R, hR⟩ : ∃ R, P + 7 = R := ⟨_, rfl⟩
  obtain ⟨Q, hQ⟩ : ∃ Q, R / 8 = Q := ⟨_, rfl⟩
  rw [hP, hR, hQ] at hb
  have w1 : IntKind.i64.wrap ((L : Int) + (s : Int)) = (P : Int) := by rw [IntWalk.i64_in _ ⟨by omega, by omega⟩]; omega
  have w2 : IntKind.i64.wrap ((P : Int) + 7) = (R : Int) := by rw [IntWalk.i64_in _ ⟨by omega, by omega⟩]; omega
  have w3 : (R : Int) / 8 = (Q : Int) := by omega
  have w4 : IntKind.i64.wrap (Q : Int) = (Q : Int) := by rw [IntWalk.i64_in _ ⟨by omega, by omega⟩]
  have hR0 : 0 ≤ (R : Int) := by omega
  have HB := Lib.hid hb
  clear h hP hR hQ hb
  go_enter Try.func29, Try.ntmps29
  go_wp2_with fail
  go_quiet (fail)
  go_wp2_with fail
  go_ret
  exact ⟨congrArg (fun z => Ending.returned (.bool z)) HB.out, _, rfl⟩
end Go.Proofs.Ytilogllncjlkfaa
