import Derived.Test.YtlanibgeafdefaaGreatDoorMSpK
import Derived.Test.YtlanibgeafdefaaGreatDoorMBwK
import Derived.Laws.StructEq
namespace Go.Proofs.YtlanibgeafdefaaGreatDoor.V
open Go Go.RowKit M U
open Go.ChangeShapes (lits)
set_option linter.unusedVariables false
set_option linter.unusedSimpArgs false
set_option maxRecDepth 1000000
theorem parHeld : Tryz.prog.stoodInHeld 42 = false := by kernel_rfl
theorem parGuard : Tryz.prog.eqGuardType Tryz.prog.depth 42 = false := by kernel_rfl
theorem parFields : Tryz.prog.underlying 42 = some (.struct (Tryz.prog.fieldsOf 42)) := by unfold Program.fieldsOf; rw [Tryz.underlying42]
theorem par_eql (w : World) (f t z k : Int) : (binOp .eql 42 (.agg #[.int .i64 f, .int .i64 t, .int .i64 z, .int .u8 k]) (.agg #[.int .i64 f, .int .i64 t, .int .i64 z, .int .u8 k])).run Tryz.prog w = .ok (.bool true) w := by
  rw [run_eql_struct, run_equalIn_agg (P := Tryz.prog) w 9999 42 _ _ parFields parHeld]
  unfold Program.fieldsOf
  rw [Tryz.underlying42]
  simp [Op.eqFields, go_sem, run_equalIn_int, Tryz.underlying5, Tryz.underlying3]
theorem par_neq (w : World) (f t z k : Int) : (binOp .neq 42 (.agg #[.int .i64 f, .int .i64 t, .int .i64 z, .int .u8 k]) (.agg #[.int .i64 f, .int .i64 t, .int .i64 z, .int .u8 k])).run Tryz.prog w = .ok (.bool false) w := by
  rw [run_neq_struct, run_equalIn_agg (P := Tryz.prog) w 9999 42 _ _ parFields parHeld]
  unfold Program.fieldsOf
  rw [Tryz.underlying42]
  simp [Op.eqFields, go_sem, run_equalIn_int, Tryz.underlying5, Tryz.underlying3]
structure Sps (T : World → Prop) : Prop where
  keep : ∀ {w w' : World}, T w → Below w.heap.size w w' → T w'
  kind : ∀ (A : Option Addr) (n c : Nat) (L : List Tk) (s : ByteArray) (w : World), T w → IsTks w A n L → n ≤ 10000 → s.size ≤ 70000 → (∀ t ∈ L, may t = true) → Tx.szs L = s.size →
    Calls Tryz.prog 8 #[.slice A n c, .string s] w fun e w' => e = .returned (.tuple #[.int .u8 ((kd L s).1 : Nat), .int .i64 ((kd L s).2 : Nat), .int .i64 0]) ∧ Below w.heap.size w w'
  kindNo : ∀ (A : Option Addr) (n c : Nat) (L : List Tk) (s : ByteArray) (w : World), T w → IsTks w A n L → n ≤ 10000 → s.size ≤ 70000 → mys L s ≠ 0 →
    Calls Tryz.prog 8 #[.slice A n c, .string s] w fun e w' => e = .returned (.tuple #[.int .u8 0, .int .i64 0, .int .i64 (mys L s : Nat)]) ∧ Below w.heap.size w w'
  parts : ∀ (A : Option Addr) (n c : Nat) (L : List Tk) (s : ByteArray) (w : World), T w → IsTks w A n L → n ≤ c → n ≤ 10000 → s.size ≤ 70000 → (∀ t ∈ L, may t = true) → Tx.szs L = s.size →
    Calls Tryz.prog 10 #[.slice A n c, .string s] w fun e w' => ∃ v, e = .returned (.tuple #[v, .int .i64 0]) ∧ Owp w.heap.size w' v (pvs L s (pts L s)) ∧ Below w.heap.size w w'
  partsNo : ∀ (A : Option Addr) (n c : Nat) (L : List Tk) (s : ByteArray) (w : World), T w → IsTks w A n L → n ≤ c → n ≤ 10000 → s.size ≤ 70000 → mys L s ≠ 0 →
    Calls Tryz.prog 10 #[.slice A n c, .string s] w fun e w' => ∃ v, e = .returned (.tuple #[v, .int .i64 (mys L s : Nat)]) ∧ Below w.heap.size w w'
theorem IsTks.zero (w : World) (X : Option Addr) : IsTks w X 0 [] := ⟨rfl, Nat.zero_le _, fun c hc => absurd hc (by simp), .inl rfl⟩
theorem mys_zero {L : List Tk} {s : ByteArray} : mys L s = 0 ↔ (∀ t ∈ L, may t = true) ∧ Tx.szs L = s.size := by
  unfold mys
  by_cases h : L.all may = true
  · rw [if_pos h]
    rw [List.all_eq_true] at h
    by_cases h2 : Tx.szs L = s.size
    · rw [if_pos h2]; exact ⟨fun _ => ⟨h, h2⟩, fun _ => rfl⟩
    · rw [if_neg h2]; exact ⟨fun g => absurd g (by decide), fun g => absurd g.2 h2⟩
  · rw [if_neg h]
    rw [List.all_eq_true] at h
    exact ⟨fun g => absurd g (by decide), fun g => absurd g.1 h⟩
theorem b3_nil : b3 [] ⟨#[]⟩ 0 = 40 ∧ b3 [] ⟨#[]⟩ 1 = 10 ∧ 10 ≤ b3 [] ⟨#[]⟩ 2 := by
  refine ⟨?_, ?_, ?_⟩
  · unfold b3
    rw [bkm_blk (by decide)]
    unfold blk
    rw [if_pos rfl, stb_length]; rfl
  · unfold b3
    rw [bkm_blk (by decide)]
    unfold blk
    rw [if_neg (by decide), if_pos rfl]; rfl
  · unfold b3
    rw [bkm_blk (by decide)]
    unfold blk
    rw [if_neg (by decide), if_neg (by decide), List.length_append, List.length_append]
    have := hdd_more []
    omega
theorem kd_nil : kd [] ⟨#[]⟩ = (1, 10) := by
  obtain ⟨h0, h1, h2⟩ := b3_nil
  unfold kd
  rw [if_pos (by omega), if_neg (by omega), h1]
theorem pvs_nil : pvs [] ⟨#[]⟩ (pts [] ⟨#[]⟩) = [⟨0, 0, 0, 1⟩] := by
  rw [pts_few [] _ (by simp)]
  have e : (kp [] ⟨#[]⟩ 0 0).1 = 1 := by
    unfold kp
    rw [show seg [] 0 0 = [] from rfl, show (⟨#[]⟩ : ByteArray).extract (szt [] 0) (szt [] 0) = ⟨#[]⟩ by simp [szt, Tx.szs]; rfl, kd_nil]
  show [pvo [] ⟨#[]⟩ (0, 0)] = _
  unfold pvo
  simp only [e]
  rfl
theorem mys_x : mys [] ⟨#[120]⟩ = 7 := rfl
set_option maxHeartbeats 2000000 in
theorem works14 {T : World → Prop} (C : Sps T) (w : World) (H : T w) : Calls Tryz.prog 6 #[] w fun e w' => e = .returned (.bool true) ∧ Below w.heap.size w w' := by
  have HP := Lib.hid (show Calls Tryz.prog 10 #[.slice none 0 0, .string ⟨#[]⟩] w fun e w' => ∃ v, e = .returned (.tuple #[v, .int .i64 0]) ∧ Owp w.heap.size w' v [⟨0, 0, 0, 1⟩] ∧ Below w.heap.size w w' from by
    have h := C.parts none 0 0 [] ⟨#[]⟩ w H (IsTks.zero w none) (Nat.le_refl _) (by omega) (by decide) (fun t ht => absurd ht (by simp)) rfl
    rw [pvs_nil] at h
    exact h)
  have HK := Lib.hid (fun (w1 : World) (b : Below w.heap.size w w1) => (show Calls Tryz.prog 8 #[.slice none 0 0, .string ⟨#[]⟩] w1 fun e w' => e = .returned (.tuple #[.int .u8 1, .int .i64 10, .int .i64 0]) ∧ Below w1.heap.size w1 w' from by
    have h := C.kind none 0 0 [] ⟨#[]⟩ w1 (C.keep H b) (IsTks.zero w1 none) (by omega) (by decide) (fun t ht => absurd ht (by simp)) rfl
    rw [kd_nil] at h
    exact h))
  have HX := Lib.hid (fun (w1 : World) (b : Below w.heap.size w w1) => (show Calls Tryz.prog 8 #[.slice none 0 0, .string ⟨#[120]⟩] w1 fun e w' => e = .returned (.tuple #[.int .u8 0, .int .i64 0, .int .i64 7]) ∧ Below w1.heap.size w1 w' from C.kindNo none 0 0 [] ⟨#[120]⟩ w1 (C.keep H b) (IsTks.zero w1 none) (by omega) (by decide) (by rw [mys_x]; decide)))
  clear C H
  have hg := parGuard
  have hq := fun w => par_eql w 0 0 0 1
  go_enter Tryz.func6, Tryz.ntmps6
  go_wp2_with (first
    | (go_at_call 10; (with_reducible refine HP.out.mono ?_); rintro e w1 ⟨v, rfl, o1, b1⟩; obtain ⟨g, c, hv, _⟩ := o1.form (by simp); subst hv; have B1 := Lib.hid b1; have O1 := Lib.hid o1; clear b1 o1)
    | (go_at_call 8; (with_reducible refine (HK.out _ B1.out).mono ?_); rintro e w2 ⟨rfl, b2⟩; have B2 := Lib.hid (B1.out.trans (b2.mono B1.out.size)); have O2 := Lib.hid (O1.out.below b2); clear b2)
    | (go_at_call 8; (with_reducible refine (HX.out _ B2.out).mono ?_); rintro e w3 ⟨rfl, b3⟩; have B3 := Lib.hid (B2.out.trans (b3.mono B2.out.size)); have o3 := O2.out.below b3; obtain ⟨x0, x1, x2, x3⟩ := o3.cell (i := 0) (q := ⟨0, 0, 0, 1⟩) rfl rfl; clear b3 o3))
  go_ret
  exact ⟨rfl, B3.out⟩
end Go.Proofs.YtlanibgeafdefaaGreatDoor.V
