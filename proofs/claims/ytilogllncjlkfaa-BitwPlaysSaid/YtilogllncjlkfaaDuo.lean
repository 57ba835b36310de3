/- Two writers that lie apart: what a call of one leaves of both. Conditions: as each theorem names them. -/
import Derived.Test.YtilogllncjlkfaaWtE
namespace Go.Proofs.Ytilogllncjlkfaa
open Go.RowKit M
set_option linter.unusedVariables false
variable {w w' : World} {B p pa pb V L Va La Vb Lb : Nat} {most ma mb : Int} {S : Nat → Prop}

theorem Wt.base (h : Wt w B p S most V L) : B ≤ w.heap.size := by have := h.lt h.self; omega

/-- Two writers that lie apart. -/
def Duo (w : World) (B pa pb : Nat) (ma mb : Int) (Va La Vb Lb : Nat) : Prop := ∃ Sa Sb, Wt w B pa Sa ma Va La ∧ Wt w B pb Sb mb Vb Lb ∧ ∀ j, Sa j → ¬ Sb j

theorem Duo.base (h : Duo w B pa pb ma mb Va La Vb Lb) : B ≤ w.heap.size := by
  obtain ⟨Sa, Sb, h1, h2, h3⟩ := h
  exact h1.base
theorem Duo.kept (h : Duo w B pa pb ma mb Va La Vb Lb) (hk : Kept NoB w w') : Duo w' B pa pb ma mb Va La Vb Lb ∧ Below B w w' := by
  have hB := h.base
  obtain ⟨Sa, Sb, h1, h2, h3⟩ := h
  exact ⟨⟨Sa, Sb, h1.keep hk (fun _ _ g => g), h2.keep hk (fun _ _ g => g), h3⟩, hk.below hB (fun _ g => g.elim)⟩
theorem Duo.below (h : Duo w B pa pb ma mb Va La Vb Lb) (hk : Below w.heap.size w w') : Duo w' B pa pb ma mb Va La Vb Lb ∧ Below B w w' := h.kept (Kept.of_below hk)

theorem Duo.did_a {f : FuncId} {args : Array Value} {r : Int × Nat × Nat} (h : Duo w B pa pb ma mb Va La Vb Lb) (c : ∀ S, Wt w B pa S ma Va La → Calls Try.prog f args w (Did w B pa S ma r)) :
    Calls Try.prog f args w fun e w' => e = .returned (.int .i64 r.1) ∧ Duo w' B pa pb ma mb r.2.1 r.2.2 Vb Lb ∧ Below B w w' := by
  have hB := h.base
  obtain ⟨Sa, Sb, h1, h2, h3⟩ := h
  refine (c Sa h1).mono ?_
  rintro e w' ⟨he, S', k1, k2, k3⟩
  refine ⟨he, ⟨S', Sb, k1, h2.keep k2 (fun j hj g => h3 j g hj), fun j hj g => ?_⟩, k2.below hB (fun j hj => (h1.lt hj).1)⟩
  rcases k3 j hj with g1 | g1
  · exact h3 j g1 g
  · have := (h2.lt g).2; omega
theorem Duo.did_b {f : FuncId} {args : Array Value} {r : Int × Nat × Nat} (h : Duo w B pa pb ma mb Va La Vb Lb) (c : ∀ S, Wt w B pb S mb Vb Lb → Calls Try.prog f args w (Did w B pb S mb r)) :
    Calls Try.prog f args w fun e w' => e = .returned (.int .i64 r.1) ∧ Duo w' B pa pb ma mb Va La r.2.1 r.2.2 ∧ Below B w w' := by
  have hB := h.base
  obtain ⟨Sa, Sb, h1, h2, h3⟩ := h
  refine (c Sb h2).mono ?_
  rintro e w' ⟨he, S', k1, k2, k3⟩
  refine ⟨he, ⟨Sa, S', h1.keep k2 (fun j hj g => h3 j hj g), k1, fun j hj g => ?_⟩, k2.below hB (fun j hj => (h2.lt hj).1)⟩
  rcases k3 j g with g1 | g1
  · exact h3 j hj g1
  · have := (h1.lt hj).2; omega
theorem Duo.same_a {f : FuncId} {args : Array Value} {v : Value} (h : Duo w B pa pb ma mb Va La Vb Lb) (c : ∀ S, Wt w B pa S ma Va La → Calls Try.prog f args w fun e w' => e = .returned v ∧ Kept NoB w w') :
    Calls Try.prog f args w fun e w' => e = .returned v ∧ Duo w' B pa pb ma mb Va La Vb Lb ∧ Below B w w' := by
  have h' := h
  obtain ⟨Sa, Sb, h1, h2, h3⟩ := h
  refine (c Sa h1).mono ?_
  rintro e w' ⟨he, hk⟩
  exact ⟨he, h'.kept hk⟩
theorem Duo.same_b {f : FuncId} {args : Array Value} {v : Value} (h : Duo w B pa pb ma mb Va La Vb Lb) (c : ∀ S, Wt w B pb S mb Vb Lb → Calls Try.prog f args w fun e w' => e = .returned v ∧ Kept NoB w w') :
    Calls Try.prog f args w fun e w' => e = .returned v ∧ Duo w' B pa pb ma mb Va La Vb Lb ∧ Below B w w' := by
  have h' := h
  obtain ⟨Sa, Sb, h1, h2, h3⟩ := h
  refine (c Sb h2).mono ?_
  rintro e w' ⟨he, hk⟩
  exact ⟨he, h'.kept hk⟩

theorem duo_bits_a (h : Duo w B pa pb ma mb Va La Vb Lb) (n x : Int) (h0 : 0 ≤ n) (hL : La ≤ 900000000) (a : Int) (V L : Nat) (hr : bitsR ma Va La n.toNat x = (a, V, L)) :
    Calls Try.prog 17 #[.pointer (some ⟨pa, 0, none⟩), .int .u64 n, .int .i64 x] w fun e w' => e = .returned (.int .i64 a) ∧ Duo w' B pa pb ma mb V L Vb Lb ∧ Below B w w' := by
  have g := h.did_a (fun S hS => bits_any hS n x h0 hL)
  rwa [hr] at g
theorem duo_bits_b (h : Duo w B pa pb ma mb Va La Vb Lb) (n x : Int) (h0 : 0 ≤ n) (hL : Lb ≤ 900000000) (a : Int) (V L : Nat) (hr : bitsR mb Vb Lb n.toNat x = (a, V, L)) :
    Calls Try.prog 17 #[.pointer (some ⟨pb, 0, none⟩), .int .u64 n, .int .i64 x] w fun e w' => e = .returned (.int .i64 a) ∧ Duo w' B pa pb ma mb Va La V L ∧ Below B w w' := by
  have g := h.did_b (fun S hS => bits_any hS n x h0 hL)
  rwa [hr] at g
theorem duo_bytes_a (h : Duo w B pa pb ma mb Va La Vb Lb) (s : ByteArray) (hs : s.size ≤ 100000000) (hL : La ≤ 900000000) (a : Int) (V L : Nat) (hr : bytesR ma Va La s = (a, V, L)) :
    Calls Try.prog 18 #[.pointer (some ⟨pa, 0, none⟩), .string s] w fun e w' => e = .returned (.int .i64 a) ∧ Duo w' B pa pb ma mb V L Vb Lb ∧ Below B w w' := by
  have g := h.did_a (fun S hS => bytes_any hS s hL hs)
  rwa [hr] at g
theorem duo_bytes_b (h : Duo w B pa pb ma mb Va La Vb Lb) (s : ByteArray) (hs : s.size ≤ 100000000) (hL : Lb ≤ 900000000) (a : Int) (V L : Nat) (hr : bytesR mb Vb Lb s = (a, V, L)) :
    Calls Try.prog 18 #[.pointer (some ⟨pb, 0, none⟩), .string s] w fun e w' => e = .returned (.int .i64 a) ∧ Duo w' B pa pb ma mb Va La V L ∧ Below B w w' := by
  have g := h.did_b (fun S hS => bytes_any hS s hL hs)
  rwa [hr] at g
theorem duo_align_a (h : Duo w B pa pb ma mb Va La Vb Lb) (hL : La ≤ 900000000) :
    Calls Try.prog 19 #[.pointer (some ⟨pa, 0, none⟩)] w fun e w' => e = .returned (.int .i64 0) ∧ Duo w' B pa pb ma mb Va (alignL La) Vb Lb ∧ Below B w w' := h.did_a (fun S hS => align_any hS hL)
theorem duo_align_b (h : Duo w B pa pb ma mb Va La Vb Lb) (hL : Lb ≤ 900000000) :
    Calls Try.prog 19 #[.pointer (some ⟨pb, 0, none⟩)] w fun e w' => e = .returned (.int .i64 0) ∧ Duo w' B pa pb ma mb Va La Vb (alignL Lb) ∧ Below B w w' := h.did_b (fun S hS => align_any hS hL)
theorem duo_text_a (h : Duo w B pa pb ma mb Va La Vb Lb) (hL : La ≤ 900000000) :
    Calls Try.prog 14 #[.pointer (some ⟨pa, 0, none⟩)] w fun e w' => e = .returned (.string (textR Va La)) ∧ Duo w' B pa pb ma mb Va La Vb Lb ∧ Below B w w' := h.same_a (fun S hS => text_any hS hL)
theorem duo_text_b (h : Duo w B pa pb ma mb Va La Vb Lb) (hL : Lb ≤ 900000000) :
    Calls Try.prog 14 #[.pointer (some ⟨pb, 0, none⟩)] w fun e w' => e = .returned (.string (textR Vb Lb)) ∧ Duo w' B pa pb ma mb Va La Vb Lb ∧ Below B w w' := h.same_b (fun S hS => text_any hS hL)
theorem duo_len_a (h : Duo w B pa pb ma mb Va La Vb Lb) (hL : La ≤ 900000000) :
    Calls Try.prog 13 #[.pointer (some ⟨pa, 0, none⟩)] w fun e w' => e = .returned (.int .i64 La) ∧ Duo w' B pa pb ma mb Va La Vb Lb ∧ Below B w w' := h.same_a (fun S hS => wlen_any hS hL)
theorem duo_len_b (h : Duo w B pa pb ma mb Va La Vb Lb) (hL : Lb ≤ 900000000) :
    Calls Try.prog 13 #[.pointer (some ⟨pb, 0, none⟩)] w fun e w' => e = .returned (.int .i64 Lb) ∧ Duo w' B pa pb ma mb Va La Vb Lb ∧ Below B w w' := h.same_b (fun S hS => wlen_any hS hL)

/-- Two new writers. -/
theorem duo_new {w1 w2 : World} (hB : B ≤ w.heap.size) (k1 : Kept NoB w w1) (r1 : Wt w1 B w.heap.size (fun j => j = w.heap.size) ma 0 0) (l1 : w.heap.size < w1.heap.size) (k2 : Kept NoB w1 w2) (r2 : Wt w2 B w1.heap.size (fun j => j = w1.heap.size) mb 0 0) :
    Duo w2 B w.heap.size w1.heap.size ma mb 0 0 0 0 ∧ Below B w w2 :=
  ⟨⟨_, _, r1.keep k2 (fun _ _ g => g), r2, fun j hj g => by omega⟩, (k1.below hB (fun _ g => g.elim)).trans (k2.below (Nat.le_trans hB k1.size) (fun _ g => g.elim))⟩
end Go.Proofs.Ytilogllncjlkfaa
