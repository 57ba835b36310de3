/- Two writers that lie apart, and one block more that neither of them writes. Conditions: as each theorem names them. -/
import Derived.Test.YtilogllncjlkfaaDuo
namespace Go.Proofs.Ytilogllncjlkfaa
open Go.RowKit M
set_option linter.unusedVariables false
variable {w w' : World} {B p pa pb q V L Va La Vb Lb : Nat} {most ma mb : Int} {S : Nat → Prop}

/-- Two writers that lie apart, and block q, which is neither's. -/
def Duq (w : World) (B pa pb q : Nat) (ma mb : Int) (Va La Vb Lb : Nat) : Prop := ∃ Sa Sb, Wt w B pa Sa ma Va La ∧ Wt w B pb Sb mb Vb Lb ∧ (∀ j, Sa j → ¬ Sb j) ∧ q < w.heap.size ∧ ¬ Sa q ∧ ¬ Sb q
/-- What a call of one of them leaves: both; all below B; block q. -/
def Fwd (B q : Nat) (w w' : World) : Prop := Below B w w' ∧ w'.heap[q]? = w.heap[q]?

theorem Fwd.trans {w'' : World} (h : Fwd B q w w') (k : Fwd B q w' w'') : Fwd B q w w'' := ⟨h.1.trans k.1, k.2.trans h.2⟩
theorem Fwd.cell (h : Fwd B q w w') (i : Nat) : w'.cell? ⟨q, i, none⟩ = w.cell? ⟨q, i, none⟩ := World.cell?_of_block h.2

theorem Duq.duo (h : Duq w B pa pb q ma mb Va La Vb Lb) : Duo w B pa pb ma mb Va La Vb Lb := by
  obtain ⟨Sa, Sb, h1, h2, h3, _⟩ := h
  exact ⟨Sa, Sb, h1, h2, h3⟩
theorem Duo.duq (h : Duo w B pa pb ma mb Va La Vb Lb) (o : Obj) : Duq (w.alloc o) B pa pb w.heap.size ma mb Va La Vb Lb ∧ Below B w (w.alloc o) := by
  have hb := h.base
  obtain ⟨Sa, Sb, h1, h2, h3⟩ := h
  have hk : Kept NoB w (w.alloc o) := (Kept.refl NoB w).alloc o
  exact ⟨⟨Sa, Sb, h1.keep hk (fun _ _ g => g), h2.keep hk (fun _ _ g => g), h3, by simp, fun g => by have := (h1.lt g).2; omega, fun g => by have := (h2.lt g).2; omega⟩, hk.below hb (fun _ g => g.elim)⟩

theorem Duq.did_a {f : FuncId} {args : Array Value} {r : Int × Nat × Nat} (h : Duq w B pa pb q ma mb Va La Vb Lb) (c : ∀ S, Wt w B pa S ma Va La → Calls Try.prog f args w (Did w B pa S ma r)) :
    Calls Try.prog f args w fun e w' => e = .returned (.int .i64 r.1) ∧ Duq w' B pa pb q ma mb r.2.1 r.2.2 Vb Lb ∧ Fwd B q w w' := by
  have hB := h.duo.base
  obtain ⟨Sa, Sb, h1, h2, h3, h4, h5, h6⟩ := h
  refine (c Sa h1).mono ?_
  rintro e w' ⟨he, S', k1, k2, k3⟩
  refine ⟨he, ⟨S', Sb, k1, h2.keep k2 (fun j hj g => h3 j g hj), fun j hj g => ?_, Nat.lt_of_lt_of_le h4 k2.size, fun g => ?_, h6⟩, k2.below hB (fun j hj => (h1.lt hj).1), k2.block q h4 h5⟩
  · rcases k3 j hj with g1 | g1
    · exact h3 j g1 g
    · have := (h2.lt g).2; omega
  · rcases k3 q g with g1 | g1
    · exact h5 g1
    · omega
theorem Duq.did_b {f : FuncId} {args : Array Value} {r : Int × Nat × Nat} (h : Duq w B pa pb q ma mb Va La Vb Lb) (c : ∀ S, Wt w B pb S mb Vb Lb → Calls Try.prog f args w (Did w B pb S mb r)) :
    Calls Try.prog f args w fun e w' => e = .returned (.int .i64 r.1) ∧ Duq w' B pa pb q ma mb Va La r.2.1 r.2.2 ∧ Fwd B q w w' := by
  have hB := h.duo.base
  obtain ⟨Sa, Sb, h1, h2, h3, h4, h5, h6⟩ := h
  refine (c Sb h2).mono ?_
  rintro e w' ⟨he, S', k1, k2, k3⟩
  refine ⟨he, ⟨Sa, S', h1.keep k2 (fun j hj g => h3 j hj g), k1, fun j hj g => ?_, Nat.lt_of_lt_of_le h4 k2.size, h5, fun g => ?_⟩, k2.below hB (fun j hj => (h2.lt hj).1), k2.block q h4 h6⟩
  · rcases k3 j g with g1 | g1
    · exact h3 j hj g1
    · have := (h1.lt hj).2; omega
  · rcases k3 q g with g1 | g1
    · exact h6 g1
    · omega

theorem duq_bits_a (h : Duq w B pa pb q ma mb Va La Vb Lb) (n x : Int) (h0 : 0 ≤ n) (hL : La ≤ 900000000) (a : Int) (V L : Nat) (hr : bitsR ma Va La n.toNat x = (a, V, L)) :
    Calls Try.prog 17 #[.pointer (some ⟨pa, 0, none⟩), .int .u64 n, .int .i64 x] w fun e w' => e = .returned (.int .i64 a) ∧ Duq w' B pa pb q ma mb V L Vb Lb ∧ Fwd B q w w' := by
  have g := h.did_a (fun S hS => bits_any hS n x h0 hL)
  rwa [hr] at g
theorem duq_bytes_a (h : Duq w B pa pb q ma mb Va La Vb Lb) (s : ByteArray) (hs : s.size ≤ 100000000) (hL : La ≤ 900000000) (a : Int) (V L : Nat) (hr : bytesR ma Va La s = (a, V, L)) :
    Calls Try.prog 18 #[.pointer (some ⟨pa, 0, none⟩), .string s] w fun e w' => e = .returned (.int .i64 a) ∧ Duq w' B pa pb q ma mb V L Vb Lb ∧ Fwd B q w w' := by
  have g := h.did_a (fun S hS => bytes_any hS s hL hs)
  rwa [hr] at g
theorem duq_align_a (h : Duq w B pa pb q ma mb Va La Vb Lb) (hL : La ≤ 900000000) (a : Int) (V L : Nat) (hr : ((0 : Int), Va, alignL La) = (a, V, L)) :
    Calls Try.prog 19 #[.pointer (some ⟨pa, 0, none⟩)] w fun e w' => e = .returned (.int .i64 a) ∧ Duq w' B pa pb q ma mb V L Vb Lb ∧ Fwd B q w w' := by
  have g := h.did_a (fun S hS => align_any hS hL)
  rwa [hr] at g
theorem duq_bits_b (h : Duq w B pa pb q ma mb Va La Vb Lb) (n x : Int) (h0 : 0 ≤ n) (hL : Lb ≤ 900000000) (a : Int) (V L : Nat) (hr : bitsR mb Vb Lb n.toNat x = (a, V, L)) :
    Calls Try.prog 17 #[.pointer (some ⟨pb, 0, none⟩), .int .u64 n, .int .i64 x] w fun e w' => e = .returned (.int .i64 a) ∧ Duq w' B pa pb q ma mb Va La V L ∧ Fwd B q w w' := by
  have g := h.did_b (fun S hS => bits_any hS n x h0 hL)
  rwa [hr] at g
theorem duq_bytes_b (h : Duq w B pa pb q ma mb Va La Vb Lb) (s : ByteArray) (hs : s.size ≤ 100000000) (hL : Lb ≤ 900000000) (a : Int) (V L : Nat) (hr : bytesR mb Vb Lb s = (a, V, L)) :
    Calls Try.prog 18 #[.pointer (some ⟨pb, 0, none⟩), .string s] w fun e w' => e = .returned (.int .i64 a) ∧ Duq w' B pa pb q ma mb Va La V L ∧ Fwd B q w w' := by
  have g := h.did_b (fun S hS => bytes_any hS s hL hs)
  rwa [hr] at g
theorem duq_align_b (h : Duq w B pa pb q ma mb Va La Vb Lb) (hL : Lb ≤ 900000000) (a : Int) (V L : Nat) (hr : ((0 : Int), Vb, alignL Lb) = (a, V, L)) :
    Calls Try.prog 19 #[.pointer (some ⟨pb, 0, none⟩)] w fun e w' => e = .returned (.int .i64 a) ∧ Duq w' B pa pb q ma mb Va La V L ∧ Fwd B q w w' := by
  have g := h.did_b (fun S hS => align_any hS hL)
  rwa [hr] at g
end Go.Proofs.Ytilogllncjlkfaa
