/- What Bits, Code, Align and Bytes of package bitw answer and leave. Conditions: as each theorem names them. -/
import Derived.Test.YtnkkccieidlacaaWtB
import Derived.Test.YtnkkccieidlacaaStr
namespace Go.Proofs.Ytnkkccieidlacaa
open Go.RowKit M
set_option linter.unusedVariables false
variable {w w' : World} {B p k c V L : Nat} {ao : Option Addr} {most : Int} {S T : Nat → Prop}

theorem Wr.drewN (h : Wr w B p most ao c k V L) (n : Nat) : Wr (w.drewN n) B p most ao c k V L := h.keep ((Kept.refl NoB w).drewN n) (fun _ _ g => g)
theorem q_len (h : Wr w B p most ao c k V L) (hk : k ≤ 1000000000) (hL : L ≤ 1000000000) (n : Nat) :
    Calls Try.prog 20 #[.pointer (some ⟨p, 0, none⟩)] (w.drewN n) fun e w' => e = .returned (.int .i64 L) ∧ ∃ n, w' = w.drewN n := Calls.quiet_of (len_any (h.drewN n) hk hL)
theorem q_bytesOf (n Q : Nat) (w : World) (m : Nat) (h : n ≤ 4611686018427387000) (hQ : (n + 7) / 8 = Q) :
    Calls Try.prog 42 #[.int .i64 n] (w.drewN m) fun e w' => e = .returned (.int .i64 Q) ∧ ∃ n, w' = w.drewN n := by
  subst hQ
  exact (bytesOf_nat n (w.drewN m) h).mono fun _ _ ⟨he, hw⟩ => ⟨he, m, hw.symm⟩

/-- What a call answers and leaves: r: the error's number, and the bits. -/
def Did (w : World) (B p : Nat) (S : Nat → Prop) (most : Int) (r : Int × Nat × Nat) (e : Ending) (w' : World) : Prop :=
  e = .returned (.int .i64 r.1) ∧ ∃ S', Wt w' B p S' most r.2.1 r.2.2 ∧ Kept S w w' ∧ ∀ j, S' j → S j ∨ w.heap.size ≤ j

theorem Did.same (h : Wt w B p S most V L) (r : Int) (n : Nat) : Did w B p S most (r, V, L) (.returned (.int .i64 r)) (w.drewN n) :=
  ⟨rfl, S, h.keep ((Kept.refl NoB w).drewN n) (fun _ _ g => g), (Kept.refl S w).drewN n, fun _ g => .inl g⟩

theorem bits_yes (h : Wt w B p S most V L) (N s : Nat) (hL : L ≤ 900000000) (hs : s ≤ 56) (hN : N < 2 ^ s) (hm : (((L + s + 7) / 8 : Nat) : Int) ≤ most) :
    Calls Try.prog 21 #[.pointer (some ⟨p, 0, none⟩), .int .u64 N, .int .i64 s] w (Did w B p S most (0, V + N * 2 ^ L, L + s)) := by
  obtain ⟨ao, c, h, hS⟩ := h
  have c0 := h.c0
  have c1 := h.c1
  obtain ⟨T, hT⟩ : ∃ T, L + s = T := ⟨_, rfl⟩
  obtain ⟨Q, hQ⟩ : ∃ Q, (T + 7) / 8 = Q := ⟨_, rfl⟩
  rw [hT, hQ] at hm
  have hw : IntKind.i64.wrap ((L : Int) + (s : Int)) = (T : Int) := by rw [IntWalk.i64_in _ ⟨by omega, by omega⟩]; omega
  have HT := Lib.hid hT
  have HQ := Lib.hid hQ
  have HS := Lib.hid hS
  have HH := Lib.hid h
  have hT2 : T ≤ 1000000000 := by omega
  have hL8 : L / 8 ≤ 1000000000 := by omega
  clear hT hQ hS h
  go_enter Try.func21, Try.ntmps21
  go_wp2_with (go_at_call 40; refine (isMade_yes p _ c0).mono ?_; rintro e w' ⟨rfl, rfl⟩)
  refine (may_yes N s _ hs hN).mono ?_; rintro e w' ⟨rfl, rfl⟩
  go_wp2_with fail
  go_quiet (first | (go_at_call 20; exact q_len HH.out hL8 (by omega) _) | (go_at_call 42; exact q_bytesOf T Q _ _ (by omega) HQ.out))
  go_wp2_with fail
  refine (put_any (HH.out.drewN nq) (by have := HH.out.ge; omega) N s hN hs (by omega)).mono ?_; rintro e w2 ⟨rfl, ao2, c2, r1, r2, r3⟩
  have R1 := Lib.hid r1
  have R2 := Lib.hid r2
  have R3 := Lib.hid r3
  clear r1 r2 r3
  go_wp2_with fail
  go_ret
  exact ⟨rfl, foot p ao2, ⟨ao2, c2, R1.out, fun _ => Iff.rfl⟩, (((Kept.refl (foot p ao) w).drewN nq).trans R2.out (fun j hj => .inl hj)).mono (fun j hj => (HS.out j).2 hj), fun j hj => (R3.out j hj).imp (HS.out j).2 id⟩

theorem bits_full (h : Wt w B p S most V L) (N s : Nat) (hL : L ≤ 900000000) (hs : s ≤ 56) (hN : N < 2 ^ s) (hm : ¬ (((L + s + 7) / 8 : Nat) : Int) ≤ most) :
    Calls Try.prog 21 #[.pointer (some ⟨p, 0, none⟩), .int .u64 N, .int .i64 s] w (Did w B p S most (4, V, L)) := by
  have H0 := Lib.hid h
  obtain ⟨ao, c, h, hS⟩ := h
  have c0 := h.c0
  have c1 := h.c1
  obtain ⟨T, hT⟩ : ∃ T, L + s = T := ⟨_, rfl⟩
  obtain ⟨Q, hQ⟩ : ∃ Q, (T + 7) / 8 = Q := ⟨_, rfl⟩
  rw [hT, hQ] at hm
  have hm2 : most < (Q : Int) := by omega
  clear hm
  have hw : IntKind.i64.wrap ((L : Int) + (s : Int)) = (T : Int) := by rw [IntWalk.i64_in _ ⟨by omega, by omega⟩]; omega
  have HT := Lib.hid hT
  have HQ := Lib.hid hQ
  have HS := Lib.hid hS
  have HH := Lib.hid h
  have hT2 : T ≤ 1000000000 := by omega
  have hL8 : L / 8 ≤ 1000000000 := by omega
  clear hT hQ hS h
  go_enter Try.func21, Try.ntmps21
  go_wp2_with (go_at_call 40; refine (isMade_yes p _ c0).mono ?_; rintro e w' ⟨rfl, rfl⟩)
  refine (may_yes N s _ hs hN).mono ?_; rintro e w' ⟨rfl, rfl⟩
  go_wp2_with fail
  go_quiet (first | (go_at_call 20; exact q_len HH.out hL8 (by omega) _) | (go_at_call 42; exact q_bytesOf T Q _ _ (by omega) HQ.out))
  go_wp2_with fail
  go_ret
  exact Did.same H0.out 4 nq

theorem bits_arg (h : Wt w B p S most V L) (n x : Int) (h0 : 0 ≤ n) (hx : ¬ (0 ≤ x ∧ x ≤ 56 ∧ n.toNat < 2 ^ x.toNat)) :
    Calls Try.prog 21 #[.pointer (some ⟨p, 0, none⟩), .int .u64 n, .int .i64 x] w (Did w B p S most (2, V, L)) := by
  have H0 := Lib.hid h
  obtain ⟨ao, c, h, hS⟩ := h
  have c0 := h.c0
  have HX := Lib.hid hx
  clear h hS hx
  go_enter Try.func21, Try.ntmps21
  go_wp2_with (go_at_call 40; refine (isMade_yes p _ c0).mono ?_; rintro e w' ⟨rfl, rfl⟩)
  refine (may_no n x _ h0 HX.out).mono ?_; rintro e w' ⟨rfl, rfl⟩
  go_wp2_with fail
  go_ret
  exact Did.same H0.out 2 0

theorem bits_any (h : Wt w B p S most V L) (n x : Int) (h0 : 0 ≤ n) (hL : L ≤ 900000000) :
    Calls Try.prog 21 #[.pointer (some ⟨p, 0, none⟩), .int .u64 n, .int .i64 x] w (Did w B p S most (bitsR most V L n.toNat x)) := by
  by_cases hx : 0 ≤ x ∧ x ≤ 56 ∧ n.toNat < 2 ^ x.toNat
  · obtain ⟨N, rfl⟩ := Int.eq_ofNat_of_zero_le h0
    obtain ⟨s, rfl⟩ := Int.eq_ofNat_of_zero_le hx.1
    obtain ⟨_, h2, h3⟩ := hx
    rw [Int.toNat_natCast, Int.toNat_natCast] at h3
    rw [Int.toNat_natCast]
    by_cases hm : (((L + s + 7) / 8 : Nat) : Int) ≤ most
    · rw [bitsR_yes (by omega) h3 hm]
      exact bits_yes h N s hL (by omega) h3 hm
    · rw [bitsR_full (by omega) h3 hm]
      exact bits_full h N s hL (by omega) h3 hm
  · rw [bitsR_arg hx]
    exact bits_arg h n x h0 hx
theorem bits_nil (n x : Int) (w : World) :
    Calls Try.prog 21 #[.pointer none, .int .u64 n, .int .i64 x] w fun e w' => e = .returned (.int .i64 1) ∧ w = w' := by
  go_enter Try.func21, Try.ntmps21
  go_wp2_with (go_at_call 40; refine (isMade_nil _).mono ?_; rintro e w' ⟨rfl, rfl⟩)
  go_ret
  exact ⟨rfl, rfl⟩

theorem Did.from {w0 : World} {r : Int × Nat × Nat} {e : Ending} (hk : Kept NoB w w0) (h : Did w0 B p S most r e w') : Did w B p S most r e w' := by
  obtain ⟨he, S', h1, h2, h3⟩ := h
  exact ⟨he, S', h1, (hk.none S).trans h2 (fun j hj => .inl hj), fun j hj => (h3 j hj).imp id (fun g => Nat.le_trans hk.size g)⟩

theorem code_any (h : Wt w B p S most V L) (n x : Int) (h0 : 0 ≤ n ∧ n ≤ 4294967295) (hx : 0 ≤ x ∧ x ≤ 255) (hL : L ≤ 900000000) :
    Calls Try.prog 19 #[.pointer (some ⟨p, 0, none⟩), .agg #[.int .u32 n, .int .u8 x]] w (Did w B p S most (bitsR most V L n.toNat x)) := by
  have H0 := Lib.hid h
  clear h
  have h1 := h0.1
  have h2 := h0.2
  have h3 := hx.1
  have h4 := hx.2
  clear h0 hx
  go_enter Try.func19, Try.ntmps19
  go_wp2_with fail
  refine (bits_any (H0.out.keep ((Kept.refl NoB w).alloc _) (fun _ _ g => g)) n x h1 hL).mono ?_; rintro e w2 ⟨rfl, r⟩
  have R := Lib.hid r
  clear r
  go_wp2_with fail
  go_ret
  exact Did.from ((Kept.refl NoB w).alloc _) ⟨rfl, R.out⟩
theorem code_nil (n x : Int) (w : World) (h0 : 0 ≤ n ∧ n ≤ 4294967295) (hx : 0 ≤ x ∧ x ≤ 255) :
    Calls Try.prog 19 #[.pointer none, .agg #[.int .u32 n, .int .u8 x]] w fun e w' => e = .returned (.int .i64 1) ∧ Kept NoB w w' := by
  have h1 := h0.1
  have h2 := h0.2
  have h3 := hx.1
  have h4 := hx.2
  clear h0 hx
  go_enter Try.func19, Try.ntmps19
  go_wp2_with fail
  refine (bits_nil n x _).mono ?_; rintro e w' ⟨rfl, rfl⟩
  go_wp2_with fail
  go_ret
  exact ⟨rfl, (Kept.refl NoB w).alloc _⟩

end Go.Proofs.Ytnkkccieidlacaa
