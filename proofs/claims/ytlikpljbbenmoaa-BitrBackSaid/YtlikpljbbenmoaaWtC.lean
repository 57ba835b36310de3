/- What Bits, Align and Bytes of package bitw answer and leave, in a seat without Code. Conditions: as each theorem names them. -/
import Derived.Test.YtlikpljbbenmoaaWtB
import Derived.Test.YtlikpljbbenmoaaStr
namespace Go.Proofs.Ytlikpljbbenmoaa
open Go.RowKit M
set_option linter.unusedVariables false
variable {w w' : World} {B p k c V L : Nat} {ao : Option Addr} {most : Int} {S T : Nat → Prop}

theorem Wr.drewN (h : Wr w B p most ao c k V L) (n : Nat) : Wr (w.drewN n) B p most ao c k V L := h.keep ((Kept.refl NoB w).drewN n) (fun _ _ g => g)
theorem q_len (h : Wr w B p most ao c k V L) (hk : k ≤ 1000000000) (hL : L ≤ 1000000000) (n : Nat) :
    Calls Try.prog 33 #[.pointer (some ⟨p, 0, none⟩)] (w.drewN n) fun e w' => e = .returned (.int .i64 L) ∧ ∃ n, w' = w.drewN n := Calls.quiet_of (len_any (h.drewN n) hk hL)
theorem q_bytesOf (n Q : Nat) (w : World) (m : Nat) (h : n ≤ 4611686018427387000) (hQ : (n + 7) / 8 = Q) :
    Calls Try.prog 32 #[.int .i64 n] (w.drewN m) fun e w' => e = .returned (.int .i64 Q) ∧ ∃ n, w' = w.drewN n := by
  subst hQ
  exact (bytesOf_nat n (w.drewN m) h).mono fun _ _ ⟨he, hw⟩ => ⟨he, m, hw.symm⟩

/-- What a call answers and leaves: r: the error's number, and the bits. -/
def Did (w : World) (B p : Nat) (S : Nat → Prop) (most : Int) (r : Int × Nat × Nat) (e : Ending) (w' : World) : Prop :=
  e = .returned (.int .i64 r.1) ∧ ∃ S', Wt w' B p S' most r.2.1 r.2.2 ∧ Kept S w w' ∧ ∀ j, S' j → S j ∨ w.heap.size ≤ j

theorem Did.same (h : Wt w B p S most V L) (r : Int) (n : Nat) : Did w B p S most (r, V, L) (.returned (.int .i64 r)) (w.drewN n) :=
  ⟨rfl, S, h.keep ((Kept.refl NoB w).drewN n) (fun _ _ g => g), (Kept.refl S w).drewN n, fun _ g => .inl g⟩

theorem bits_yes (h : Wt w B p S most V L) (N s : Nat) (hL : L ≤ 900000000) (hs : s ≤ 56) (hN : N < 2 ^ s) (hm : (((L + s + 7) / 8 : Nat) : Int) ≤ most) :
    Calls Try.prog 17 #[.pointer (some ⟨p, 0, none⟩), .int .u64 N, .int .i64 s] w (Did w B p S most (0, V + N * 2 ^ L, L + s)) := by
  obtain ⟨ao, c, h, hS⟩ := h
  have c0 := h.c0
  have c1 := h.c1
  obtain ⟨T, hT⟩ : ∃ T, L + s = T := ⟨_, rfl⟩
  obtain ⟨Q, hQ⟩ : ∃ Q, (T + 7) / 8 = Q := ⟨_, rfl⟩
  rw [hT, hQ] at hm
  have hw : IntKind.i64.wrap ((L : Int) + (s : Int)) = (T : Int) := by rw [IntWalk.i64_in _ ⟨by omega, by omega⟩]; omega
  have HT := Lib.hid hT
  have HQ := Lib.hid hQ
  have HS := Lib.hid hS
  have HH := Lib.hid h
  have hT2 : T ≤ 1000000000 := by omega
  have hL8 : L / 8 ≤ 1000000000 := by omega
  clear hT hQ hS h
  go_enter Try.func17, Try.ntmps17
  go_wp2_with (go_at_call 31; refine (isMade_yes p _ c0).mono ?_; rintro e w' ⟨rfl, rfl⟩)
  refine (may_yes N s _ hs hN).mono ?_; rintro e w' ⟨rfl, rfl⟩
  go_wp2_with fail
  go_quiet (first | (go_at_call 33; exact q_len HH.out hL8 (by omega) _) | (go_at_call 32; exact q_bytesOf T Q _ _ (by omega) HQ.out))
  go_wp2_with fail
  refine (put_any (HH.out.drewN nq) (by have := HH.out.ge; omega) N s hN hs (by omega)).mono ?_; rintro e w2 ⟨rfl, ao2, c2, r1, r2, r3⟩
  have R1 := Lib.hid r1
  have R2 := Lib.hid r2
  have R3 := Lib.hid r3
  clear r1 r2 r3
  go_wp2_with fail
  go_ret
  exact ⟨rfl, foot p ao2, ⟨ao2, c2, R1.out, fun _ => Iff.rfl⟩, (((Kept.refl (foot p ao) w).drewN nq).trans R2.out (fun j hj => .inl hj)).mono (fun j hj => (HS.out j).2 hj), fun j hj => (R3.out j hj).imp (HS.out j).2 id⟩

theorem bits_full (h : Wt w B p S most V L) (N s : Nat) (hL : L ≤ 900000000) (hs : s ≤ 56) (hN : N < 2 ^ s) (hm : ¬ (((L + s + 7) / 8 : Nat) : Int) ≤ most) :
    Calls Try.prog 17 #[.pointer (some ⟨p, 0, none⟩), .int .u64 N, .int .i64 s] w (Did w B p S most (4, V, L)) := by
  have H0 := Lib.hid h
  obtain ⟨ao, c, h, hS⟩ := h
  have c0 := h.c0
  have c1 := h.c1
  obtain ⟨T, hT⟩ : ∃ T, L + s = T := ⟨_, rfl⟩
  obtain ⟨Q, hQ⟩ : ∃ Q, (T + 7) / 8 = Q := ⟨_, rfl⟩
  rw [hT, hQ] at hm
  have hm2 : most < (Q : Int) := by omega
  clear hm
  have hw : IntKind.i64.wrap ((L : Int) + (s : Int)) = (T : Int) := by rw [IntWalk.i64_in _ ⟨by omega, by omega⟩]; omega
  have HT := Lib.hid hT
  have HQ := Lib.hid hQ
  have HS := Lib.hid hS
  have HH := Lib.hid h
  have hT2 : T ≤ 1000000000 := by omega
  have hL8 : L / 8 ≤ 1000000000 := by omega
  clear hT hQ hS h
  go_enter Try.func17, Try.ntmps17
  go_wp2_with (go_at_call 31; refine (isMade_yes p _ c0).mono ?_; rintro e w' ⟨rfl, rfl⟩)
  refine (may_yes N s _ hs hN).mono ?_; rintro e w' ⟨rfl, rfl⟩
  go_wp2_with fail
  go_quiet (first | (go_at_call 33; exact q_len HH.out hL8 (by omega) _) | (go_at_call 32; exact q_bytesOf T Q _ _ (by omega) HQ.out))
  go_wp2_with fail
  go_ret
  exact Did.same H0.out 4 nq

theorem bits_arg (h : Wt w B p S most V L) (n x : Int) (h0 : 0 ≤ n) (hx : ¬ (0 ≤ x ∧ x ≤ 56 ∧ n.toNat < 2 ^ x.toNat)) :
    Calls Try.prog 17 #[.pointer (some ⟨p, 0, none⟩), .int .u64 n, .int .i64 x] w (Did w B p S most (2, V, L)) := by
  have H0 := Lib.hid h
  obtain ⟨ao, c, h, hS⟩ := h
  have c0 := h.c0
  have HX := Lib.hid hx
  clear h hS hx
  go_enter Try.func17, Try.ntmps17
  go_wp2_with (go_at_call 31; refine (isMade_yes p _ c0).mono ?_; rintro e w' ⟨rfl, rfl⟩)
  refine (may_no n x _ h0 HX.out).mono ?_; rintro e w' ⟨rfl, rfl⟩
  go_wp2_with fail
  go_ret
  exact Did.same H0.out 2 0

theorem bits_any (h : Wt w B p S most V L) (n x : Int) (h0 : 0 ≤ n) (hL : L ≤ 900000000) :
    Calls Try.prog 17 #[.pointer (some ⟨p, 0, none⟩), .int .u64 n, .int .i64 x] w (Did w B p S most (bitsR most V L n.toNat x)) := by
  by_cases hx : 0 ≤ x ∧ x ≤ 56 ∧ n.toNat < 2 ^ x.toNat
  · obtain ⟨N, rfl⟩ := Int.eq_ofNat_of_zero_le h0
    obtain ⟨s, rfl⟩ := Int.eq_ofNat_of_zero_le hx.1
    obtain ⟨_, h2, h3⟩ := hx
    rw [Int.toNat_natCast, Int.toNat_natCast] at h3
    rw [Int.toNat_natCast]
    by_cases hm : (((L + s + 7) / 8 : Nat) : Int) ≤ most
    · rw [bitsR_yes (by omega) h3 hm]
      exact bits_yes h N s hL (by omega) h3 hm
    · rw [bitsR_full (by omega) h3 hm]
      exact bits_full h N s hL (by omega) h3 hm
  · rw [bitsR_arg hx]
    exact bits_arg h n x h0 hx
theorem bits_nil (n x : Int) (w : World) :
    Calls Try.prog 17 #[.pointer none, .int .u64 n, .int .i64 x] w fun e w' => e = .returned (.int .i64 1) ∧ w = w' := by
  go_enter Try.func17, Try.ntmps17
  go_wp2_with (go_at_call 31; refine (isMade_nil _).mono ?_; rintro e w' ⟨rfl, rfl⟩)
  go_ret
  exact ⟨rfl, rfl⟩

theorem Did.from {w0 : World} {r : Int × Nat × Nat} {e : Ending} (hk : Kept NoB w w0) (h : Did w0 B p S most r e w') : Did w B p S most r e w' := by
  obtain ⟨he, S', h1, h2, h3⟩ := h
  exact ⟨he, S', h1, (hk.none S).trans h2 (fun j hj => .inl hj), fun j hj => (h3 j hj).imp id (fun g => Nat.le_trans hk.size g)⟩

theorem put_zero (h : Wr w B p most ao c k V L) (h7 : L - 8 * k ≤ 7) (s : Nat) (hs : s ≤ 56) (hL : L ≤ 1000000000) :
    Calls Try.prog 36 #[.pointer (some ⟨p, 0, none⟩), .int .u64 0, .int .i64 s] w fun e w' => e = .returned (.tuple #[]) ∧ ∃ ao' c', Wr w' B p most ao' c' ((L + s) / 8) V (L + s) ∧ Kept (foot p ao) w w' ∧ (∀ j, foot p ao' j → foot p ao j ∨ w.heap.size ≤ j) := by
  have g := put_any h h7 0 s (Nat.two_pow_pos s) hs hL
  rw [Nat.zero_mul, Nat.add_zero] at g
  exact g

theorem align_any (h : Wt w B p S most V L) (hL : L ≤ 900000000) :
    Calls Try.prog 34 #[.pointer (some ⟨p, 0, none⟩)] w (Did w B p S most (0, V, alignL L)) := by
  obtain ⟨ao, c, h, hS⟩ := h
  have c0 := h.c0
  obtain ⟨Q, hQ⟩ : ∃ Q, (L + 7) / 8 = Q := ⟨_, rfl⟩
  obtain ⟨D, hD⟩ : ∃ D, 8 * Q - L = D := ⟨_, rfl⟩
  have hw : (Q : Int) * 8 - (L : Int) = (D : Int) := by omega
  have HD := Lib.hid (show L + D = alignL L by unfold alignL; omega)
  have hD7 : D ≤ 7 := by omega
  have hQ0 : Q ≤ 200000000 := by omega
  have HQ := Lib.hid hQ
  have HS := Lib.hid hS
  have HH := Lib.hid h
  have hL8 : L / 8 ≤ 1000000000 := by omega
  clear hD hQ hS h
  go_enter Try.func34, Try.ntmps34
  go_wp2_with (go_at_call 31; refine (isMade_yes p _ c0).mono ?_; rintro e w' ⟨rfl, rfl⟩)
  refine (len_any HH.out hL8 (by omega)).mono ?_; rintro e w' ⟨rfl, n1, rfl⟩
  go_wp2_with fail
  refine (q_bytesOf L Q _ _ (by omega) HQ.out).mono ?_; rintro e w' ⟨rfl, n2, rfl⟩
  go_wp2_with fail
  refine (len_any (HH.out.drewN n2) hL8 (by omega)).mono ?_; rintro e w' ⟨rfl, n3, rfl⟩
  go_wp2_with fail
  refine (put_zero (HH.out.drewN (n2 + n3)) (by have := HH.out.ge; omega) D (by omega) (by omega)).mono ?_; rintro e w2 ⟨rfl, ao2, c2, r1, r2, r3⟩
  have R1 := Lib.hid r1
  have R2 := Lib.hid r2
  have R3 := Lib.hid r3
  clear r1 r2 r3
  go_wp2_with fail
  go_ret
  exact ⟨rfl, foot p ao2, ⟨ao2, c2, by rw [← HD.out]; exact R1.out, fun _ => Iff.rfl⟩, (((Kept.refl (foot p ao) w).drewN (n2 + n3)).trans R2.out (fun j hj => .inl hj)).mono (fun j hj => (HS.out j).2 hj), fun j hj => (R3.out j hj).imp (HS.out j).2 id⟩
theorem align_nil (w : World) :
    Calls Try.prog 34 #[.pointer none] w fun e w' => e = .returned (.int .i64 1) ∧ w = w' := by
  go_enter Try.func34, Try.ntmps34
  go_wp2_with (go_at_call 31; refine (isMade_nil _).mono ?_; rintro e w' ⟨rfl, rfl⟩)
  go_ret
  exact ⟨rfl, rfl⟩

/-- Bytes that were appended to whole bytes. -/
theorem Wr.strung {w1 : World} {q : Nat} {s : ByteArray} {ao2 : Option Addr} {c2 : Nat} (h : Wr w B p most ao c q V (8 * q)) (hg : w.grownBy w1 (Value.ownBlock (.slice ao q c))) (hat : ∀ a, ao2 = some a → Value.ownBlock (.slice ao q c) = some a.block ∨ w.heap.size ≤ a.block)
    (hown : w1.ownsRow B 5 1 (.slice ao2 (q + s.size) c2) (q + s.size) ((bys V q).map (Value.int .u8) ++ Lib.strCells s)) :
    Wr (w1.setCell ⟨p, 2, none⟩ (.slice ao2 (q + s.size) c2)) B p most ao2 c2 (q + s.size) (V + vl s.data.toList * 2 ^ (8 * q)) (8 * q + 8 * s.size) ∧
      Kept (foot p ao) w (w1.setCell ⟨p, 2, none⟩ (.slice ao2 (q + s.size) c2)) ∧ (∀ j, foot p ao2 j → foot p ao j ∨ w.heap.size ≤ j) := by
  have hrow : ∀ j, Value.ownBlock (.slice ao q c) = some j → foot p ao j := by
    intro j hj
    cases ao with
    | none => simp [Value.ownBlock] at hj
    | some a => exact .inr ⟨a, rfl, by simpa [Value.ownBlock] using hj.symm⟩
  have hpn := h.row_ne
  have hn : Kept (fun j => Value.ownBlock (.slice ao q c) = some j) w w1 := Kept.of_grown hg
  have e0 := hn.cell h.c0 hpn
  have e1 := hn.cell h.c1 hpn
  have e2 := hn.cell h.c2 hpn
  have e3 := hn.cell h.c3 hpn
  have e4 := hn.cell h.c4 hpn
  have hk1 : Kept (foot p ao) w w1 := (Kept.refl _ w).grown hg (fun j hj => .inl (hrow j hj))
  have hap : ∀ a, ao2 = some a → a.block ≠ p := by
    intro a ha e
    rcases hat a ha with g | g
    · exact hpn (by rw [← e]; exact g)
    · have := h.lt; omega
  have hv : V < 256 ^ q := by rw [p256]; exact h.val
  have hvl := vl_lt s.data.toList
  rw [size_list, p256] at hvl
  have hv2 := more_lt (N := vl s.data.toList) h.val hvl
  have z1 : V / 256 ^ q = 0 := Nat.div_eq_of_lt hv
  have z2 : (V + vl s.data.toList * 2 ^ (8 * q)) / 256 ^ (q + s.size) = 0 := Nat.div_eq_of_lt (by rw [p256, Nat.mul_add]; exact hv2)
  have hk2 : Kept (fun j => j = p) w1 (w1.setCell ⟨p, 2, none⟩ (.slice ao2 (q + s.size) c2)) := (Kept.refl (fun j => j = p) w1).setCell ⟨p, 2, none⟩ (.inl rfl) _
  refine ⟨⟨(set_ne (by decide)).trans e0, (set_ne (by decide)).trans e1, set_eq e2, (set_ne (by decide)).trans (by rw [z2, e3, z1]), (set_ne (by decide)).trans (by rw [e4]; congr 2; omega),
    fun i => set_fz ((hn.frozen (a := ⟨p, i, none⟩) h.lt hpn).trans (h.fz i)), ?_, hap, h.base, hv2, by omega⟩, hk1.trans hk2 (fun j hj => .inl (.inl hj)), ?_⟩
  · rw [← p256, ← cells_more V q s hv]
    refine hk2.own hown fun i hi g => ?_
    cases ao2 with
    | none => simp [Value.ownBlock] at hi
    | some a =>
      have := hap a rfl
      simp [Value.ownBlock] at hi
      omega
  · intro j hj
    rcases hj with hj | ⟨a, ha, hj⟩
    · exact .inl (.inl hj)
    · subst hj
      rcases hat a ha with g | g
      · exact .inl (hrow _ g)
      · exact .inr g

theorem bytes_yes (h : Wt w B p S most V L) (s : ByteArray) (hL : L ≤ 900000000) (hs : s.size ≤ 100000000) (hm : (((L + 7) / 8 + s.size : Nat) : Int) ≤ most) :
    Calls Try.prog 16 #[.pointer (some ⟨p, 0, none⟩), .string s] w (Did w B p S most (0, V + vl s.data.toList * 2 ^ alignL L, alignL L + 8 * s.size)) := by
  obtain ⟨i0, hi, hz0, hz1, hz2⟩ := info_parts info_u8
  have H0 := Lib.hid h
  obtain ⟨ao, c, h, hS⟩ := h
  have c0 := h.c0
  have c1 := h.c1
  obtain ⟨Q, hQ⟩ : ∃ Q, (L + 7) / 8 = Q := ⟨_, rfl⟩
  rw [hQ] at hm
  have hm2 : (Q : Int) + (s.size : Int) ≤ most := by omega
  have hw : IntKind.i64.wrap ((Q : Int) + (s.size : Int)) = (Q : Int) + (s.size : Int) := by rw [IntWalk.i64_in _ ⟨by omega, by omega⟩]
  have HA := Lib.hid (show alignL L = 8 * Q by unfold alignL; omega)
  have HQ := Lib.hid hQ
  have HS := Lib.hid hS
  have HH := Lib.hid h
  have hL8 : L / 8 ≤ 1000000000 := by omega
  have hQ9 : Q ≤ 200000000 := by omega
  clear hQ hS h hm
  go_enter Try.func16, Try.ntmps16
  go_wp2_with (go_at_call 31; refine (isMade_yes p _ c0).mono ?_; rintro e w' ⟨rfl, rfl⟩)
  go_quiet (first | (go_at_call 33; exact q_len HH.out hL8 (by omega) _) | (go_at_call 32; exact q_bytesOf L Q _ _ (by omega) HQ.out))
  go_wp2_with fail
  refine (align_any (H0.out.keep ((Kept.refl NoB w).drewN nq) (fun _ _ g => g)) hL).mono ?_; rintro e w2 ⟨rfl, S2, ⟨ao2, c2, r1, r2⟩, r3, r4⟩
  have r1' : Wr w2 B p most ao2 c2 Q V (8 * Q) := by
    have : Wr w2 B p most ao2 c2 (alignL L / 8) V (alignL L) := r1
    rw [HA.out] at this
    rwa [show 8 * Q / 8 = Q by omega] at this
  have d2 := r1'.c2
  have d2f := r1'.fz 2
  have hown := r1'.own
  have hbase : B ≤ w2.heap.size := by have := r1'.base; have := r1'.lt; omega
  have hpl := r1'.lt
  have hpn := r1'.row_ne
  have R1 := Lib.hid r1'
  have R2 := Lib.hid r2
  have R3 := Lib.hid r3
  have R4 := Lib.hid r4
  clear r1 r1' r2 r3 r4
  go_wp2_with (at_builtin; refine wpList_append_str_at rfl (.tmp 25) (.tmp 26) 62 9 rfl B 5 i0 Try.underlying62 Try.underlying9 hi hz0 hz1 hz2 _ Q _ rfl hown s rfl (by omega) hbase ?_)
  intro ao3 c3 w3 hown3 hg3 hat3
  have hn : Kept (fun j => Value.ownBlock (.slice ao2 Q c2) = some j) w2 w3 := Kept.of_grown hg3
  have e2 := hn.cell d2 hpn
  have e2f := (hn.frozen (a := ⟨p, 2, none⟩) hpl hpn).trans d2f
  have HO := Lib.hid hown3
  have HG := Lib.hid hg3
  have HT := Lib.hid hat3
  clear hn hown hown3 hg3 hat3 d2 d2f hpn
  go_wp2_with fail
  go_ret
  have R := R1.out.strung HG.out HT.out HO.out
  refine ⟨rfl, foot p ao3, ⟨ao3, c3, ?_, fun _ => Iff.rfl⟩, (((Kept.refl S w).drewN nq).trans R3.out (fun j hj => .inl hj)).trans (R.2.1.mono (fun j hj => (R2.out j).2 hj)) (fun j hj => R4.out j hj), fun j hj => ?_⟩
  · show Wr _ B p most ao3 c3 ((alignL L + 8 * s.size) / 8) (V + vl s.data.toList * 2 ^ alignL L) (alignL L + 8 * s.size)
    rw [HA.out, show (8 * Q + 8 * s.size) / 8 = Q + s.size by omega]
    exact R.1
  · rcases R.2.2 j hj with g | g
    · exact R4.out j ((R2.out j).2 g)
    · exact .inr (Nat.le_trans R3.out.size g)

theorem bytes_full (h : Wt w B p S most V L) (s : ByteArray) (hL : L ≤ 900000000) (hs : s.size ≤ 100000000) (hm : ¬ (((L + 7) / 8 + s.size : Nat) : Int) ≤ most) :
    Calls Try.prog 16 #[.pointer (some ⟨p, 0, none⟩), .string s] w (Did w B p S most (4, V, L)) := by
  have H0 := Lib.hid h
  obtain ⟨ao, c, h, hS⟩ := h
  have c0 := h.c0
  have c1 := h.c1
  obtain ⟨Q, hQ⟩ : ∃ Q, (L + 7) / 8 = Q := ⟨_, rfl⟩
  rw [hQ] at hm
  have hm2 : most < (Q : Int) + (s.size : Int) := by omega
  have hw : IntKind.i64.wrap ((Q : Int) + (s.size : Int)) = (Q : Int) + (s.size : Int) := by rw [IntWalk.i64_in _ ⟨by omega, by omega⟩]
  have HQ := Lib.hid hQ
  have HH := Lib.hid h
  have hL8 : L / 8 ≤ 1000000000 := by omega
  clear hQ hS h hm
  go_enter Try.func16, Try.ntmps16
  go_wp2_with (go_at_call 31; refine (isMade_yes p _ c0).mono ?_; rintro e w' ⟨rfl, rfl⟩)
  go_quiet (first | (go_at_call 33; exact q_len HH.out hL8 (by omega) _) | (go_at_call 32; exact q_bytesOf L Q _ _ (by omega) HQ.out))
  go_wp2_with fail
  go_ret
  exact Did.same H0.out 4 nq

theorem bytes_any (h : Wt w B p S most V L) (s : ByteArray) (hL : L ≤ 900000000) (hs : s.size ≤ 100000000) :
    Calls Try.prog 16 #[.pointer (some ⟨p, 0, none⟩), .string s] w (Did w B p S most (bytesR most V L s)) := by
  by_cases hm : (((L + 7) / 8 + s.size : Nat) : Int) ≤ most
  · rw [bytesR_yes hm]
    exact bytes_yes h s hL hs hm
  · rw [bytesR_full hm]
    exact bytes_full h s hL hs hm
theorem bytes_nil (s : ByteArray) (w : World) :
    Calls Try.prog 16 #[.pointer none, .string s] w fun e w' => e = .returned (.int .i64 1) ∧ w = w' := by
  go_enter Try.func16, Try.ntmps16
  go_wp2_with (go_at_call 31; refine (isMade_nil _).mono ?_; rintro e w' ⟨rfl, rfl⟩)
  go_ret
  exact ⟨rfl, rfl⟩
end Go.Proofs.Ytlikpljbbenmoaa
