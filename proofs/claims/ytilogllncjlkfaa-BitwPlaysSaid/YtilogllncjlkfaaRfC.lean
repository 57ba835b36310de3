/- What Align and Bytes of the document's writer answer and leave. Conditions: as each theorem names them. -/
import Derived.Test.YtilogllncjlkfaaRfB
namespace Go.Proofs.Ytilogllncjlkfaa
open Go.RowKit M
set_option linter.unusedVariables false
variable {w w' : World} {B p k c V L : Nat} {ao : Option Addr} {most : Int} {S T : Nat → Prop}

theorem ralign_any (h : Rt w B p S most V L) (hL : L ≤ 900000000) :
    Calls Try.prog 21 #[.pointer (some ⟨p, 0, none⟩)] w fun e w' => e = .returned (.tuple #[]) ∧ ∃ S', Rt w' B p S' most V (alignL L) ∧ Kept S w w' ∧ ∀ j, S' j → S j ∨ w.heap.size ≤ j := by
  obtain ⟨i0, hi, hz0, hz1, hz2⟩ := info_parts info_u8
  obtain ⟨ao, c, h, hS⟩ := h
  have HH := Lib.hid h
  have HS := Lib.hid hS
  have hA := align_ge L
  have hA2 := align_lt L
  have HA3 := Lib.hid (show alignL L = 8 * ((L + 7) / 8) from rfl)
  obtain ⟨A, hA4⟩ : ∃ A, alignL L = A := ⟨_, rfl⟩
  rw [hA4] at hA hA2
  have HA4 := Lib.hid hA4
  clear h hS hA4
  go_enter Try.func21, Try.ntmps21
  go_wp2_with fail
  go_loopg [] (A - L) (fun g wr => ∃ (M : Nat) (ao' : Option Addr) (c' : Nat), L ≤ M ∧ M ≤ A ∧ g = A - M ∧ Rf wr B p most ao' c' V M ∧ Kept (foot p ao) w wr ∧ (∀ j, foot p ao' j → foot p ao j ∨ w.heap.size ≤ j))
  case atStart => exact ⟨L, ao, c, Nat.le_refl _, hA, rfl, HH.out, Kept.refl _ _, fun j hj => .inl hj⟩
  case round =>
    obtain ⟨M, ao', c', hm1, hm2, rfl, hr, hkp, hft⟩ := hrel
    have HR := Lib.hid hr
    have HK := Lib.hid hkp
    have HF := Lib.hid hft
    have d0 := hr.c0
    have d0f := hr.fz 0
    have hown := hr.own
    have hbase := hr.base
    have hpl := hr.lt
    obtain ⟨t, ht⟩ : ∃ t, M % 8 = t := ⟨_, rfl⟩
    have htm : (M : Int) % 8 = (t : Int) := by omega
    have hM9 : M ≤ 1000000000 := by omega
    have HTM := Lib.hid ht
    clear hr hkp hft ht
    by_cases ht0 : t = 0
    · have htb : ((t : Int) != 0) = false := by simp [ht0]
      have HT0 := Lib.hid ht0
      clear ht0
      go_wp2_with fail
      go_end0
      have hMA : M = alignL L := by have := HT0.out; have := HTM.out; have := HA3.out; have := HA4.out; omega
      exact ⟨rfl, foot p ao', ⟨ao', c', by rw [← hMA]; exact HR.out, fun _ => Iff.rfl⟩, HK.out.mono (fun j hj => (HS.out j).2 hj), fun j hj => (HF.out j hj).imp (HS.out j).2 id⟩
    · have htb : ((t : Int) != 0) = true := by rw [bne_iff_ne]; omega
      have hlt : M < A := by have := HTM.out; have := HA3.out; have := HA4.out; omega
      clear ht0
      go_wp2_with (at_builtin; refine wpList_append_lies _ rfl (.tmp 13) (.tmp 14) 34 rfl B 5 i0 (.int .u8 0) 1 1 Try.underlying34 hi hz0 hz1 hz2 rfl (by decide) (.slice ao' M c') M _ rfl (World.ownsRow.alloc hown _) ⟨wr.heap.size, 0, none⟩ 1 1 [.int .u8 0] rfl rfl ?c1 ?c2 ?c3 ?c4 ?c5 ?c6 (wr.heap.size + 1) ?c7 ?_)
      case c1 =>
        intro j u hj
        match j, hj with
        | 0, hj => simp at hj; subst hj; simp [Addr.add]
      case c2 => intro u hu; simp at hu; subst hu; rfl
      case c3 => decide
      case c4 => unfold maxLen; omega
      case c5 => omega
      case c6 => simp; omega
      case c7 => simp
      intro g cap w1 hown1 hg1 hat1 hlt1
      have hpn := HR.out.row_ne
      have hn := ((Kept.refl (fun i => Value.ownBlock (.slice ao' M c') = some i) wr).alloc (.cells #[.int .u8 0] 5)).grown hg1 (fun i hi => .inl hi)
      have e0 := hn.cell d0 hpn
      have e0f := (hn.frozen (a := ⟨p, 0, none⟩) hpl hpn).trans d0f
      have R := HR.out.pushed (b := 0) (w0 := wr.alloc _) ((Kept.refl NoB wr).alloc _) hg1 (hat1.imp id (fun e => by rw [e]; simp)) (by decide) hown1
      rw [Nat.zero_mul, Nat.add_zero] at R
      have HR3 := Lib.hid R
      clear hn hpn hown1 hg1 hat1 hown d0 d0f R
      go_wp2_with fail
      go_roundg (A - (M + 1))
      case measure => omega
      case rel => exact ⟨M + 1, _, cap, by omega, by omega, rfl, HR3.out.1, HK.out.trans HR3.out.2.1 HF.out, fun i hi => (HR3.out.2.2 i hi).elim (fun g => HF.out i g) (fun g => .inr (Nat.le_trans HK.out.size g))⟩

theorem rbytes_yes (h : Rt w B p S most V L) (s : ByteArray) (hL : L ≤ 700000000) (hs : s.size ≤ 10000000) (hm : (((L + 7) / 8 + s.size : Nat) : Int) ≤ most) :
    Calls Try.prog 22 #[.pointer (some ⟨p, 0, none⟩), .string s] w (Rid w B p S most (0, V + vl s.data.toList * 2 ^ alignL L, alignL L + 8 * s.size)) := by
  have H0 := Lib.hid h
  obtain ⟨ao, c, h, hS⟩ := h
  have c0 := h.c0
  have c1 := h.c1
  obtain ⟨R, hR⟩ : ∃ R, L + 7 = R := ⟨_, rfl⟩
  obtain ⟨Q, hQ⟩ : ∃ Q, R / 8 = Q := ⟨_, rfl⟩
  rw [hR, hQ] at hm
  have hm2 : (Q : Int) + (s.size : Int) ≤ most := by omega
  have w1 : IntKind.i64.wrap ((L : Int) + 7) = (R : Int) := by rw [IntWalk.i64_in _ ⟨by omega, by omega⟩]; omega
  have w2 : (R : Int) / 8 = (Q : Int) := by omega
  have w3 : IntKind.i64.wrap (Q : Int) = (Q : Int) := by rw [IntWalk.i64_in _ ⟨by omega, by omega⟩]
  have w4 : IntKind.i64.wrap ((Q : Int) + (s.size : Int)) = (Q : Int) + (s.size : Int) := by rw [IntWalk.i64_in _ ⟨by omega, by omega⟩]
  have hA : alignL L = 8 * Q := by unfold alignL; omega
  have HA := Lib.hid hA
  have hQ9 : Q ≤ 90000000 := by omega
  clear h hS hR hQ hm hA
  go_enter Try.func22, Try.ntmps22
  go_wp2_with fail
  go_quiet (fail)
  go_wp2_with fail
  refine (ralign_any (H0.out.keep ((Kept.refl NoB w).drewN nq) (fun _ _ g => g)) (by omega)).mono ?_; rintro e w3 ⟨rfl, S3, r3, k3, s3⟩
  rw [HA.out] at r3
  have R3 := Lib.hid r3
  have K3 := Lib.hid (((Kept.refl S w).drewN nq).trans k3 (fun j hj => .inl hj))
  have F3 : Hid (∀ j, S3 j → S j ∨ w.heap.size ≤ j) := s3
  clear r3 k3 s3 c0 c1
  go_wp2_with fail
  go_loopw [5] (fun i wr => ∃ (j : Nat) (S' : Nat → Prop), j ≤ s.size ∧ i = .int .i64 j ∧ Rt wr B p S' most (V + vl (s.data.toList.take j) * 2 ^ (8 * Q)) (8 * Q + 8 * j) ∧ Kept S w wr ∧ (∀ j, S' j → S j ∨ w.heap.size ≤ j)) (fun i _ => s.size - (intOf i).toNat)
  case atStart => exact ⟨0, S3, Nat.zero_le _, rfl, by simpa [vl] using R3.out, K3.out, F3.out⟩
  case round =>
    obtain ⟨j, S', hj, rfl, hr, hk, hf⟩ := hrel
    have HR := Lib.hid hr
    have HK := Lib.hid hk
    have HF := Lib.hid hf
    clear hr hk hf
    by_cases hlt : j < s.size
    · have hlt' : decide (j < s.size) = true := decide_eq_true hlt
      go_wp2_with fail
      have hb8 := s[j].toNat_lt
      have hbm := byte_more V (8 * Q) j s hlt
      rw [wrap_nat_lt _ (by omega)]
      generalize s[j].toNat = b at *
      have hrr : bitsR most (V + vl (s.data.toList.take j) * 2 ^ (8 * Q)) (8 * Q + 8 * j) (b : Int).toNat 8 = (0, V + vl (s.data.toList.take (j + 1)) * 2 ^ (8 * Q), 8 * Q + 8 * (j + 1)) := by
        rw [Int.toNat_natCast, ← hbm]
        exact (bitsR_yes (s := 8) (by decide) (by simpa using hb8) (by omega)).trans (by rw [show 8 * Q + 8 * j + 8 = 8 * Q + 8 * (j + 1) by omega])
      have g := rbits_any HR.out (b : Int) 8 (by omega) (by omega)
      rw [hrr] at g
      refine g.mono ?_; rintro e w4 ⟨rfl, S4, r4, k4, s4⟩
      have R4 := Lib.hid r4
      have K4 := Lib.hid (HK.out.trans k4 HF.out)
      have F4 : Hid (∀ j, S4 j → S j ∨ w.heap.size ≤ j) := fun i hi => (s4 i hi).elim (HF.out i) (fun g => .inr (Nat.le_trans HK.out.size g))
      clear r4 k4 s4 hb8 hbm hrr g
      go_wp2_with fail
      go_roundw
      case rel => exact ⟨j + 1, S4, by omega, by go_num, R4.out, K4.out, F4.out⟩
      case measure => simp [intOf]; omega
    · obtain rfl : j = s.size := by omega
      have hlt' : decide (s.size < s.size) = false := decide_eq_false (by omega)
      clear hlt
      go_wp2_with fail
      go_ret
      exact ⟨rfl, S', by rw [HA.out]; have := HR.out; rwa [vl_take_all] at this, HK.out, HF.out⟩

theorem rbytes_full (h : Rt w B p S most V L) (s : ByteArray) (hL : L ≤ 700000000) (hs : s.size ≤ 10000000) (hm : ¬ (((L + 7) / 8 + s.size : Nat) : Int) ≤ most) :
    Calls Try.prog 22 #[.pointer (some ⟨p, 0, none⟩), .string s] w (Rid w B p S most (4, V, L)) := by
  have H0 := Lib.hid h
  obtain ⟨ao, c, h, hS⟩ := h
  have c0 := h.c0
  have c1 := h.c1
  obtain ⟨R, hR⟩ : ∃ R, L + 7 = R := ⟨_, rfl⟩
  obtain ⟨Q, hQ⟩ : ∃ Q, R / 8 = Q := ⟨_, rfl⟩
  rw [hR, hQ] at hm
  have hm2 : most < (Q : Int) + (s.size : Int) := by omega
  have w1 : IntKind.i64.wrap ((L : Int) + 7) = (R : Int) := by rw [IntWalk.i64_in _ ⟨by omega, by omega⟩]; omega
  have w2 : (R : Int) / 8 = (Q : Int) := by omega
  have w3 : IntKind.i64.wrap (Q : Int) = (Q : Int) := by rw [IntWalk.i64_in _ ⟨by omega, by omega⟩]
  have w4 : IntKind.i64.wrap ((Q : Int) + (s.size : Int)) = (Q : Int) + (s.size : Int) := by rw [IntWalk.i64_in _ ⟨by omega, by omega⟩]
  clear h hS hR hQ hm
  go_enter Try.func22, Try.ntmps22
  go_wp2_with fail
  go_quiet (fail)
  go_wp2_with fail
  go_ret
  exact Rid.same H0.out 4 nq

theorem rbytes_any (h : Rt w B p S most V L) (s : ByteArray) (hL : L ≤ 700000000) (hs : s.size ≤ 10000000) :
    Calls Try.prog 22 #[.pointer (some ⟨p, 0, none⟩), .string s] w (Rid w B p S most (bytesR most V L s)) := by
  by_cases hm : (((L + 7) / 8 + s.size : Nat) : Int) ≤ most
  · rw [bytesR_yes hm]
    exact rbytes_yes h s hL hs hm
  · rw [bytesR_full hm]
    exact rbytes_full h s hL hs hm
end Go.Proofs.Ytilogllncjlkfaa
