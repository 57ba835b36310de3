/- What Bits and Align of the document's writer answer and leave. Conditions: as each theorem names them. -/
import Derived.Test.YtilogllncjlkfaaRfA
namespace Go.Proofs.Ytilogllncjlkfaa
open Go.RowKit M
set_option linter.unusedVariables false
variable {w w' : World} {B p k c V L : Nat} {ao : Option Addr} {most : Int} {S T : Nat → Prop}

/-- A bit that was appended. -/
theorem Rf.pushed {w0 w1 : World} {g cap b : Nat} (h : Rf w B p most ao c V L) (hk0 : Kept NoB w w0) (hg : w0.grownBy w1 (Value.ownBlock (.slice ao L c))) (hat : Value.ownBlock (.slice ao L c) = some g ∨ g = w0.heap.size) (hb : b < 2)
    (hown : w1.ownsRow B 5 1 (.slice (some ⟨g, 0, none⟩) (L + 1) cap) (L + 1) ((bts V L).map (Value.int .u8) ++ [.int .u8 (b : Int)])) :
    Rf (w1.setCell ⟨p, 0, none⟩ (.slice (some ⟨g, 0, none⟩) (L + 1) cap)) B p most (some ⟨g, 0, none⟩) cap (V + b * 2 ^ L) (L + 1) ∧
      Kept (foot p ao) w (w1.setCell ⟨p, 0, none⟩ (.slice (some ⟨g, 0, none⟩) (L + 1) cap)) ∧ (∀ j, foot p (some ⟨g, 0, none⟩) j → foot p ao j ∨ w.heap.size ≤ j) := by
  have hpn := h.row_ne
  have hg0 : foot p ao g ∨ w.heap.size ≤ g := by
    rcases hat with hat | hat
    · exact .inl (foot_row hat)
    · exact .inr (by rw [hat]; exact hk0.size)
  have hgp : g ≠ p := by
    intro e
    subst e
    rcases hat with hat | hat
    · exact hpn hat
    · have := h.lt; have := hk0.size; omega
  have hk1 : Kept (foot p ao) w w1 := (hk0.none _).grown hg (fun j hj => .inl (foot_row hj))
  have hr1 : Rf w0 B p most ao c V L := h.keep hk0 (fun _ _ g => g)
  have hn : Kept (fun j => Value.ownBlock (.slice ao L c) = some j) w0 w1 := Kept.of_grown hg
  have e0 := hn.cell hr1.c0 hpn
  have e1 := hn.cell hr1.c1 hpn
  have hk2 : Kept (fun j => j = p) w1 (w1.setCell ⟨p, 0, none⟩ (.slice (some ⟨g, 0, none⟩) (L + 1) cap)) := (Kept.refl (fun j => j = p) w1).setCell ⟨p, 0, none⟩ (.inl rfl) _
  refine ⟨⟨set_eq e0, (set_ne (by decide)).trans e1, fun i => set_fz ((hn.frozen (a := ⟨p, i, none⟩) hr1.lt hpn).trans (hr1.fz i)), ?_, ?_, h.base, more_lt h.val (s := 1) (by omega)⟩, hk1.trans hk2 (fun j hj => .inl (.inl hj)), ?_⟩
  · rw [bts_next h.val hb, List.map_append]
    exact hk2.own hown fun i hi => by
      have : g = i := by simpa [Value.ownBlock] using hi
      omega
  · intro a ha
    obtain rfl : (⟨g, 0, none⟩ : Addr) = a := by simpa using ha
    exact hgp
  · intro j hj
    rcases hj with hj | ⟨a, ha, hj⟩
    · exact .inl (.inl hj)
    · obtain rfl : (⟨g, 0, none⟩ : Addr) = a := by simpa using ha
      subst hj
      exact hg0

theorem Rf.drewN (h : Rf w B p most ao c V L) (n : Nat) : Rf (w.drewN n) B p most ao c V L := h.keep ((Kept.refl NoB w).drewN n) (fun _ _ g => g)

/-- What a call of the document's writer answers and leaves. -/
def Rid (w : World) (B p : Nat) (S : Nat → Prop) (most : Int) (r : Int × Nat × Nat) (e : Ending) (w' : World) : Prop :=
  e = .returned (.int .i64 r.1) ∧ ∃ S', Rt w' B p S' most r.2.1 r.2.2 ∧ Kept S w w' ∧ ∀ j, S' j → S j ∨ w.heap.size ≤ j
theorem Rid.same (h : Rt w B p S most V L) (r : Int) (n : Nat) : Rid w B p S most (r, V, L) (.returned (.int .i64 r)) (w.drewN n) :=
  ⟨rfl, S, h.keep ((Kept.refl NoB w).drewN n) (fun _ _ g => g), (Kept.refl S w).drewN n, fun _ g => .inl g⟩

theorem rbits_yes (h : Rt w B p S most V L) (N s : Nat) (hL : L ≤ 900000000) (hs : s ≤ 56) (hN : N < 2 ^ s) (hm : (((L + s + 7) / 8 : Nat) : Int) ≤ most) :
    Calls Try.prog 23 #[.pointer (some ⟨p, 0, none⟩), .int .u64 N, .int .i64 s] w (Rid w B p S most (0, V + N * 2 ^ L, L + s)) := by
  obtain ⟨i0, hi, hz0, hz1, hz2⟩ := info_parts info_u8
  obtain ⟨ao, c, h, hS⟩ := h
  have HM := Lib.hid (decide_eq_true hm)
  have HH := Lib.hid h
  have HS := Lib.hid hS
  have hz : (N : Int) / 2 ^ s = 0 := by rw [cast_pow2, ← Int.natCast_ediv, Nat.div_eq_of_lt hN]; rfl
  have hzb : ((N : Int) / 2 ^ s != 0) = false := by simp [hz]
  have HN := Lib.hid hN
  have hN56 : N ≤ 72057594037927936 := by
    have h1 := pow_small hs
    have e56 : (2 : Nat) ^ 56 = 72057594037927936 := by decide
    omega
  clear h hS hm hz hN
  go_enter Try.func23, Try.ntmps23
  go_wp2_with fail
  refine (room_is HH.out s (by omega) hs true HM.out).mono ?_; rintro e w1 ⟨rfl, n1, rfl⟩
  clear hzb
  go_wp2_with fail
  go_loopw [1, 7] (fun n i wr => ∃ (k : Nat) (ao' : Option Addr) (c' : Nat), k ≤ s ∧ i = .int .i64 k ∧ n = .int .u64 (N / 2 ^ k : Nat) ∧ Rf wr B p most ao' c' (V + N % 2 ^ k * 2 ^ L) (L + k) ∧ Kept (foot p ao) w wr ∧ (∀ j, foot p ao' j → foot p ao j ∨ w.heap.size ≤ j)) (fun _ i _ => s - (intOf i).toNat)
  case atStart => exact ⟨0, ao, c, Nat.zero_le _, rfl, by simp, by simpa [Nat.mod_one] using HH.out.drewN n1, (Kept.refl _ w).drewN n1, fun j hj => .inl hj⟩
  case round =>
    obtain ⟨k, ao', c', hk, rfl, rfl, hr, hkp, hft⟩ := hrel
    have HR := Lib.hid hr
    have HK := Lib.hid hkp
    have HF := Lib.hid hft
    by_cases hlt : k < s
    · have d0 := hr.c0
      have d0f := hr.fz 0
      have hown := hr.own
      have hbase := hr.base
      have hpl := hr.lt
      obtain ⟨Y, hY⟩ : ∃ Y, N / 2 ^ k = Y := ⟨_, rfl⟩
      obtain ⟨b, hb⟩ : ∃ b, Y % 2 = b := ⟨_, rfl⟩
      obtain ⟨M, hM⟩ : ∃ M, L + k = M := ⟨_, rfl⟩
      have hbm := bit_more V L N k
      rw [hY, hb, hM] at hbm
      have hb2 : b < 2 := by omega
      have hYb : (Y : Int) % 2 = (b : Int) := by omega
      have hwb : IntKind.u8.wrap (b : Int) = (b : Int) := by rw [IntKind.wrap_u8]; omega
      have hYn : (Y : Int) / 2 = ((N / 2 ^ (k + 1) : Nat) : Int) := by rw [← div_pow, hY]; rfl
      have HY := Lib.hid hYn
      have HBM := Lib.hid hbm
      have hML : M ≤ 1000000000 := by omega
      have hY56 : (Y : Int) ≤ 72057594037927936 := by have := Nat.div_le_self N (2 ^ k); omega
      rw [hM] at d0 hown
      rw [hY]
      have HM' := Lib.hid hM
      clear hr hkp hft hY hb hbm hYn hM
      have hlt' : decide (k < s) = true := decide_eq_true hlt
      go_wp2_with (at_builtin; refine wpList_append_lies _ rfl (.tmp 34) (.tmp 38) 34 rfl B 5 i0 (.int .u8 0) 1 1 Try.underlying34 hi hz0 hz1 hz2 rfl (by decide) (.slice ao' M c') M _ rfl (World.ownsRow.alloc hown _) ⟨wr.heap.size, 0, none⟩ 1 1 [.int .u8 (b : Int)] rfl rfl ?c1 ?c2 ?c3 ?c4 ?c5 ?c6 (wr.heap.size + 1) ?c7 ?_)
      case c1 =>
        intro j u hj
        match j, hj with
        | 0, hj => simp at hj; subst hj; simp [Addr.add]
      case c2 => intro u hu; simp at hu; subst hu; rfl
      case c3 => decide
      case c4 => unfold maxLen; omega
      case c5 => omega
      case c6 => simp; omega
      case c7 => simp
      intro g cap w1 hown1 hg1 hat1 hlt1
      have hpn := HR.out.row_ne
      rw [HM'.out] at hpn
      have hn := ((Kept.refl (fun i => Value.ownBlock (.slice ao' M c') = some i) wr).alloc (.cells #[.int .u8 (b : Int)] 5)).grown hg1 (fun i hi => .inl hi)
      have e0 := hn.cell d0 hpn
      have e0f := (hn.frozen (a := ⟨p, 0, none⟩) hpl hpn).trans d0f
      have HO := Lib.hid hown1
      have HG := Lib.hid hg1
      have HA := Lib.hid hat1
      clear hn hpn hown1 hg1 hat1 hown d0 d0f
      go_wp2_with fail
      have hr' : Rf wr B p most ao' c' (V + N % 2 ^ k * 2 ^ L) M := by rw [← HM'.out]; exact HR.out
      have R := hr'.pushed (w0 := wr.alloc _) ((Kept.refl NoB wr).alloc _) HG.out (HA.out.imp id (fun e => by rw [e]; simp)) hb2 HO.out
      rw [HBM.out, show M + 1 = L + (k + 1) by have := HM'.out; omega] at R
      have HR3 := Lib.hid R
      clear R hr'
      go_roundw
      case rel => exact ⟨k + 1, _, cap, by omega, by go_num, by rw [HY.out], by rw [show M + 1 = L + (k + 1) by have := HM'.out; omega]; exact HR3.out.1, HK.out.trans (by rw [show M + 1 = L + (k + 1) by have := HM'.out; omega]; exact HR3.out.2.1) HF.out, fun i hi => (HR3.out.2.2 i hi).elim (fun g => HF.out i g) (fun g => .inr (Nat.le_trans HK.out.size g))⟩
      case measure => simp [intOf]; omega
    · obtain rfl : k = s := by omega
      have hlt' : decide (k < k) = false := decide_eq_false (by omega)
      clear hr hkp hft hlt
      go_wp2_with fail
      go_ret
      exact ⟨rfl, foot p ao', ⟨ao', c', by have := HR.out; rwa [Nat.mod_eq_of_lt HN.out] at this, fun _ => Iff.rfl⟩, HK.out.mono (fun j hj => (HS.out j).2 hj), fun j hj => (HF.out j hj).imp (HS.out j).2 id⟩

theorem rbits_full (h : Rt w B p S most V L) (N s : Nat) (hL : L ≤ 900000000) (hs : s ≤ 56) (hN : N < 2 ^ s) (hm : ¬ (((L + s + 7) / 8 : Nat) : Int) ≤ most) :
    Calls Try.prog 23 #[.pointer (some ⟨p, 0, none⟩), .int .u64 N, .int .i64 s] w (Rid w B p S most (4, V, L)) := by
  have H0 := Lib.hid h
  obtain ⟨ao, c, h, hS⟩ := h
  have HM := Lib.hid (decide_eq_false hm)
  have HH := Lib.hid h
  have hz : (N : Int) / 2 ^ s = 0 := by rw [cast_pow2, ← Int.natCast_ediv, Nat.div_eq_of_lt hN]; rfl
  have hzb : ((N : Int) / 2 ^ s != 0) = false := by simp [hz]
  clear h hS hm hz hN
  go_enter Try.func23, Try.ntmps23
  go_wp2_with fail
  refine (room_is HH.out s (by omega) hs false HM.out).mono ?_; rintro e w1 ⟨rfl, n1, rfl⟩
  go_wp2_with fail
  go_ret
  exact Rid.same H0.out 4 n1

theorem rbits_arg (h : Rt w B p S most V L) (n x : Int) (h0 : 0 ≤ n) (hx : ¬ (0 ≤ x ∧ x ≤ 56 ∧ n.toNat < 2 ^ x.toNat)) :
    Calls Try.prog 23 #[.pointer (some ⟨p, 0, none⟩), .int .u64 n, .int .i64 x] w (Rid w B p S most (2, V, L)) := by
  have H0 := Lib.hid h
  clear h
  by_cases h1 : x < 0
  · clear hx
    go_enter Try.func23, Try.ntmps23
    go_wp2_with fail
    go_ret
    exact Rid.same H0.out 2 0
  · have h1' : 0 ≤ x := by omega
    by_cases h2 : 56 < x
    · clear hx h1
      go_enter Try.func23, Try.ntmps23
      go_wp2_with fail
      go_ret
      exact Rid.same H0.out 2 0
    · have h2' : x ≤ 56 := by omega
      obtain ⟨N, rfl⟩ := Int.eq_ofNat_of_zero_le h0
      obtain ⟨s, rfl⟩ := Int.eq_ofNat_of_zero_le h1'
      rw [Int.toNat_natCast, Int.toNat_natCast] at hx
      have hp := Nat.two_pow_pos s
      have hz : ¬ (N : Int) / 2 ^ s = 0 := by
        rw [cast_pow2, ← Int.natCast_ediv]
        intro g
        have g2 : N / 2 ^ s = 0 := by omega
        rcases (Nat.div_eq_zero_iff).1 g2 with g3 | g3 <;> omega
      have hzb : ((N : Int) / 2 ^ s != 0) = true := by simp [hz]
      clear hx h1 h2 hz hp
      go_enter Try.func23, Try.ntmps23
      go_wp2_with fail
      go_ret
      exact Rid.same H0.out 2 0

theorem rbits_any (h : Rt w B p S most V L) (n x : Int) (h0 : 0 ≤ n) (hL : L ≤ 900000000) :
    Calls Try.prog 23 #[.pointer (some ⟨p, 0, none⟩), .int .u64 n, .int .i64 x] w (Rid w B p S most (bitsR most V L n.toNat x)) := by
  by_cases hx : 0 ≤ x ∧ x ≤ 56 ∧ n.toNat < 2 ^ x.toNat
  · obtain ⟨N, rfl⟩ := Int.eq_ofNat_of_zero_le h0
    obtain ⟨s, rfl⟩ := Int.eq_ofNat_of_zero_le hx.1
    obtain ⟨_, h2, h3⟩ := hx
    rw [Int.toNat_natCast, Int.toNat_natCast] at h3
    rw [Int.toNat_natCast]
    by_cases hm : (((L + s + 7) / 8 : Nat) : Int) ≤ most
    · rw [bitsR_yes (by omega) h3 hm]
      exact rbits_yes h N s hL (by omega) h3 hm
    · rw [bitsR_full (by omega) h3 hm]
      exact rbits_full h N s hL (by omega) h3 hm
  · rw [bitsR_arg hx]
    exact rbits_arg h n x h0 hx
end Go.Proofs.Ytilogllncjlkfaa
