/- The document's reader of layer 3 as it lies in memory, and what its calls answer. Conditions: as each theorem names them. -/
import Derived.Test.YtlikpljbbenmoaaCal
import Derived.Deep.LoopGhost
namespace Go.Proofs.Ytlikpljbbenmoaa
open Go.RowKit M
set_option linter.unusedVariables false

theorem xtx_byte (s : ByteArray) (i : Nat) (h : i < s.size) : tx s / 256 ^ i % 256 = s[i].toNat := by
  unfold tx
  rw [← vl_drop]
  have hl : i < s.data.toList.length := by rw [size_list]; exact h
  rw [List.drop_eq_getElem_cons hl]
  simp only [vl]
  have hb := (s.data.toList[i]).toNat_lt
  have e : s.data.toList[i] = s[i] := byte_at s i h
  rw [← e]
  omega
theorem xbit_val (s : ByteArray) (m q r : Nat) (hq : m / 8 = q) (hr : m % 8 = r) (h : q < s.size) : (IntKind.u64.wrap (s[q].toNat : Int) / 2 ^ r).tmod 2 = ((tx s / 2 ^ m % 2 : Nat) : Int) := by
  have hb := s[q].toNat_lt
  rw [wrap_nat_lt _ (by omega), cast_pow2, ← Int.natCast_ediv, Int.tmod_eq_emod_of_nonneg (Int.natCast_nonneg _), ← xtx_byte s q h, show m = 8 * q + r by omega, Nat.pow_add, ← Nat.div_div_eq_div_mul, ← p256', show (256 : Nat) = 2 ^ r * (2 * 2 ^ (7 - r)) by rw [← Nat.pow_succ', ← Nat.pow_add, show r + (7 - r).succ = 8 by omega], Nat.mod_mul_right_div_self]
  have e : ((tx s / (2 ^ r * (2 * 2 ^ (7 - r))) ^ q / 2 ^ r % (2 * 2 ^ (7 - r)) : Nat) : Int) % 2 = ((tx s / (2 ^ r * (2 * 2 ^ (7 - r))) ^ q / 2 ^ r % (2 * 2 ^ (7 - r)) % 2 : Nat) : Int) := by omega
  rw [e, Nat.mod_mul_right_mod]
theorem nb_front (s : ByteArray) (a n : Nat) : nb s a (n + 1) = 2 * nb s (a + 1) n + tx s / 2 ^ a % 2 := by
  unfold nb
  rw [Nat.pow_succ', Nat.mod_mul, Nat.div_div_eq_div_mul, show 2 ^ a * 2 = 2 ^ (a + 1) from rfl]
  omega
theorem nb_zero (s : ByteArray) (a : Nat) : nb s a 0 = 0 := by unfold nb; simp [Nat.mod_one]

/-- The document's reader at block p. -/
structure Xd (w : World) (B p : Nat) (s : ByteArray) (a : Nat) : Prop where
  c0 : w.cell? ⟨p, 0, none⟩ = some (.string s)
  c1 : w.cell? ⟨p, 1, none⟩ = some (.int .i64 a)
  fz : ∀ i, w.frozen? ⟨p, i, none⟩ = false
  base : B ≤ p
  le : a ≤ 8 * s.size

variable {w w' : World} {B p a : Nat} {s : ByteArray} {S T : Nat → Prop}

theorem Xd.lt (h : Xd w B p s a) : p < w.heap.size := World.block_lt_of_cell? w _ h.c0
theorem Xd.keep (h : Xd w B p s a) (hk : Kept T w w') (hT : ¬ T p) : Xd w' B p s a :=
  ⟨hk.cell h.c0 hT, hk.cell h.c1 hT, fun i => (hk.frozen (a := ⟨p, i, none⟩) h.lt hT).trans (h.fz i), h.base, h.le⟩
theorem Xd.same (h : Xd w B p s a) (hk : Kept NoB w w') : Xd w' B p s a := h.keep hk (fun g => g)
theorem Xd.drewN (h : Xd w B p s a) (n : Nat) : Xd (w.drewN n) B p s a := h.same ((Kept.refl NoB w).drewN n)
theorem Xd.put (h : Xd w B p s a) (b : Nat) (hb : b ≤ 8 * s.size) (z : Int) (hz : z = (b : Int)) : Xd (w.setCell ⟨p, 1, none⟩ (.int .i64 z)) B p s b ∧ Kept (fun j => j = p) w (w.setCell ⟨p, 1, none⟩ (.int .i64 z)) := by
  subst hz
  refine ⟨⟨(rset_ne (by decide)).trans h.c0, rset_eq h.c1, fun i => ?_, h.base, hb⟩, (Kept.refl (fun j => j = p) w).setCell ⟨p, 1, none⟩ (.inl rfl) _⟩
  rw [World.frozen?_setCell]; exact h.fz i

/-- What a call answers and leaves. -/
def Xot (w : World) (B p : Nat) (s : ByteArray) (v : Value) (r : Nat) (e : Ending) (w' : World) : Prop :=
  e = .returned v ∧ Xd w' B p s r ∧ Kept (fun j => j = p) w w'
theorem Xot.same (h : Xd w B p s a) (hk : Kept NoB w w') (v : Value) : Xot w B p s v a (.returned v) w' := ⟨rfl, h.same hk, hk.none _⟩
theorem Xot.put (h : Xd w B p s a) (hk : Kept NoB w w') (b : Nat) (hb : b ≤ 8 * s.size) (z : Int) (hz : z = (b : Int)) (v : Value) : Xot w B p s v b (.returned v) (w'.setCell ⟨p, 1, none⟩ (.int .i64 z)) := by
  have h2 := (h.same hk).put b hb z hz
  exact ⟨rfl, h2.1, (hk.none _).trans h2.2 (fun j hj => .inl hj)⟩

theorem xleft_any (h : Xd w B p s a) (hs : s.size ≤ 100000000) :
    Calls Try.prog 13 #[.pointer (some ⟨p, 0, none⟩)] w fun e w' => e = .returned (.int .i64 (8 * s.size - a : Nat)) ∧ ∃ n, w' = w.drewN n := by
  have h0 := h.c0
  have h1 := h.c1
  have hle := h.le
  have HL := Lib.hid (show 8 * (s.size : Int) - (a : Int) = ((8 * s.size - a : Nat) : Int) by omega)
  have ha : a ≤ 800000000 := by omega
  clear h hle
  go_enter Try.func13, Try.ntmps13
  go_wp2_with fail
  go_quiet (fail)
  go_wp2
  go_ret
  exact ⟨congrArg (fun z => Ending.returned (.int .i64 z)) HL.out, _, rfl⟩

/-- One bit. -/
theorem xbit_any (h : Xd w B p s a) (hs : s.size ≤ 100000000) (i : Nat) (hi : a + i < 8 * s.size) :
    Calls Try.prog 42 #[.pointer (some ⟨p, 0, none⟩), .int .i64 i] w fun e w' => e = .returned (.int .u64 (tx s / 2 ^ (a + i) % 2 : Nat)) ∧ ∃ n, w' = w.drewN n := by
  have h0 := h.c0
  have h1 := h.c1
  obtain ⟨q, hq⟩ : ∃ q, (a + i) / 8 = q := ⟨_, rfl⟩
  obtain ⟨r, hr⟩ : ∃ r, (a + i) % 8 = r := ⟨_, rfl⟩
  have hqs : q < s.size := by omega
  have w1 : IntKind.i64.wrap ((a : Int) + (i : Int)) = (a : Int) + (i : Int) := by rw [IntWalk.i64_in _ ⟨by omega, by omega⟩]
  have w2 : ((a : Int) + (i : Int)).tdiv 8 = (q : Int) := by rw [Int.tdiv_eq_ediv_of_nonneg (by omega)]; omega
  have w3 : ((a : Int) + (i : Int)).tmod 8 = (r : Int) := by rw [Int.tmod_eq_emod_of_nonneg (by omega)]; omega
  have w4 : 0 ≤ (a : Int) + (i : Int) := by omega
  have HV := Lib.hid (xbit_val s (a + i) q r hq hr hqs)
  have hr8 : r ≤ 7 := by omega
  clear h hi hq hr
  go_enter Try.func42, Try.ntmps42
  go_wp2_with fail
  go_quiet (fail)
  go_wp2
  go_ret
  exact ⟨congrArg (fun z => Ending.returned (.int .u64 z)) HV.out, _, rfl⟩

theorem xpeek_small (h : Xd w B p s a) (hs : s.size ≤ 100000000) (n : Nat) (hn : n ≤ 56) :
    Calls Try.prog 25 #[.pointer (some ⟨p, 0, none⟩), .int .i64 n] w (Xot w B p s (.tuple #[.int .u64 (nb s a (min n (8 * s.size - a))), .int .i64 (min n (8 * s.size - a) : Nat)]) a) := by
  obtain ⟨l, hl⟩ : ∃ l, 8 * s.size - a = l := ⟨_, rfl⟩
  have HL := Lib.hid hl
  rw [hl]
  obtain ⟨m, hm⟩ : ∃ m, min n l = m := ⟨_, rfl⟩
  have hm2 : m ≤ 56 := by omega
  have HM := Lib.hid hm
  rw [hm]
  have HH := Lib.hid h
  have HB := Lib.hid (show a + m ≤ 8 * s.size by have := h.le; omega)
  by_cases hc : n ≤ l
  · obtain rfl : m = n := by omega
    have hd : decide (l < m) = false := decide_eq_false (by omega)
    clear h hl hm
    go_enter Try.func25, Try.ntmps25
    go_wp2_with fail
    refine (xleft_any HH.out hs).mono ?_; rintro e w' ⟨rfl, n1, rfl⟩
    rw [HL.out]
    go_wp2_with fail
    have K1 := Lib.hid ((Kept.refl NoB w).drewN n1)
    go_loopw [7, 8] (fun u i wr => ∃ k : Nat, k ≤ m ∧ i = .int .i64 ((k : Int) - 1) ∧ u = .int .u64 (nb s (a + k) (m - k) : Nat) ∧ Kept NoB w wr) (fun _ i _ => (intOf i + 1).toNat)
    case atStart => exact ⟨m, Nat.le_refl _, rfl, by rw [Nat.sub_self, nb_zero]; rfl, K1.out⟩
    case round =>
      obtain ⟨k, hk, rfl, rfl, hkp⟩ := hrel
      have HK := Lib.hid hkp
      clear hkp
      by_cases hk0 : 1 ≤ k
      · have hd1 : decide (0 ≤ (k : Int) - 1) = true := by simp; omega
        obtain ⟨i, hi⟩ : ∃ i, k - 1 = i := ⟨_, rfl⟩
        have hi1 : (k : Int) - 1 = (i : Int) := by omega
        have XR := Lib.hid (HH.out.same HK.out)
        have hfr := nb_front s (a + i) (m - k)
        rw [show a + i + 1 = a + k by omega, show m - k + 1 = m - i by omega] at hfr
        have hbig := nb_lt s (a + i) (m - i)
        have hbig2 : 2 ^ (m - i) ≤ 2 ^ 56 := Nat.pow_le_pow_right (by decide) (by omega)
        have e56 : (2 : Nat) ^ 56 = 72057594037927936 := by decide
        obtain ⟨X, hX⟩ : ∃ X, nb s (a + k) (m - k) = X := ⟨_, rfl⟩
        obtain ⟨Y, hY⟩ : ∃ Y, tx s / 2 ^ (a + i) % 2 = Y := ⟨_, rfl⟩
        obtain ⟨Z, hZ⟩ : ∃ Z, nb s (a + i) (m - i) = Z := ⟨_, rfl⟩
        have HZ := Lib.hid hZ
        have HY := Lib.hid hY
        rw [hX]
        rw [hX, hY, hZ] at hfr
        rw [hZ] at hbig
        have hsum : 2 * (X : Int) + (Y : Int) = (Z : Int) := by omega
        have hZ2 : (Z : Int) ≤ 72057594037927936 := by omega
        have hai : a + i < 8 * s.size := by have := HB.out; omega
        clear hX hY hZ hfr hbig hbig2 e56 hi
        go_wp2_with fail
        refine (xbit_any XR.out hs i hai).mono ?_; rintro e w' ⟨rfl, n3, rfl⟩
        rw [HY.out]
        go_wp2_with fail
        go_roundw
        case rel => exact ⟨i, by omega, by first | rfl | (congr 1; omega), by rw [HZ.out], HK.out.drewN _⟩
        case measure => simp [intOf]; omega
      · obtain rfl : k = 0 := by omega
        go_wp2_with fail
        go_ret2
        exact Xot.same HH.out HK.out _
  · obtain rfl : m = l := by omega
    have hd : decide ((m : Int) < (n : Int)) = true := by simp; omega
    clear h hl hm
    go_enter Try.func25, Try.ntmps25
    go_wp2_with fail
    refine (xleft_any HH.out hs).mono ?_; rintro e w' ⟨rfl, n1, rfl⟩
    rw [HL.out]
    go_wp2_with fail
    refine (xleft_any (HH.out.drewN n1) hs).mono ?_; rintro e w' ⟨rfl, n2, rfl⟩
    rw [HL.out]
    go_wp2_with fail
    have K1 := Lib.hid ((Kept.refl NoB w).drewN (n1 + n2))
    go_loopw [7, 8] (fun u i wr => ∃ k : Nat, k ≤ m ∧ i = .int .i64 ((k : Int) - 1) ∧ u = .int .u64 (nb s (a + k) (m - k) : Nat) ∧ Kept NoB w wr) (fun _ i _ => (intOf i + 1).toNat)
    case atStart => exact ⟨m, Nat.le_refl _, rfl, by rw [Nat.sub_self, nb_zero]; rfl, K1.out⟩
    case round =>
      obtain ⟨k, hk, rfl, rfl, hkp⟩ := hrel
      have HK := Lib.hid hkp
      clear hkp
      by_cases hk0 : 1 ≤ k
      · have hd1 : decide (0 ≤ (k : Int) - 1) = true := by simp; omega
        obtain ⟨i, hi⟩ : ∃ i, k - 1 = i := ⟨_, rfl⟩
        have hi1 : (k : Int) - 1 = (i : Int) := by omega
        have XR := Lib.hid (HH.out.same HK.out)
        have hfr := nb_front s (a + i) (m - k)
        rw [show a + i + 1 = a + k by omega, show m - k + 1 = m - i by omega] at hfr
        have hbig := nb_lt s (a + i) (m - i)
        have hbig2 : 2 ^ (m - i) ≤ 2 ^ 56 := Nat.pow_le_pow_right (by decide) (by omega)
        have e56 : (2 : Nat) ^ 56 = 72057594037927936 := by decide
        obtain ⟨X, hX⟩ : ∃ X, nb s (a + k) (m - k) = X := ⟨_, rfl⟩
        obtain ⟨Y, hY⟩ : ∃ Y, tx s / 2 ^ (a + i) % 2 = Y := ⟨_, rfl⟩
        obtain ⟨Z, hZ⟩ : ∃ Z, nb s (a + i) (m - i) = Z := ⟨_, rfl⟩
        have HZ := Lib.hid hZ
        have HY := Lib.hid hY
        rw [hX]
        rw [hX, hY, hZ] at hfr
        rw [hZ] at hbig
        have hsum : 2 * (X : Int) + (Y : Int) = (Z : Int) := by omega
        have hZ2 : (Z : Int) ≤ 72057594037927936 := by omega
        have hai : a + i < 8 * s.size := by have := HB.out; omega
        clear hX hY hZ hfr hbig hbig2 e56 hi
        go_wp2_with fail
        refine (xbit_any XR.out hs i hai).mono ?_; rintro e w' ⟨rfl, n3, rfl⟩
        rw [HY.out]
        go_wp2_with fail
        go_roundw
        case rel => exact ⟨i, by omega, by first | rfl | (congr 1; omega), by rw [HZ.out], HK.out.drewN _⟩
        case measure => simp [intOf]; omega
      · obtain rfl : k = 0 := by omega
        go_wp2_with fail
        go_ret2
        exact Xot.same HH.out HK.out _
theorem xpeek_no (h : Xd w B p s a) (x : Int) (hx : ¬ (0 ≤ x ∧ x ≤ 56)) :
    Calls Try.prog 25 #[.pointer (some ⟨p, 0, none⟩), .int .i64 x] w (Xot w B p s (.tuple #[.int .u64 0, .int .i64 0]) a) := by
  have HH := Lib.hid h
  by_cases h1 : 0 ≤ x
  · have h3 : decide (56 < x) = true := by simp; omega
    have h4 : decide (x < 0) = false := by simp; omega
    clear h hx h1
    go_enter Try.func25, Try.ntmps25
    go_wp2_with fail
    go_ret2
    exact Xot.same HH.out (Kept.refl NoB w) _
  · have h3 : x < 0 := by omega
    clear h hx h1
    go_enter Try.func25, Try.ntmps25
    go_wp2_with fail
    go_ret2
    exact Xot.same HH.out (Kept.refl NoB w) _
theorem xpeek_any (h : Xd w B p s a) (hs : s.size ≤ 100000000) (x : Int) :
    Calls Try.prog 25 #[.pointer (some ⟨p, 0, none⟩), .int .i64 x] w (Xot w B p s (.tuple #[.int .u64 (gpeek s a x).1, .int .i64 (gpeek s a x).2]) a) := by
  by_cases h1 : 0 ≤ x ∧ x ≤ 56
  · obtain ⟨n, rfl⟩ := Int.eq_ofNat_of_zero_le h1.1
    rw [gpeek_yes (by omega)]
    exact xpeek_small h hs n (by omega)
  · rw [gpeek_no h1]
    exact xpeek_no h x h1

theorem xskip_yes (h : Xd w B p s a) (hs : s.size ≤ 100000000) (n : Nat) (hle : a + n ≤ 8 * s.size) :
    Calls Try.prog 26 #[.pointer (some ⟨p, 0, none⟩), .int .i64 n] w (Xot w B p s (.int .i64 0) (a + n)) := by
  have HH := Lib.hid h
  have ha : a ≤ 800000000 := by have := h.le; omega
  have hn : n ≤ 800000000 := by omega
  obtain ⟨l, hl⟩ : ∃ l, 8 * s.size - a = l := ⟨_, rfl⟩
  have hnl : n ≤ l := by omega
  have HL := Lib.hid hl
  have HE := Lib.hid hle
  clear h hl hle
  go_enter Try.func26, Try.ntmps26
  go_wp2_with fail
  refine (xleft_any HH.out hs).mono ?_; rintro e w' ⟨rfl, n1, rfl⟩
  rw [HL.out]
  have hd : decide ((l : Int) < (n : Int)) = false := by simp; omega
  have c1 := HH.out.c1
  have f1 := HH.out.fz 1
  go_wp2_with fail
  go_ret
  exact Xot.put HH.out ((Kept.refl NoB w).drewN n1) (a + n) HE.out _ (by omega) _
theorem xskip_end (h : Xd w B p s a) (hs : s.size ≤ 100000000) (x : Int) (h1 : 0 ≤ x) (hle : ((8 * s.size : Nat) : Int) - a < x) :
    Calls Try.prog 26 #[.pointer (some ⟨p, 0, none⟩), .int .i64 x] w (Xot w B p s (.int .i64 6) a) := by
  have HH := Lib.hid h
  obtain ⟨l, hl⟩ : ∃ l, 8 * s.size - a = l := ⟨_, rfl⟩
  have hnl : (l : Int) < x := by have := h.le; omega
  have HL := Lib.hid hl
  clear h hl hle
  go_enter Try.func26, Try.ntmps26
  go_wp2_with fail
  refine (xleft_any HH.out hs).mono ?_; rintro e w' ⟨rfl, n1, rfl⟩
  rw [HL.out]
  go_wp2_with fail
  go_ret
  exact Xot.same HH.out ((Kept.refl NoB w).drewN n1) _
theorem xskip_arg (h : Xd w B p s a) (x : Int) (h1 : x < 0) :
    Calls Try.prog 26 #[.pointer (some ⟨p, 0, none⟩), .int .i64 x] w (Xot w B p s (.int .i64 2) a) := by
  have HH := Lib.hid h
  clear h
  go_enter Try.func26, Try.ntmps26
  go_wp2_with fail
  go_ret
  exact Xot.same HH.out (Kept.refl NoB w) _
theorem xskip_any (h : Xd w B p s a) (hs : s.size ≤ 100000000) (x : Int) :
    Calls Try.prog 26 #[.pointer (some ⟨p, 0, none⟩), .int .i64 x] w (Xot w B p s (.int .i64 (gskip s a x).1) (gskip s a x).2) := by
  by_cases h1 : 0 ≤ x
  · by_cases h2 : x ≤ ((8 * s.size : Nat) : Int) - a
    · obtain ⟨n, rfl⟩ := Int.eq_ofNat_of_zero_le h1
      have := h.le
      rw [gskip_yes (by omega)]
      exact xskip_yes h hs n (by omega)
    · rw [gskip_end h1 h2]
      exact xskip_end h hs x h1 (by omega)
  · rw [gskip_arg h1]
    exact xskip_arg h x (by omega)
end Go.Proofs.Ytlikpljbbenmoaa
