/- What the document's Bits, Align and Bytes of layer 3 answer. Conditions: as each theorem names them. -/
import Derived.Test.YtlikpljbbenmoaaRfR
namespace Go.Proofs.Ytlikpljbbenmoaa
open Go.RowKit M
set_option linter.unusedVariables false
variable {w w' : World} {B p a : Nat} {s : ByteArray} {S T : Nat → Prop}

theorem xbits_yes (h : Xd w B p s a) (hs : s.size ≤ 100000000) (n : Nat) (hn : n ≤ 56) (hle : a + n ≤ 8 * s.size) :
    Calls Try.prog 29 #[.pointer (some ⟨p, 0, none⟩), .int .i64 n] w (Xot w B p s (.tuple #[.int .u64 (nb s a n), .int .i64 0]) (a + n)) := by
  have HH := Lib.hid h
  have ha : a ≤ 800000000 := by have := h.le; omega
  have HM := Lib.hid (show min n (8 * s.size - a) = n by omega)
  have HE := Lib.hid hle
  have hd : decide (n < n) = false := decide_eq_false (by omega)
  clear h hle
  go_enter Try.func29, Try.ntmps29
  go_wp2_with fail
  refine (xpeek_small HH.out hs n hn).mono ?_; intro e w2 g
  rw [HM.out] at g
  obtain ⟨rfl, x2, k2⟩ := g
  have X2 := Lib.hid x2
  have K2 := Lib.hid k2
  have c1 := x2.c1
  have f1 := x2.fz 1
  clear x2 k2
  go_wp2_with fail
  go_ret2
  have P := X2.out.put (a + n) HE.out ((a : Int) + (n : Int)) (by omega)
  exact ⟨rfl, P.1, K2.out.trans P.2 (fun j hj => .inl hj)⟩
theorem xbits_end (h : Xd w B p s a) (hs : s.size ≤ 100000000) (n : Nat) (hn : n ≤ 56) (hle : 8 * s.size < a + n) :
    Calls Try.prog 29 #[.pointer (some ⟨p, 0, none⟩), .int .i64 n] w (Xot w B p s (.tuple #[.int .u64 0, .int .i64 6]) a) := by
  have HH := Lib.hid h
  obtain ⟨l, hl⟩ : ∃ l, 8 * s.size - a = l := ⟨_, rfl⟩
  have hln : l < n := by have := h.le; omega
  have HM := Lib.hid (show min n (8 * s.size - a) = l by omega)
  have hd : decide (l < n) = true := decide_eq_true hln
  clear h hle hl
  go_enter Try.func29, Try.ntmps29
  go_wp2_with fail
  refine (xpeek_small HH.out hs n hn).mono ?_; intro e w2 g
  rw [HM.out] at g
  obtain ⟨rfl, x2, k2⟩ := g
  have X2 := Lib.hid x2
  have K2 := Lib.hid k2
  clear x2 k2
  go_wp2_with fail
  go_ret2
  exact ⟨rfl, X2.out, K2.out⟩
theorem xbits_arg (h : Xd w B p s a) (x : Int) (hx : ¬ (0 ≤ x ∧ x ≤ 56)) :
    Calls Try.prog 29 #[.pointer (some ⟨p, 0, none⟩), .int .i64 x] w (Xot w B p s (.tuple #[.int .u64 0, .int .i64 2]) a) := by
  have HH := Lib.hid h
  by_cases h1 : 0 ≤ x
  · have h3 : decide (56 < x) = true := by simp; omega
    have h4 : decide (x < 0) = false := by simp; omega
    clear h hx h1
    go_enter Try.func29, Try.ntmps29
    go_wp2_with fail
    go_ret2
    exact Xot.same HH.out (Kept.refl NoB w) _
  · have h3 : x < 0 := by omega
    clear h hx h1
    go_enter Try.func29, Try.ntmps29
    go_wp2_with fail
    go_ret2
    exact Xot.same HH.out (Kept.refl NoB w) _
theorem xbits_any (h : Xd w B p s a) (hs : s.size ≤ 100000000) (x : Int) :
    Calls Try.prog 29 #[.pointer (some ⟨p, 0, none⟩), .int .i64 x] w (Xot w B p s (.tuple #[.int .u64 (gbits s a x).1, .int .i64 (gbits s a x).2.1]) (gbits s a x).2.2) := by
  by_cases h1 : 0 ≤ x ∧ x ≤ 56
  · by_cases h2 : x ≤ ((8 * s.size : Nat) : Int) - a
    · obtain ⟨n, rfl⟩ := Int.eq_ofNat_of_zero_le h1.1
      have := h.le
      rw [gbits_yes (by omega) (by omega)]
      exact xbits_yes h hs n (by omega) (by omega)
    · rw [gbits_end h1 h2]
      obtain ⟨n, rfl⟩ := Int.eq_ofNat_of_zero_le h1.1
      exact xbits_end h hs n (by omega) (by omega)
  · rw [gbits_arg h1]
    exact xbits_arg h x h1

theorem xalign_any (h : Xd w B p s a) (hs : s.size ≤ 100000000) :
    Calls Try.prog 27 #[.pointer (some ⟨p, 0, none⟩)] w (Xot w B p s (.tuple #[]) (galign a)) := by
  have HH := Lib.hid h
  obtain ⟨t, ht⟩ : ∃ t, galign a = t := ⟨_, rfl⟩
  have ht2 : t = 8 * ((a + 7) / 8) := by rw [← ht]; rfl
  have hts : t ≤ 8 * s.size := by have := h.le; omega
  rw [ht]
  have HT := Lib.hid ht2
  clear h ht ht2
  go_enter Try.func27, Try.ntmps27
  go_wp2_with fail
  go_loopg [] (t - a) (fun g wr => ∃ b, a ≤ b ∧ b ≤ t ∧ g = t - b ∧ Xd wr B p s b ∧ Kept (fun j => j = p) w wr)
  case atStart => exact ⟨a, Nat.le_refl _, by have := HT.out; omega, rfl, HH.out, Kept.refl _ _⟩
  case round =>
    obtain ⟨b, hab, hbt, rfl, hx, hk⟩ := hrel
    have HX := Lib.hid hx
    have HK := Lib.hid hk
    have c1 := hx.c1
    have f1 := hx.fz 1
    clear hx hk
    by_cases h8 : b % 8 = 0
    · have hb8 : ((b : Int) % 8 != 0) = false := by simp; omega
      have HBT := Lib.hid (show b = t by have := HT.out; omega)
      go_wp2_with fail
      go_end0
      exact ⟨rfl, by rw [← HBT.out]; exact HX.out, HK.out⟩
    · have hb8 : ((b : Int) % 8 != 0) = true := by simp; omega
      have hb9 : b ≤ 800000000 := by omega
      have HBT := Lib.hid (show b + 1 ≤ t by have := HT.out; omega)
      go_wp2_with fail
      go_roundg (t - (b + 1))
      case measure => have := HBT.out; omega
      case rel =>
        have P := HX.out.put (b + 1) (by have := HBT.out; omega) ((b : Int) + 1) (by omega)
        exact ⟨b + 1, by omega, HBT.out, rfl, P.1, HK.out.trans P.2 (fun j hj => .inl hj)⟩

theorem xbytes_yes (h : Xd w B p s a) (hs : s.size ≤ 100000000) (n : Nat) (hle : (a + 7) / 8 + n ≤ s.size) :
    Calls Try.prog 28 #[.pointer (some ⟨p, 0, none⟩), .int .i64 n] w (Xot w B p s (.tuple #[.string (s.extract ((a + 7) / 8) ((a + 7) / 8 + n)), .int .i64 0]) (8 * ((a + 7) / 8 + n))) := by
  have HH := Lib.hid h
  have c0 := h.c0
  have c1 := h.c1
  have f1 := h.fz 1
  have ha : a ≤ 800000000 := by have := h.le; omega
  obtain ⟨q, hq⟩ : ∃ q, (a + 7) / 8 = q := ⟨_, rfl⟩
  have HQ := Lib.hid hq
  have hq' : ((a : Int) + 7) / 8 = (q : Int) := by omega
  rw [hq] at hle ⊢
  have hq2 : q ≤ s.size := by omega
  have hn2 : n ≤ s.size := by omega
  have hd : (n : Int) ≤ (s.size : Int) - (q : Int) := by omega
  clear h hq
  go_enter Try.func28, Try.ntmps28
  go_wp2_with fail
  go_ret2
  have P := HH.out.put (8 * (q + n)) (by omega) (8 * ((q : Int) + (n : Int))) (by omega)
  exact ⟨rfl, P.1, P.2⟩
theorem xbytes_end (h : Xd w B p s a) (hs : s.size ≤ 100000000) (x : Int) (h1 : 0 ≤ x) (hle : (s.size : Int) - ((a + 7) / 8 : Nat) < x) :
    Calls Try.prog 28 #[.pointer (some ⟨p, 0, none⟩), .int .i64 x] w (Xot w B p s (.tuple #[.string ⟨#[]⟩, .int .i64 6]) a) := by
  have HH := Lib.hid h
  have c0 := h.c0
  have c1 := h.c1
  have ha : a ≤ 800000000 := by have := h.le; omega
  obtain ⟨q, hq⟩ : ∃ q, (a + 7) / 8 = q := ⟨_, rfl⟩
  have hq' : ((a : Int) + 7) / 8 = (q : Int) := by omega
  have hq2 : q ≤ s.size := by have := h.le; omega
  rw [hq] at hle
  clear h hq
  go_enter Try.func28, Try.ntmps28
  go_wp2_with fail
  go_ret2
  exact Xot.same HH.out (Kept.refl NoB w) _
theorem xbytes_arg (h : Xd w B p s a) (x : Int) (h1 : x < 0) :
    Calls Try.prog 28 #[.pointer (some ⟨p, 0, none⟩), .int .i64 x] w (Xot w B p s (.tuple #[.string ⟨#[]⟩, .int .i64 2]) a) := by
  have HH := Lib.hid h
  clear h
  go_enter Try.func28, Try.ntmps28
  go_wp2_with fail
  go_ret2
  exact Xot.same HH.out (Kept.refl NoB w) _
theorem xbytes_any (h : Xd w B p s a) (hs : s.size ≤ 100000000) (x : Int) :
    Calls Try.prog 28 #[.pointer (some ⟨p, 0, none⟩), .int .i64 x] w (Xot w B p s (.tuple #[.string (gbytes s a x).1, .int .i64 (gbytes s a x).2.1]) (gbytes s a x).2.2) := by
  by_cases h1 : 0 ≤ x
  · by_cases h2 : x ≤ (s.size : Int) - ((a + 7) / 8 : Nat)
    · obtain ⟨n, rfl⟩ := Int.eq_ofNat_of_zero_le h1
      rw [gbytes_yes (by omega)]
      exact xbytes_yes h hs n (by omega)
    · rw [gbytes_end h1 h2]
      exact xbytes_end h hs x h1 (by omega)
  · rw [gbytes_arg h1]
    exact xbytes_arg h x (by omega)
end Go.Proofs.Ytlikpljbbenmoaa
