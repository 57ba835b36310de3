/- What Peek, Skip, Align and Bytes of package bitr answer, and strings.Clone. Conditions: as each theorem names them. -/
import Derived.Test.YtnkkccieidlacaaRdC
import Derived.Laws.MakeOwn
import Derived.Lib.UnsafeStr
import Derived.Lib.Strings
import Derived.Lib.Walk
namespace Go.Proofs.Ytnkkccieidlacaa
open Go.RowKit M
set_option linter.unusedVariables false
variable {w w' : World} {B p a : Nat} {s : ByteArray} {S T : Nat → Prop}

theorem rpeek_yes (h : Rd w B p s a) (hs : s.size ≤ 100000000) (n : Nat) (hn : n ≤ 56) :
    Calls Try.prog 46 #[.pointer (some ⟨p, 0, none⟩), .int .i64 n] w (Got w B p s (.tuple #[.int .u64 (nb s a (min n (8 * s.size - a))), .int .i64 (min n (8 * s.size - a) : Nat)]) a) := by
  have h0 := h.c0
  have HH := Lib.hid h
  obtain ⟨l, hl⟩ : ∃ l, 8 * s.size - a = l := ⟨_, rfl⟩
  have HL := Lib.hid hl
  rw [hl]
  obtain ⟨m, hm⟩ : ∃ m, min n l = m := ⟨_, rfl⟩
  have hm2 : m ≤ 56 := by omega
  have HM := Lib.hid hm
  rw [hm]
  have hmi : min (n : Int) (l : Int) = (m : Int) := by omega
  clear h hl hm
  go_enter Try.func46, Try.ntmps46
  go_wp2_with (go_at_call 47; refine (rmade_yes p _ h0).mono ?_; rintro e w' ⟨rfl, rfl⟩)
  refine (rmay_yes n _ (by omega) (by omega)).mono ?_; rintro e w' ⟨rfl, rfl⟩
  go_wp2_with fail
  refine (left_any HH.out hs).mono ?_; rintro e w' ⟨rfl, n1, rfl⟩
  rw [HL.out]
  go_wp2_with fail
  refine (look_any (HH.out.drewN n1) hs m hm2).mono ?_; rintro e w2 ⟨rfl, k2⟩
  have K2 := Lib.hid (((Kept.refl NoB w).drewN n1).trans k2 (fun _ g => g.elim))
  clear k2 h0
  go_wp2_with fail
  go_ret2
  exact Got.same HH.out K2.out _
theorem rpeek_no (h : Rd w B p s a) (x : Int) (hx : ¬ (0 ≤ x ∧ x ≤ 56)) :
    Calls Try.prog 46 #[.pointer (some ⟨p, 0, none⟩), .int .i64 x] w (Got w B p s (.tuple #[.int .u64 0, .int .i64 0]) a) := by
  have h0 := h.c0
  have HH := Lib.hid h
  have HX := Lib.hid hx
  clear h hx
  go_enter Try.func46, Try.ntmps46
  go_wp2_with (go_at_call 47; refine (rmade_yes p _ h0).mono ?_; rintro e w' ⟨rfl, rfl⟩)
  refine (rmay_no x _ HX.out).mono ?_; rintro e w' ⟨rfl, rfl⟩
  go_wp2_with fail
  go_ret2
  exact Got.same HH.out (Kept.refl NoB w) _
theorem rpeek_any (h : Rd w B p s a) (hs : s.size ≤ 100000000) (x : Int) :
    Calls Try.prog 46 #[.pointer (some ⟨p, 0, none⟩), .int .i64 x] w (Got w B p s (.tuple #[.int .u64 (gpeek s a x).1, .int .i64 (gpeek s a x).2]) a) := by
  by_cases h1 : 0 ≤ x ∧ x ≤ 56
  · obtain ⟨n, rfl⟩ := Int.eq_ofNat_of_zero_le h1.1
    rw [gpeek_yes (by omega)]
    exact rpeek_yes h hs n (by omega)
  · rw [gpeek_no h1]
    exact rpeek_no h x h1
theorem rpeek_nil (x : Int) (w : World) :
    Calls Try.prog 46 #[.pointer none, .int .i64 x] w fun e w' => e = .returned (.tuple #[.int .u64 0, .int .i64 0]) ∧ w = w' := by
  go_enter Try.func46, Try.ntmps46
  go_wp2_with (go_at_call 47; refine (rmade_nil _).mono ?_; rintro e w' ⟨rfl, rfl⟩)
  go_ret2
  exact ⟨rfl, rfl⟩

theorem rskip_yes (h : Rd w B p s a) (hs : s.size ≤ 100000000) (n : Nat) (hle : a + n ≤ 8 * s.size) :
    Calls Try.prog 45 #[.pointer (some ⟨p, 0, none⟩), .int .i64 n] w (Got w B p s (.int .i64 0) (a + n)) := by
  have h0 := h.c0
  have HH := Lib.hid h
  have ha : a ≤ 800000000 := by have := h.le; omega
  have hn : n ≤ 800000000 := by omega
  obtain ⟨l, hl⟩ : ∃ l, 8 * s.size - a = l := ⟨_, rfl⟩
  have hnl : n ≤ l := by omega
  have HL := Lib.hid hl
  have HE := Lib.hid hle
  clear h hl hle
  go_enter Try.func45, Try.ntmps45
  go_wp2_with (go_at_call 47; refine (rmade_yes p _ h0).mono ?_; rintro e w' ⟨rfl, rfl⟩)
  refine (left_any HH.out hs).mono ?_; rintro e w' ⟨rfl, n1, rfl⟩
  rw [HL.out]
  have hd : decide ((l : Int) < (n : Int)) = false := by simp; omega
  have R2 := Lib.hid (HH.out.drewN n1)
  have c2 := HH.out.c2
  have f2 := HH.out.fz 2
  clear h0
  go_wp2_with fail
  go_ret
  exact Got.put HH.out ((Kept.refl NoB w).drewN n1) (a + n) HE.out _ (by omega) _
theorem rskip_end (h : Rd w B p s a) (hs : s.size ≤ 100000000) (x : Int) (h1 : 0 ≤ x) (hle : ((8 * s.size : Nat) : Int) - a < x) :
    Calls Try.prog 45 #[.pointer (some ⟨p, 0, none⟩), .int .i64 x] w (Got w B p s (.int .i64 6) a) := by
  have h0 := h.c0
  have HH := Lib.hid h
  obtain ⟨l, hl⟩ : ∃ l, 8 * s.size - a = l := ⟨_, rfl⟩
  have hnl : (l : Int) < x := by have := h.le; omega
  have HL := Lib.hid hl
  clear h hl hle
  go_enter Try.func45, Try.ntmps45
  go_wp2_with (go_at_call 47; refine (rmade_yes p _ h0).mono ?_; rintro e w' ⟨rfl, rfl⟩)
  refine (left_any HH.out hs).mono ?_; rintro e w' ⟨rfl, n1, rfl⟩
  rw [HL.out]
  go_wp2_with fail
  go_ret
  exact Got.same HH.out ((Kept.refl NoB w).drewN n1) _
theorem rskip_arg (h : Rd w B p s a) (x : Int) (h1 : x < 0) :
    Calls Try.prog 45 #[.pointer (some ⟨p, 0, none⟩), .int .i64 x] w (Got w B p s (.int .i64 2) a) := by
  have h0 := h.c0
  have HH := Lib.hid h
  clear h
  go_enter Try.func45, Try.ntmps45
  go_wp2_with (go_at_call 47; refine (rmade_yes p _ h0).mono ?_; rintro e w' ⟨rfl, rfl⟩)
  go_ret
  exact Got.same HH.out (Kept.refl NoB w) _
theorem rskip_any (h : Rd w B p s a) (hs : s.size ≤ 100000000) (x : Int) :
    Calls Try.prog 45 #[.pointer (some ⟨p, 0, none⟩), .int .i64 x] w (Got w B p s (.int .i64 (gskip s a x).1) (gskip s a x).2) := by
  by_cases h1 : 0 ≤ x
  · by_cases h2 : x ≤ ((8 * s.size : Nat) : Int) - a
    · obtain ⟨n, rfl⟩ := Int.eq_ofNat_of_zero_le h1
      have := h.le
      rw [gskip_yes (by omega)]
      exact rskip_yes h hs n (by omega)
    · rw [gskip_end h1 h2]
      exact rskip_end h hs x h1 (by omega)
  · rw [gskip_arg h1]
    exact rskip_arg h x (by omega)
theorem rskip_nil (x : Int) (w : World) :
    Calls Try.prog 45 #[.pointer none, .int .i64 x] w fun e w' => e = .returned (.int .i64 1) ∧ w = w' := by
  go_enter Try.func45, Try.ntmps45
  go_wp2_with (go_at_call 47; refine (rmade_nil _).mono ?_; rintro e w' ⟨rfl, rfl⟩)
  go_ret
  exact ⟨rfl, rfl⟩

end Go.Proofs.Ytnkkccieidlacaa
