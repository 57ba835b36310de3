/- What look, Bits, Peek, Skip and Align of package bitr answer. Conditions: as each theorem names them. -/
import Derived.Test.YtnkkccieidlacaaRdB
namespace Go.Proofs.Ytnkkccieidlacaa
open Go.RowKit M
set_option linter.unusedVariables false
variable {w w' : World} {B p a : Nat} {s : ByteArray} {S T : Nat → Prop}

set_option maxRecDepth 1000000 in
theorem idx8 (w : World) (N k : Nat) (hk : k < 8) :
    (Instr.index 105 (.agg ((bys N 8).map (Value.int .u8)).toArray) (.int .i64 k)).run Try.prog w = .ok (.int .u8 ((N / 256 ^ k % 256 : Nat) : Int)) w := by
  have h' : k = 0 ∨ k = 1 ∨ k = 2 ∨ k = 3 ∨ k = 4 ∨ k = 5 ∨ k = 6 ∨ k = 7 := by omega
  rcases h' with rfl | rfl | rfl | rfl | rfl | rfl | rfl | rfl <;> rfl

set_option maxRecDepth 1000000 in
theorem look_any (h : Rd w B p s a) (hs : s.size ≤ 100000000) (n : Nat) (hn : n ≤ 56) :
    Calls Try.prog 49 #[.pointer (some ⟨p, 0, none⟩), .int .i64 n] w fun e w' => e = .returned (.int .u64 (nb s a n)) ∧ Kept NoB w w' := by
  obtain ⟨N, hN⟩ : ∃ N, tx s / 256 ^ (a / 8) = N := ⟨_, rfl⟩
  have hnx := next_any h hs
  rw [hN] at hnx
  obtain ⟨V, hV⟩ : ∃ V, Value.agg ((bys N 8).map (Value.int .u8)).toArray = V := ⟨_, rfl⟩
  rw [hV] at hnx
  have HC := Lib.hid hnx
  have HR := Lib.hid h
  have hidx := idx8
  have HN := Lib.hid hN
  have HV := Lib.hid hV
  have ha : a ≤ 800000000 := by have := h.le; omega
  clear hnx h hN hV
  go_enter Try.func49, Try.ntmps49
  go_wp2_with fail
  refine HC.out.mono ?_; rintro e w1 ⟨rfl, k1⟩
  have R1 := Lib.hid (HR.out.same k1)
  have K1 := Lib.hid k1
  clear k1
  go_wp2_with fail
  go_loop [5, 10] (fun u i => ∃ k : Nat, k ≤ 8 ∧ i = .int .i64 k ∧ u = .int .u64 (N % 256 ^ k : Nat)) (fun _ i => 8 - (intOf i).toNat)
  case atStart => exact ⟨0, Nat.zero_le _, rfl, by simp [Nat.mod_one]⟩
  case round =>
    obtain ⟨k, hk, rfl, rfl⟩ := hrel
    by_cases hlt : k < 8
    · have hx := hidx w1 N k hlt
      rw [HV.out] at hx
      have hor := or_byte N k hlt
      obtain ⟨b, hb⟩ : ∃ b, N / 256 ^ k % 256 = b := ⟨_, rfl⟩
      obtain ⟨u, hu⟩ : ∃ u, N % 256 ^ k = u := ⟨_, rfl⟩
      obtain ⟨u', hu'⟩ : ∃ u', N % 256 ^ (k + 1) = u' := ⟨_, rfl⟩
      rw [hb] at hx
      rw [hb, hu, hu'] at hor
      rw [hu]
      have hb2 : b < 256 := by rw [← hb]; exact Nat.mod_lt _ (by decide)
      have HU := Lib.hid hu'
      have h8 : 0 ≤ (k : Int) * 8 := by omega
      clear hu hu' hb hidx
      go_wp2_with fail
      go_round
      case rel => exact ⟨k + 1, by omega, by go_num, by rw [HU.out]⟩
      case measure => simp [intOf]; omega
    · obtain rfl : k = 8 := by omega
      obtain ⟨u, hu⟩ : ∃ u, N % 256 ^ 8 = u := ⟨_, rfl⟩
      rw [hu]
      have c2 := R1.out.c2
      have hw : (a : Int).tmod 8 = ((a % 8 : Nat) : Int) := by rw [Int.tmod_eq_emod_of_nonneg (by omega)]; rfl
      obtain ⟨r, hr⟩ : ∃ r, a % 8 = r := ⟨_, rfl⟩
      rw [hr] at hw
      have HU := Lib.hid hu
      have Hr := Lib.hid hr
      clear hu hr hidx
      go_wp2_with fail
      go_quiet ((go_at_call 27; exact Calls.quiet_of_same ((mask_nat n _ (by omega)).mono (by rintro e w' ⟨rfl, rfl⟩; exact ⟨rfl, rfl⟩))))
      go_wp2_with fail
      go_ret
      exact ⟨congrArg (fun z => Ending.returned (.int .u64 z)) (look_end s a n N u r hn HN.out HU.out Hr.out), K1.out.drewN _⟩

/-- What a call answers and leaves: the value, and how many bits the reader stands behind. -/
def Got (w : World) (B p : Nat) (s : ByteArray) (v : Value) (r : Nat) (e : Ending) (w' : World) : Prop :=
  e = .returned v ∧ Rd w' B p s r ∧ Kept (fun j => j = p) w w'
theorem Got.same (h : Rd w B p s a) (hk : Kept NoB w w') (v : Value) : Got w B p s v a (.returned v) w' := ⟨rfl, h.same hk, hk.none _⟩
theorem Got.put (h : Rd w B p s a) (hk : Kept NoB w w') (b : Nat) (hb : b ≤ 8 * s.size) (z : Int) (hz : z = (b : Int)) (v : Value) : Got w B p s v b (.returned v) (w'.setCell ⟨p, 2, none⟩ (.int .i64 z)) := by
  have h2 := (h.same hk).put b hb z hz
  exact ⟨rfl, h2.1, (hk.none _).trans h2.2 (fun j hj => .inl hj)⟩

theorem rbits_yes (h : Rd w B p s a) (hs : s.size ≤ 100000000) (n : Nat) (hn : n ≤ 56) (hle : a + n ≤ 8 * s.size) :
    Calls Try.prog 25 #[.pointer (some ⟨p, 0, none⟩), .int .i64 n] w (Got w B p s (.tuple #[.int .u64 (nb s a n), .int .i64 0]) (a + n)) := by
  have h0 := h.c0
  have HH := Lib.hid h
  have ha : a ≤ 800000000 := by have := h.le; omega
  obtain ⟨l, hl⟩ : ∃ l, 8 * s.size - a = l := ⟨_, rfl⟩
  have hnl : n ≤ l := by omega
  have HL := Lib.hid hl
  have HE := Lib.hid hle
  clear h hl hle
  go_enter Try.func25, Try.ntmps25
  go_wp2_with (go_at_call 47; refine (rmade_yes p _ h0).mono ?_; rintro e w' ⟨rfl, rfl⟩)
  refine (rmay_yes n _ (by omega) (by omega)).mono ?_; rintro e w' ⟨rfl, rfl⟩
  go_wp2_with fail
  refine (left_any HH.out hs).mono ?_; rintro e w' ⟨rfl, n1, rfl⟩
  rw [HL.out]
  have hd : decide ((l : Int) < (n : Int)) = false := by simp; omega
  go_wp2_with fail
  refine (look_any (HH.out.drewN n1) hs n hn).mono ?_; rintro e w2 ⟨rfl, k2⟩
  have K2 := Lib.hid (((Kept.refl NoB w).drewN n1).trans k2 (fun _ g => g.elim))
  have R2 := Lib.hid (HH.out.same K2.out)
  have c2 := R2.out.c2
  have f2 := R2.out.fz 2
  clear k2 h0 hd
  go_wp2_with fail
  go_ret2
  exact Got.put HH.out K2.out (a + n) HE.out _ (by omega) _

theorem rbits_end (h : Rd w B p s a) (hs : s.size ≤ 100000000) (x : Int) (h1 : 0 ≤ x) (h2 : x ≤ 56) (hle : ((8 * s.size : Nat) : Int) - a < x) :
    Calls Try.prog 25 #[.pointer (some ⟨p, 0, none⟩), .int .i64 x] w (Got w B p s (.tuple #[.int .u64 0, .int .i64 6]) a) := by
  have h0 := h.c0
  have HH := Lib.hid h
  obtain ⟨l, hl⟩ : ∃ l, 8 * s.size - a = l := ⟨_, rfl⟩
  have hnl : (l : Int) < x := by have := h.le; omega
  have HL := Lib.hid hl
  clear h hl hle
  go_enter Try.func25, Try.ntmps25
  go_wp2_with (go_at_call 47; refine (rmade_yes p _ h0).mono ?_; rintro e w' ⟨rfl, rfl⟩)
  refine (rmay_yes x _ (by omega) (by omega)).mono ?_; rintro e w' ⟨rfl, rfl⟩
  go_wp2_with fail
  refine (left_any HH.out hs).mono ?_; rintro e w' ⟨rfl, n1, rfl⟩
  rw [HL.out]
  go_wp2_with fail
  go_ret2
  exact Got.same HH.out ((Kept.refl NoB w).drewN n1) _

theorem rbits_arg (h : Rd w B p s a) (x : Int) (hx : ¬ (0 ≤ x ∧ x ≤ 56)) :
    Calls Try.prog 25 #[.pointer (some ⟨p, 0, none⟩), .int .i64 x] w (Got w B p s (.tuple #[.int .u64 0, .int .i64 2]) a) := by
  have h0 := h.c0
  have HH := Lib.hid h
  have HX := Lib.hid hx
  clear h hx
  go_enter Try.func25, Try.ntmps25
  go_wp2_with (go_at_call 47; refine (rmade_yes p _ h0).mono ?_; rintro e w' ⟨rfl, rfl⟩)
  refine (rmay_no x _ HX.out).mono ?_; rintro e w' ⟨rfl, rfl⟩
  go_wp2_with fail
  go_ret2
  exact Got.same HH.out (Kept.refl NoB w) _

theorem rbits_any (h : Rd w B p s a) (hs : s.size ≤ 100000000) (x : Int) :
    Calls Try.prog 25 #[.pointer (some ⟨p, 0, none⟩), .int .i64 x] w (Got w B p s (.tuple #[.int .u64 (gbits s a x).1, .int .i64 (gbits s a x).2.1]) (gbits s a x).2.2) := by
  by_cases h1 : 0 ≤ x ∧ x ≤ 56
  · by_cases h2 : x ≤ ((8 * s.size : Nat) : Int) - a
    · obtain ⟨n, rfl⟩ := Int.eq_ofNat_of_zero_le h1.1
      have := h.le
      rw [gbits_yes (by omega) (by omega)]
      exact rbits_yes h hs n (by omega) (by omega)
    · rw [gbits_end h1 h2]
      exact rbits_end h hs x h1.1 h1.2 (by omega)
  · rw [gbits_arg h1]
    exact rbits_arg h x h1
theorem rbits_nil (x : Int) (w : World) :
    Calls Try.prog 25 #[.pointer none, .int .i64 x] w fun e w' => e = .returned (.tuple #[.int .u64 0, .int .i64 1]) ∧ w = w' := by
  go_enter Try.func25, Try.ntmps25
  go_wp2_with (go_at_call 47; refine (rmade_nil _).mono ?_; rintro e w' ⟨rfl, rfl⟩)
  go_ret2
  exact ⟨rfl, rfl⟩
end Go.Proofs.Ytnkkccieidlacaa
