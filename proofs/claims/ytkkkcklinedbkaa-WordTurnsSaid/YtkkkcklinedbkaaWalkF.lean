/- What each call of layer 1, and of the document's, answers, by one plain function for both, for any arguments that their kinds hold. Conditions: as each theorem names them. -/
import Derived.Test.YtkkkcklinedbkaaWalkE
namespace Go.Proofs.Ytkkkcklinedbkaa
open Go.RowKit M

/-! What the calls answer, as plain functions -/
def putB (n x : Int) : Bool := decide (1 ≤ x ∧ x ≤ 8 ∧ n.toNat < 256 ^ x.toNat)
def putS (n x : Int) : ByteArray := if putB n x = true then bstr (le n.toNat x.toNat) else ⟨#[]⟩
def getB (s : ByteArray) (a k : Int) : Bool := decide (1 ≤ k ∧ k ≤ 8 ∧ 0 ≤ a ∧ a + k ≤ s.size)
def getN (s : ByteArray) (a k : Int) : Nat := if getB s a k = true then vl ((s.data.toList.drop a.toNat).take k.toNat) else 0
def smallB (x s : Int) : Bool := decide (0 ≤ x ∧ 1 ≤ s ∧ s ≤ 8 ∧ x.toNat < 256 ^ s.toNat)
def smallN (x s : Int) : Int := if smallB x s = true then x else 0

theorem putS_yes {n x : Int} (h : putB n x = true) : putS n x = bstr (le n.toNat x.toNat) := if_pos h
theorem putS_no {n x : Int} (h : putB n x = false) : putS n x = ⟨#[]⟩ := if_neg (by rw [h]; decide)

theorem put_any (n x : Int) (w : World) (h0 : 0 ≤ n) :
    Calls Try.prog 10 #[.int .u64 n, .int .i64 x] w fun e w' => e = .returned (.tuple #[.string (putS n x), .bool (putB n x)]) ∧ Below w.heap.size w w' := by
  by_cases h : 1 ≤ x ∧ x ≤ 8 ∧ n.toNat < 256 ^ x.toNat
  · have hb : putB n x = true := decide_eq_true h
    rw [putS_yes hb, hb]
    obtain ⟨h1, h2, h3⟩ := h
    obtain ⟨N, rfl⟩ := Int.eq_ofNat_of_zero_le h0
    obtain ⟨s, rfl⟩ := Int.eq_ofNat_of_zero_le (show 0 ≤ x by omega)
    rw [Int.toNat_natCast, Int.toNat_natCast] at *
    exact put_yes N s w (by omega) (by omega) h3
  · have hb : putB n x = false := decide_eq_false h
    rw [putS_no hb, hb]
    refine (put_no n x w h0 h).mono ?_
    rintro e w' ⟨rfl, rfl⟩
    exact ⟨rfl, Below.refl _ _⟩

theorem rput_any (n x : Int) (w : World) (h0 : 0 ≤ n) (hn : n.toNat < big) :
    Calls Try.prog 11 #[.int .u64 n, .int .i64 x] w fun e w' => e = .returned (.tuple #[.string (putS n x), .bool (putB n x)]) ∧ Below w.heap.size w w' := by
  by_cases h : 1 ≤ x ∧ x ≤ 8
  · obtain ⟨h1, h2⟩ := h
    obtain ⟨N, rfl⟩ := Int.eq_ofNat_of_zero_le h0
    obtain ⟨s, rfl⟩ := Int.eq_ofNat_of_zero_le (show 0 ≤ x by omega)
    rw [Int.toNat_natCast] at hn
    have he : putAns N s = .tuple #[.string (putS N s), .bool (putB N s)] := by
      unfold putAns
      by_cases hf : N < 256 ^ s
      · have hb : putB N s = true := decide_eq_true ⟨h1, h2, by simpa using hf⟩
        rw [if_pos hf, putS_yes hb, hb]
        simp
      · have hb : putB N s = false := decide_eq_false (fun g => hf (by simpa using g.2.2))
        rw [if_neg hf, putS_no hb, hb]
    rw [← he]
    exact rput_run N s w hn (by omega) (by omega)
  · have hb : putB n x = false := decide_eq_false (fun g => h ⟨g.1, g.2.1⟩)
    rw [putS_no hb, hb]
    refine (rput_no n x w h).mono ?_
    rintro e w' ⟨rfl, rfl⟩
    exact ⟨rfl, Below.refl _ _⟩

theorem getN_yes {s : ByteArray} {a k : Int} (h : getB s a k = true) : getN s a k = vl ((s.data.toList.drop a.toNat).take k.toNat) := if_pos h
theorem getN_no {s : ByteArray} {a k : Int} (h : getB s a k = false) : getN s a k = 0 := if_neg (by rw [h]; decide)

theorem get_any (s : ByteArray) (a k : Int) (w : World) (hs : s.size ≤ maxLen) :
    Calls Try.prog 12 #[.string s, .int .i64 a, .int .i64 k] w fun e w' => e = .returned (.tuple #[.int .u64 (getN s a k), .bool (getB s a k)]) ∧ w = w' := by
  by_cases h : 1 ≤ k ∧ k ≤ 8 ∧ 0 ≤ a ∧ a + k ≤ s.size
  · have hb : getB s a k = true := decide_eq_true h
    rw [getN_yes hb, hb]
    obtain ⟨h1, h2, h3, h4⟩ := h
    obtain ⟨A, rfl⟩ := Int.eq_ofNat_of_zero_le h3
    obtain ⟨K, rfl⟩ := Int.eq_ofNat_of_zero_le (show 0 ≤ k by omega)
    exact get_yes s A K w hs (by omega) (by omega) (by omega)
  · have hb : getB s a k = false := decide_eq_false h
    rw [getN_no hb, hb]
    exact get_no s a k w hs h

theorem rget_any (s : ByteArray) (a k : Int) (w : World) (hs : s.size ≤ maxLen) :
    Calls Try.prog 13 #[.string s, .int .i64 a, .int .i64 k] w fun e w' => e = .returned (.tuple #[.int .u64 (getN s a k), .bool (getB s a k)]) ∧ w = w' := by
  by_cases h : 1 ≤ k ∧ k ≤ 8 ∧ 0 ≤ a ∧ a + k ≤ s.size
  · have hb : getB s a k = true := decide_eq_true h
    rw [getN_yes hb, hb]
    obtain ⟨h1, h2, h3, h4⟩ := h
    obtain ⟨A, rfl⟩ := Int.eq_ofNat_of_zero_le h3
    obtain ⟨K, rfl⟩ := Int.eq_ofNat_of_zero_le (show 0 ≤ k by omega)
    exact rget_yes s A K w hs (by omega) (by omega) (by omega)
  · have hb : getB s a k = false := decide_eq_false h
    rw [getN_no hb, hb]
    exact rget_no s a k w h

theorem small_any (x s : Int) (w : World) (hx : x ≤ 9223372036854775807) :
    Calls Try.prog 14 #[.int .i64 x, .int .i64 s] w fun e w' => e = .returned (.tuple #[.int .u64 (smallN x s), .bool (smallB x s)]) ∧ w = w' := by
  by_cases h : 0 ≤ x ∧ 1 ≤ s ∧ s ≤ 8 ∧ x.toNat < 256 ^ s.toNat
  · have hb : smallB x s = true := decide_eq_true h
    rw [show smallN x s = x from if_pos hb, hb]
    exact small_yes x s w h.1 h.2.1 h.2.2.1 hx h.2.2.2
  · have hb : smallB x s = false := decide_eq_false h
    rw [show smallN x s = 0 from if_neg (by rw [hb]; decide), hb]
    exact small_no x s w hx h

theorem rsmall_any (x s : Int) (w : World) (hx : x ≤ 9223372036854775807) :
    Calls Try.prog 15 #[.int .i64 x, .int .i64 s] w fun e w' => e = .returned (.tuple #[.int .u64 (smallN x s), .bool (smallB x s)]) ∧ Below w.heap.size w w' := by
  by_cases h0 : 0 ≤ x
  · have hn : x.toNat < big := by unfold big; omega
    by_cases hp : putB x s = true
    · have hp' := of_decide_eq_true hp
      have hb : smallB x s = true := decide_eq_true ⟨h0, hp'⟩
      rw [show smallN x s = x from if_pos hb, hb]
      have HP := Lib.hid hp
      clear hp hp' hb
      go_enter Try.func15, Try.ntmps15
      go_wp2_with (go_at_call 11; refine (rput_any _ _ _ h0 hn).mono ?_; rintro e w' ⟨rfl, hbl⟩; rw [HP.out])
      go_ret2
      exact ⟨rfl, hbl⟩
    · have hp2 : putB x s = false := by simpa using hp
      have hb : smallB x s = false := decide_eq_false (fun g => hp (decide_eq_true g.2))
      rw [show smallN x s = 0 from if_neg (by rw [hb]; decide), hb]
      have HP := Lib.hid hp2
      clear hp hp2 hb
      go_enter Try.func15, Try.ntmps15
      go_wp2_with (go_at_call 11; refine (rput_any _ _ _ h0 hn).mono ?_; rintro e w' ⟨rfl, hbl⟩; rw [HP.out])
      go_ret2
      exact ⟨rfl, hbl⟩
  · have hb : smallB x s = false := decide_eq_false (fun g => h0 g.1)
    rw [show smallN x s = 0 from if_neg (by rw [hb]; decide), hb]
    have h1 : x < 0 := by omega
    clear h0 hb
    go_enter Try.func15, Try.ntmps15
    go_wp2_with fail
    go_ret2
    exact ⟨rfl, Below.refl _ _⟩

theorem mask_any (x : Int) (w : World) :
    Calls Try.prog 16 #[.int .i64 x] w fun e w' => e = .returned (.int .u64 (mk (min x.toNat 64))) ∧ w = w' := by
  by_cases h : x ≤ 0
  · rw [show min x.toNat 64 = 0 by omega]
    exact mask_low x w h
  · exact mask_high x w (by omega)

theorem log_any (n : Int) (w : World) (h0 : 0 ≤ n) (hn : n.toNat < big) :
    Calls Try.prog 20 #[.int .u64 n] w fun e w' => e = .returned (.int .i64 (lg n.toNat)) ∧ w = w' := by
  obtain ⟨N, rfl⟩ := Int.eq_ofNat_of_zero_le h0
  rw [Int.toNat_natCast] at *
  exact log_nat N w hn
theorem rlog_any (n : Int) (w : World) (h0 : 0 ≤ n) (hn : n.toNat < big) :
    Calls Try.prog 21 #[.int .u64 n] w fun e w' => e = .returned (.int .i64 (lg n.toNat)) ∧ w = w' := by
  obtain ⟨N, rfl⟩ := Int.eq_ofNat_of_zero_le h0
  rw [Int.toNat_natCast] at *
  exact rlog_nat N w hn
theorem rturn_any (n x : Int) (w : World) (h0 : 0 ≤ n) (hn : n.toNat < big) :
    Calls Try.prog 19 #[.int .u64 n, .int .i64 x] w fun e w' => e = .returned (.int .u64 (rv n.toNat (min x.toNat 64))) ∧ w = w' := by
  obtain ⟨N, rfl⟩ := Int.eq_ofNat_of_zero_le h0
  rw [Int.toNat_natCast] at *
  exact rturn_nat N x w hn

end Go.Proofs.Ytkkkcklinedbkaa
