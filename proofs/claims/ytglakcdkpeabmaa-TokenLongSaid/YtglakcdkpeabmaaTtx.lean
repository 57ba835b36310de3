/- TokenTexts returns true for any arguments that their kinds hold. Conditions: none. -/
import Derived.Test.YtglakcdkpeabmaaTkK
namespace Go.Proofs.Ytglakcdkpeabmaa
open Go Go.RowKit M
set_option linter.unusedVariables false
set_option linter.unusedSimpArgs false

section
variable {A B : Option Addr} {n c m c' : Nat} {L K : List Tk}
theorem same_bel (w : World) (h : IsTks w A n L) (h' : IsTks w B m K) (hn : n ≤ 1000000) (hm : m ≤ 1000000) :
    Calls Try.prog 14 #[.slice A n c, .slice B m c'] w fun e w' => e = .returned (.bool (decide (L = K))) ∧ Below w.heap.size w w' :=
  (same_any A B n c m c' L K w h h' hn hm).mono fun e w' ⟨he, q, hq⟩ => ⟨he, by rw [hq]; exact ((Kept.refl NoB w).drewN q).below (Nat.le_refl _) (fun _ g => g.elim)⟩
theorem rsame_bel (w : World) (h : IsTks w A n L) (h' : IsTks w B m K) (hn : n ≤ 1000000) (hm : m ≤ 1000000) :
    Calls Try.prog 15 #[.slice A n c, .slice B m c'] w fun e w' => e = .returned (.bool (decide (L = K))) ∧ Below w.heap.size w w' :=
  (rsame_any A B n c m c' L K w h h' hn hm).mono fun e w' ⟨he, q, hq⟩ => ⟨he, by rw [hq]; exact ((Kept.refl NoB w).drewN q).below (Nat.le_refl _) (fun _ g => g.elim)⟩
/-- .. as an operation of a walk, its guard true -/
theorem wpList_copy {ops : Array Oper} {rest : List Oper} {o : Oper} {a : Act} {w : World} {Q : Exit → Act → World → Prop} (hw : Region.wanted o (yielded ops a.tmps) = true) (x : Operand)
    (ho : o.op = .call { callee := .builtin .append, args := #[.const (.slice none 0 0), x], argTypes := #[22, 22] }) (hx : a.eval x = .slice A n c) (h : IsTks w A n L) (hn : n ≤ 1000000)
    (hK : ∀ A' c' w', IsTks w' A' n L → Below w.heap.size w w' → wpList Try.prog ops Q rest (a.put o.dst (.slice A' n c')) w') : wpList Try.prog ops Q (o :: rest) a w :=
  wpList_step fun K hK' => by
    obtain ⟨A', c', w', r1, r2, r3⟩ := run_copy (c := c) o.type h hn
    simp only [hw, if_true]
    unfold Oper.wp execOp
    have e0 : a.eval (.const (.slice none 0 0)) = .slice none 0 0 := rfl
    simp only [ho, resolve, invoke, builtin, Sem.run_bind, Sem.run_pure, Result.andThen_ok, List.map_toArray, List.map_cons, List.map_nil, e0, hx, r1]
    exact hK' _ _ (hK A' c' w' r2 r3)
end

set_option maxRecDepth 1000000 in
set_option maxHeartbeats 1000000 in
theorem TokenTexts_one (a0 : ByteArray) (a1 : Option Addr) (len1 cap1 : Nat) (z1 : List Tk) (a2 : Option Addr) (len2 cap2 : Nat) (z2 : List Tk) (W : World) (w0 : a0.size ≤ maxLen) (w1 : IsTks W a1 len1 z1) (w2 : IsTks W a2 len2 z2)
    (hv : 8192 < a0.size ∨ 1000 < len1) :
    Calls Try.prog 3 #[.string a0, .slice a1 len1 cap1, .slice a2 len2 cap2] W fun e w' => e = .returned (.bool true) ∧ Below W.heap.size W w' := by
  have hh := heavy_any a0 a1 len1 cap1 W w0 w1.most
  rw [decide_eq_true hv] at hh
  have HH := Lib.hid hh
  clear hh hv w0 w1 w2
  go_enter Try.func3, Try.ntmps3
  go_wp2_with (first
    | (go_at_call 6; (with_reducible refine HH.out.mono ?_); rintro e w3 ⟨rfl, rfl⟩)
    | (go_at_call 7; (with_reducible refine (works_any _).mono ?_); rintro e w4 ⟨rfl, b4⟩; have B4 := Lib.hid b4; clear b4))
  go_ret
  exact ⟨rfl, B4.out⟩
set_option maxRecDepth 1000000 in
set_option maxHeartbeats 1000000 in
theorem TokenTexts_two (a0 : ByteArray) (a1 : Option Addr) (len1 cap1 : Nat) (z1 : List Tk) (a2 : Option Addr) (len2 cap2 : Nat) (z2 : List Tk) (W : World) (w0 : a0.size ≤ maxLen) (w1 : IsTks W a1 len1 z1) (w2 : IsTks W a2 len2 z2)
    (hv : ¬ (8192 < a0.size ∨ 1000 < len1)) (hv2 : 8192 < a0.size ∨ 1000 < len2) :
    Calls Try.prog 3 #[.string a0, .slice a1 len1 cap1, .slice a2 len2 cap2] W fun e w' => e = .returned (.bool true) ∧ Below W.heap.size W w' := by
  have hh := heavy_any a0 a1 len1 cap1 W w0 w1.most
  rw [decide_eq_false hv] at hh
  have hh2 := heavy_any a0 a2 len2 cap2 W w0 w2.most
  rw [decide_eq_true hv2] at hh2
  have HH := Lib.hid hh
  have HH2 := Lib.hid hh2
  clear hh hh2 hv hv2 w0 w1 w2
  go_enter Try.func3, Try.ntmps3
  go_wp2_with (go_at_call 6; (with_reducible refine HH.out.mono ?_); rintro e w3 ⟨rfl, rfl⟩; clear HH)
  go_wp2_with (first
    | (go_at_call 6; (with_reducible refine HH2.out.mono ?_); rintro e w3 ⟨rfl, rfl⟩)
    | (go_at_call 7; (with_reducible refine (works_any _).mono ?_); rintro e w4 ⟨rfl, b4⟩; have B4 := Lib.hid b4; clear b4))
  go_ret
  exact ⟨rfl, B4.out⟩

set_option maxRecDepth 1000000 in
set_option maxHeartbeats 2000000 in
theorem TokenTexts_main (a0 : ByteArray) (a1 : Option Addr) (n cap1 : Nat) (z1 : List Tk) (a2 : Option Addr) (m cap2 : Nat) (z2 : List Tk) (W : World) (w0 : a0.size ≤ maxLen) (w1 : IsTks W a1 n z1) (w2 : IsTks W a2 m z2)
    (hv : ¬ (8192 < a0.size ∨ 1000 < n)) (hv2 : ¬ (8192 < a0.size ∨ 1000 < m)) :
    Calls Try.prog 3 #[.string a0, .slice a1 n cap1, .slice a2 m cap2] W fun e w' => e = .returned (.bool true) ∧ Below W.heap.size W w' := by
  have hh := heavy_any a0 a1 n cap1 W w0 w1.most
  rw [decide_eq_false hv] at hh
  have hh2 := heavy_any a0 a2 m cap2 W w0 w2.most
  rw [decide_eq_false hv2] at hh2
  have HH := Lib.hid hh
  have HH2 := Lib.hid hh2
  have hn : n ≤ 1000000 := by omega
  have hm : m ≤ 1000000 := by omega
  have hs : a0.size ≤ 900000 := by omega
  obtain ⟨X, Y, hXY⟩ : ∃ X Y, txt a0.data.toList z1 = (X, Y) := ⟨_, _, rfl⟩
  obtain ⟨S, hS⟩ : ∃ S : ByteArray, (⟨X.toArray⟩ : ByteArray) = S := ⟨_, rfl⟩
  have HT := Lib.hid (show ∀ w, IsTks w a1 n z1 → Calls Try.prog 10 #[.string a0, .slice a1 n cap1] w fun e w' => e = .returned (.tuple #[.string S, .int .i64 Y]) ∧ Below w.heap.size w w' from fun w h => by
    have := text_any a0 a1 n cap1 z1 w h hn (by omega)
    rw [hXY] at this; rw [← hS]; exact this)
  have HR := Lib.hid (show ∀ w, IsTks w a1 n z1 → Calls Try.prog 11 #[.string a0, .slice a1 n cap1] w fun e w' => e = .returned (.tuple #[.string S, .int .i64 Y]) ∧ Below w.heap.size w w' from fun w h => by
    have := rtext_any a0 a1 n cap1 z1 w h hn hs
    rw [hXY] at this; rw [← hS]; exact this)
  obtain ⟨Z, hZ⟩ : ∃ Z, ((szs z1 : Nat) : Int) = Z := ⟨_, rfl⟩
  have HZ1 := Lib.hid (show ∀ w, IsTks w a1 n z1 → Calls Try.prog 12 #[.slice a1 n cap1] w fun e w' => e = .returned (.int .i64 Z) ∧ Below w.heap.size w w' from fun w h => by rw [← hZ]; exact size_any a1 n cap1 z1 w h hn)
  have HZ2 := Lib.hid (show ∀ w, IsTks w a1 n z1 → Calls Try.prog 13 #[.slice a1 n cap1] w fun e w' => e = .returned (.int .i64 Z) ∧ Below w.heap.size w w' from fun w h => by rw [← hZ]; exact rsize_any a1 n cap1 z1 w h hn)
  obtain ⟨E, hE⟩ : ∃ E, decide (z1 = z2) = E := ⟨_, rfl⟩
  have HE1 := Lib.hid (show ∀ w, IsTks w a1 n z1 → IsTks w a2 m z2 → Calls Try.prog 14 #[.slice a1 n cap1, .slice a2 m cap2] w fun e w' => e = .returned (.bool E) ∧ Below w.heap.size w w' from fun w h h' => by rw [← hE]; exact same_bel w h h' hn hm)
  have HE2 := Lib.hid (show ∀ w, IsTks w a1 n z1 → IsTks w a2 m z2 → Calls Try.prog 15 #[.slice a1 n cap1, .slice a2 m cap2] w fun e w' => e = .returned (.bool E) ∧ Below w.heap.size w w' from fun w h h' => by rw [← hE]; exact rsame_bel w h h' hn hm)
  have HE3 := Lib.hid (show ∀ w A' c', IsTks w a1 n z1 → IsTks w A' n z1 → Calls Try.prog 14 #[.slice a1 n cap1, .slice A' n c'] w fun e w' => e = .returned (.bool true) ∧ Below w.heap.size w w' from fun w A' c' h h' => by
    have := same_bel (c := cap1) (c' := c') w h h' hn hn
    rw [decide_eq_true rfl] at this; exact this)
  have HI := Lib.hid (show ∀ w, Below W.heap.size W w → IsTks w a1 n z1 from fun w h => w1.below h)
  have HI2 := Lib.hid (show ∀ w, Below W.heap.size W w → IsTks w a2 m z2 from fun w h => w2.below h)
  have hEE : (E == E) = true := by cases E <;> rfl
  have hYY : (Y == Y) = true := by simp
  have hZZ : (Z == Z) = true := by simp
  have hn9 : n < 9223372036854775807 := by omega
  have HN := Lib.hid hn
  clear hh hh2 hv hv2 w0 w1 w2 hXY hS hZ hE hs hm
  go_enter Try.func3, Try.ntmps3
  go_wp2_with (go_at_call 6; (with_reducible refine HH.out.mono ?_); rintro e w3 ⟨rfl, rfl⟩; clear HH)
  go_wp2_with (go_at_call 6; (with_reducible refine HH2.out.mono ?_); rintro e w3 ⟨rfl, rfl⟩; clear HH2)
  go_loopw [7] (fun i wr => ∃ k : Nat, k ≤ n ∧ i = .int .i64 k ∧ Below W.heap.size W wr) (fun i _ => n - (intOf i).toNat)
  case atStart => exact ⟨0, Nat.zero_le _, rfl, Below.refl _ _⟩
  case round =>
    obtain ⟨k, hk, rfl, hb⟩ := hrel
    have HB := Lib.hid hb
    by_cases hlt : k < n
    · obtain ⟨b, o, rfl, hbl, hc⟩ := (HI.out _ hb).at (by omega)
      obtain ⟨c0, c1, c2⟩ := hc k hlt
      obtain ⟨t, ht⟩ : ∃ t, z1.getD k default = t := ⟨_, rfl⟩
      rw [ht] at c0 c1 c2
      obtain ⟨tl, tn, td⟩ := t
      simp only at c0 c1 c2
      obtain ⟨y, hy⟩ : ∃ y, may ⟨tl, tn, td⟩ = y := ⟨_, rfl⟩
      have hM := may_any tl tn td
      have hM' := rmay_any tl tn td
      rw [hy] at hM hM'
      have hyy : (y != y) = false := by cases y <;> rfl
      have HM := Lib.hid hM
      have HM' := Lib.hid hM'
      clear hM hM' hb hc ht hy HT HR HZ1 HZ2 HE1 HE2 HE3 hEE hYY hZZ
      go_wp2_with fail
      go_region_held3 (fun w' => w'.cell? ⟨b, o + k * 3, none⟩ = some (.int .u8 tl) ∧ w'.cell? ⟨b, o + k * 3 + 1, none⟩ = some (.int .i64 tn) ∧ w'.cell? ⟨b, o + k * 3 + 2, none⟩ = some (.int .i64 td)) (first | exact ⟨f0, f1, f2⟩ | exact ⟨e0, e1, e2⟩ | exact ⟨c0, c1, c2⟩) (first
        | (go_at_call 8; (with_reducible refine (HM.out _).mono ?_); rintro e w3 ⟨rfl, b3⟩; have e0 := (b3.cell (World.block_lt_of_cell? _ _ c0)).trans c0; have e1 := (b3.cell (World.block_lt_of_cell? _ _ c1)).trans c1; have e2 := (b3.cell (World.block_lt_of_cell? _ _ c2)).trans c2; have B3 := Lib.hid (HB.out.drew.trans (b3.mono HB.out.size)); clear b3)
        | (go_at_call 9; (with_reducible refine (HM'.out _).mono ?_); rintro e w4 ⟨rfl, b4⟩; have f0 := (b4.cell (World.block_lt_of_cell? _ _ e0)).trans e0; have f1 := (b4.cell (World.block_lt_of_cell? _ _ e1)).trans e1; have f2 := (b4.cell (World.block_lt_of_cell? _ _ e2)).trans e2; have B4 := Lib.hid (B3.out.trans (b4.mono B3.out.size)); clear b4))
      go_wp2_with fail
      go_roundw
      case rel => exact ⟨k + 1, by omega, by go_num, B4.out⟩
      case measure => simp [intOf]; omega
    · obtain rfl : k = n := by omega
      clear hb
      go_wp2_with (first
        | (go_at_call 10; (with_reducible refine (HT.out _ (HI.out _ HB.out)).mono ?_); rintro e w1 ⟨rfl, b1⟩; have B1 := Lib.hid (HB.out.trans (b1.mono HB.out.size)); clear b1)
        | (go_at_call 11; (with_reducible refine (HR.out _ (HI.out _ B1.out)).mono ?_); rintro e w2 ⟨rfl, b2⟩; have B2 := Lib.hid (B1.out.trans (b2.mono B1.out.size)); clear b2)
        | (go_at_call 12; (with_reducible refine (HZ1.out _ (HI.out _ B2.out)).mono ?_); rintro e w3 ⟨rfl, b3⟩; have B3 := Lib.hid (B2.out.trans (b3.mono B2.out.size)); clear b3)
        | (go_at_call 13; (with_reducible refine (HZ2.out _ (HI.out _ B3.out)).mono ?_); rintro e w4 ⟨rfl, b4⟩; have B4 := Lib.hid (B3.out.trans (b4.mono B3.out.size)); clear b4))
      go_wp2_with (first
        | (go_at_call 14; (with_reducible refine (HE1.out _ (HI.out _ B4.out) (HI2.out _ B4.out)).mono ?_); rintro e w5 ⟨rfl, b5⟩; have B5 := Lib.hid (B4.out.trans (b5.mono B4.out.size)); clear b5)
        | (go_at_call 15; (with_reducible refine (HE2.out _ (HI.out _ B5.out) (HI2.out _ B5.out)).mono ?_); rintro e w6 ⟨rfl, b6⟩; have B6 := Lib.hid (B5.out.trans (b6.mono B5.out.size)); clear b6)
        | (at_builtin; refine wpList_copy (by rfl) (.tmp 76) rfl rfl (HI.out _ B6.out) HN.out ?_; intro A' c' w7 i7 b7; have I7 := Lib.hid i7; have B7 := Lib.hid (B6.out.trans (b7.mono B6.out.size)); clear b7 i7)
        | (go_at_call 14; (with_reducible refine (HE3.out _ _ _ (HI.out _ B7.out) I7.out).mono ?_); rintro e w8 ⟨rfl, b8⟩; have B8 := Lib.hid (B7.out.trans (b8.mono B7.out.size)); clear b8)
        | (go_at_call 7; (with_reducible refine (works_any _).mono ?_); rintro e w9 ⟨rfl, b9⟩; have B9 := Lib.hid (B8.out.trans (b9.mono B8.out.size)); clear b9))
      go_ret
      exact ⟨rfl, B9.out⟩

theorem TokenTexts_walk (a0 : ByteArray) (a1 : Option Addr) (len1 cap1 : Nat) (z1 : List Tk) (a2 : Option Addr) (len2 cap2 : Nat) (z2 : List Tk) (W : World) (w0 : a0.size ≤ maxLen) (w1 : IsTks W a1 len1 z1) (w2 : IsTks W a2 len2 z2) :
    Calls Try.prog 3 #[.string a0, .slice a1 len1 cap1, .slice a2 len2 cap2] W fun e w' => e = .returned (.bool true) ∧ Below W.heap.size W w' := by
  by_cases h1 : 8192 < a0.size ∨ 1000 < len1
  · exact TokenTexts_one a0 a1 len1 cap1 z1 a2 len2 cap2 z2 W w0 w1 w2 h1
  · by_cases h2 : 8192 < a0.size ∨ 1000 < len2
    · exact TokenTexts_two a0 a1 len1 cap1 z1 a2 len2 cap2 z2 W w0 w1 w2 h1 h2
    · exact TokenTexts_main a0 a1 len1 cap1 z1 a2 len2 cap2 z2 W w0 w1 w2 h1 h2
end Go.Proofs.Ytglakcdkpeabmaa
