/- ModsEither returns true for any argument that its kinds hold. Conditions: none. -/
import Derived.Test.YtbbfbijgclpjeaaOlF
namespace Go.Proofs.Ytbbfbijgclpjeaa
open Go Go.RowKit M O
set_option linter.unusedVariables false
set_option linter.unusedSimpArgs false

namespace O
/-- two modifications, one behind the other -/
theorem two_get {t : List UInt8} {n : Nat} (ht : t.length = n) {x y : Md} (hx : may (n : Int) x = true) (hy : may (n : Int) y = true) (i : Nat) :
    (app t [x, y])[i]? = if y.p.toNat ≤ i ∧ i < y.p.toNat + y.s.size then y.s.data.toList[i - y.p.toNat]? else if x.p.toNat ≤ i ∧ i < x.p.toNat + x.s.size then x.s.data.toList[i - x.p.toNat]? else t[i]? := by
  rw [app_get (N := n) _ _ ht (oks_iff.2 (fun m hm => by
    rcases List.mem_cons.1 hm with rfl | hm
    · exact hx
    · rw [List.mem_singleton.1 hm]; exact hy))]
  rfl
structure Ei (P A B : ByteArray) (P1 P2 : Nat) (s1 s2 : ByteArray) : Prop where
  z1 : P1 + s1.size ≤ 1024
  z2 : P2 + s2.size ≤ 1024
  pa : P.size = 1024
  sa : A.size = 1024
  sb : B.size = 1024
  ea : apl P.data.toList [⟨(P1 : Int), s1⟩, ⟨(P2 : Int), s2⟩] = (A.data.toList, 0)
  eb : apl P.data.toList [⟨(P2 : Int), s2⟩, ⟨(P1 : Int), s1⟩] = (B.data.toList, 0)
  xa : A.extract P2 (P2 + s2.size) = s2
  xb : B.extract P1 (P1 + s1.size) = s1
  ap : P1 + s1.size ≤ P2 ∨ P2 + s2.size ≤ P1 → A = B
  st : ∀ i (h : i < A.size) (h' : i < P.size), ¬ (P1 ≤ i ∧ i < P1 + s1.size) → ¬ (P2 ≤ i ∧ i < P2 + s2.size) → (A[i]'h).toNat = (P[i]'h').toNat
theorem ext_get {A s : ByteArray} {p : Nat} (h : p + s.size ≤ A.size) (hg : ∀ i, i < s.size → A.data.toList[p + i]? = s.data.toList[i]?) : A.extract p (p + s.size) = s := by
  apply ByteArray.ext
  apply Array.ext'
  rw [ByteArray.data_extract, Array.toList_extract, List.extract_eq_take_drop]
  apply List.ext_getElem?
  intro i
  rw [List.getElem?_take, List.getElem?_drop]
  by_cases q : i < s.size
  · rw [if_pos (by omega)]; exact hg i q
  · rw [if_neg (by omega), List.getElem?_eq_none (by rw [size_list]; omega)]
theorem ei_of {P : ByteArray} (hP : P.size = 1024) {P1 P2 : Nat} {s1 s2 : ByteArray} (h1 : may 1024 ⟨(P1 : Int), s1⟩ = true) (h2 : may 1024 ⟨(P2 : Int), s2⟩ = true) : ∃ A B, Ei P A B P1 P2 s1 s2 := by
  have hl : P.data.toList.length = 1024 := by rw [size_list]; exact hP
  obtain ⟨_, _, b1, b2⟩ := may_iff.1 h1
  obtain ⟨_, _, b3, b4⟩ := may_iff.1 h2
  simp only at b1 b2 b3 b4
  have k1 : oks ((1024 : Nat) : Int) [⟨(P1 : Int), s1⟩, ⟨(P2 : Int), s2⟩] = true := oks_iff.2 fun m hm => by
    rcases List.mem_cons.1 hm with rfl | hm
    · exact h1
    · rw [List.mem_singleton.1 hm]; exact h2
  have k2 : oks ((1024 : Nat) : Int) [⟨(P2 : Int), s2⟩, ⟨(P1 : Int), s1⟩] = true := oks_iff.2 fun m hm => by
    rcases List.mem_cons.1 hm with rfl | hm
    · exact h2
    · rw [List.mem_singleton.1 hm]; exact h1
  have la := app_length (N := 1024) _ _ hl k1
  have lb := app_length (N := 1024) _ _ hl k2
  have ga := fun i => two_get (n := 1024) hl h1 h2 i
  have gb := fun i => two_get (n := 1024) hl h2 h1 i
  simp only [Int.toNat_natCast] at ga gb
  have sa : (bstr (app P.data.toList [⟨(P1 : Int), s1⟩, ⟨(P2 : Int), s2⟩])).size = 1024 := by rw [bstr_size]; exact la
  have sb : (bstr (app P.data.toList [⟨(P2 : Int), s2⟩, ⟨(P1 : Int), s1⟩])).size = 1024 := by rw [bstr_size]; exact lb
  refine ⟨bstr (app P.data.toList [⟨(P1 : Int), s1⟩, ⟨(P2 : Int), s2⟩]), bstr (app P.data.toList [⟨(P2 : Int), s2⟩, ⟨(P1 : Int), s1⟩]), by omega, by omega, hP, sa, sb, apl_ok (n := 1024) hl (by decide) k1, apl_ok (n := 1024) hl (by decide) k2, ?_, ?_, fun h => ?_, fun i h h' n1 n2 => ?_⟩
  · refine ext_get (by rw [sa]; omega) (fun i hi => ?_)
    show (app P.data.toList _)[P2 + i]? = _
    rw [ga, if_pos ⟨by omega, by omega⟩, Nat.add_sub_cancel_left]
  · refine ext_get (by rw [sb]; omega) (fun i hi => ?_)
    show (app P.data.toList _)[P1 + i]? = _
    rw [gb, if_pos ⟨by omega, by omega⟩, Nat.add_sub_cancel_left]
  · have : app P.data.toList [⟨(P1 : Int), s1⟩, ⟨(P2 : Int), s2⟩] = app P.data.toList [⟨(P2 : Int), s2⟩, ⟨(P1 : Int), s1⟩] := by
      apply List.ext_getElem?
      intro i
      rw [ga, gb]
      by_cases q1 : P1 ≤ i ∧ i < P1 + s1.size
      · rw [if_pos q1, if_pos q1, if_neg (by omega)]
      · rw [if_neg q1, if_neg q1]
    rw [this]
  · have e1 := get_some _ i h
    have e2 := get_some P i h'
    have : (bstr (app P.data.toList [⟨(P1 : Int), s1⟩, ⟨(P2 : Int), s2⟩])).data.toList[i]? = P.data.toList[i]? := by
      show (app P.data.toList _)[i]? = _
      rw [ga, if_neg n2, if_neg n1]
    rw [e1, e2] at this
    exact congrArg UInt8.toNat (Option.some.inj this)
end O

set_option maxRecDepth 1000000 in
set_option maxHeartbeats 8000000 in
theorem ModsEither_far (a0 : ByteArray) (p1 p2 : Int) (s1 s2 : ByteArray) (F : Nat) (W : World) (w0 : a0.size ≤ maxLen) (g1 : Md.ok ⟨p1, s1⟩) (g2 : Md.ok ⟨p2, s2⟩) (h : 1024 < a0.size ∨ 1024 < s1.size ∨ 1024 < s2.size) :
    Calls Try.prog 7 #[.string a0, .agg #[.int .i64 p1, .string s1], .agg #[.int .i64 p2, .string s2], .int .u8 F] W fun e w' => e = .returned (.bool true) ∧ Below W.heap.size W w' := by
  unfold maxLen at w0
  have HV := Lib.hid alive_any
  have y1 := g1.s
  have y2 := g2.s
  have HB0 := Lib.hid (((Below.refl W.heap.size W).alloc (Nat.le_refl _) (.cells #[.int .i64 p1, .string s1] 34)).alloc (by simp) (.cells #[.int .i64 p2, .string s2] 34))
  simp only at y1 y2
  have hc : (decide (1024 < (a0.size : Int)) = true ∧ decide (1024 < a0.size) = true) ∨ (decide (1024 < (a0.size : Int)) = false ∧ decide (1024 < a0.size) = false ∧ decide (1024 < (s1.size : Int)) = true ∧ decide (1024 < s1.size) = true) ∨ (decide (1024 < (a0.size : Int)) = false ∧ decide (1024 < a0.size) = false ∧ decide (1024 < (s1.size : Int)) = false ∧ decide (1024 < s1.size) = false ∧ decide (1024 < (s2.size : Int)) = true ∧ decide (1024 < s2.size) = true) := by
    by_cases q0 : 1024 < a0.size
    · exact .inl ⟨decide_eq_true (by omega), decide_eq_true q0⟩
    · by_cases q1 : 1024 < s1.size
      · exact .inr (.inl ⟨decide_eq_false (by omega), decide_eq_false q0, decide_eq_true (by omega), decide_eq_true q1⟩)
      · exact .inr (.inr ⟨decide_eq_false (by omega), decide_eq_false q0, decide_eq_false (by omega), decide_eq_false q1, decide_eq_true (by omega), decide_eq_true (by omega)⟩)
  clear h g1 g2
  rcases hc with ⟨c1, c2⟩ | ⟨c1, c2, c3, c4⟩ | ⟨c1, c2, c3, c4, c5, c6⟩
  all_goals
    go_enter Try.func7, Try.ntmps7
    go_wp2_with (go_at_call 11; (with_reducible refine (HV.out _).mono ?_); rintro e w4 ⟨rfl, b4⟩; have B4 := Lib.hid (HB0.out.trans (b4.mono HB0.out.size)); clear b4)
    go_ret
    exact ⟨rfl, B4.out⟩

namespace O
theorem box_of (W : World) (p1 p2 : Int) (s1 s2 : ByteArray) (w : World) (hb : Below (((W.alloc (.cells #[.int .i64 p1, .string s1] 34)).alloc (.cells #[.int .i64 p2, .string s2] 34))).heap.size ((W.alloc (.cells #[.int .i64 p1, .string s1] 34)).alloc (.cells #[.int .i64 p2, .string s2] 34)) w) :
    w.cell? ⟨W.heap.size, 0, none⟩ = some (.int .i64 p1) ∧ w.cell? ⟨W.heap.size, 1, none⟩ = some (.string s1) ∧ w.cell? ⟨W.heap.size + 1, 0, none⟩ = some (.int .i64 p2) ∧ w.cell? ⟨W.heap.size + 1, 1, none⟩ = some (.string s2) := by
  have h1 := R2.new W (.int .i64 p1) (.string s1)
  have h2 := R2.new (W.alloc (.cells #[.int .i64 p1, .string s1] 34)) (.int .i64 p2) (.string s2)
  rw [World.size_alloc] at h2
  have h1' : R2 ((W.alloc (.cells #[.int .i64 p1, .string s1] 34)).alloc (.cells #[.int .i64 p2, .string s2] 34)) W.heap.size (.int .i64 p1) (.string s1) := h1.of_block (Below.heap_alloc _ _ _ h1.lt)
  have k1 := h1'.below hb h1'.lt
  have k2 := h2.below hb h2.lt
  exact ⟨k1.at0, k1.at1, k2.at0, k2.at1⟩
end O

set_option maxRecDepth 1000000 in
set_option maxHeartbeats 8000000 in
theorem ModsEither_bad (a0 : ByteArray) (p1 p2 : Int) (s1 s2 : ByteArray) (F : Nat) (W : World) (h0 : a0.size ≤ 1024) (h1 : s1.size ≤ 1024) (h2 : s2.size ≤ 1024) (hF : F < 256) (g1 : Md.ok ⟨p1, s1⟩) (g2 : Md.ok ⟨p2, s2⟩) (h : ¬ (may 1024 ⟨p1, s1⟩ = true ∧ may 1024 ⟨p2, s2⟩ = true)) :
    Calls Try.prog 7 #[.string a0, .agg #[.int .i64 p1, .string s1], .agg #[.int .i64 p2, .string s2], .int .u8 F] W fun e w' => e = .returned (.bool true) ∧ Below W.heap.size W w' := by
  have HV := Lib.hid alive_any
  have c1 : decide (1024 < (a0.size : Int)) = false := decide_eq_false (by omega)
  have c2 : decide (1024 < a0.size) = false := decide_eq_false (by omega)
  have c3 : decide (1024 < (s1.size : Int)) = false := decide_eq_false (by omega)
  have c4 : decide (1024 < s1.size) = false := decide_eq_false (by omega)
  have c5 : decide (1024 < (s2.size : Int)) = false := decide_eq_false (by omega)
  have c6 : decide (1024 < s2.size) = false := decide_eq_false (by omega)
  have hpp := fun w => pages0 F a0 ⟨#[]⟩ w hF
  obtain ⟨PA, hA⟩ : ∃ P, bstr (pgl 1024 a0 F) = P := ⟨_, rfl⟩
  obtain ⟨PE, hE⟩ : ∃ P, bstr (pgl 1024 ⟨#[]⟩ F) = P := ⟨_, rfl⟩
  have hAs : PA.size = 1024 := by rw [← hA, bstr_size, pgl_length]
  rw [hA, hE] at hpp
  have HPP := Lib.hid hpp
  have HM1 := Lib.hid (fun w => may_any 1024 p1 s1 w g1.s)
  have HM2 := Lib.hid (fun w => may_any 1024 p2 s2 w g2.s)
  have HAp := Lib.hid (show ∀ w : World, Calls Try.prog 14 #[.string PA, .slice (some ⟨w.heap.size, 0, none⟩) 2 2] (w.alloc (.cells #[.int .i64 p1, .string s1, .int .i64 p2, .string s2] 34)) fun e w' => e = .returned (.tuple #[.string ⟨#[]⟩, .int .i64 2]) ∧ Below (w.alloc (.cells #[.int .i64 p1, .string s1, .int .i64 p2, .string s2] 34)).heap.size (w.alloc (.cells #[.int .i64 p1, .string s1, .int .i64 p2, .string s2] 34)) w' from fun w => by
    have hno : oks ((1024 : Nat) : Int) [⟨p1, s1⟩, ⟨p2, s2⟩] = false := by
      cases q : oks ((1024 : Nat) : Int) [⟨p1, s1⟩, ⟨p2, s2⟩] with
      | false => rfl
      | true => exact absurd ⟨oks_iff.1 q _ (List.mem_cons_self ..), oks_iff.1 q _ (List.mem_cons_of_mem _ (List.mem_singleton.2 rfl))⟩ h
    exact apply_is PA (some ⟨w.heap.size, 0, none⟩) 2 2 _ _ (IsMds.lit2 w p1 s1 p2 s2 g1 g2) (by omega) (apl_no (n := 1024) (by rw [size_list]; exact hAs) (by decide) hno))
  have HB0 := Lib.hid (((Below.refl W.heap.size W).alloc (Nat.le_refl _) (.cells #[.int .i64 p1, .string s1] 34)).alloc (by simp) (.cells #[.int .i64 p2, .string s2] 34))
  have HBx := Lib.hid (fun w hb => box_of W p1 p2 s1 s2 w hb)
  have hcase : may 1024 ⟨p1, s1⟩ = false ∨ (may 1024 ⟨p1, s1⟩ = true ∧ may 1024 ⟨p2, s2⟩ = false) := by
    cases q1 : may 1024 ⟨p1, s1⟩ with
    | false => exact .inl rfl
    | true =>
      cases q2 : may 1024 ⟨p2, s2⟩ with
      | false => exact .inr ⟨rfl, rfl⟩
      | true => exact absurd ⟨q1, q2⟩ h
  have hcase2 : (∃ m1 m2, may 1024 ⟨p1, s1⟩ = m1 ∧ may 1024 ⟨p2, s2⟩ = m2 ∧ (m1 = false ∨ (m1 = true ∧ m2 = false))) := ⟨_, _, rfl, rfl, hcase⟩
  obtain ⟨m1, m2, e1, e2, hm⟩ := hcase2
  rw [e1] at HM1
  rw [e2] at HM2
  obtain ⟨n1, n2⟩ := g1
  obtain ⟨n3, n4⟩ := g2
  clear h hcase e1 e2 hA hE hpp hAs n1 n2 n3 n4
  rcases hm with rfl | ⟨rfl, rfl⟩
  all_goals
    go_enter Try.func7, Try.ntmps7
    go_wp2_with (first
      | (go_at_call 27; (with_reducible refine (HPP.out _).mono ?_); rintro e w4 ⟨rfl, b4⟩; have D4 := Lib.hid b4; have B4 := Lib.hid (HB0.out.trans (b4.mono HB0.out.size)); obtain ⟨u0, u1, u2, u3⟩ := HBx.out _ b4; clear b4)
      | (go_at_call 16; (with_reducible refine (HM1.out _).mono ?_); rintro e w5 ⟨rfl, b5⟩; have D5 := Lib.hid (D4.out.trans (b5.mono D4.out.size)); have B5 := Lib.hid (B4.out.trans (b5.mono B4.out.size)); obtain ⟨v0, v1, v2, v3⟩ := HBx.out _ D5.out; clear b5)
      | (go_at_call 16; (with_reducible refine (HM2.out _).mono ?_); rintro e w6 ⟨rfl, b6⟩; have D6 := Lib.hid (D5.out.trans (b6.mono D5.out.size)); have B6 := Lib.hid (B5.out.trans (b6.mono B5.out.size)); obtain ⟨x0, x1, x2, x3⟩ := HBx.out _ D6.out; clear b6)
      | (go_at_call 14; (with_reducible refine (HAp.out _).mono ?_); rintro e w7 ⟨rfl, b7⟩; have B7 := Lib.hid (b7); clear b7)
      | (go_at_call 11; (with_reducible refine (HV.out _).mono ?_); rintro e w8 ⟨rfl, b8⟩; have B8 := Lib.hid b8; clear b8))
    go_ret
    refine ⟨rfl, ?_⟩
    first
      | (have q1 := B6.out.alloc B6.out.size (.cells #[.int .i64 p1, .string s1, .int .i64 p2, .string s2] 34)
         have q2 := q1.trans (B7.out.mono q1.size)
         exact q2.trans (B8.out.mono q2.size))
      | (have q1 := B5.out.alloc B5.out.size (.cells #[.int .i64 p1, .string s1, .int .i64 p2, .string s2] 34)
         have q2 := q1.trans (B7.out.mono q1.size)
         exact q2.trans (B8.out.mono q2.size))
end Go.Proofs.Ytbbfbijgclpjeaa
