/- What the document's Apply of layer 18 answers, and Replay of both. Conditions: as each theorem names them. -/
import Derived.Test.YtbbfbijgclpjeaaOdJ
import Derived.Test.YtbbfbijgclpjeaaOdH
namespace Go.Proofs.Ytbbfbijgclpjeaa.O
open Go Go.RowKit M
set_option linter.unusedVariables false
set_option linter.unusedSimpArgs false

theorem put_bstr (t : List UInt8) (P : Nat) (s : ByteArray) : bstr (put t ⟨(P : Int), s⟩) = (bstr t).extract 0 P ++ s ++ (bstr t).extract (P + s.size) (bstr t).size := by
  apply ByteArray.ext
  apply Array.ext'
  have h1 : (bstr t).size = t.length := bstr_size t
  show put t ⟨(P : Int), s⟩ = _
  rw [ByteArray.data_append, ByteArray.data_append, Array.toList_append, Array.toList_append, ByteArray.data_extract, ByteArray.data_extract, Array.toList_extract, Array.toList_extract, List.extract_eq_take_drop, List.extract_eq_take_drop, h1]
  show t.take P ++ s.data.toList ++ t.drop (P + s.size) = (t.drop 0).take (P - 0) ++ s.data.toList ++ (t.drop (P + s.size)).take (t.length - (P + s.size))
  rw [List.drop_zero, Nat.sub_zero, List.take_of_length_le (l := t.drop (P + s.size)) (by rw [List.length_drop]; exact Nat.le_refl _)]

set_option maxRecDepth 1000000 in
set_option maxHeartbeats 2000000 in
theorem rapply_any (T : ByteArray) (A : Option Addr) (n c : Nat) (L : List Md) (W : World) (h : IsMds W A n L) (hT : T.size ≤ 100000000) :
    Calls Try.prog 15 #[.string T, .slice A n c] W fun e w' => e = .returned (.tuple #[.string (bstr (apl T.data.toList L).1), .int .i64 (apl T.data.toList L).2]) ∧ Below W.heap.size W w' := by
  have HP := Lib.hid (rpage_any (T.size : Int))
  have HH := Lib.hid h
  have hl := h.leng
  have HL := Lib.hid hl
  have hm := h.most
  unfold maxLen at hm
  unfold apl
  rw [size_list]
  cases hp : pg (T.size : Int) with
  | false =>
    rw [hp] at HP
    show Calls _ _ _ _ fun e w' => e = .returned (.tuple #[.string ⟨#[]⟩, .int .i64 2]) ∧ _
    clear hp h hl hm
    go_enter Try.func15, Try.ntmps15
    go_wp2_with (go_at_call 19; (with_reducible refine (HP.out _).mono ?_); rintro e w' ⟨rfl, rfl⟩)
    go_ret2
    exact ⟨rfl, Below.refl _ _⟩
  | true =>
    rw [hp] at HP
    obtain ⟨hp1, hp2⟩ := pg_le hp
    obtain ⟨X, Y, hXY⟩ : ∃ X Y, (if true && oks (T.size : Int) L then (app T.data.toList L, (0 : Int)) else ([], 2)) = (X, Y) := ⟨_, _, rfl⟩
    rw [hXY]
    have HXY := Lib.hid hXY
    clear hp h hl hXY
    show Calls _ _ _ _ fun e w' => e = .returned (.tuple #[.string (bstr X), .int .i64 Y]) ∧ _
    go_enter Try.func15, Try.ntmps15
    go_wp2_with (go_at_call 19; (with_reducible refine (HP.out _).mono ?_); rintro e w' ⟨rfl, rfl⟩)
    go_loopw [6, 7] (fun v i wr => ∃ (k : Nat) (S : ByteArray), k ≤ n ∧ i = .int .i64 k ∧ v = .string S ∧ S = bstr (app T.data.toList (L.take k)) ∧ (∀ j, j < k → may (T.size : Int) (L.getD j default) = true) ∧ Below W.heap.size W wr) (fun _ i _ => n - (intOf i).toNat)
    case atStart => exact ⟨0, T, Nat.zero_le _, rfl, rfl, (bstr_data T).symm, fun j hj => absurd hj (by omega), Below.refl _ _⟩
    case round =>
      obtain ⟨k, S, hk, rfl, rfl, hS, hmy, hb⟩ := hrel
      have HB := Lib.hid hb
      have HP2 := Lib.hid hmy
      by_cases hlt : k < n
      · obtain ⟨b, o, rfl, hbl, hc⟩ := (HH.out.below hb).at (by omega)
        obtain ⟨c0, c1⟩ := hc k hlt
        have hg := app_snoc (t := T.data.toList) (L := L) (k := k) (by rw [HL.out]; exact hlt)
        have hok := good_at HH.out hlt
        obtain ⟨m, hm'⟩ : ∃ m, L.getD k default = m := ⟨_, rfl⟩
        rw [hm'] at c0 c1 hg hok
        have HM := Lib.hid hm'
        obtain ⟨p, s⟩ := m
        simp only at c0 c1
        have HA := Lib.hid (fun w => rmay_any (T.size : Int) p s w hok.s)
        have d1 : decide ((k : Int) < (n : Int)) = true := decide_eq_true (by omega)
        have d1' : decide (k < n) = true := decide_eq_true hlt
        cases hq : may (T.size : Int) ⟨p, s⟩ with
        | false =>
          rw [hq] at HA
          have hxy : (X, Y) = ([], 2) := by
            rw [← HXY.out, oks_not (j := k) (by rw [HL.out]; exact hlt) (by rw [HM.out]; exact hq)]; rfl
          injection hxy with hX hY
          subst hX hY
          clear hc hm' hb hg hok hbl hq hS hmy
          go_wp2_with (go_at_call 17; (with_reducible refine (HA.out _).mono ?_); rintro e w1 ⟨rfl, b1⟩; have B1 := Lib.hid ((HB.out.alloc HB.out.size _).trans (b1.mono (by have := HB.out.size; simp; omega))); clear b1)
          go_ret2
          exact ⟨rfl, B1.out⟩
        | true =>
          rw [hq] at HA
          have HQ := Lib.hid hq
          obtain ⟨y1, y2, y3, y4⟩ := may_iff.1 hq
          simp only at y2 y3 y4
          obtain ⟨P, rfl⟩ := Int.eq_ofNat_of_zero_le y2
          have hal : S.size = T.size := by
            rw [hS, bstr_size]
            exact app_length _ _ (size_list T) (oks_of (n := k) (by rw [List.length_take, HL.out]; omega) (fun j hj => by
              have := hmy j hj
              rwa [List.getD, List.getElem?_take, if_pos hj, ← List.getD]))
          have hpb := put_bstr (app T.data.toList (L.take k)) P s
          rw [← hg, ← hS] at hpb
          obtain ⟨q, hqq⟩ : ∃ q, P + s.size = q := ⟨_, rfl⟩
          rw [hqq] at hpb
          obtain ⟨U, hU⟩ : ∃ U, S.extract 0 P = U := ⟨_, rfl⟩
          obtain ⟨V, hV⟩ : ∃ V, S.extract q S.size = V := ⟨_, rfl⟩
          have u1 : U.size = P := by rw [← hU, ByteArray.size_extract]; omega
          have v1 : V.size = S.size - q := by rw [← hV, ByteArray.size_extract]; omega
          rw [hU, hV] at hpb
          have uv : (U ++ s).size = q := by rw [ByteArray.size_append, u1, hqq]
          have a1 : U.size + s.size ≤ 9223372036854775807 := by omega
          have a2 : (U ++ s).size + V.size ≤ 9223372036854775807 := by omega
          have a3 : IntKind.i64.wrap ((P : Int) + (s.size : Int)) = (q : Int) := by rw [IntWalk.i64_in _ ⟨by omega, by omega⟩]; omega
          have a4 : q ≤ S.size := by omega
          have a5 : P ≤ S.size := by omega
          have HPB := Lib.hid hpb
          have HT2 := Lib.hid hal
          clear hc hm' hb hg hok hbl hq hS hmy y1 y2 y3 y4 hal hqq hpb u1 v1 uv
          go_wp2_with (go_at_call 17; (with_reducible refine (HA.out _).mono ?_); rintro e w1 ⟨rfl, b1⟩; have R1 := Lib.hid ((R2.new wr (.int .i64 (P : Int)) (.string s)).below b1 (by simp)); have B1 := Lib.hid ((HB.out.alloc HB.out.size _).trans (b1.mono (by have := HB.out.size; simp; omega))); clear b1; have c2 := R1.out.at0; have c3 := R1.out.at1)
          go_quiet (fail)
          go_wp2_with fail
          go_roundw
          case rel => exact ⟨k + 1, _, by omega, by go_num, rfl, HPB.out.symm, fun j hj => (by
            by_cases c : j = k
            · subst c; rw [HM.out]; exact HQ.out
            · exact HP2.out j (by omega)), bel_n B1.out _⟩
          case measure => simp [intOf]; omega
      · obtain rfl : k = n := by omega
        have e : L.take k = L := List.take_of_length_le (by rw [HL.out]; exact Nat.le_refl _)
        rw [e] at hS
        have hxy : (X, Y) = (app T.data.toList L, 0) := by
          rw [← HXY.out, oks_of HL.out (fun j hj => hmy j hj)]; rfl
        injection hxy with hX hY
        subst hX hY hS
        clear e hb hmy
        go_wp2_with fail
        go_ret2
        exact ⟨rfl, HB.out⟩

/-! Replay -/
theorem apl_bad {t : List UInt8} {e : Int} {l : List Md} {s : List UInt8} (h : decl (t.length : Int) s = (l, e)) (he : e ≠ 0) : rpl t s = ([], e) := by
  unfold rpl; rw [h]; exact if_neg he
theorem apl_good {t : List UInt8} {l : List Md} {s : List UInt8} (h : decl (t.length : Int) s = (l, 0)) : rpl t s = apl t l := by
  unfold rpl; rw [h]; exact if_pos rfl
theorem decl_err (n : Int) (s : List UInt8) : (decl n s).2 = 0 ∨ (decl n s).2 = 2 ∨ (decl n s).2 = 7 := by
  cases hp : pg n with
  | false => rw [decl_arg hp]; exact .inr (.inl rfl)
  | true =>
    cases hd : dec n s with
    | none => rw [decl_none hp hd]; exact .inr (.inr rfl)
    | some l => rw [decl_some hp hd]; exact .inl rfl
set_option maxHeartbeats 1000000 in
theorem replay_any (T S : ByteArray) (W : World) (hT : T.size ≤ 100000000) (hS : S.size ≤ 100000) :
    Calls Try.prog 24 #[.string T, .string S] W fun e w' => e = .returned (.tuple #[.string (bstr (rpl T.data.toList S.data.toList).1), .int .i64 (rpl T.data.toList S.data.toList).2]) ∧ Below W.heap.size W w' := by
  have hD := fun w => decode_any (T.size : Int) S w hS
  have her := decl_err (T.size : Int) S.data.toList
  have HA := Lib.hid (fun A n c L w hi => apply_any T A n c L w hi hT)
  obtain ⟨L, E, hLE⟩ : ∃ L E, decl (T.size : Int) S.data.toList = (L, E) := ⟨_, _, rfl⟩
  have HD := Lib.hid (show ∀ w, Calls Try.prog 22 #[.int .i64 T.size, .string S] w fun e w' => ∃ A n c, e = .returned (.tuple #[.slice A n c, .int .i64 E]) ∧ IsMds w' A n L ∧ Below w.heap.size w w' from fun w => (hD w).mono (fun e w' ⟨A, n, c, h1, h2, _, _, h5⟩ => by rw [hLE] at h1 h2; exact ⟨A, n, c, h1, h2, h5⟩))
  rw [hLE] at her
  rw [← size_list T] at hLE
  by_cases hE : E = 0
  · subst hE
    rw [apl_good hLE]
    clear hD her hLE
    go_enter Try.func24, Try.ntmps24
    go_wp2_with (first
      | (go_at_call 22; (with_reducible refine (HD.out _).mono ?_); rintro e w1 ⟨A, n, c, rfl, i1, b1⟩; have I1 := Lib.hid i1; have B1 := Lib.hid b1; clear i1 b1)
      | (go_at_call 14; (with_reducible refine (HA.out _ _ _ _ _ I1.out).mono ?_); rintro e w2 ⟨rfl, b2⟩; have B2 := Lib.hid (B1.out.trans (b2.mono B1.out.size)); clear b2))
    go_ret2
    exact ⟨rfl, B2.out⟩
  · rw [apl_bad hLE hE]
    have he : (E != 0) = true := by rw [bne_iff_ne]; exact hE
    have her' : E = 2 ∨ E = 7 := by simp only at her; omega
    clear hD her hLE hE
    go_enter Try.func24, Try.ntmps24
    go_wp2_with (go_at_call 22; (with_reducible refine (HD.out _).mono ?_); rintro e w1 ⟨A, n, c, rfl, i1, b1⟩; have B1 := Lib.hid b1; clear i1 b1)
    go_ret2
    exact ⟨rfl, B1.out⟩
set_option maxHeartbeats 1000000 in
theorem rreplay_any (T S : ByteArray) (W : World) (hT : T.size ≤ 100000000) (hS : S.size ≤ 100000) :
    Calls Try.prog 25 #[.string T, .string S] W fun e w' => e = .returned (.tuple #[.string (bstr (rpl T.data.toList S.data.toList).1), .int .i64 (rpl T.data.toList S.data.toList).2]) ∧ Below W.heap.size W w' := by
  have hD := fun w => rdecode_any (T.size : Int) S w hS
  have HA := Lib.hid (fun A n c L w hi => rapply_any T A n c L w hi hT)
  obtain ⟨L, E, hLE⟩ : ∃ L E, decl (T.size : Int) S.data.toList = (L, E) := ⟨_, _, rfl⟩
  have HD := Lib.hid (show ∀ w, Calls Try.prog 23 #[.int .i64 T.size, .string S] w fun e w' => ∃ A n c, e = .returned (.tuple #[.slice A n c, .int .i64 E]) ∧ IsMds w' A n L ∧ Below w.heap.size w w' from fun w => (hD w).mono (fun e w' ⟨A, n, c, h1, h2, _, _, h5⟩ => by rw [hLE] at h1 h2; exact ⟨A, n, c, h1, h2, h5⟩))
  rw [← size_list T] at hLE
  by_cases hE : E = 0
  · subst hE
    rw [apl_good hLE]
    clear hD hLE
    go_enter Try.func25, Try.ntmps25
    go_wp2_with (first
      | (go_at_call 23; (with_reducible refine (HD.out _).mono ?_); rintro e w1 ⟨A, n, c, rfl, i1, b1⟩; have I1 := Lib.hid i1; have B1 := Lib.hid b1; clear i1 b1)
      | (go_at_call 15; (with_reducible refine (HA.out _ _ _ _ _ I1.out).mono ?_); rintro e w2 ⟨rfl, b2⟩; have B2 := Lib.hid (B1.out.trans (b2.mono B1.out.size)); clear b2))
    go_ret2
    exact ⟨rfl, B2.out⟩
  · rw [apl_bad hLE hE]
    have he : (E != 0) = true := by rw [bne_iff_ne]; exact hE
    clear hD hLE hE
    go_enter Try.func25, Try.ntmps25
    go_wp2_with (go_at_call 23; (with_reducible refine (HD.out _).mono ?_); rintro e w1 ⟨A, n, c, rfl, i1, b1⟩; have B1 := Lib.hid b1; clear i1 b1)
    go_ret2
    exact ⟨rfl, B1.out⟩
end Go.Proofs.Ytbbfbijgclpjeaa.O
