/- ModsDiff returns true for any argument that its kinds hold. Conditions: none. -/
import Derived.Test.YtbbfbijgclpjeaaOdS
namespace Go.Proofs.Ytbbfbijgclpjeaa
open Go Go.RowKit M O
set_option linter.unusedVariables false
set_option linter.unusedSimpArgs false

namespace O
theorem cnt_le (D : Nat → Bool) (n : Nat) : cnt D n ≤ n := by
  induction n with
  | zero => exact Nat.le_refl _
  | succ n ih => simp only [cnt]; split <;> omega
theorem szs_map (b : ByteArray) (L : List (Nat × Nat)) (h : ∀ x ∈ L, x.2 ≤ b.size) : szs (L.map (sg b)) = (L.map fun x => 4 + (x.2 - x.1)).sum := by
  induction L with
  | nil => rfl
  | cons x L ih =>
    have e := sg_size (b := b) (x := x) (h x (List.mem_cons_self ..))
    simp only [List.map_cons, szs, List.sum_cons, e, ih (fun y hy => h y (List.mem_cons_of_mem _ hy))]
theorem dif_szs {a b : ByteArray} (hs : a.size = b.size) : szs (dif a b) ≤ 5 * cnt (df a b) a.size := by
  unfold dif
  rw [szs_map b _ (fun x hx => by rw [← hs]; exact (dif_segs hs x hx).le)]
  have := (dfs_all (D := df a b) (n := a.size) _ (nx_le 0) (fun g => nx_at g)).2.2.2.1
  omega
/-- what a difference is good for -/
structure DfG (a b : ByteArray) (n : Nat) (L : List Md) : Prop where
  e : difl a b = (L, 0)
  sz : szs L ≤ 90000
  ln : L.length ≤ 20000
  ap : apl a.data.toList L = (b.data.toList, 0)
  en : encl (n : Int) L = (enc L, 0)
  re : rpl a.data.toList (enc L) = (b.data.toList, 0)
  no : difl a (b ++ ⟨#[120]⟩) = ([], 2)
  nl : L.length = 0 ↔ a = b
theorem dfg {a b : ByteArray} {n : Nat} (ha : a.size = n) (hb : b.size = n) (hp : pg (n : Int) = true) : DfG a b n (dif a b) := by
  subst ha
  have hs : a.size = b.size := hb.symm
  have hle := pg_le hp
  have hz := dif_szs hs
  have hc := cnt_le (df a b) a.size
  have hok : oks (a.size : Int) (dif a b) = true := oks_iff.2 (dif_may hs hp)
  have hap : apl a.data.toList (dif a b) = (b.data.toList, 0) := by
    unfold apl
    rw [size_list, hp, hok, dif_app hs hp]; rfl
  refine ⟨if_pos ⟨hs, hp⟩, by omega, by have := dif_length hs; omega, hap, by unfold encl; rw [hok]; rfl, ?_, if_neg (fun q => ?_), ?_⟩
  · rw [apl_good (l := dif a b), hap]
    rw [size_list]
    exact decl_some hp (dec_all (dif_may hs hp))
  · have := q.1
    rw [ByteArray.size_append] at this
    have e : (⟨#[120]⟩ : ByteArray).size = 1 := rfl
    omega
  · rw [List.length_eq_zero_iff]
    exact dif_nil hs
theorem diff_x {a b : ByteArray} {n : Nat} {L : List Md} (g : DfG a b n L) (w : World) (ha : a.size ≤ 100000000) (hb : (b ++ (⟨#[120]⟩ : ByteArray)).size ≤ 100000000) :
    Calls Try.prog 28 #[.string a, .string (b ++ ⟨#[120]⟩)] w fun e w' => ∃ A m c, e = .returned (.tuple #[.slice A m c, .int .i64 2]) ∧ Below w.heap.size w w' := by
  have h := g.no
  obtain ⟨x, hx⟩ : ∃ x, b ++ (⟨#[120]⟩ : ByteArray) = x := ⟨_, rfl⟩
  rw [hx] at h hb ⊢
  refine (diff_any a x w ha hb).mono ?_
  rintro e w' ⟨A, m, c, q1, q2, _, _, q5⟩
  rw [h] at q1
  exact ⟨A, m, c, q1, q5⟩
theorem diff_g {a b : ByteArray} {n : Nat} {L : List Md} (g : DfG a b n L) (w : World) (ha : a.size ≤ 100000000) (hb : b.size ≤ 100000000) :
    Calls Try.prog 28 #[.string a, .string b] w fun e w' => ∃ A m c, e = .returned (.tuple #[.slice A m c, .int .i64 0]) ∧ IsMds w' A m L ∧ m = L.length ∧ Below w.heap.size w w' := by
  refine (diff_any a b w ha hb).mono ?_
  rintro e w' ⟨A, m, c, q1, q2, _, _, q5⟩
  rw [g.e] at q1 q2
  exact ⟨A, m, c, q1, q2, q2.leng.symm, q5⟩
theorem rdiff_g {a b : ByteArray} {n : Nat} {L : List Md} (g : DfG a b n L) (w : World) (ha : a.size ≤ 100000000) (hb : b.size ≤ 100000000) :
    Calls Try.prog 29 #[.string a, .string b] w fun e w' => ∃ A m c, e = .returned (.tuple #[.slice A m c, .int .i64 0]) ∧ IsMds w' A m L ∧ m = L.length ∧ Below w.heap.size w w' := by
  refine (rdiff_any a b w ha hb).mono ?_
  rintro e w' ⟨A, m, c, q1, q2, _, _, q5⟩
  rw [g.e] at q1 q2
  exact ⟨A, m, c, q1, q2, q2.leng.symm, q5⟩
end O

set_option maxRecDepth 1000000 in
set_option maxHeartbeats 4000000 in
theorem ModsDiff_walk (a0 a1 : ByteArray) (a2 a3 : Int) (W : World) (w0 : a0.size ≤ maxLen) (w1 : a1.size ≤ maxLen) (w2 : (Lit.int .u8 a2).wf = true) (w3 : (Lit.int .u8 a3).wf = true) :
    Calls Try.prog 5 #[.string a0, .string a1, .int .u8 a2, .int .u8 a3] W fun e w' => e = .returned (.bool true) ∧ Below W.heap.size W w' := by
  unfold maxLen at w0 w1
  have HV := Lib.hid alive_any
  obtain ⟨y1, y2⟩ := u8_bounds w2
  obtain ⟨y3, y4⟩ := u8_bounds w3
  clear w2 w3
  by_cases h1 : 16384 < a0.size
  · have d1 : decide (16384 < (a0.size : Int)) = true := decide_eq_true (by omega)
    have d1' : decide (16384 < a0.size) = true := decide_eq_true h1
    clear h1
    go_enter Try.func5, Try.ntmps5
    go_wp2_with (go_at_call 11; (with_reducible refine (HV.out _).mono ?_); rintro e w4 ⟨rfl, b4⟩; have B4 := Lib.hid b4; clear b4)
    go_ret
    exact ⟨rfl, B4.out⟩
  · have d1 : decide (16384 < (a0.size : Int)) = false := decide_eq_false (by omega)
    have d1' : decide (16384 < a0.size) = false := decide_eq_false h1
    by_cases h2 : 16384 < a1.size
    · have d2 : decide (16384 < (a1.size : Int)) = true := decide_eq_true (by omega)
      have d2' : decide (16384 < a1.size) = true := decide_eq_true h2
      clear h1 h2
      go_enter Try.func5, Try.ntmps5
      go_wp2_with (go_at_call 11; (with_reducible refine (HV.out _).mono ?_); rintro e w4 ⟨rfl, b4⟩; have B4 := Lib.hid b4; clear b4)
      go_ret
      exact ⟨rfl, B4.out⟩
    · have d2 : decide (16384 < (a1.size : Int)) = false := decide_eq_false (by omega)
      have d2' : decide (16384 < a1.size) = false := decide_eq_false h2
      obtain ⟨F, rfl⟩ := Int.eq_ofNat_of_zero_le y3
      have hpp := fun w => pages_any F a0 a1 a2 w (by omega) y1 y2
      obtain ⟨n, hn⟩ : ∃ n, pgn a2 = n := ⟨_, rfl⟩
      have hpg := pgn_pg a2
      rw [hn] at hpp hpg
      obtain ⟨PA, hA⟩ : ∃ P, bstr (pgl n a0 F) = P := ⟨_, rfl⟩
      obtain ⟨PB, hB⟩ : ∃ P, bstr (pgl n a1 F) = P := ⟨_, rfl⟩
      have hAs : PA.size = n := by rw [← hA, bstr_size, pgl_length]
      have hBs : PB.size = n := by rw [← hB, bstr_size, pgl_length]
      rw [hA, hB] at hpp
      have HPP := Lib.hid hpp
      have hG := dfg hAs hBs hpg.1
      obtain ⟨L, hL⟩ : ∃ L, dif PA PB = L := ⟨_, rfl⟩
      rw [hL] at hG
      have HDf := Lib.hid (fun w => diff_g hG w (by omega) (by omega))
      have HDr := Lib.hid (fun w => rdiff_g hG w (by omega) (by omega))
      have hxs : (PB ++ (⟨#[120]⟩ : ByteArray)).size = n + 1 := by rw [ByteArray.size_append, hBs]; rfl
      have HDx := Lib.hid (fun w => diff_x hG w (by omega) (by omega))
      obtain ⟨k, hk⟩ : ∃ k, L.length = k := ⟨_, rfl⟩
      have HAp := Lib.hid (show ∀ w A c, IsMds w A k L → Calls Try.prog 14 #[.string PA, .slice A k c] w fun e w' => e = .returned (.tuple #[.string PB, .int .i64 0]) ∧ Below w.heap.size w w' from fun w A c hi => by
        have := apply_any PA A k c L w hi (by omega)
        rwa [hG.ap, bstr_data] at this)
      obtain ⟨LG, hLG⟩ : ∃ S, bstr (enc L) = S := ⟨_, rfl⟩
      have hLGs : LG.size ≤ 90000 := by rw [← hLG, bstr_size, enc_length]; exact hG.sz
      have HEn := Lib.hid (show ∀ w A c, IsMds w A k L → Calls Try.prog 12 #[.int .i64 n, .slice A k c] w fun e w' => e = .returned (.tuple #[.string LG, .int .i64 0]) ∧ Below w.heap.size w w' from fun w A c hi => by
        have := encode_any n A k c L w hi (by have := hG.sz; omega)
        rwa [hG.en, hLG] at this)
      have HRe := Lib.hid (show ∀ w, Calls Try.prog 24 #[.string PA, .string LG] w fun e w' => e = .returned (.tuple #[.string PB, .int .i64 0]) ∧ Below w.heap.size w w' from fun w => by
        have := replay_any PA LG w (by omega) (by omega)
        rw [show LG.data.toList = enc L by rw [← hLG]; rfl, hG.re, bstr_data] at this
        exact this)
      have HS := Lib.hid (show ∀ A B c c' w, IsMds w A k L → IsMds w B k L → Calls Try.prog 26 #[.slice A k c, .slice B k c'] w fun e w' => e = .returned (.bool true) ∧ Below w.heap.size w w' from fun A B c c' w i1 i2 => by
        have := rsame_any A B k c k c' L L w i1 i2 (by have := hG.ln; omega) (by have := hG.ln; omega)
        rwa [decide_eq_true rfl] at this)
      obtain ⟨z, hz⟩ : ∃ z, decide (PA = PB) = z := ⟨_, rfl⟩
      have t1 : (PA.toList == PB.toList) = z := by rw [str_eq, hz]
      have t2 : ((k : Int) == 0) = z := by
        rw [← hz, ← hk]
        by_cases q : PA = PB
        · rw [decide_eq_true q, hG.nl.2 q]; rfl
        · rw [decide_eq_false q, beq_eq_false_iff_ne]
          intro g
          exact q (hG.nl.1 (by omega))
      have t3 : (k == 0) = z := by
        rw [← t2]
        by_cases q : k = 0
        · rw [q]; rfl
        · rw [beq_eq_false_iff_ne.2 q, beq_eq_false_iff_ne.2 (show (k : Int) ≠ 0 by omega)]
      have HK := Lib.hid hk
      have a4 : PB.size + 1 ≤ 9223372036854775807 := by omega
      have HAs := Lib.hid hAs
      have t4 : (PA.size : Int) = (n : Int) := by omega
      clear h1 h2 hpp hn hpg hA hB hG hL hLG hxs hk hz hLGs hBs
      clear hAs
      go_enter Try.func5, Try.ntmps5
      go_wp2_with (first
        | (go_at_call 27; (with_reducible refine (HPP.out _).mono ?_); rintro e w4 ⟨rfl, b4⟩; have B4 := Lib.hid b4; clear b4)
        | (go_at_call 28; (with_reducible refine (HDf.out _).mono ?_); rintro e w5 ⟨A, m, c, rfl, i5, rfl, b5⟩; rw [HK.out] at i5 ⊢; have I5 := Lib.hid i5; have B5 := Lib.hid (B4.out.trans (b5.mono B4.out.size)); clear i5 b5)
        | (go_at_call 29; (with_reducible refine (HDr.out _).mono ?_); rintro e w6 ⟨A', m', c', rfl, i6, rfl, b6⟩; rw [HK.out] at i6 ⊢; have J6 := Lib.hid i6; have I6 := Lib.hid (I5.out.below b6); have B6 := Lib.hid (B5.out.trans (b6.mono B5.out.size)); clear i6 b6)
        | (go_at_call 14; (with_reducible refine (HAp.out _ _ _ I6.out).mono ?_); rintro e w7 ⟨rfl, b7⟩; have I7 := Lib.hid (I6.out.below b7); have J7 := Lib.hid (J6.out.below b7); have B7 := Lib.hid (B6.out.trans (b7.mono B6.out.size)); clear b7)
        | (go_at_call 12; (with_reducible refine (HEn.out _ _ _ I7.out).mono ?_); rintro e w8 ⟨rfl, b8⟩; have I8 := Lib.hid (I7.out.below b8); have J8 := Lib.hid (J7.out.below b8); have B8 := Lib.hid (B7.out.trans (b8.mono B7.out.size)); clear b8)
        | (go_at_call 24; (with_reducible refine (HRe.out _).mono ?_); rintro e w9 ⟨rfl, b9⟩; have I9 := Lib.hid (I8.out.below b9); have J9 := Lib.hid (J8.out.below b9); have B9 := Lib.hid (B8.out.trans (b9.mono B8.out.size)); clear b9)
        | (go_at_call 28; (with_reducible refine (HDx.out _).mono ?_); rintro e w10 ⟨A'', m'', c'', rfl, b10⟩; have I10 := Lib.hid (I9.out.below b10); have J10 := Lib.hid (J9.out.below b10); have B10 := Lib.hid (B9.out.trans (b10.mono B9.out.size)); clear b10)
        | (go_at_call 26; (with_reducible refine (HS.out _ _ _ _ _ I10.out J10.out).mono ?_); rintro e w11 ⟨rfl, b11⟩; have B11 := Lib.hid (B10.out.trans (b11.mono B10.out.size)); clear b11)
        | (go_at_call 11; (with_reducible refine (HV.out _).mono ?_); rintro e w12 ⟨rfl, b12⟩; have B12 := Lib.hid (B11.out.trans (b12.mono B11.out.size)); clear b12))
      go_ret
      exact ⟨rfl, B12.out⟩
end Go.Proofs.Ytbbfbijgclpjeaa
