/- ParseBack returns true for any arguments: the tokens are the text. Conditions: none but what the levels' variable holds. -/
import Derived.Test.YthemndeljjampaaDoorPtk
import Derived.Test.YthemndeljjampaaDoorTkJ
namespace Go.Proofs.YthemndeljjampaaDoor
open Go Go.RowKit M
open Q (Owq lits lits_length)
set_option linter.unusedVariables false
set_option linter.unusedSimpArgs false

theorem bt_append (s t : ByteArray) : bt (s ++ t) = bt s ++ bt t := by
  show (s ++ t).data.toList = s.data.toList ++ t.data.toList
  rw [ByteArray.data_append, Array.toList_append]
theorem byt_right (s t : ByteArray) (j : Nat) : byt (s ++ t) (s.size + j) = byt t j := by
  have h : ∀ u : ByteArray, ∀ i, byt u i = ((bt u).getD i 0).toNat := fun u i => rfl
  rw [h, h, bt_append, List.getD, List.getD, List.getElem?_append_right (by rw [bt_len]; omega), bt_len, show s.size + j - s.size = j by omega]
theorem take_left (s t : ByteArray) : (bt (s ++ t)).take s.size = bt s := by
  rw [bt_append, List.take_append_of_le_length (by rw [bt_len]; exact Nat.le_refl _), List.take_of_length_le (by rw [bt_len]; exact Nat.le_refl _)]
theorem drop_left (s t : ByteArray) : (bt (s ++ t)).drop s.size = bt t := by
  rw [bt_append, List.drop_append_of_le_length (by rw [bt_len]; exact Nat.le_refl _), List.drop_of_length_le (by rw [bt_len]; exact Nat.le_refl _), List.nil_append]
/-- bytes alone are the text -/
theorem run_lits (D t : ByteArray) (ht : t.size ≤ 1048576) : ∀ j, j ≤ t.size → ∀ rest, run D.size (bt D) (lits t j ++ rest) = run D.size ((bt (D ++ t)).take (D.size + j)) rest
  | 0, _, rest => by rw [Nat.add_zero, take_left]; rfl
  | j + 1, hj, rest => by
    have hsz : (D ++ t).size = D.size + t.size := ByteArray.size_append
    have hs := step_lit (s := D ++ t) (k := D.size + j) (d0 := D.size) (by omega) (by omega) (by omega)
    have hl : lit t j = lit (D ++ t) (D.size + j) := by unfold lit; rw [byt_right]
    rw [Q.lits_succ, List.append_assoc, run_lits D t ht j (by omega), hl]
    show run _ _ (lit (D ++ t) (D.size + j) :: rest) = _
    rw [run_go (by rw [hs]), hs]
    rfl
theorem txt_of_run {D : List UInt8} {L : List Tk} {b : List UInt8} (h : run D.length D L = (0, b)) : txt D L = (b.drop D.length, 0) := by
  rw [txt_ok (by rw [h]), h]
/-- the tokens are the text -/
theorem txt_l10 (dict text : ByteArray) (i : Nat) (ht : text.size ≤ 1048576) : txt (bt (cutd dict)) (l10 dict text i) = (bt text, 0) := by
  have hsz : (cutd dict ++ text).size = (cutd dict).size + text.size := ByteArray.size_append
  have hr : run (bt (cutd dict)).length (bt (cutd dict)) (l10 dict text i) = (0, bt (cutd dict ++ text)) := by
    rw [bt_len]
    unfold l10
    by_cases h : i = 0
    · rw [if_pos h]
      have := run_lits (cutd dict) text ht text.size (Nat.le_refl _) []
      rw [List.append_nil] at this
      rw [this, List.take_of_length_le (by rw [bt_len]; omega)]
      rfl
    · rw [if_neg h]
      have := run_G (cutd dict ++ text) (Q.lv i) (cutd dict).size (by omega) (cutd dict).size (0, 0) (Nat.le_refl _) (by omega) (fun h => absurd rfl h)
      rw [take_left] at this
      exact this
  rw [txt_of_run hr, bt_len, drop_left]
theorem l10_may (dict text : ByteArray) (i : Nat) : ∀ c ∈ l10 dict text i, may c = true ∧ (i = 0 → c.n = 0) := by
  unfold l10
  by_cases h : i = 0
  · rw [if_pos h]
    intro c hc
    obtain ⟨j, hj⟩ := List.mem_iff_getElem?.1 hc
    rw [(lits_at hj).2]
    exact ⟨by unfold may; rw [lit_byte]; rfl, fun _ => rfl⟩
  · rw [if_neg h]
    intro c hc
    exact ⟨(G_may _ _ _ (0, 0) (fun h => absurd rfl h) c hc).1, fun e => absurd e h⟩

set_option maxRecDepth 1000000 in
set_option maxHeartbeats 2000000 in
theorem ParseBack_walk (a0 a1 : ByteArray) (a2 : Int) (W : World) (w0 : a0.size ≤ maxLen) (w1 : a1.size ≤ maxLen) (w2 : (Lit.int .u8 a2).wf = true) (H : Lvs W) :
    Calls Tryd.prog 4 #[.string a0, .string a1, .int .u8 a2] W fun e w' => e = .returned (.bool true) ∧ Below W.heap.size W w' := by
  have hb := u8_bounds w2
  have HH := Lib.hid H
  have hm0 : a0.size ≤ 9223372036854775807 := by unfold maxLen at w0; omega
  have hm1 : a1.size ≤ 9223372036854775807 := by unfold maxLen at w1; omega
  by_cases h0 : 65536 < a0.size
  · have d0 : decide (65536 < (a0.size : Int)) = true := decide_eq_true (by omega)
    have d0' : decide (65536 < a0.size) = true := decide_eq_true h0
    clear h0 w0 w1 w2 H hb
    go_enter Tryd.func4, Tryd.ntmps4
    go_wp2_with (go_at_call 8; (with_reducible refine (works_any _ HH.out).mono ?_); rintro e w2 ⟨rfl, b2⟩; have B2 := Lib.hid b2; clear b2)
    go_ret
    exact ⟨rfl, B2.out⟩
  have d0 : decide (65536 < (a0.size : Int)) = false := decide_eq_false (by omega)
  have d0' : decide (65536 < a0.size) = false := decide_eq_false h0
  by_cases h1 : 8192 < a1.size
  · have d1 : decide (8192 < (a1.size : Int)) = true := decide_eq_true (by omega)
    have d1' : decide (8192 < a1.size) = true := decide_eq_true h1
    clear h0 h1 w0 w1 w2 H hb
    go_enter Tryd.func4, Tryd.ntmps4
    go_wp2_with (go_at_call 8; (with_reducible refine (works_any _ HH.out).mono ?_); rintro e w2 ⟨rfl, b2⟩; have B2 := Lib.hid b2; clear b2)
    go_ret
    exact ⟨rfl, B2.out⟩
  have d1 : decide (8192 < (a1.size : Int)) = false := decide_eq_false (by omega)
  have d1' : decide (8192 < a1.size) = false := decide_eq_false h1
  obtain ⟨i, hi0⟩ : ∃ i : Nat, a2 % 10 = (i : Int) := ⟨(a2 % 10).toNat, by omega⟩
  have hi : i ≤ 9 := by omega
  have HP := Lib.hid (tok_all a0 a1 i W H hi (by omega) (by omega))
  have hlen := l10_len a0 a1 i
  have hmay := l10_may a0 a1 i
  have htx := txt_l10 a0 a1 i (by omega)
  have hcs := cutd_size a0
  obtain ⟨ah, hah⟩ : ∃ ah, cutd a0 = ah := ⟨_, rfl⟩
  have Hah := Lib.hid hah
  rw [hah] at htx hcs
  obtain ⟨L, hL⟩ : ∃ L, l10 a0 a1 i = L := ⟨_, rfl⟩
  unfold TkR at HP
  rw [hL] at HP hlen hmay htx
  obtain ⟨n, hn⟩ : ∃ n, L.length = n := ⟨_, rfl⟩
  rw [hn] at HP hlen
  have HN := Lib.hid hn
  have hnb : n ≤ 1000000 := by omega
  have HT := Lib.hid (show ∀ (A : Option Addr) (c : Nat) (w : World), IsTks w A n L → Calls Tryd.prog 15 #[.string ah, .slice A n c] w fun e w' => e = .returned (.tuple #[.string a1, .int .i64 0]) ∧ Below w.heap.size w w' from fun A c w h => by
    have h2 := rtext_any ah A n c L w h hnb (by omega)
    have e : txt ah.data.toList L = (bt a1, 0) := htx
    rw [e] at h2
    have e2 : (⟨(bt a1).toArray⟩ : ByteArray) = a1 := by show (⟨a1.data.toList.toArray⟩ : ByteArray) = a1; rw [Array.toArray_toList]
    rw [e2] at h2
    exact h2)
  have HM := Lib.hid hmay
  have HW := Lib.hid (And.intro w0 w1)
  have HHi := Lib.hid (And.intro hi h0)
  obtain ⟨hb1, hb2⟩ := hb
  have hi9 : i ≤ 9 := hi
  clear h0 h1 w0 w1 w2 H hah hL hn hlen hmay htx hcs hi
  go_enter Tryd.func4, Tryd.ntmps4
  go_wp2_with (go_at_call 9; (with_reducible refine HP.out.mono ?_); rintro e w2 ⟨A, c, rfl, i2, b2⟩; have I2 := Lib.hid i2; have B2 := Lib.hid b2; clear i2 b2)
  go_loopw [9] (fun x wr => ∃ k : Nat, k ≤ n ∧ x = .int .i64 k ∧ Below w2.heap.size w2 wr) (fun x _ => n - (intOf x).toNat)
  case atStart => exact ⟨0, Nat.zero_le _, rfl, Below.refl _ _⟩
  case round =>
    obtain ⟨k, hk, rfl, hbw⟩ := hrel
    by_cases hlt : k < n
    · have hI := I2.out.below hbw
      obtain ⟨b, o, hA, hbl, hc⟩ := hI.at (by omega)
      subst hA
      obtain ⟨c0, c1, c2⟩ := hc k hlt
      have hmm := HM.out (L.getD k default) (by rw [List.getD, List.getElem?_eq_getElem (by rw [HN.out]; exact hlt)]; exact List.getElem_mem _)
      obtain ⟨t, ht⟩ : ∃ t, L.getD k default = t := ⟨_, rfl⟩
      rw [ht] at c0 c1 c2 hmm
      obtain ⟨tl, tn, td⟩ := t
      obtain ⟨hmy, hz⟩ := hmm
      simp only at c0 c1 c2 hz
      have hM := rmay_any tl tn td
      rw [hmy] at hM
      have HMy := Lib.hid hM
      have HB := Lib.hid hbw
      have d2 : decide ((k : Int) < (n : Int)) = true := decide_eq_true (by omega)
      have d2' : decide (k < n) = true := decide_eq_true hlt
      clear hM hmy hI hc ht hbw
      by_cases hiz : i = 0
      · have hz0 := hz hiz
        subst hz0
        have e0 : ((i : Int) == 0) = true := by rw [beq_iff_eq]; omega
        have e0' : (i == 0) = true := by rw [beq_iff_eq]; exact hiz
        clear hz hiz
        go_wp2_with (go_at_call 14; (with_reducible refine (HMy.out _).mono ?_); rintro e w3 ⟨rfl, b3⟩; have k1 := (b3.cell (p := ⟨b, o + k * 3 + 1, none⟩) hbl).trans c1; have B3 := Lib.hid (HB.out.trans (b3.mono HB.out.size)); clear b3)
        go_roundw
        case rel => exact ⟨k + 1, by omega, by go_num, B3.out⟩
        case measure => (simp [intOf]; try omega)
      · have e0 : ((i : Int) == 0) = false := by rw [beq_eq_false_iff_ne]; omega
        have e0' : (i == 0) = false := by rw [beq_eq_false_iff_ne]; exact hiz
        clear hz hiz
        go_wp2_with (go_at_call 14; (with_reducible refine (HMy.out _).mono ?_); rintro e w3 ⟨rfl, b3⟩; have B3 := Lib.hid (HB.out.trans (b3.mono HB.out.size)); clear b3)
        go_roundw
        case rel => exact ⟨k + 1, by omega, by go_num, B3.out⟩
        case measure => (simp [intOf]; try omega)
    · have d2 : decide ((k : Int) < (n : Int)) = false := decide_eq_false (by omega)
      have d2' : decide (k < n) = false := decide_eq_false hlt
      have HB := Lib.hid (B2.out.trans (hbw.mono B2.out.size))
      have I3 := Lib.hid (I2.out.below hbw)
      clear hbw
      by_cases hlg : 32768 < a0.size
      · have d3 : decide (32768 < (a0.size : Int)) = true := decide_eq_true (by omega)
        have d3' : decide (32768 < a0.size) = true := decide_eq_true hlg
        obtain ⟨lo, hlo⟩ : ∃ lo, a0.size - 32768 = lo := ⟨_, rfl⟩
        have elo : (a0.size : Int) - 32768 = (lo : Int) := by omega
        have hlo2 : lo ≤ a0.size := by omega
        have hlo3 : lo ≤ 1000000 := by have := HHi.out; omega
        have hex : a0.extract lo a0.size = ah := by rw [← Hah.out, ← hlo]; rfl
        clear hlo hlg
        go_wp2_with (first
          | (go_at_call 15; (with_reducible refine (HT.out A c _ I3.out).mono ?_); rintro e w4 ⟨rfl, b4⟩; have B4 := Lib.hid (HB.out.trans (b4.mono HB.out.size)); clear b4)
          | (go_at_call 8; (with_reducible refine (works_any _ (HH.out.below B4.out (Nat.le_refl _))).mono ?_); rintro e w5 ⟨rfl, b5⟩; have B5 := Lib.hid (B4.out.trans (b5.mono B4.out.size)); clear b5))
        go_ret
        exact ⟨rfl, B5.out⟩
      · have d3 : decide (32768 < (a0.size : Int)) = false := decide_eq_false (by omega)
        have d3' : decide (32768 < a0.size) = false := decide_eq_false hlg
        obtain rfl : a0 = ah := by rw [← Hah.out, cutd_all (by omega)]
        clear hlg
        go_wp2_with (first
          | (go_at_call 15; (with_reducible refine (HT.out A c _ I3.out).mono ?_); rintro e w4 ⟨rfl, b4⟩; have B4 := Lib.hid (HB.out.trans (b4.mono HB.out.size)); clear b4)
          | (go_at_call 8; (with_reducible refine (works_any _ (HH.out.below B4.out (Nat.le_refl _))).mono ?_); rintro e w5 ⟨rfl, b5⟩; have B5 := Lib.hid (B4.out.trans (b5.mono B4.out.size)); clear b5))
        go_ret
        exact ⟨rfl, B5.out⟩
end Go.Proofs.YthemndeljjampaaDoor
