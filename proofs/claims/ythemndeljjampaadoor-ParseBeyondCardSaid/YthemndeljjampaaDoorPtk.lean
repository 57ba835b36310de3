/- ParseTokens returns true for any arguments. Conditions: none but what the levels' variable holds. -/
import Derived.Test.YthemndeljjampaaDoorWka
namespace Go.Proofs.YthemndeljjampaaDoor
open Go Go.RowKit M
open Q (Owq lits lits_length)
set_option linter.unusedVariables false
set_option linter.unusedSimpArgs false

/-- the tokens of a text behind a dictionary, by a level -/
def l10 (dict text : ByteArray) (i : Nat) : List Tk := if i = 0 then lits text text.size else G (cutd dict ++ text) (Q.lv i) (cutd dict).size (0, 0)
theorem l10_len (dict text : ByteArray) (i : Nat) : (l10 dict text i).length ≤ text.size := by
  unfold l10
  by_cases h : i = 0
  · rw [if_pos h, lits_length]; exact Nat.le_refl _
  · rw [if_neg h]
    have := G_len (cutd dict ++ text) (Q.lv i) (cutd dict).size (0, 0) (fun h => absurd rfl h)
    rw [ByteArray.size_append] at this
    omega
theorem l10_ok (dict text : ByteArray) (i : Nat) : ∀ c ∈ l10 dict text i, c.ok := by
  unfold l10
  by_cases h : i = 0
  · rw [if_pos h]; exact lits_ok
  · rw [if_neg h]
    intro c hc
    obtain ⟨_, h1, h2, h3⟩ := G_may _ _ _ (0, 0) (fun h => absurd rfl h) c hc
    exact Tk.ok_of h1 ⟨h2.1, by omega⟩ ⟨h3.1, by omega⟩
theorem tok_all (dict text : ByteArray) (i : Nat) (W : World) (H : Lvs W) (hi : i ≤ 9) (hd : dict.size ≤ 1000000) (ht : text.size ≤ 1000000) :
    Calls Tryd.prog 9 #[.string dict, .string text, .int .i64 i] W (TkR W (l10 dict text i)) := by
  unfold l10
  by_cases h : i = 0
  · rw [if_pos h]; subst h; exact tokens_zero dict text W H (by omega)
  · rw [if_neg h]; exact tokens_any dict text i W H (by omega) hd ht
theorem rtok_all (dict text : ByteArray) (i : Nat) (W : World) (hi : i ≤ 9) (hd : dict.size ≤ 32768) (ht : text.size ≤ 1000000) :
    Calls Tryd.prog 10 #[.string dict, .string text, .int .i64 i] W fun e w' => ∃ A c, e = .returned (.tuple #[.slice A (l10 dict text i).length c, .int .i64 0]) ∧ IsTks w' A (l10 dict text i).length (l10 dict text i) ∧ Below W.heap.size W w' := by
  have h : Calls Tryd.prog 10 #[.string dict, .string text, .int .i64 i] W (Q.TkP W (l10 dict text i)) := by
    unfold l10
    by_cases h : i = 0
    · rw [if_pos h]; subst h; exact Q.rtokens_zero dict text W (by omega)
    · rw [if_neg h, cutd_all hd]; exact Q.rtokens_any dict text i W (by omega) hd ht
  refine h.mono ?_
  rintro e w' ⟨v, rfl, h1, h2⟩
  obtain ⟨A, c, rfl, hI⟩ := IsTks.of_owq h1 (l10_ok dict text i) (by have := l10_len dict text i; unfold maxLen; omega)
  exact ⟨A, c, rfl, hI, h2⟩

set_option maxRecDepth 1000000 in
set_option maxHeartbeats 2000000 in
theorem ParseTokens_walk (a0 a1 : ByteArray) (a2 : Int) (W : World) (w0 : a0.size ≤ maxLen) (w1 : a1.size ≤ maxLen) (w2 : (Lit.int .i64 a2).wf = true) (H : Lvs W) :
    Calls Tryd.prog 3 #[.string a0, .string a1, .int .i64 a2] W fun e w' => e = .returned (.bool true) ∧ Below W.heap.size W w' := by
  have hb := i64_bounds w2
  have hh := heavy_any a0 a1 W w0 w1
  have HH := Lib.hid H
  by_cases hv : 1024 < a0.size ∨ 2048 < a1.size
  · rw [decide_eq_true hv] at hh
    have HV := Lib.hid hh
    clear hh hv w0 w1 w2 H
    go_enter Tryd.func3, Tryd.ntmps3
    go_wp2_with (first
      | (go_at_call 7; (with_reducible refine HV.out.mono ?_); rintro e w1 ⟨rfl, rfl⟩)
      | (go_at_call 8; (with_reducible refine (works_any _ HH.out).mono ?_); rintro e w2 ⟨rfl, b2⟩; have B2 := Lib.hid b2; clear b2))
    go_ret
    exact ⟨rfl, B2.out⟩
  rw [decide_eq_false hv] at hh
  have HV := Lib.hid hh
  by_cases hl : 0 ≤ a2 ∧ a2 ≤ 9
  · obtain ⟨i, rfl⟩ : ∃ i : Nat, a2 = (i : Int) := ⟨a2.toNat, by omega⟩
    have hi : i ≤ 9 := by omega
    have HP := Lib.hid (tok_all a0 a1 i W H hi (by omega) (by omega))
    have HR := Lib.hid (fun w => rtok_all a0 a1 i w hi (by omega) (by omega))
    have HL := Lib.hid (fun w h => level_any i w hi h)
    have HQ := Lib.hid (fun w => Q.rlevel_any i w hi)
    have hlen := l10_len a0 a1 i
    obtain ⟨L, hL⟩ : ∃ L, l10 a0 a1 i = L := ⟨_, rfl⟩
    rw [hL] at HP HR hlen
    obtain ⟨n, hn⟩ : ∃ n, L.length = n := ⟨_, rfl⟩
    unfold TkR at HP
    rw [hn] at HP HR hlen
    obtain ⟨rd, hrd⟩ : ∃ d : Int, ((Q.lv i).d : Int) = d := ⟨_, rfl⟩
    obtain ⟨rn, hrn⟩ : ∃ d : Int, ((Q.lv i).n : Int) = d := ⟨_, rfl⟩
    obtain ⟨rz, hrz⟩ : ∃ d : Int, ((Q.lv i).z : Int) = d := ⟨_, rfl⟩
    rw [hrd, hrn, hrz] at HL HQ
    have hnb : n ≤ 1000000 := by omega
    have HS := Lib.hid (fun (A B : Option Addr) (c c' : Nat) (w : World) (h : IsTks w A n L) (h' : IsTks w B n L) => rsame_any A B n c n c' L L w h h' hnb hnb)
    simp only [decide_true] at HS
    clear hh hv w0 w1 w2 H hL hn hrd hrn hrz hlen hl hb
    go_enter Tryd.func3, Tryd.ntmps3
    go_wp2_with (first
      | (go_at_call 7; (with_reducible refine HV.out.mono ?_); rintro e w1 ⟨rfl, rfl⟩)
      | (go_at_call 9; (with_reducible refine HP.out.mono ?_); rintro e w2 ⟨A, c, rfl, i2, b2⟩; have I2 := Lib.hid i2; have B2 := Lib.hid b2; clear i2 b2)
      | (go_at_call 10; (with_reducible refine (HR.out _).mono ?_); rintro e w3 ⟨A', c', rfl, j3, b3⟩; have J3 := Lib.hid j3; have I3 := Lib.hid (I2.out.below b3); have B3 := Lib.hid (B2.out.trans (b3.mono B2.out.size)); clear j3 b3)
      | (go_at_call 11; (with_reducible refine (HL.out _ (HH.out.below B3.out (Nat.le_refl _))).mono ?_); rintro e w4 ⟨rfl, b4⟩; have J4 := Lib.hid (J3.out.below b4); have I4 := Lib.hid (I3.out.below b4); have B4 := Lib.hid (B3.out.trans (b4.mono B3.out.size)); clear b4)
      | (go_at_call 12; (with_reducible refine (HQ.out _).mono ?_); rintro e w5 ⟨rfl, b5⟩; have b6 := b5.alloc b5.size (.cells #[.int .i64 rd, .int .i64 rn, .int .i64 rz] 31); have J6 := Lib.hid (J4.out.below b6); have I6 := Lib.hid (I4.out.below b6); have B6 := Lib.hid (B4.out.trans (b6.mono B4.out.size)); clear b5 b6)
      | (go_at_call 13; (with_reducible refine (HS.out A A' c c' _ I6.out J6.out).mono ?_); rintro e w7 ⟨rfl, q, rfl⟩; have B7 := Lib.hid (below_drewN B6.out q))
      | (go_at_call 8; (with_reducible refine (works_any _ (HH.out.below B7.out (Nat.le_refl _))).mono ?_); rintro e w8 ⟨rfl, b8⟩; have B8 := Lib.hid (B7.out.trans (b8.mono B7.out.size)); clear b8))
    go_ret
    exact ⟨rfl, B8.out⟩
  · have hx : a2 < 0 ∨ 9 < a2 := by omega
    have HP := Lib.hid (tokens_no a0 a1 a2 W hx)
    have HR := Lib.hid (fun w => Q.rtokens_no a0 a1 a2 w hx)
    have HL := Lib.hid (fun w => level_no a2 w hx)
    have HQ := Lib.hid (fun w => Q.rlevel_no a2 w hx)
    have HS := Lib.hid (fun (w : World) => rsame_any none none 0 0 0 0 [] [] w ⟨rfl, Nat.zero_le _, fun c hc => (List.not_mem_nil hc).elim, .inl rfl⟩ ⟨rfl, Nat.zero_le _, fun c hc => (List.not_mem_nil hc).elim, .inl rfl⟩ (by omega) (by omega))
    simp only [decide_true] at HS
    clear hh hv w0 w1 w2 H hl hb hx
    go_enter Tryd.func3, Tryd.ntmps3
    go_wp2_with (first
      | (go_at_call 7; (with_reducible refine HV.out.mono ?_); rintro e w1 ⟨rfl, rfl⟩)
      | (go_at_call 9; (with_reducible refine HP.out.mono ?_); rintro e w2 ⟨rfl, b2⟩; have B2 := Lib.hid b2; clear b2)
      | (go_at_call 10; (with_reducible refine (HR.out _).mono ?_); rintro e w3 ⟨rfl, b3⟩; have B3 := Lib.hid (B2.out.trans (b3.mono B2.out.size)); clear b3)
      | (go_at_call 11; (with_reducible refine (HL.out _).mono ?_); rintro e w4 ⟨rfl, b4⟩; have B4 := Lib.hid (B3.out.trans (b4.mono B3.out.size)); clear b4)
      | (go_at_call 12; (with_reducible refine (HQ.out _).mono ?_); rintro e w5 ⟨rfl, b5⟩; have b6 := b5.alloc b5.size (.cells #[.int .i64 0, .int .i64 0, .int .i64 0] 31); have B6 := Lib.hid (B4.out.trans (b6.mono B4.out.size)); clear b5 b6)
      | (go_at_call 13; (with_reducible refine (HS.out _).mono ?_); rintro e w7 ⟨rfl, q, rfl⟩; have B7 := Lib.hid (below_drewN B6.out q))
      | (go_at_call 8; (with_reducible refine (works_any _ (HH.out.below B7.out (Nat.le_refl _))).mono ?_); rintro e w8 ⟨rfl, b8⟩; have B8 := Lib.hid (B7.out.trans (b8.mono B7.out.size)); clear b8))
    go_ret
    exact ⟨rfl, B8.out⟩
end Go.Proofs.YthemndeljjampaaDoor
