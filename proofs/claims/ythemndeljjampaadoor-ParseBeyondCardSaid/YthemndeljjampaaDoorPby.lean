/- ParseBeyond returns true for any arguments: a dictionary counts as far as its last 32768 bytes, an empty text is no tokens. Conditions: none but what the levels' variable holds. -/
import Derived.Test.YthemndeljjampaaDoorPbk
import Derived.Lib.ConvBytes
namespace Go.Proofs.YthemndeljjampaaDoor
open Go Go.RowKit M
set_option linter.unusedVariables false
set_option linter.unusedSimpArgs false

theorem made_b (w : World) (n : Nat) (hn : n ≤ 40000) : (Instr.makeSlice 44 (.int .i64 (n : Int)) (.int .i64 (n : Int))).run Tryd.prog w = .ok (.slice (some ⟨w.heap.size, 0, none⟩) n n) (w.alloc (.cells (madeCells #[.int .u8 0] n) 5)) := by
  obtain ⟨i, h1, h2, h3, h4⟩ := info_of byteInfo
  exact run_make_row 44 5 i _ Tryd.underlying44 h1 h2 h3 rfl .i64 .i64 n (by rw [h4]; omega) (by omega) w
/-- a row as a string -/
theorem conv_row8 {w : World} {b n cp : Nat} {f : Nat → Nat} (h : w.rowIs b 5 n (fun j => .int .u8 (f j : Nat))) (hf : ∀ j, j < n → f j < 256) :
    (convert 44 9 (.slice (some ⟨b, 0, none⟩) n cp)).run Tryd.prog w = .ok (.string ⟨((List.range n).map fun j => UInt8.ofNat (f j)).toArray⟩) w := by
  have hl : ((List.range n).map fun j => UInt8.ofNat (f j)).length = n := by rw [List.length_map, List.length_range]
  have := run_convert_bytes_back (P := Tryd.prog) w 44 9 5 ⟨b, 0, none⟩ cp ((List.range n).map fun j => UInt8.ofNat (f j)) Tryd.underlying44 Tryd.underlying5 Tryd.underlying9 (fun i hi => by
    rw [hl] at hi
    have ha : (⟨b, 0, none⟩ : Addr).add i = ⟨b, i, none⟩ := by rw [iadd_at, Nat.zero_add]
    rw [ha, h.cell hi, List.getElem_map, List.getElem_range, UInt8.toNat_ofNat', Nat.mod_eq_of_lt (hf i hi)])
  rw [hl] at this
  exact this
/-- the bytes under way -/
def sev (k j : Nat) : Nat := if j < k then j * 7 % 256 else 0
theorem sev_lt (k j : Nat) : sev k j < 256 := by unfold sev; split <;> omega
theorem sev_set {w : World} {g n k : Nat} (h : w.rowIs g 5 n (fun j => .int .u8 (sev k j : Nat))) : (w.setCell ⟨g, k, none⟩ (.int .u8 ((k * 7 % 256 : Nat) : Int))).rowIs g 5 n (fun j => .int .u8 (sev (k + 1) j : Nat)) := by
  refine (World.rowIs.set h k _).congr fun j hj => ?_
  by_cases e : j = k
  · rw [if_pos e, e]; unfold sev; rw [if_pos (by omega)]
  · rw [if_neg e]; unfold sev
    by_cases q : j < k
    · rw [if_pos q, if_pos (by omega)]
    · rw [if_neg q, if_neg (by omega)]
theorem bytes_ext {s t : ByteArray} (h : bt s = bt t) : s = t := ByteArray.ext (Array.toList_inj.1 h)
theorem bt_extract (s : ByteArray) (i j : Nat) : bt (s.extract i j) = ((bt s).drop i).take (j - i) := by
  show (s.extract i j).data.toList = _
  rw [ByteArray.data_extract, Array.toList_extract, List.extract_eq_take_drop]
theorem cutd_behind (a d : ByteArray) (h : d.size = 32768) : cutd (a ++ d) = d := by
  apply bytes_ext
  unfold cutd
  rw [bt_extract, ByteArray.size_append, h, show a.size + 32768 - 32768 = a.size by omega, drop_left, List.take_of_length_le (by rw [bt_len]; omega)]
theorem l10_behind (a d text : ByteArray) (i : Nat) (h : d.size = 32768) : l10 (a ++ d) text i = l10 d text i := by
  unfold l10
  rw [cutd_behind a d h, cutd_all (Nat.le_of_eq h)]

set_option maxRecDepth 1000000 in
set_option maxHeartbeats 2000000 in
theorem ParseBeyond_walk (a0 a1 a2 : ByteArray) (a3 : Int) (W : World) (w0 : a0.size ≤ maxLen) (w1 : a1.size ≤ maxLen) (w2 : a2.size ≤ maxLen) (w3 : (Lit.int .u8 a3).wf = true) (H : Lvs W) :
    Calls Tryd.prog 6 #[.string a0, .string a1, .string a2, .int .u8 a3] W fun e w' => e = .returned (.bool true) ∧ Below W.heap.size W w' := by
  have hb := u8_bounds w3
  obtain ⟨hb1, hb2⟩ := hb
  have HH := Lib.hid H
  have hh := heavy_any a1 a2 W w1 w2
  have hm0 : a0.size ≤ 9223372036854775807 := by unfold maxLen at w0; omega
  by_cases h0 : 1024 < a0.size
  · have d0 : decide (1024 < (a0.size : Int)) = true := decide_eq_true (by omega)
    have d0' : decide (1024 < a0.size) = true := decide_eq_true h0
    clear h0 w0 w1 w2 w3 H hh
    go_enter Tryd.func6, Tryd.ntmps6
    go_wp2_with (go_at_call 8; (with_reducible refine (works_any _ HH.out).mono ?_); rintro e w2 ⟨rfl, b2⟩; have B2 := Lib.hid b2; clear b2)
    go_ret
    exact ⟨rfl, B2.out⟩
  have d0 : decide (1024 < (a0.size : Int)) = false := decide_eq_false (by omega)
  have d0' : decide (1024 < a0.size) = false := decide_eq_false h0
  by_cases hv : 1024 < a1.size ∨ 2048 < a2.size
  · rw [decide_eq_true hv] at hh
    have HV := Lib.hid hh
    clear h0 hh hv w0 w1 w2 w3 H
    go_enter Tryd.func6, Tryd.ntmps6
    go_wp2_with (first
      | (go_at_call 7; (with_reducible refine HV.out.mono ?_); rintro e w1 ⟨rfl, rfl⟩)
      | (go_at_call 8; (with_reducible refine (works_any _ HH.out).mono ?_); rintro e w2 ⟨rfl, b2⟩; have B2 := Lib.hid b2; clear b2))
    go_ret
    exact ⟨rfl, B2.out⟩
  rw [decide_eq_false hv] at hh
  have HV := Lib.hid hh
  have hv1 : a1.size ≤ 1024 := by omega
  have hv2 : a2.size ≤ 2048 := by omega
  obtain ⟨i, hi0⟩ : ∃ i : Nat, a3 % 10 = (i : Int) := ⟨(a3 % 10).toNat, by omega⟩
  have hi : i ≤ 9 := by omega
  obtain ⟨n, hn⟩ : ∃ n, 32768 - a1.size = n := ⟨_, rfl⟩
  have hn1 : (32768 : Int) - (a1.size : Int) = (n : Int) := by omega
  have hn2 : n ≤ 32768 := by omega
  have hmk := made_b W n (by omega)
  have hrow : (W.alloc (.cells (madeCells #[.int .u8 0] n) 5)).rowIs W.heap.size 5 n (fun j => .int .u8 (sev 0 j : Nat)) := (World.rowIs_made W (.int .u8 0) n 5).congr (fun j _ => by unfold sev; rw [if_neg (Nat.not_lt_zero j)]; rfl)
  have HR := Lib.hid hrow
  obtain ⟨hd, hhd⟩ : ∃ hd : ByteArray, (⟨((List.range n).map fun j => UInt8.ofNat (sev n j)).toArray⟩ : ByteArray) = hd := ⟨_, rfl⟩
  have hhs : hd.size = n := by
    rw [← hhd]
    show (((List.range n).map fun j => UInt8.ofNat (sev n j)).toArray).size = n
    rw [List.size_toArray, List.length_map, List.length_range]
  have HC := Lib.hid (show ∀ w, w.rowIs W.heap.size 5 n (fun j => .int .u8 (sev n j : Nat)) → (convert 44 9 (.slice (some ⟨W.heap.size, 0, none⟩) n n)).run Tryd.prog w = .ok (.string hd) w from fun w h => by
    rw [← hhd]
    exact conv_row8 h (fun j _ => sev_lt n j))
  obtain ⟨d, hdd⟩ : ∃ d, hd ++ a1 = d := ⟨_, rfl⟩
  have hds : d.size = 32768 := by rw [← hdd, ByteArray.size_append]; omega
  obtain ⟨d2, hd2⟩ : ∃ d2, a0 ++ d = d2 := ⟨_, rfl⟩
  have hd2s : d2.size ≤ 40000 := by rw [← hd2, ByteArray.size_append]; omega
  have hle : l10 d2 a2 i = l10 d a2 i := by rw [← hd2]; exact l10_behind a0 d a2 i hds
  have HP := Lib.hid (fun w h => tok_all d a2 i w h hi (by omega) (by omega))
  have HP2 := Lib.hid (fun w h => tok_all d2 a2 i w h hi (by omega) (by omega))
  have HP3 := Lib.hid (fun w h => tok_all d ⟨#[]⟩ i w h hi (by omega) (by decide))
  have hlen := l10_len d a2 i
  have hl0 : (l10 d ⟨#[]⟩ i).length = 0 := Nat.le_zero.1 (l10_len d ⟨#[]⟩ i)
  obtain ⟨L, hL⟩ : ∃ L, l10 d a2 i = L := ⟨_, rfl⟩
  rw [hle] at HP2
  unfold TkR at HP HP2 HP3
  rw [hL] at HP HP2 hlen
  rw [hl0] at HP3
  obtain ⟨m, hm⟩ : ∃ m, L.length = m := ⟨_, rfl⟩
  rw [hm] at HP HP2 hlen
  have HS := Lib.hid (fun (A B : Option Addr) (c c' : Nat) (w : World) (h : IsTks w A m L) (h' : IsTks w B m L) => rsame_any A B m c m c' L L w h h' (by omega) (by omega))
  simp only [decide_true] at HS
  have s1 : hd.size + a1.size ≤ 9223372036854775807 := by omega
  have s2 : a0.size + d.size ≤ 9223372036854775807 := by omega
  clear h0 hh hv w0 w1 w2 w3 H hrow hhd hhs hL hm hlen hl0 hle hds hd2s hn hi hv1 hv2
  go_enter Tryd.func6, Tryd.ntmps6
  go_wp2_with (go_at_call 7; (with_reducible refine HV.out.mono ?_); rintro e w1 ⟨rfl, rfl⟩)
  clear hmk
  go_loopw [10] (fun x wr => ∃ k : Nat, k ≤ n ∧ x = .int .i64 k ∧ wr.rowIs W.heap.size 5 n (fun j => .int .u8 (sev k j : Nat)) ∧ Below W.heap.size W wr) (fun x _ => n - (intOf x).toNat)
  case atStart => exact ⟨0, Nat.zero_le _, rfl, HR.out, (Below.refl _ _).alloc (Nat.le_refl _) _⟩
  case round =>
    obtain ⟨k, hk, rfl, hr, hbw⟩ := hrel
    by_cases hlt : k < n
    · have dk : decide ((k : Int) < (n : Int)) = true := decide_eq_true (by omega)
      have dk' : decide (k < n) = true := decide_eq_true hlt
      have hc : (wr.cell? ⟨W.heap.size, k, none⟩) = some (.int .u8 (sev k k : Nat)) := hr.cell hlt
      have hf := hr.frozen k
      have hrs := sev_set hr
      rw [show ((k * 7 % 256 : Nat) : Int) = (k : Int) * 7 % 256 by omega] at hrs
      have HRo := Lib.hid hrs
      have HB := Lib.hid hbw
      clear hr hbw hrs
      go_wp2_with fail
      go_roundw
      case rel => exact ⟨k + 1, by omega, by go_num, HRo.out, HB.out.setCell (p := ⟨W.heap.size, k, none⟩) (Nat.le_refl _) _⟩
      case measure => (simp [intOf]; try omega)
    · obtain rfl : k = n := by omega
      have dk : decide ((k : Int) < (k : Int)) = false := decide_eq_false (by omega)
      have dk' : decide (k < k) = false := decide_eq_false (by omega)
      have hconv := HC.out _ hr
      have HB := Lib.hid hbw
      clear hr hbw
      go_wp2_with (first
        | (go_at_call 9; (with_reducible refine (HP.out _ (HH.out.below HB.out (Nat.le_refl _))).mono ?_); rintro e w2 ⟨A, c, rfl, i2, b2⟩; have I2 := Lib.hid i2; have B2 := Lib.hid (HB.out.trans (b2.mono HB.out.size)); clear i2 b2)
        | (go_at_call 9; (with_reducible refine (HP2.out _ (HH.out.below B2.out (Nat.le_refl _))).mono ?_); rintro e w3 ⟨A', c', rfl, j3, b3⟩; have I3 := Lib.hid (I2.out.below b3); have J3 := Lib.hid j3; have B3 := Lib.hid (B2.out.trans (b3.mono B2.out.size)); clear j3 b3)
        | (go_at_call 9; (with_reducible refine (HP3.out _ (HH.out.below B3.out (Nat.le_refl _))).mono ?_); rintro e w4 ⟨A2, c2, rfl, _, b4⟩; have I4 := Lib.hid (I3.out.below b4); have J4 := Lib.hid (J3.out.below b4); have B4 := Lib.hid (B3.out.trans (b4.mono B3.out.size)); clear b4)
        | (go_at_call 13; (with_reducible refine (HS.out A A' c c' _ I4.out J4.out).mono ?_); rintro e w5 ⟨rfl, q, rfl⟩; have B5 := Lib.hid (below_drewN B4.out q))
        | (go_at_call 8; (with_reducible refine (works_any _ (HH.out.below B5.out (Nat.le_refl _))).mono ?_); rintro e w6 ⟨rfl, b6⟩; have B6 := Lib.hid (B5.out.trans (b6.mono B5.out.size)); clear b6))
      go_ret
      exact ⟨rfl, B6.out⟩
end Go.Proofs.YthemndeljjampaaDoor
