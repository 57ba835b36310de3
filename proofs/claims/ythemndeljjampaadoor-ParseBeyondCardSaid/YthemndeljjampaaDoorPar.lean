/- What bytesOf and Tokens of package parse answer. Conditions: as each theorem names them. -/
import Derived.Test.YthemndeljjampaaDoorTos
import Derived.Test.YthemndeljjampaaDoorLvl
import Derived.Test.YthemndeljjampaaDoorTkK
namespace Go.Proofs.YthemndeljjampaaDoor
open Go Go.RowKit M
open Q (Owq lits lits_length)
set_option linter.unusedVariables false
set_option linter.unusedSimpArgs false

theorem clq_clt : ∀ L, Q.clq L = clt L
  | [] => rfl
  | t :: l => by simp only [Q.clq, clt]; rw [clq_clt l]
theorem IsTks.of_owq {w : World} {B : Nat} {v : Value} {L : List Tk} (h : Owq B w v L) (hok : ∀ c ∈ L, c.ok) (hm : L.length ≤ maxLen) : ∃ A c, v = .slice A L.length c ∧ IsTks w A L.length L := by
  unfold Q.Owq at h
  rw [clq_clt] at h
  exact IsTks.of_own h hok hm
/-- what a call that makes a list of tokens answers -/
def TkR (W : World) (L : List Tk) (e : Ending) (w' : World) : Prop := ∃ A c, e = .returned (.tuple #[.slice A L.length c, .int .i64 0]) ∧ IsTks w' A L.length L ∧ Below W.heap.size W w'

theorem made_tok (w : World) (n : Nat) (hn : n ≤ 2000000) : (Instr.makeSlice 24 (.int .i64 (n : Int)) (.int .i64 (n : Int))).run Tryd.prog w = .ok (.slice (some ⟨w.heap.size, 0, none⟩) n n) (w.alloc (.cells (madeCells #[.int .u8 0, .int .i64 0, .int .i64 0] (n * 3)) 38)) := by
  obtain ⟨i, h1, h2, h3, h4⟩ := info_at tokInfo
  have h := run_make (P := Tryd.prog) w 24 38 i _ Tryd.underlying24 h1 h2 .i64 .i64 (n : Int) (n : Int) (by omega) (Int.le_refl _) (by rw [h4]; omega) (by omega)
  rw [h3, Int.toNat_natCast] at h
  exact h
/-- the cells of n tokens of which the first k are bytes of a text -/
def fb (s : ByteArray) (k j : Nat) : Value := if j % 3 = 0 then (if j / 3 < k then .int .u8 (byt s (j / 3)) else .int .u8 0) else .int .i64 0
theorem fb_row (w : World) (s : ByteArray) (n : Nat) : (w.alloc (.cells (madeCells #[.int .u8 0, .int .i64 0, .int .i64 0] (n * 3)) 38)).rowIs w.heap.size 38 (n * 3) (fb s 0) := by
  refine ⟨_, new_at _ _, size_madeCells _ _, fun i hi => ?_⟩
  have h3 : i % 3 = 0 ∨ i % 3 = 1 ∨ i % 3 = 2 := by omega
  unfold madeCells fb
  rw [Array.getElem?_map, Array.getElem?_range, if_pos hi]
  simp only [Nat.not_lt_zero, if_false, Option.map]
  rcases h3 with h | h | h <;> simp [h]
theorem fb_set {w : World} {g n k : Nat} {s : ByteArray} (h : w.rowIs g 38 (n * 3) (fb s k)) (hk : k < n) : (w.setCell ⟨g, k * 3, none⟩ (.int .u8 (byt s k))).rowIs g 38 (n * 3) (fb s (k + 1)) := by
  refine (World.rowIs.set h (k * 3) _).congr fun j hj => ?_
  unfold fb
  by_cases e : j = k * 3
  · rw [if_pos e, if_pos (by omega), if_pos (by omega), show j / 3 = k by omega]
  · rw [if_neg e]
    by_cases h3 : j % 3 = 0
    · rw [if_pos h3, if_pos h3]
      by_cases q : j / 3 < k
      · rw [if_pos q, if_pos (by omega)]
      · rw [if_neg q, if_neg (by omega)]
    · rw [if_neg h3, if_neg h3]
theorem lit_ok (s : ByteArray) (k : Nat) : (lit s k).ok := Tk.ok_of ⟨by show (0 : Int) ≤ (byt s k : Int); omega, by have := byt_lt s k; show (byt s k : Int) ≤ 255; omega⟩ (by decide) (by decide)
theorem lits_at {s : ByteArray} {n i : Nat} {c : Tk} (h : (lits s n)[i]? = some c) : i < n ∧ c = lit s i := by
  have hi : i < n := by have := (List.getElem?_eq_some_iff.1 h).1; rwa [lits_length] at this
  unfold Q.lits at h
  rw [List.getElem?_map, List.getElem?_range hi] at h
  injection h with h
  exact ⟨hi, h.symm⟩
theorem lits_ok {s : ByteArray} {n : Nat} : ∀ c ∈ lits s n, c.ok := fun c hc => by
  obtain ⟨i, hi⟩ := List.mem_iff_getElem?.1 hc
  rw [(lits_at hi).2]; exact lit_ok s i
theorem IsTks.of_fb {w : World} {g n : Nat} {s : ByteArray} (h : w.rowIs g 38 (n * 3) (fb s n)) (hn : n ≤ maxLen) : IsTks w (some ⟨g, 0, none⟩) (lits s n).length (lits s n) := by
  refine ⟨rfl, by rw [lits_length]; exact hn, lits_ok, .inr ⟨g, 0, rfl, h.lt, fun i c hc => ?_⟩⟩
  obtain ⟨hi, rfl⟩ := lits_at hc
  refine ⟨?_, ?_, ?_⟩
  · rw [Nat.zero_add, h.cell (i := i * 3) (by omega)]; unfold fb; rw [if_pos (by omega), if_pos (by omega), show i * 3 / 3 = i by omega]; rfl
  · rw [Nat.zero_add, h.cell (i := i * 3 + 1) (by omega)]; unfold fb; rw [if_neg (by omega)]; rfl
  · rw [Nat.zero_add, h.cell (i := i * 3 + 2) (by omega)]; unfold fb; rw [if_neg (by omega)]; rfl

set_option maxRecDepth 1000000 in
set_option maxHeartbeats 1000000 in
theorem bytesOf_any (text : ByteArray) (W : World) (ht : text.size ≤ 1048576) :
    Calls Tryd.prog 16 #[.string text] W fun e w' => ∃ A c, e = .returned (.slice A (lits text text.size).length c) ∧ IsTks w' A (lits text text.size).length (lits text text.size) ∧ Below W.heap.size W w' := by
  obtain ⟨n, hn⟩ : ∃ n, text.size = n := ⟨_, rfl⟩
  have hn1 : (text.size : Int) = (n : Int) := by rw [hn]
  have hn2 : n ≤ 1048576 := by omega
  have hmk := made_tok W n (by omega)
  have HN := Lib.hid hn
  have HR := Lib.hid (fb_row W text n)
  rw [hn]
  clear hn ht
  go_enter Tryd.func16, Tryd.ntmps16
  go_wp2_with fail
  clear hmk hn1
  go_loopw [10] (fun x wr => ∃ k : Nat, k ≤ n ∧ x = .int .i64 k ∧ wr.rowIs W.heap.size 38 (n * 3) (fb text k) ∧ Below W.heap.size W wr) (fun x _ => n - (intOf x).toNat)
  case atStart => exact ⟨0, Nat.zero_le _, rfl, HR.out, (Below.refl _ _).alloc (Nat.le_refl _) _⟩
  case round =>
    obtain ⟨k, hk, rfl, hr, hb⟩ := hrel
    by_cases hlt : k < n
    · have d1 : decide ((k : Int) < (n : Int)) = true := decide_eq_true (by omega)
      have d1' : decide (k < n) = true := decide_eq_true hlt
      have hlt2 : k < text.size := by rw [HN.out]; exact hlt
      have hc : wr.cell? ⟨W.heap.size, k * 3, none⟩ = some (.int .u8 0) := by
        rw [hr.cell (i := k * 3) (by omega)]; unfold fb; rw [if_pos (by omega), if_neg (by omega)]
      have hf := hr.frozen (k * 3)
      have hbt := Lib.hid (byt_eq hlt2)
      have HRo := Lib.hid (fb_set hr hlt)
      have HB := Lib.hid hb
      clear hr hb
      go_wp2_with fail
      go_roundw
      case rel => exact ⟨k + 1, by omega, by go_num, by have := HRo.out; rw [← hbt.out] at this; exact this, HB.out.setCell (p := ⟨W.heap.size, k * 3, none⟩) (Nat.le_refl _) _⟩
      case measure => (simp [intOf]; try omega)
    · obtain rfl : k = n := by omega
      have d1 : decide ((k : Int) < (k : Int)) = false := decide_eq_false (by omega)
      have d1' : decide (k < k) = false := decide_eq_false (by omega)
      have HRo := Lib.hid hr
      have HB := Lib.hid hb
      clear hr hb
      go_wp2_with fail
      go_ret
      exact ⟨some ⟨W.heap.size, 0, none⟩, k, by rw [lits_length]; rfl, IsTks.of_fb HRo.out (by unfold maxLen; omega), HB.out⟩

theorem tokens_no (dict text : ByteArray) (x : Int) (W : World) (hx : x < 0 ∨ 9 < x) :
    Calls Tryd.prog 9 #[.string dict, .string text, .int .i64 x] W fun e w' => e = .returned (.tuple #[.slice none 0 0, .int .i64 2]) ∧ Below W.heap.size W w' := by
  have HL := Lib.hid (fun w => level_no x w hx)
  clear hx
  go_enter Tryd.func9, Tryd.ntmps9
  go_wp2_with (go_at_call 11; (with_reducible refine (HL.out _).mono ?_); rintro e w1 ⟨rfl, b1⟩; have B1 := Lib.hid b1; clear b1)
  go_ret2
  exact ⟨rfl, B1.out⟩

set_option maxRecDepth 1000000 in
set_option maxHeartbeats 1000000 in
theorem tokens_zero (dict text : ByteArray) (W : World) (H : Lvs W) (ht : text.size ≤ 1048576) :
    Calls Tryd.prog 9 #[.string dict, .string text, .int .i64 0] W (TkR W (lits text text.size)) := by
  have HL := Lib.hid (level_any 0 W (by omega) H)
  have HB := Lib.hid (fun w => bytesOf_any text w ht)
  obtain ⟨L, hL⟩ : ∃ L, lits text text.size = L := ⟨_, rfl⟩
  rw [hL] at HB ⊢
  have dT : decide (1048576 < (text.size : Int)) = false := decide_eq_false (by omega)
  have dT' : decide (1048576 < text.size) = false := decide_eq_false (by omega)
  clear hL H ht
  go_enter Tryd.func9, Tryd.ntmps9
  go_wp2_with (first
    | (go_at_call 11; (refine HL.out.mono ?_); rintro e w1 ⟨rfl, b1⟩; have B1 := Lib.hid b1; clear b1)
    | (go_at_call 16; (refine (HB.out _).mono ?_); rintro e w2 ⟨A, c, rfl, h2, b2⟩; have H2 := Lib.hid h2; have B2 := Lib.hid (B1.out.trans (b2.mono B1.out.size)); clear h2 b2))
  go_ret2
  exact ⟨A, c, rfl, H2.out, B2.out⟩

/-- the last 32768 bytes -/
def cutd (d : ByteArray) : ByteArray := d.extract (d.size - 32768) d.size
theorem cutd_size (d : ByteArray) : (cutd d).size = min d.size 32768 := by unfold cutd; rw [ByteArray.size_extract]; omega
theorem cutd_all {d : ByteArray} (h : d.size ≤ 32768) : cutd d = d := by
  unfold cutd
  rw [show d.size - 32768 = 0 by omega]
  exact ByteArray.extract_zero_size

set_option maxRecDepth 1000000 in
set_option maxHeartbeats 2000000 in
theorem tokens_any (dict text : ByteArray) (i : Nat) (W : World) (H : Lvs W) (hi : 1 ≤ i ∧ i ≤ 9) (hd : dict.size ≤ 1000000) (ht : text.size ≤ 1000000) :
    Calls Tryd.prog 9 #[.string dict, .string text, .int .i64 i] W (TkR W (G (cutd dict ++ text) (Q.lv i) (cutd dict).size (0, 0))) := by
  have HL := Lib.hid (level_any i W hi.2 H)
  obtain ⟨hl1, hl2, hl3⟩ := Q.lv_le i hi.2
  obtain ⟨r, hr⟩ : ∃ r, Q.lv i = r := ⟨_, rfl⟩
  rw [hr] at HL hl1 hl2 hl3 ⊢
  have dT : decide (1048576 < (text.size : Int)) = false := decide_eq_false (by omega)
  have dT' : decide (1048576 < text.size) = false := decide_eq_false (by omega)
  have di : ((i : Int) == 0) = false := by rw [beq_eq_false_iff_ne]; omega
  have di2 : (i == 0) = false := by rw [beq_eq_false_iff_ne]; omega
  have di3 : ¬ i = 0 := by omega
  obtain ⟨lo, hlo⟩ : ∃ lo, dict.size - 32768 = lo := ⟨_, rfl⟩
  obtain ⟨z, hz⟩ : ∃ z : Int, (dict.size : Int) - 32768 = z := ⟨_, rfl⟩
  have hmx : (if (0 : Int) < z then z else 0) = (lo : Int) := by split <;> omega
  have hlo2 : lo ≤ dict.size := by omega
  have hz1 : -40000 ≤ z := by omega
  have hz2 : z ≤ 1000000 := by omega
  have s2 : dict.size - lo + text.size ≤ 9223372036854775807 := by omega
  have hcs := cutd_size dict
  obtain ⟨ah, hah⟩ : ∃ ah, cutd dict = ah := ⟨_, rfl⟩
  have hex : dict.extract lo dict.size = ah := by rw [← hah, ← hlo]; rfl
  rw [hah] at hcs ⊢
  obtain ⟨q, hq⟩ : ∃ q, ah.size = q := ⟨_, rfl⟩
  rw [hq] at hcs ⊢
  have hsz : (ah ++ text).size = ah.size + text.size := ByteArray.size_append
  have s1 : ah.size + text.size ≤ 9223372036854775807 := by omega
  obtain ⟨s, hs⟩ : ∃ s, ah ++ text = s := ⟨_, rfl⟩
  rw [hs] at hsz ⊢
  have hs2 : s.size ≤ 1048576 := by omega
  have hqs : q ≤ s.size := by omega
  have e5 : (s.size : Int) - (text.size : Int) = (q : Int) := by omega
  have HN := Lib.hid (fun w => new_any s w hs2)
  obtain ⟨T, hT⟩ : ∃ T, G s r q (0, 0) = T := ⟨_, rfl⟩
  have HTo := Lib.hid (show ∀ (W : World) (B F : Nat), Fk W B F s 0 → Calls Tryd.prog 18 #[.agg #[.int .i64 r.d, .int .i64 r.n, .int .i64 r.z, .pointer (some ⟨F, 0, none⟩)], .string s, .int .i64 q] W fun e w' => ∃ v, e = .returned v ∧ Owq W.heap.size w' v T ∧ Below B W w' from fun W B F h => by
    have := tos_any h r q hqs hl1
    rw [hT] at this
    exact this)
  have HTok := Lib.hid (show (∀ c ∈ T, c.ok) ∧ T.length ≤ maxLen from by
    rw [← hT]
    refine ⟨fun c hc => ?_, ?_⟩
    · obtain ⟨_, h1, h2, h3⟩ := G_may s r q (0, 0) (fun h => absurd rfl h) c hc
      exact Tk.ok_of h1 ⟨h2.1, by omega⟩ ⟨h3.1, by omega⟩
    · have := G_len s r q (0, 0) (fun h => absurd rfl h); unfold maxLen; omega)
  rw [hT]
  clear hlo hah hT hcs hq hsz hqs hl1 hl2 hl3 H hr hd ht
  go_enter Tryd.func9, Tryd.ntmps9
  go_wp2_with (first
    | (go_at_call 11; (refine HL.out.mono ?_); rintro e w1 ⟨rfl, b1⟩; have B1 := Lib.hid b1; clear b1)
    | (go_at_call 17; (refine (HN.out _).mono ?_); rintro e w2 ⟨F, rfl, hF, hFd, b2⟩; have HF2 := Lib.hid (show Fk w2 w1.heap.size F s 0 from hFd); have B2 := Lib.hid (B1.out.trans (b2.mono B1.out.size)); clear hFd b2)
    | (go_at_call 18; (refine (HTo.out _ _ _ (HF2.out.below ((Below.refl _ _).alloc (Nat.le_refl _) _))).mono ?_); rintro e w3 ⟨v, rfl, o3, b3⟩; obtain ⟨A, c, rfl, hI⟩ := IsTks.of_owq o3 HTok.out.1 HTok.out.2; have HI := Lib.hid hI; have B3 := Lib.hid ((B2.out.alloc B2.out.size _).trans (b3.mono B1.out.size)); clear o3 b3 hI))
  go_ret2
  exact ⟨A, c, rfl, HI.out, B3.out⟩
end Go.Proofs.YthemndeljjampaaDoor
