/- Texts of one place, one behind the other: DfA, DfB, DfS, DfC, DfN. -/
import Derived.Test.YtldiojnkoobbmaaGreatDoorCMDfM
import Derived.Test.YtldiojnkoobbmaaGreatDoorCMP8TkK
import Derived.Test.YtldiojnkoobbmaaGreatDoorCMP8Tos
import Derived.Test.YtldiojnkoobbmaaGreatDoorCMMath
import Derived.Test.YtldiojnkoobbmaaGreatDoorCMSpK
import Derived.Deep.RegionHeld3
import Derived.BigQuiet
import Derived.Deep.QuietTactic
import Derived.Test.YtldiojnkoobbmaaGreatDoorCMBlA
import Derived.OwnWalk
namespace Go.Proofs.YtldiojnkoobbmaaGreatDoor.V
open Go Go.RowKit M U
set_option linter.unusedVariables false
set_option linter.unusedSimpArgs false
set_option maxRecDepth 1000000
noncomputable def dtk (d t : ByteArray) (k : Nat) : List Tk := if k = 0 then Px.Q.lits t t.size else Px.G (Px.cutd d ++ t) (Px.Q.lv k) (Px.cutd d).size (0, 0)
noncomputable def dbs (d t : ByteArray) (k : Nat) : List Nat := sbt (dtk d t k) t k
noncomputable def dby (d t : ByteArray) (k : Nat) : ByteArray := textR (nb (dbs d t k)) (dbs d t k).length
theorem textR_size (V L : Nat) : (textR V L).size = (L + 7) / 8 := by
  unfold textR
  rw [M.bstr_size, M.le_length]
theorem dby_size (d t : ByteArray) (k : Nat) : (dby d t k).size = ((dbs d t k).length + 7) / 8 := textR_size _ _
theorem dtk_size (d t : ByteArray) (k : Nat) : Tx.szs (dtk d t k) = t.size := by
  unfold dtk
  split
  · exact szs_lits t t.size
  · have h := szs_G (Px.cutd d ++ t) (Px.Q.lv k) (Px.cutd d).size (0, 0) (by rw [ByteArray.size_append]; omega) (fun h => absurd rfl h)
    rw [h, ByteArray.size_append]
    omega
theorem dtk_len (d t : ByteArray) (k : Nat) : (dtk d t k).length ≤ t.size := by
  unfold dtk
  split
  · rw [Px.Q.lits_length]; exact Nat.le_refl _
  · have h := Px.G_len (Px.cutd d ++ t) (Px.Q.lv k) (Px.cutd d).size (0, 0) (fun h => absurd rfl h)
    rw [ByteArray.size_append] at h
    omega
theorem dby_short (d t : ByteArray) (k : Nat) (ht : t.size ≤ 65535) : (dby d t k).size ≤ bnd t.size ∧ 1 ≤ (dby d t k).size := by
  rw [dby_size]
  refine ⟨sbt_short ht (dtk_len d t k) (dtk_size d t k), ?_⟩
  have := sbt_some (L := dtk d t k) (lv := k) ht
  unfold dbs
  omega
structure Dfs (T : World → Prop) : Prop where
  keep : ∀ {w w' : World}, T w → Below w.heap.size w w' → T w'
  yes : ∀ (d t : ByteArray) (k : Nat) (most : Int) (w : World), T w → d.size ≤ 100000 → t.size ≤ 30000 → k ≤ 9 → most ≤ 9223372036854775807 → (((dbs d t k).length + 7) / 8 : Nat) ≤ most →
    Calls Tryz.prog 8 #[.string d, .string t, .int .i64 k, .int .i64 most] w fun e w' => e = .returned (.tuple #[.string (dby d t k), .int .i64 0]) ∧ Below w.heap.size w w'
  full : ∀ (d t : ByteArray) (k : Nat) (most : Int) (w : World), T w → d.size ≤ 100000 → t.size ≤ 30000 → k ≤ 9 → -9223372036854775808 ≤ most → most < (((dbs d t k).length + 7) / 8 : Nat) →
    Calls Tryz.prog 8 #[.string d, .string t, .int .i64 k, .int .i64 most] w fun e w' => e = .returned (.tuple #[.string ⟨#[]⟩, .int .i64 4]) ∧ Below w.heap.size w w'
  no : ∀ (d t : ByteArray) (k most : Int) (w : World), T w → (k < 0 ∨ 9 < k) →
    Calls Tryz.prog 8 #[.string d, .string t, .int .i64 k, .int .i64 most] w fun e w' => e = .returned (.tuple #[.string ⟨#[]⟩, .int .i64 2]) ∧ Below w.heap.size w w'
  bound : ∀ (n : Nat) (w : World), T w → n ≤ 1000000 → Calls Tryz.prog 10 #[.int .i64 n] w fun e w' => e = .returned (.int .i64 (bnd n : Nat)) ∧ Below w.heap.size w w'
end Go.Proofs.YtldiojnkoobbmaaGreatDoor.V

namespace Go.Proofs.YtldiojnkoobbmaaGreatDoor.V
open Go Go.RowKit M U
set_option linter.unusedVariables false
set_option linter.unusedSimpArgs false
set_option maxRecDepth 1000000
theorem cutd_none (t : ByteArray) : Px.cutd ⟨#[]⟩ ++ t = t := by
  rw [Px.cutd_all (by decide)]
  exact ByteArray.empty_append
theorem dtk_none {t : ByteArray} {k : Nat} (h0 : k ≠ 0) : dtk ⟨#[]⟩ t k = Px.G t (Px.Q.lv k) 0 (0, 0) := by
  unfold dtk
  rw [if_neg h0, cutd_none, Px.cutd_all (by decide)]
  rfl
theorem dbs_empty : dbs ⟨#[]⟩ ⟨#[]⟩ 6 = [1, 1, 0, 0, 0, 0, 0, 0, 0, 0] := by
  have h1 : dtk ⟨#[]⟩ ⟨#[]⟩ 6 = [] := by rw [dtk_none (by decide)]; exact Px.G_end (by decide)
  have h2 : (kp [] ⟨#[]⟩ 0 0).1 = 1 := by
    unfold kp
    rw [show seg [] 0 0 = [] from rfl, show (⟨#[]⟩ : ByteArray).extract (szt [] 0) (szt [] 0) = ⟨#[]⟩ by simp [szt, Tx.szs]; rfl, kd_nil]
  unfold dbs sbt
  rw [h1, if_neg (by decide), pts_none]
  simp only [prs, List.append_nil]
  unfold blq
  simp only [h2]
  rw [show seg [] 0 0 = [] from rfl, show (⟨#[]⟩ : ByteArray).extract (szt [] 0) (szt [] 0) = ⟨#[]⟩ by simp [szt, Tx.szs]; rfl]
  rw [bkm_blk (by decide)]
  unfold blk
  rw [if_neg (by decide), if_pos rfl]
  decide +kernel
theorem dby_empty : dby ⟨#[]⟩ ⟨#[]⟩ 6 = ⟨#[3, 0]⟩ := by
  unfold dby
  rw [dbs_empty]
  decide +kernel
set_option maxHeartbeats 2000000 in
theorem works15 {T : World → Prop} (C : Dfs T) (w : World) (H : T w) : Calls Tryz.prog 7 #[] w fun e w' => e = .returned (.bool true) ∧ Below w.heap.size w w' := by
  have hlen : ((dbs ⟨#[]⟩ ⟨#[]⟩ 6).length + 7) / 8 = 2 := by rw [dbs_empty]; rfl
  have H1 := Lib.hid (show Calls Tryz.prog 8 #[.string ⟨#[]⟩, .string ⟨#[]⟩, .int .i64 6, .int .i64 9] w fun e w' => e = .returned (.tuple #[.string ⟨#[3, 0]⟩, .int .i64 0]) ∧ Below w.heap.size w w' from by
    have h := C.yes ⟨#[]⟩ ⟨#[]⟩ 6 9 w H (by decide) (by decide) (by decide) (by decide) (by rw [hlen]; decide)
    rw [dby_empty] at h
    exact h)
  have H2 := Lib.hid (fun (w' : World) (b : Below w.heap.size w w') => (show Calls Tryz.prog 8 #[.string ⟨#[]⟩, .string ⟨#[]⟩, .int .i64 6, .int .i64 1] w' fun e w2 => e = .returned (.tuple #[.string ⟨#[]⟩, .int .i64 4]) ∧ Below w'.heap.size w' w2 from
    C.full ⟨#[]⟩ ⟨#[]⟩ 6 1 w' (C.keep H b) (by decide) (by decide) (by decide) (by decide) (by rw [hlen]; decide)))
  have H3 := Lib.hid (fun (w' : World) (b : Below w.heap.size w w') => (show Calls Tryz.prog 8 #[.string ⟨#[]⟩, .string ⟨#[]⟩, .int .i64 (-1), .int .i64 9] w' fun e w2 => e = .returned (.tuple #[.string ⟨#[]⟩, .int .i64 2]) ∧ Below w'.heap.size w' w2 from
    C.no ⟨#[]⟩ ⟨#[]⟩ (-1) 9 w' (C.keep H b) (.inl (by decide))))
  have H4 := Lib.hid (fun (w' : World) (b : Below w.heap.size w w') => (show Calls Tryz.prog 10 #[.int .i64 0] w' fun e w2 => e = .returned (.int .i64 6) ∧ Below w'.heap.size w' w2 from C.bound 0 w' (C.keep H b) (by decide)))
  have H5 := Lib.hid (fun (w' : World) (b : Below w.heap.size w w') => (show Calls Tryz.prog 10 #[.int .i64 3] w' fun e w2 => e = .returned (.int .i64 9) ∧ Below w'.heap.size w' w2 from C.bound 3 w' (C.keep H b) (by decide)))
  clear H C hlen
  go_enter Tryz.func7, Tryz.ntmps7
  go_wp2_with (first
    | (go_at_call 8; (with_reducible refine H1.out.mono ?_); rintro e w1 ⟨rfl, b1⟩; have B1 := Lib.hid b1; clear b1)
    | (go_at_call 8; (with_reducible refine (H2.out _ B1.out).mono ?_); rintro e w2 ⟨rfl, b2⟩; have B2 := Lib.hid (B1.out.trans (b2.mono B1.out.size)); clear b2)
    | (go_at_call 8; (with_reducible refine (H3.out _ B2.out).mono ?_); rintro e w3 ⟨rfl, b3⟩; have B3 := Lib.hid (B2.out.trans (b3.mono B2.out.size)); clear b3)
    | (go_at_call 10; (with_reducible refine (H4.out _ B3.out).mono ?_); rintro e w4 ⟨rfl, b4⟩; have B4 := Lib.hid (B3.out.trans (b4.mono B3.out.size)); clear b4)
    | (go_at_call 10; (with_reducible refine (H5.out _ B4.out).mono ?_); rintro e w5 ⟨rfl, b5⟩; have B5 := Lib.hid (B4.out.trans (b5.mono B4.out.size)); clear b5))
  go_ret
  exact ⟨rfl, B5.out⟩
set_option maxHeartbeats 4000000 in
theorem dbound_law {T : World → Prop} (C : Dfs T) (d t : ByteArray) (tm lv : Nat) (W : World) (H : T W) (hd : d.size ≤ maxLen) (ht : t.size ≤ maxLen) (htm : tm ≤ 65535) (hlv : lv ≤ 255) :
    Calls Tryz.prog 4 #[.string d, .string t, .int .u16 tm, .int .u8 lv] W fun e w' => e = .returned (.bool true) ∧ Below W.heap.size W w' := by
  have HW := Lib.hid (fun (w : World) (b : Below W.heap.size W w) => works15 C w (C.keep H b))
  unfold maxLen at hd ht
  by_cases hh : d.size ≤ 1024 ∧ t.size ≤ 8192
  · obtain ⟨h1, h2⟩ := hh
    have HY := Lib.hid (fun (s : ByteArray) (k : Nat) (most : Nat) (w : World) (b : Below W.heap.size W w) (hs : s.size ≤ 30000) (hk : k ≤ 9) (hm : most ≤ 1000000) (hf : (dby d s k).size ≤ most) => (show Calls Tryz.prog 8 #[.string d, .string s, .int .i64 k, .int .i64 most] w fun e w' => e = .returned (.tuple #[.string (dby d s k), .int .i64 0]) ∧ Below w.heap.size w w' from
      C.yes d s k most w (C.keep H b) (by omega) hs hk (by omega) (by rw [← dby_size]; omega)))
    have HN := Lib.hid (fun (s : ByteArray) (k : Nat) (most : Nat) (w : World) (b : Below W.heap.size W w) (hs : s.size ≤ 30000) (hk : k ≤ 9) (hm : most ≤ 1000000) (hf : most < (dby d s k).size) => (show Calls Tryz.prog 8 #[.string d, .string s, .int .i64 k, .int .i64 most] w fun e w' => e = .returned (.tuple #[.string ⟨#[]⟩, .int .i64 4]) ∧ Below w.heap.size w w' from
      C.full d s k most w (C.keep H b) (by omega) hs hk (by omega) (by rw [← dby_size]; omega)))
    have HBn := Lib.hid (fun (n : Nat) (w : World) (b : Below W.heap.size W w) (hn : n ≤ 1000000) => C.bound n w (C.keep H b) hn)
    have c1 : decide ((1024 : Int) < (d.size : Int)) = false := decide_eq_false (by omega)
    have c1' : decide (1024 < d.size) = false := decide_eq_false (by omega)
    have c2 : decide ((8192 : Int) < (t.size : Int)) = false := decide_eq_false (by omega)
    have c2' : decide (8192 < t.size) = false := decide_eq_false (by omega)
    obtain ⟨q, hq⟩ : ∃ q, tm % 100 = q := ⟨_, rfl⟩
    have hq2 : (tm : Int) % 100 = (q : Int) := by omega
    have hq3 : Int.tmod (tm : Int) 100 = (q : Int) := by rw [Int.tmod_eq_emod_of_nonneg (by omega)]; exact hq2
    have hq4 : q < 100 := by omega
    clear hq H
    have hq5 : IntKind.i64.wrap (tm : Int) = (tm : Int) := IntWalk.i64_in _ (by omega)
    obtain ⟨k, hk⟩ : ∃ k, lv % 10 = k := ⟨_, rfl⟩
    have hk2 : (lv : Int) % 10 = (k : Int) := by omega
    have hk3 : Int.tmod (lv : Int) 10 = (k : Int) := by rw [Int.tmod_eq_emod_of_nonneg (by omega)]; exact hk2
    have hk4 : k ≤ 9 := by omega
    have ht3 : t.size ≤ 8192 := h2
    clear hk
    go_enter Tryz.func4, Tryz.ntmps4
    go_wp2_with fail
    go_loopw [9, 10] (fun y x wr => ∃ (s : ByteArray) (i : Nat), i ≤ 100 ∧ x = .int .i64 i ∧ y = .string s ∧ s.size ≤ 24575 ∧ Below W.heap.size W wr) (fun _ x _ => 100 - (intOf x).toNat)
    case atStart => exact ⟨⟨#[]⟩, 0, by omega, rfl, rfl, by decide, Below.refl _ _⟩
    case round =>
      obtain ⟨s, i, hi, rfl, rfl, hs, hb⟩ := hrel
      have HB := Lib.hid hb
      clear hb
      have s4 : s.size + t.size ≤ 9223372036854775807 := by omega
      by_cases cc : i < 1 + q ∧ s.size < 16384
      · obtain ⟨ca, cb⟩ := cc
        have a1 : decide ((i : Int) < 1 + (q : Int)) = true := decide_eq_true (by omega)
        have a1' : decide (i < 1 + q) = true := decide_eq_true ca
        have a2 : decide ((s.size : Int) < 16384) = true := decide_eq_true (by omega)
        have a2' : decide (s.size < 16384) = true := decide_eq_true cb
        go_wp2_with fail
        go_roundw
        case rel => exact ⟨s ++ t, i + 1, by omega, by go_num, rfl, by rw [ByteArray.size_append]; omega, HB.out⟩
        case measure => (simp [intOf]; try omega)
      · obtain ⟨b1, hb1⟩ : ∃ b, decide (i < 1 + q) = b := ⟨_, rfl⟩
        obtain ⟨b2, hb2⟩ : ∃ b, decide (s.size < 16384) = b := ⟨_, rfl⟩
        have hb3 : (b1 && b2) = false := by rw [← hb1, ← hb2, Bool.and_eq_false_iff, decide_eq_false_iff_not, decide_eq_false_iff_not]; omega
        have hb1' : decide ((i : Int) < 1 + (q : Int)) = b1 := by rw [← hb1]; exact decide_eq_decide.2 (by omega)
        have hb2' : decide ((s.size : Int) < 16384) = b2 := by rw [← hb2]; exact decide_eq_decide.2 (by omega)
        obtain ⟨hX1, hX2⟩ := dby_short d s k (by omega)
        have HBs := HBn.out s.size
        obtain ⟨N, hN⟩ : ∃ N, bnd s.size = N := ⟨_, rfl⟩
        have hN1 : N ≤ 1000000 := by rw [← hN]; unfold bnd; split <;> omega
        have HY1 := HY.out s k
        have HN1 := HN.out s k
        obtain ⟨X, hX⟩ : ∃ X, dby d s k = X := ⟨_, rfl⟩
        rw [hX, hN] at hX1
        rw [hX] at hX2 HY1 HN1
        rw [hN] at HBs
        obtain ⟨m, hm⟩ : ∃ m, X.size = m + 1 := ⟨X.size - 1, by omega⟩
        have HB1 := Lib.hid (fun w b => HBs w b (by omega))
        have HY2 := Lib.hid (fun w b => HY1 N w b (by omega) hk4 hN1 (by omega))
        have HY3 := Lib.hid (fun w b => HY1 X.size w b (by omega) hk4 (by omega) (by omega))
        have HN2 := Lib.hid (fun w b => HN1 m w b (by omega) hk4 (by omega) (by omega))
        have x1 : ((X.size : Int) == 0) = false := by rw [beq_eq_false_iff_ne]; omega
        have x1' : decide (X.size = 0) = false := decide_eq_false (by omega)
        have x2 : decide ((N : Int) < (X.size : Int)) = false := decide_eq_false (by omega)
        have x2' : decide (N < X.size) = false := decide_eq_false (by omega)
        have x4 : (X.size : Int) - 1 = (m : Int) := by omega
        have x7 : X.size ≤ 1000000 := by omega
        have x8 : m ≤ 1000000 := by omega
        clear HY HN HBn HBs HY1 HN1 hX hN hb1 hb2 hs s4 cc hX1 hX2 hm
        cases b1 <;> cases b2 <;> first
          | exact absurd hb3 (by decide)
          | (go_wp2_with (first
              | (go_at_call 10; (with_reducible refine (HB1.out _ HB.out).mono ?_); rintro e w1 ⟨rfl, b1⟩; have B1 := Lib.hid (HB.out.trans (b1.mono HB.out.size)); clear b1)
              | (go_at_call 8; (with_reducible refine (HY2.out _ B1.out).mono ?_); rintro e w2 ⟨rfl, b2⟩; have B2 := Lib.hid (B1.out.trans (b2.mono B1.out.size)); clear b2)
              | (go_at_call 8; (with_reducible refine (HY3.out _ B2.out).mono ?_); rintro e w3 ⟨rfl, b3⟩; have B3 := Lib.hid (B2.out.trans (b3.mono B2.out.size)); clear b3)
              | (go_at_call 8; (with_reducible refine (HN2.out _ B3.out).mono ?_); rintro e w4 ⟨rfl, b4⟩; have B4 := Lib.hid (B3.out.trans (b4.mono B3.out.size)); clear b4)
              | (go_at_call 7; (with_reducible refine (HW.out _ B4.out).mono ?_); rintro e w5 ⟨rfl, b5⟩; have B5 := Lib.hid (B4.out.trans (b5.mono B4.out.size)); clear b5))
             go_ret
             exact ⟨rfl, B5.out⟩)
  · have c1 : decide ((1024 : Int) < (d.size : Int)) = decide (1024 < d.size) := decide_eq_decide.2 (by omega)
    obtain ⟨b1, hb1⟩ : ∃ b, decide (1024 < d.size) = b := ⟨_, rfl⟩
    obtain ⟨b2, hb2⟩ : ∃ b, decide (8192 < t.size) = b := ⟨_, rfl⟩
    have hb3 : (b1 || b2) = true := by rw [← hb1, ← hb2, Bool.or_eq_true, decide_eq_true_eq, decide_eq_true_eq]; omega
    have hb1' : decide ((1024 : Int) < (d.size : Int)) = b1 := by rw [← hb1]; exact decide_eq_decide.2 (by omega)
    have hb2' : decide ((8192 : Int) < (t.size : Int)) = b2 := by rw [← hb2]; exact decide_eq_decide.2 (by omega)
    clear c1 hh H
    cases b1 <;> cases b2 <;> first
      | exact absurd hb3 (by decide)
      | (go_enter Tryz.func4, Tryz.ntmps4
         go_wp2_with (go_at_call 7; (with_reducible refine (HW.out _ (Below.refl _ _)).mono ?_); rintro e w5 ⟨rfl, b5⟩; have B5 := Lib.hid b5; clear b5)
         go_ret
         exact ⟨rfl, B5.out⟩)
end Go.Proofs.YtldiojnkoobbmaaGreatDoor.V

namespace Go.Proofs.YtldiojnkoobbmaaGreatDoor.V
open Go Go.RowKit M U
set_option linter.unusedVariables false
set_option linter.unusedSimpArgs false
def tkw (t : Tk) : Nat := if t.n = 0 then 9 else 31
def tkws : List Tk → Nat
  | [] => 0
  | t :: l => tkw t + tkws l
theorem tkws_len : ∀ L : List Tk, tkws L ≤ 31 * L.length
  | [] => by simp [tkws]
  | t :: l => by
    have := tkws_len l
    simp only [tkws, List.length_cons]
    unfold tkw
    split <;> omega
theorem fxl_few (i : Nat) : fxl i ≤ 9 := by unfold fxl; split <;> (try split) <;> (try split) <;> omega
theorem fxl_long (i : Nat) : fxl (257 + i) ≤ 8 := by unfold fxl; split <;> (try split) <;> (try split) <;> omega
theorem wgh_sy1 (t : Tk) : wgh fxl (fun _ => 5) (sy1 t) ≤ tkw t := by
  unfold sy1 tkw
  split
  · have := fxl_few t.l.toNat
    simp only [wgh]
    simp
    exact this
  · have h1 := fxl_long (lsy t.n.toNat)
    have h2 := lb_le (lsy t.n.toNat) (fdn_le ll t.n.toNat 28)
    have h3 := db_le (dsy t.d.toNat) (fdn_le dl t.d.toNat 29)
    simp only [wgh]
    simp
    omega
theorem wgh_tk : ∀ L : List Tk, wgh fxl (fun _ => 5) (L.flatMap sy1) ≤ tkws L
  | [] => by simp [wgh]
  | t :: l => by
    have := wgh_tk l
    have := wgh_sy1 t
    rw [List.flatMap_cons, wgh_append]
    simp only [tkws]
    omega
theorem sfx_few (L : List Tk) : (sfx L).length ≤ tkws L + 7 := by
  unfold sfx
  rw [flat_len]
  unfold sys
  rw [wgh_append]
  have := wgh_tk L
  have e : wgh fxl (fun _ => 5) [⟨false, 256, 0, 0⟩] = 7 := rfl
  omega
theorem tkw_lit (s : ByteArray) (k : Nat) : tkw (Px.lit s k) = 9 := rfl
theorem tkw_mtk (m : Nat × Nat) : tkw (Px.mtk m) ≤ 31 := by unfold tkw; split <;> omega
theorem G_bits {s : ByteArray} {L : Nat} {r : Px.Lv} (h : Px.Per s L) (hd : 512 ≤ r.d) (hn : r.n = 258) (k : Nat) (m : Nat × Nat) (hm : m.1 ≠ 0 → Px.Mt s k m) (hf : L ≤ k → m.1 ≠ 0 → m.1 = min 258 (s.size - k)) (hk : k ≤ s.size) :
    tkws (Px.G s r k m) ≤ 11 * (L - k) + 31 * ((s.size - k) / 258) + (if L ≤ k then 62 else 93) := by
  have hpos := h.pos
  induction k, m using Px.G.induct s r with
  | case1 k m hlt hz hq ih =>
    by_cases hL : L ≤ k
    · have h3 : ¬ k + 3 ≤ s.size := fun q => by
        have := h.full hL q hd hn (over := 2) (by unfold Px.most; omega)
        rw [hq] at this; unfold Px.most at this; omega
      have h1 := Px.G_len s r k m hm
      have h2 := tkws_len (Px.G s r k m)
      rw [if_pos hL]
      omega
    · rw [Px.G_lit hlt hz hq]
      have := ih (fun q => absurd rfl q) (fun _ q => absurd rfl q) (by omega)
      simp only [tkws, tkw_lit]
      rw [if_neg hL]
      split at this <;> omega
  | case2 k m hlt hz hq ih =>
    rw [Px.G_look hlt hz hq]
    exact ih (fun q => (Px.mt_is q).1) (fun hL q => h.full_or hL hd hn q) hk
  | case3 k m hlt hz hc hq ih =>
    rw [Px.G_stay hlt hz hc hq]
    have hv := hm hz
    have h1 := hv.len
    have h2 := hv.fits
    have hw := tkw_mtk m
    have := ih (fun q => absurd rfl q) (fun _ q => absurd rfl q) h2
    simp only [tkws]
    by_cases hL : L ≤ k
    · have hM := hf hL hz
      rw [if_pos (by omega)] at this
      rw [if_pos hL]
      by_cases h258 : s.size - k < 258
      · have he : s.size ≤ k + m.1 := by omega
        rw [Px.G_end he]
        simp only [tkws]
        omega
      · omega
    · rw [if_neg hL]
      split at this <;> omega
  | case4 k m hlt hz hc hq ih =>
    rw [Px.G_lazy hlt hz hc hq]
    have hk1 := hc.2
    by_cases hL : L ≤ k
    · have hM := hf hL hz
      exact absurd (Px.mt_none (by unfold Px.most; omega)) hq
    · have := ih (fun q => (Px.mt_is q).1) (fun hL' q => h.full_or hL' hd hn q) (by omega)
      simp only [tkws, tkw_lit]
      rw [if_neg hL]
      split at this <;> omega
  | case5 k m hlt hz hc ih =>
    rw [Px.G_take hlt hz hc]
    have hv := hm hz
    have h1 := hv.len
    have h2 := hv.fits
    have hw := tkw_mtk m
    have := ih (fun q => absurd rfl q) (fun _ q => absurd rfl q) h2
    simp only [tkws]
    by_cases hL : L ≤ k
    · have hM := hf hL hz
      rw [if_pos (by omega)] at this
      rw [if_pos hL]
      by_cases h258 : s.size - k < 258
      · have he : s.size ≤ k + m.1 := by omega
        rw [Px.G_end he]
        simp only [tkws]
        omega
      · omega
    · rw [if_neg hL]
      split at this <;> omega
  | case6 k m hlt =>
    rw [Px.G_end (by omega)]
    simp only [tkws]
    omega
theorem sbt_one {L : List Tk} {s : ByteArray} {lv : Nat} (h0 : lv ≠ 0) (hs : s.size ≤ 65535) (hn : L.length ≤ 1024) (hz : Tx.szs L = s.size) : (sbt L s lv).length ≤ tkws L + 12 := by
  unfold sbt
  rw [if_neg h0, pts_few L s hn]
  have h := prs_near (L := L) hs [(0, L.length)] 0
  have h1 : (kp L s 0 L.length).2 ≤ b3 (seg L 0 L.length) (s.extract (szt L 0) (szt L L.length)) 1 := kd_least _ _ (by omega)
  have e : b3 (seg L 0 L.length) (s.extract (szt L 0) (szt L L.length)) 1 = 3 + (sfx (seg L 0 L.length)).length := by
    unfold b3
    rw [bkm_blk (by rw [ByteArray.size_extract]; omega)]
    unfold blk
    rw [if_neg (by decide), if_pos rfl, List.length_append, hdb_length]
  have es : seg L 0 L.length = L := by unfold seg; simp
  rw [es] at e h1
  rw [e] at h1
  have h2 := sfx_few L
  simp only [pbits, List.length_cons, List.length_nil] at h
  omega
theorem dby_few {t : ByteArray} {p k : Nat} (h : Px.Per t p) (hp : p ≤ 60) (hk : k = 8 ∨ k = 9) (ht : t.size ≤ 9400) : (dby ⟨#[]⟩ t k).size ≤ 2 * p + 3 * t.size / 258 + 100 := by
  have h0 : k ≠ 0 := by omega
  have hd : 512 ≤ (Px.Q.lv k).d := by rcases hk with rfl | rfl <;> decide
  have hn : (Px.Q.lv k).n = 258 := by rcases hk with rfl | rfl <;> rfl
  have hpos := h.pos
  rw [dby_size]
  have hf := Px.G_few h hd hn 0 (0, 0) (fun q => absurd rfl q) (fun _ q => absurd rfl q) (Nat.zero_le _)
  have hb := G_bits h hd hn 0 (0, 0) (fun q => absurd rfl q) (fun _ q => absurd rfl q) (Nat.zero_le _)
  have hz := dtk_size ⟨#[]⟩ t k
  have hs := sbt_one (L := dtk ⟨#[]⟩ t k) (s := t) (lv := k) h0 (by omega) (by rw [dtk_none h0]; omega) hz
  rw [dtk_none h0] at hs
  unfold dbs
  rw [dtk_none h0]
  rw [if_neg (by omega)] at hb
  omega
theorem dby_zero_size (d t : ByteArray) (ht : t.size ≤ 65535) : (dby d t 0).size = t.size + 5 := by
  rw [dby_size]
  unfold dbs sbt
  rw [if_pos rfl]
  exact stored_short ht
end Go.Proofs.YtldiojnkoobbmaaGreatDoor.V

namespace Go.Proofs.YtldiojnkoobbmaaGreatDoor.V
open Go Go.RowKit M U
set_option linter.unusedVariables false
set_option linter.unusedSimpArgs false
set_option maxRecDepth 1000000
theorem dby_zero_tail (d t : ByteArray) (ht : t.size ≤ 65535) : (dby d t 0).extract 5 (dby d t 0).size = t := by
  have hz := dby_zero_size d t ht
  have hb : dbs d t 0 = (hdb 0 true ++ List.replicate (pd (0 + 3)) 0) ++ (put t.size 16 ++ (put (65535 - t.size) 16 ++ (byb t t.size ++ []))) := by
    unfold dbs sbt
    rw [if_pos rfl, bkm_blk ht]
    unfold blk
    rw [if_pos rfl]
    unfold stb
    simp only [List.append_assoc, List.append_nil]
  have hH := hd_of (hdb 0 true ++ List.replicate (pd (0 + 3)) 0) [] 1 t.size t (by rw [List.length_append, hdb_length, List.length_replicate]; rfl) (by decide) ht
  rw [← hb] at hH
  have h := part_eq (dby d t 0) t 5 t.size (by omega) (Nat.le_refl _) (fun i hi => by
    have h1 := hH.at' i hi
    rw [← h1]
    unfold dby textR
    rw [bty_text _ _ _ (by rw [← dby_size]; omega)])
  rw [show (dby d t 0).size = 5 + t.size by omega, h]
  exact ByteArray.extract_zero_size
def Reps (p s : ByteArray) : Prop := p.size ∣ s.size ∧ ∀ i, i < s.size → Px.byt s i = Px.byt p (i % p.size)
theorem Reps.nil (p : ByteArray) : Reps p ⟨#[]⟩ := ⟨⟨0, rfl⟩, fun i hi => absurd hi (Nat.not_lt_zero i)⟩
theorem byt_lft (s t : ByteArray) (j : Nat) (hj : j < s.size) : Px.byt (s ++ t) j = Px.byt s j := by
  have h : ∀ (u : ByteArray) (i : Nat) (q : i < u.size), Px.byt u i = (u[i]'q).toNat := fun u i q => (Px.byt_eq q).symm
  rw [h _ _ (by rw [ByteArray.size_append]; omega), h _ _ hj, ByteArray.getElem_append_left hj]
theorem byt_rgt (s t : ByteArray) (j : Nat) (hj : j < t.size) : Px.byt (s ++ t) (s.size + j) = Px.byt t j := by
  have h : ∀ (u : ByteArray) (i : Nat) (q : i < u.size), Px.byt u i = (u[i]'q).toNat := fun u i q => (Px.byt_eq q).symm
  rw [h _ _ (by rw [ByteArray.size_append]; omega), h _ _ hj, ByteArray.getElem_append_right (by omega)]
  simp only [Nat.add_sub_cancel_left]
theorem Reps.next {p s : ByteArray} (h : Reps p s) (hp : 0 < p.size) : Reps p (s ++ p) := by
  obtain ⟨⟨m, hm⟩, h2⟩ := h
  refine ⟨⟨m + 1, by rw [ByteArray.size_append, hm, Nat.mul_add, Nat.mul_one]⟩, fun i hi => ?_⟩
  rw [ByteArray.size_append] at hi
  by_cases c : i < s.size
  · rw [byt_lft s p i c]; exact h2 i c
  · obtain ⟨j, rfl⟩ : ∃ j, i = s.size + j := ⟨i - s.size, by omega⟩
    rw [byt_rgt _ _ _ (by omega), hm, Nat.mul_add_mod, Nat.mod_eq_of_lt (by omega)]
theorem Reps.per {p s : ByteArray} (h : Reps p s) (h1 : 1 ≤ p.size) (h2 : p.size ≤ 100) : Px.Per s p.size :=
  ⟨h1, h2, fun i hi => by rw [h.2 _ hi, h.2 i (by omega), Nat.add_mod_right]⟩
set_option maxHeartbeats 4000000 in
theorem dsmall_law {T : World → Prop} (C : Dfs T) (p : ByteArray) (mn : Nat) (W : World) (H : T W) (hp : p.size ≤ maxLen) (hmn : mn ≤ 65535) :
    Calls Tryz.prog 5 #[.string p, .int .u16 mn] W fun e w' => e = .returned (.bool true) ∧ Below W.heap.size W w' := by
  have HW := Lib.hid (fun (w : World) (b : Below W.heap.size W w) => works15 C w (C.keep H b))
  unfold maxLen at hp
  by_cases hh : p.size = 0 ∨ 60 < p.size
  · obtain ⟨b1, hb1⟩ : ∃ b, decide (p.size = 0) = b := ⟨_, rfl⟩
    obtain ⟨b2, hb2⟩ : ∃ b, decide (60 < p.size) = b := ⟨_, rfl⟩
    have hb3 : (b1 || b2) = true := by rw [← hb1, ← hb2, Bool.or_eq_true, decide_eq_true_eq, decide_eq_true_eq]; exact hh
    have hb1' : ((p.size : Int) == 0) = b1 := by rw [← hb1, Bool.eq_iff_iff, beq_iff_eq, decide_eq_true_eq]; omega
    have hb1'' : (p.size == 0) = b1 := by rw [← hb1]; rfl
    have hb2' : decide ((60 : Int) < (p.size : Int)) = b2 := by rw [← hb2]; exact decide_eq_decide.2 (by omega)
    clear hh H
    cases b1 <;> cases b2 <;> first
      | exact absurd hb3 (by decide)
      | (go_enter Tryz.func5, Tryz.ntmps5
         go_wp2_with (go_at_call 7; (with_reducible refine (HW.out _ (Below.refl _ _)).mono ?_); rintro e w5 ⟨rfl, b5⟩; have B5 := Lib.hid b5; clear b5)
         go_ret
         exact ⟨rfl, B5.out⟩)
  · have h1 : 1 ≤ p.size := by omega
    have h2 : p.size ≤ 60 := by omega
    have d0 : ((p.size : Int) == 0) = false := by rw [beq_eq_false_iff_ne]; omega
    have d0' : (p.size == 0) = false := by rw [beq_eq_false_iff_ne]; omega
    have d0'' : decide (p.size = 0) = false := decide_eq_false (by omega)
    have d1 : decide ((60 : Int) < (p.size : Int)) = false := decide_eq_false (by omega)
    have d1' : decide (60 < p.size) = false := decide_eq_false (by omega)
    have HY := Lib.hid (fun (s : ByteArray) (k : Nat) (w : World) (b : Below W.heap.size W w) (hs : s.size ≤ 9400) (hk : k ≤ 9) => (show Calls Tryz.prog 8 #[.string ⟨#[]⟩, .string s, .int .i64 k, .int .i64 32768] w fun e w' => e = .returned (.tuple #[.string (dby ⟨#[]⟩ s k), .int .i64 0]) ∧ Below w.heap.size w w' from
      C.yes ⟨#[]⟩ s k 32768 w (C.keep H b) (by decide) (by omega) hk (by decide) (by
        rw [← dby_size]
        have := (dby_short ⟨#[]⟩ s k (by omega)).1
        have hb : bnd s.size ≤ 32768 := by unfold bnd; split <;> omega
        omega)))
    obtain ⟨q, hq⟩ : ∃ q, mn % 9000 = q := ⟨_, rfl⟩
    have hq2 : (mn : Int) % 9000 = (q : Int) := by omega
    have hq3 : Int.tmod (mn : Int) 9000 = (q : Int) := by rw [Int.tmod_eq_emod_of_nonneg (by omega)]; exact hq2
    have hq4 : q < 9000 := by omega
    have hq5 : IntKind.i64.wrap (mn : Int) = (mn : Int) := IntWalk.i64_in _ (by omega)
    obtain ⟨N, hN⟩ : ∃ N, 300 + q = N := ⟨_, rfl⟩
    have hN2 : (300 : Int) + (q : Int) = (N : Int) := by omega
    have hN3 : N ≤ 9300 := by omega
    have HP := Lib.hid (And.intro h1 h2)
    clear hq H hN hh hp
    go_enter Tryz.func5, Tryz.ntmps5
    go_wp2_with fail
    go_loopw [6] (fun x wr => ∃ s : ByteArray, x = .string s ∧ Reps p s ∧ s.size < N + 60 ∧ Below W.heap.size W wr) (fun x _ => match x with | .string s => N - s.size | _ => 0)
    case atStart => exact ⟨⟨#[]⟩, rfl, Reps.nil _, by show 0 < N + 60; omega, Below.refl _ _⟩
    case round =>
      obtain ⟨s, rfl, hR, hsz, hb⟩ := hrel
      have HB := Lib.hid hb
      clear hb
      have hss : s.size + p.size ≤ 9223372036854775807 := by omega
      by_cases hlt : s.size < N
      · have d2 : decide ((s.size : Int) < (N : Int)) = true := decide_eq_true (by omega)
        have d2' : decide (s.size < N) = true := decide_eq_true hlt
        have HR := Lib.hid (hR.next (by omega))
        have HS := Lib.hid (show (s ++ p).size < N + 60 ∧ N - (s ++ p).size < N - s.size by rw [ByteArray.size_append]; omega)
        clear hR hlt hsz
        go_wp2_with fail
        go_roundw
        case rel => exact ⟨s ++ p, rfl, HR.out, HS.out.1, HB.out⟩
        case measure => exact HS.out.2
      · have d2 : decide ((s.size : Int) < (N : Int)) = false := decide_eq_false (by omega)
        have d2' : decide (s.size < N) = false := decide_eq_false hlt
        have hper := hR.per h1 (by omega)
        have hf9 := dby_few (k := 9) hper h2 (.inr rfl) (by omega)
        have hf8 := dby_few (k := 8) hper h2 (.inl rfl) (by omega)
        have hz := dby_zero_size ⟨#[]⟩ s (by omega)
        have htl := dby_zero_tail ⟨#[]⟩ s (by omega)
        have hY9 := HY.out s 9
        have hY8 := HY.out s 8
        have hY0 := HY.out s 0
        obtain ⟨X9, hX9⟩ : ∃ X, dby ⟨#[]⟩ s 9 = X := ⟨_, rfl⟩
        obtain ⟨X8, hX8⟩ : ∃ X, dby ⟨#[]⟩ s 8 = X := ⟨_, rfl⟩
        obtain ⟨X0, hX0⟩ : ∃ X, dby ⟨#[]⟩ s 0 = X := ⟨_, rfl⟩
        rw [hX9] at hf9 hY9
        rw [hX8] at hf8 hY8
        rw [hX0] at hz htl hY0
        have H9 := Lib.hid (fun (w : World) (b : Below W.heap.size W w) => (show Calls Tryz.prog 8 #[.string ⟨#[]⟩, .string s, .int .i64 9, .int .i64 32768] w fun e w' => e = .returned (.tuple #[.string X9, .int .i64 0]) ∧ Below w.heap.size w w' from hY9 w b (by omega) (by decide)))
        have H8 := Lib.hid (fun (w : World) (b : Below W.heap.size W w) => (show Calls Tryz.prog 8 #[.string ⟨#[]⟩, .string s, .int .i64 8, .int .i64 32768] w fun e w' => e = .returned (.tuple #[.string X8, .int .i64 0]) ∧ Below w.heap.size w w' from hY8 w b (by omega) (by decide)))
        have H0 := Lib.hid (fun (w : World) (b : Below W.heap.size W w) => (show Calls Tryz.prog 8 #[.string ⟨#[]⟩, .string s, .int .i64 0, .int .i64 32768] w fun e w' => e = .returned (.tuple #[.string X0, .int .i64 0]) ∧ Below w.heap.size w w' from hY0 w b (by omega) (by decide)))
        obtain ⟨n, hn⟩ : ∃ n, s.size = n := ⟨_, rfl⟩
        obtain ⟨m, hm⟩ : ∃ m, p.size = m := ⟨_, rfl⟩
        obtain ⟨z9, hz9⟩ : ∃ z, X9.size = z := ⟨_, rfl⟩
        obtain ⟨z8, hz8⟩ : ∃ z, X8.size = z := ⟨_, rfl⟩
        obtain ⟨z0, hz0⟩ : ∃ z, X0.size = z := ⟨_, rfl⟩
        rw [hz0] at htl
        obtain ⟨r, hr⟩ : ∃ r, 3 * n / 258 = r := ⟨_, rfl⟩
        have hnb : n ≤ 9400 := by omega
        have d3 : decide ((n : Int) < (N : Int)) = false := decide_eq_false (by omega)
        have d3' : decide (n < N) = false := decide_eq_false (by omega)
        have hmb : m ≤ 60 := by omega
        have r1 : (3 * (n : Int)) / 258 = (r : Int) := by omega
        have r2 : Int.tdiv (3 * (n : Int)) 258 = (r : Int) := by rw [Int.tdiv_eq_ediv_of_nonneg (by omega)]; exact r1
        have hrb : r ≤ 200 := by omega
        rw [hz9, hn, hm, hr] at hf9
        rw [hz8, hn, hm, hr] at hf8
        rw [hz0, hn] at hz
        have m1 : 2 * (m : Int) + (r : Int) = ((2 * m + r : Nat) : Int) := by omega
        have y9 : decide ((z9 : Int) ≤ 2 * (m : Int) + (r : Int) + 100) = true := decide_eq_true (by omega)
        have y8 : decide ((z8 : Int) ≤ 2 * (m : Int) + (r : Int) + 100) = true := decide_eq_true (by omega)
        have y0 : ((z0 : Int) == (n : Int) + 5) = true := by rw [beq_iff_eq]; omega
        have y0' : ((z0 : Int) != (n : Int) + 5) = false := by rw [bne_eq_false_iff_eq]; omega
        have y00 : (z0 : Int) = (n : Int) + 5 := by omega
        have y5 : decide ((z0 : Int) < 5) = false := decide_eq_false (by omega)
        have y5' : decide (z0 < 5) = false := decide_eq_false (by omega)
        have hz9b : z9 ≤ 1000000 := by omega
        have hz8b : z8 ≤ 1000000 := by omega
        have hz0b : z0 ≤ 1000000 := by omega
        have hz05 : 5 ≤ z0 := by omega
        clear hR hper hX9 hX8 hX0 hr hlt hsz hss hf9 hf8 hY9 hY8 hY0 m1 HY hz
        go_wp2_with (first
          | (go_at_call 8; (with_reducible refine (H9.out _ HB.out).mono ?_); rintro e w1 ⟨rfl, b1⟩; have B1 := Lib.hid (HB.out.trans (b1.mono HB.out.size)); clear b1)
          | (go_at_call 8; (with_reducible refine (H8.out _ B1.out).mono ?_); rintro e w2 ⟨rfl, b2⟩; have B2 := Lib.hid (B1.out.trans (b2.mono B1.out.size)); clear b2)
          | (go_at_call 8; (with_reducible refine (H0.out _ B2.out).mono ?_); rintro e w3 ⟨rfl, b3⟩; have B3 := Lib.hid (B2.out.trans (b3.mono B2.out.size)); clear b3)
          | (go_at_call 7; (with_reducible refine (HW.out _ B3.out).mono ?_); rintro e w4 ⟨rfl, b4⟩; have B4 := Lib.hid (B3.out.trans (b4.mono B3.out.size)); clear b4))
        go_ret
        exact ⟨rfl, B4.out⟩
end Go.Proofs.YtldiojnkoobbmaaGreatDoor.V

namespace Go.Proofs.YtldiojnkoobbmaaGreatDoor.V
open Go Go.RowKit M U
set_option linter.unusedVariables false
set_option linter.unusedSimpArgs false
set_option maxRecDepth 1000000
theorem begun_any (n s : Nat) (w : World) (h0 : 1 ≤ n) (hn : n ≤ 2000000) (hs : s ≤ 100000) (h1 : 1 ≤ s) : Calls Tryz.prog 18 #[.int .i64 n, .int .i64 s] w fun e w' => e = .returned (.int .i64 ((n - 1) / s + 1 : Nat)) ∧ w' = w := by
  obtain ⟨m, hm⟩ : ∃ m, n - 1 = m := ⟨_, rfl⟩
  have e1 : (n : Int) - 1 = (m : Int) := by omega
  obtain ⟨q, hq⟩ : ∃ q, m / s = q := ⟨_, rfl⟩
  have hq1 : q ≤ m := by rw [← hq]; exact Nat.div_le_self _ _
  have e2 : Int.tdiv (m : Int) (s : Int) = (q : Int) := by rw [Int.tdiv_eq_ediv_of_nonneg (by omega), ← hq]; exact (Int.natCast_ediv m s).symm
  have e3 : (m : Int) / (s : Int) = (q : Int) := by rw [← hq]; exact (Int.natCast_ediv m s).symm
  have e4 : ((s : Int) == 0) = false := by rw [beq_eq_false_iff_ne]; omega
  have e5 : (s == 0) = false := by rw [beq_eq_false_iff_ne]; omega
  have e6 : ¬ (s : Int) = 0 := by omega
  have e7 : ¬ s = 0 := by omega
  have hm3 : m ≤ 3000000 := by omega
  rw [hm, hq]
  clear hq
  go_enter Tryz.func18, Tryz.ntmps18
  go_wp2_with fail
  go_ret
  exact ⟨rfl, rfl⟩
theorem bound_any (n : Nat) (w : World) (hn : n ≤ 1000000) : Calls Tryz.prog 10 #[.int .i64 n] w fun e w' => e = .returned (.int .i64 (bnd n : Nat)) ∧ Below w.heap.size w w' := by
  by_cases h0 : n = 0
  · subst h0
    go_enter Tryz.func10, Tryz.ntmps10
    go_wp2_with fail
    go_ret
    exact ⟨rfl, Below.refl _ _⟩
  · have d1 : decide ((n : Int) ≤ 0) = false := decide_eq_false (by omega)
    have d1' : decide (n = 0) = false := decide_eq_false h0
    have d1'' : ¬ (n : Int) ≤ 0 := by omega
    obtain ⟨x, hx⟩ : ∃ x, (n - 1) / 1024 + 1 = x := ⟨_, rfl⟩
    obtain ⟨y, hy⟩ : ∃ y, (n - 1) / 65535 + 1 = y := ⟨_, rfl⟩
    have hx1 : x ≤ 2000 := by omega
    have hy1 : y ≤ 2000 := by omega
    have hy2 : 1 ≤ y := by omega
    have B1 := Lib.hid (show Calls Tryz.prog 18 #[.int .i64 n, .int .i64 1024] w fun e w' => e = .returned (.int .i64 x) ∧ w' = w from by
      have h := begun_any n 1024 w (by omega) (by omega) (by omega) (by omega); rw [hx] at h; exact h)
    have B2 := Lib.hid (show Calls Tryz.prog 18 #[.int .i64 n, .int .i64 65535] w fun e w' => e = .returned (.int .i64 y) ∧ w' = w from by
      have h := begun_any n 65535 w (by omega) (by omega) (by omega) (by omega); rw [hy] at h; exact h)
    have hr : bnd n = n + 6 * x + 5 * (y - 1) := by unfold bnd; rw [if_neg h0]; omega
    obtain ⟨r, hr'⟩ : ∃ r, bnd n = r := ⟨_, rfl⟩
    rw [hr']
    have hr2 : (n : Int) + 6 * (x : Int) + 5 * ((y : Int) - 1) = (r : Int) := by omega
    have hrb : r ≤ 2000000 := by omega
    clear hx hy hr hr'
    go_enter Tryz.func10, Tryz.ntmps10
    go_wp2_with (first
      | (go_at_call 18; (with_reducible refine B1.out.mono ?_); rintro e w1 ⟨rfl, rfl⟩)
      | (go_at_call 18; (with_reducible refine B2.out.mono ?_); rintro e w1 ⟨rfl, rfl⟩))
    go_ret
    exact ⟨rfl, Below.refl _ _⟩
theorem cut_no (d t : ByteArray) (k : Int) (w : World) (hk : k < 0 ∨ 9 < k) : Calls Tryz.prog 11 #[.string d, .string t, .int .i64 k] w fun e w' => e = .returned (.tuple #[.slice none 0 0, .slice none 0 0, .int .i64 2]) ∧ Below w.heap.size w w' := by
  have HN := Lib.hid (Px.tokens_no d t k w hk)
  have e1 : (k == 0) = false := by rw [beq_eq_false_iff_ne]; omega
  have e2 : ¬ k = 0 := by omega
  clear hk
  go_enter Tryz.func11, Tryz.ntmps11
  go_wp2_with (go_at_call 19; (with_reducible refine HN.out.mono ?_); rintro e w1 ⟨rfl, b1⟩; have B1 := Lib.hid b1; clear b1)
  go_ret3
  exact ⟨rfl, B1.out⟩
theorem deflate_no (d t : ByteArray) (k most : Int) (w : World) (hk : k < 0 ∨ 9 < k) : Calls Tryz.prog 8 #[.string d, .string t, .int .i64 k, .int .i64 most] w fun e w' => e = .returned (.tuple #[.string ⟨#[]⟩, .int .i64 2]) ∧ Below w.heap.size w w' := by
  have HN := Lib.hid (cut_no d t k w hk)
  clear hk
  go_enter Tryz.func8, Tryz.ntmps8
  go_wp2_with (go_at_call 11; (with_reducible refine HN.out.mono ?_); rintro e w1 ⟨rfl, b1⟩; have B1 := Lib.hid b1; clear b1)
  go_ret2
  exact ⟨rfl, B1.out⟩
end Go.Proofs.YtldiojnkoobbmaaGreatDoor.V
