/- What Apply of package mods answers. Conditions: as each theorem names them. -/
import Derived.Test.YtbbfbijgclpjeaaOdI
import Derived.Test.YtbbfbijgclpjeaaOdF
import Derived.Deep.RegionLaw
import Derived.RegionTactic
import Derived.BigRegion
namespace Go.Proofs.Ytbbfbijgclpjeaa.O
open Go Go.RowKit M
set_option linter.unusedVariables false
set_option linter.unusedSimpArgs false

theorem app_snoc {t : List UInt8} {L : List Md} {k : Nat} (h : k < L.length) : app t (L.take (k + 1)) = put (app t (L.take k)) (L.getD k default) := by
  rw [List.take_succ_eq_append_getElem h, app_append, List.getD, List.getElem?_eq_getElem h]
  rfl
theorem oks_take {N : Int} {L : List Md} (h : oks N L = true) (k : Nat) : oks N (L.take k) = true := oks_iff.2 fun m hm => oks_iff.1 h m (List.mem_of_mem_take hm)
theorem oks_at {N : Int} {L : List Md} (h : oks N L = true) {k : Nat} (hk : k < L.length) : may N (L.getD k default) = true := oks_iff.1 h _ (by rw [List.getD, List.getElem?_eq_getElem hk]; exact List.getElem_mem _)

set_option maxRecDepth 1000000 in
set_option maxHeartbeats 2000000 in
theorem apply_any (T : ByteArray) (A : Option Addr) (n c : Nat) (L : List Md) (W : World) (h : IsMds W A n L) (hT : T.size ≤ 100000000) :
    Calls Try.prog 14 #[.string T, .slice A n c] W fun e w' => e = .returned (.tuple #[.string (bstr (apl T.data.toList L).1), .int .i64 (apl T.data.toList L).2]) ∧ Below W.heap.size W w' := by
  have HP := Lib.hid (page_any (T.size : Int))
  have HA := Lib.hid (fun w (hi : IsMds w A n L) => mayAll_any (T.size : Int) A n c L w hi)
  have HH := Lib.hid h
  have hl := h.leng
  have HL := Lib.hid hl
  have hm := h.most
  unfold maxLen at hm
  unfold apl
  rw [size_list]
  cases hp : pg (T.size : Int) with
  | false =>
    rw [hp] at HP
    show Calls _ _ _ _ fun e w' => e = .returned (.tuple #[.string ⟨#[]⟩, .int .i64 2]) ∧ _
    clear hp h hl hm
    go_enter Try.func14, Try.ntmps14
    go_wp2_with (go_at_call 18; (with_reducible refine (HP.out _).mono ?_); rintro e w' ⟨rfl, rfl⟩)
    go_ret2
    exact ⟨rfl, Below.refl _ _⟩
  | true =>
    rw [hp] at HP
    have hpl := pg_le hp
    cases hq : oks (T.size : Int) L with
    | false =>
      rw [hq] at HA
      show Calls _ _ _ _ fun e w' => e = .returned (.tuple #[.string ⟨#[]⟩, .int .i64 2]) ∧ _
      clear hp h hl hm hq hpl
      go_enter Try.func14, Try.ntmps14
      go_wp2_with (first
        | (go_at_call 18; (with_reducible refine (HP.out _).mono ?_); rintro e w' ⟨rfl, rfl⟩)
        | (go_at_call 31; (with_reducible refine (HA.out _ HH.out).mono ?_); rintro e w1 ⟨rfl, b1⟩; have B1 := Lib.hid b1; clear b1))
      go_ret2
      exact ⟨rfl, B1.out⟩
    | true =>
      rw [hq] at HA
      show Calls _ _ _ _ fun e w' => e = .returned (.tuple #[.string (bstr (app T.data.toList L)), .int .i64 0]) ∧ _
      have HQ := Lib.hid hq
      obtain ⟨hp1, hp2⟩ := hpl
      clear hp h hl hq
      go_enter Try.func14, Try.ntmps14
      go_wp2_with (first
        | (go_at_call 18; (with_reducible refine (HP.out _).mono ?_); rintro e w' ⟨rfl, rfl⟩)
        | (go_at_call 31; (with_reducible refine (HA.out _ HH.out).mono ?_); rintro e w1 ⟨rfl, b1⟩; obtain ⟨cp, W2, hr, hcp, hB, hbl, hsz⟩ := run_bytes w1 T; have HBy := Lib.hid hB; have HG := Lib.hid b1.size; have B1 := Lib.hid (b1.trans (hbl.mono b1.size)); clear b1 hB hbl hsz))
      go_loopw [24] (fun i wr => ∃ k : Nat, k ≤ n ∧ i = .int .i64 k ∧ Byt wr w1.heap.size (app T.data.toList (L.take k)) ∧ Below W.heap.size W wr) (fun i _ => n - (intOf i).toNat)
      case atStart => exact ⟨0, Nat.zero_le _, rfl, HBy.out, B1.out⟩
      case round =>
        obtain ⟨k, hk, rfl, hy, hb⟩ := hrel
        have HB := Lib.hid hb
        have hal := app_length (L.take k) T.data.toList (size_list T) (oks_take HQ.out k)
        by_cases hlt : k < n
        · obtain ⟨b, o, rfl, hbl, hc⟩ := (HH.out.below hb).at (by omega)
          obtain ⟨c0, c1⟩ := hc k hlt
          have hg := app_snoc (t := T.data.toList) (L := L) (k := k) (by rw [HL.out]; exact hlt)
          have hmy := oks_at HQ.out (k := k) (by rw [HL.out]; exact hlt)
          obtain ⟨m, hm'⟩ : ∃ m, L.getD k default = m := ⟨_, rfl⟩
          rw [hm'] at c0 c1 hg hmy
          obtain ⟨p, s⟩ := m
          obtain ⟨y1, y2, y3, y4⟩ := may_iff.1 hmy
          simp only at c0 c1 y2 y3 y4
          obtain ⟨P, rfl⟩ := Int.eq_ofNat_of_zero_le y2
          have HM2 := Lib.hid (((hy.alloc (.cells #[.int .i64 (P : Int), .string s] 34))).drew)
          obtain ⟨w3, hcy, hy3, hk3⟩ := run_cpy HM2.out P (T.size - P) (cp - P) s.size s (Nat.min_eq_left (by omega)).symm (by rw [hal]; omega)
          have e3 : (app T.data.toList (L.take k)).take P ++ s.data.toList.take s.size ++ (app T.data.toList (L.take k)).drop (P + s.size) = app T.data.toList (L.take (k + 1)) := by
            rw [hg, List.take_of_length_le (l := s.data.toList) (by rw [size_list]; exact Nat.le_refl _)]; rfl
          rw [e3] at hy3
          have HY3 := Lib.hid hy3
          have HC := Lib.hid hcy
          have B3 := Lib.hid ((hb.alloc hb.size (.cells #[.int .i64 (P : Int), .string s] 34)).drew.trans (hk3.below (by have := HB.out.size; show _ ≤ (wr.alloc _).heap.size; rw [World.size_alloc]; omega) (fun j hj => by subst hj; exact HG.out)))
          have d1 : decide ((k : Int) < (n : Int)) = true := decide_eq_true (by omega)
          have d1' : decide (k < n) = true := decide_eq_true hlt
          have f1 : P ≤ T.size := by omega
          have f2 : ¬ cp = P := by omega
          clear hc hm' hy hb hal hg hmy y1 y2 y3 y4 hcy hy3 hk3 e3 hbl
          go_wp2_with fail
          go_region_law (refine step_copy_known rfl _ _ _ _ rfl _ _ rfl rfl HC.out ?_)
          all_goals go_wp2_with fail
          all_goals go_roundw
          all_goals first
            | (case rel => exact ⟨k + 1, by omega, by go_num, HY3.out, B3.out⟩)
            | (case measure => simp [intOf]; omega)
        · obtain rfl : k = n := by omega
          have e : L.take k = L := List.take_of_length_le (by rw [HL.out]; exact Nat.le_refl _)
          rw [e] at hy hal
          have hcv := conv_byt (c := cp) hy hal
          clear e hb hy hal
          go_wp2_with fail
          go_ret2
          exact ⟨rfl, HB.out⟩
end Go.Proofs.Ytbbfbijgclpjeaa.O
