/- RunsCounts returns true, over what the program's functions answer. Conditions: as each theorem names them. -/
import Derived.Test.YtogbohompffcbaaDoorLwU
namespace Go.Proofs.YtogbohompffcbaaDoor.U
open Go Go.RowKit M
set_option linter.unusedVariables false
set_option linter.unusedSimpArgs false

/-- all are runs, and the first one asks for no length ahead -/
def fb (L : List Rn) : Bool := L.all (fun r => decide (0 < tms r)) && (match L with | [] => true | r :: _ => !decide (r.s = 16))
theorem fb_iff (L : List Rn) : fb L = true ↔ Fine [] L := by
  unfold fb Fine
  rw [Bool.and_eq_true, List.all_eq_true]
  constructor
  · rintro ⟨h1, h2⟩
    refine ⟨fun r hr => by have := of_decide_eq_true (h1 r hr); omega, fun _ r hr => ?_⟩
    cases L with
    | nil => simp at hr
    | cons a L =>
      simp only [List.head?_cons, Option.some.injEq] at hr
      subst hr
      simpa using h2
  · rintro ⟨h1, h2⟩
    refine ⟨fun r hr => decide_eq_true (by have := h1 r hr; omega), ?_⟩
    cases L with
    | nil => rfl
    | cons a L => simpa using h2 rfl a rfl
theorem fb_snoc (L : List Rn) (r : Rn) : fb (L ++ [r]) = (fb L && decide (0 < tms r) && !(decide (L.length = 0) && decide (r.s = 16))) := by
  unfold fb
  rw [List.all_append]
  cases L with
  | nil => simp
  | cons a L =>
    simp only [List.all_cons, List.all_nil, List.cons_append, List.length_cons]
    cases decide (0 < tms a) <;> cases L.all (fun r => decide (0 < tms r)) <;> cases decide (0 < tms r) <;> cases decide (a.s = 16) <;> simp
theorem rn_take_succ (L : List Rn) (i : Nat) (hi : i < L.length) : L.take (i + 1) = L.take i ++ [L.getD i default] := by
  rw [List.take_add_one, List.getD, List.getElem?_eq_getElem hi]; rfl
theorem tot_le : ∀ L : List Rn, tot L ≤ 138 * L.length
  | [] => by simp [tot]
  | r :: L => by have := tot_le L; have := tms_le r; simp only [tot, List.length_cons]; omega

set_option maxRecDepth 1000000 in
set_option maxHeartbeats 4000000 in
theorem counts_gen {T : World → Prop} (C : Cts T) (B : Option Addr) (m d : Nat) (L : List Rn) (x : Int) (X1 : Int) (Y1 : Nat) (X2 : Int) (Y2 : Nat) (W : World) (H : T W) (hm : m ≤ 500) (hL : IsRns W B m L) (hx : -128 ≤ x ∧ x ≤ 127)
    (h1 : (fb L = true ∧ X1 = 0 ∧ Y1 = tot L) ∨ (fb L = false ∧ X1 ≠ 0 ∧ Y1 = 0)) (h2 : (X2 == 0) = (fb L && (x == 0)))
    (HU1 : Hid (∀ w, Below W.heap.size W w → Calls Tryd.prog 10 #[.slice B m d, .int .i64 (tot L : Nat)] w fun e w' => ∃ A c, e = .returned (.tuple #[.slice A Y1 c, .int .i64 X1]) ∧ Below w.heap.size w w'))
    (HU2 : Hid (∀ w, Below W.heap.size W w → Calls Tryd.prog 10 #[.slice B m d, .int .i64 ((tot L : Nat) + x)] w fun e w' => ∃ A c, e = .returned (.tuple #[.slice A Y2 c, .int .i64 X2]) ∧ Below w.heap.size w w')) :
    Calls Tryd.prog 5 #[.slice B m d, .int .i8 x] W fun e w' => e = .returned (.bool true) ∧ Below W.heap.size W w' := by
  have HV := Lib.hid (heavy_any none B 0 0 m d W (by unfold maxLen; omega) (by unfold maxLen; omega))
  rw [decide_eq_false (fun g => g.elim (fun g => by omega) (fun g => by omega))] at HV
  have HW := Lib.hid (fun w (hb : Below W.heap.size W w) => works_any C w (C.keep H hb))
  have HTM := Lib.hid (fun (s e : Nat) w (hb : Below W.heap.size W w) (h1 : s ≤ 255) (h2 : e ≤ 255) => C.times s e w (C.keep H hb) h1 h2)
  have HLL := Lib.hid hL
  have hlen := hL.leng
  have HLEN := Lib.hid hlen
  have htl := tot_le L
  rw [hlen] at htl
  have H1 := Lib.hid h1
  have H2 := Lib.hid h2
  clear C H hL hlen h1 h2
  go_enter Tryd.func5, Tryd.ntmps5
  go_wp2_with (go_at_call 6; (with_reducible refine HV.out.mono ?_); rintro e w0 ⟨rfl, rfl⟩)
  go_loopw [5, 6, 7] (fun v f y wr => ∃ k : Nat, k ≤ m ∧ y = .int .i64 k ∧ v = .int .i64 (tot (L.take k) : Nat) ∧ f = .bool (fb (L.take k)) ∧ Below W.heap.size W wr) (fun _ _ y _ => m - (intOf y).toNat)
  case atStart => exact ⟨0, Nat.zero_le _, rfl, rfl, rfl, Below.refl _ _⟩
  case round =>
    obtain ⟨k, hk, rfl, rfl, rfl, hb⟩ := hrel
    have HB := Lib.hid hb
    by_cases hlt : k < m
    · have d1 : decide ((k : Int) < (m : Int)) = true := decide_eq_true (by omega)
      have d1' : decide (k < m) = true := decide_eq_true hlt
      obtain ⟨b, o, rfl, hbl, hc⟩ := HLL.out.at (by omega)
      obtain ⟨g0, g1⟩ := hc k hlt
      have hle := HLL.out.le k
      have hkL : k < L.length := by rw [HLEN.out]; exact hlt
      have hts := rn_take_succ L k hkL
      have htk := tot_le (L.take k)
      rw [List.length_take] at htk
      obtain ⟨y, hy⟩ : ∃ y, L.getD k default = y := ⟨_, rfl⟩
      rw [hy] at g0 g1 hle hts
      obtain ⟨s, e⟩ := y
      obtain ⟨hs, he⟩ := hle
      simp only at g0 g1 hs he
      have f0 := (hb.cell (p := ⟨b, o + k * 2, none⟩) hbl).trans g0
      have f1 := (hb.cell (p := ⟨b, o + k * 2 + 1, none⟩) hbl).trans g1
      have T1 := Lib.hid (fun w hb => HTM.out s e w hb hs he)
      have ht138 := tms_le ⟨s, e⟩
      have hsn : tot (L.take (k + 1)) = tot (L.take k) + tms ⟨s, e⟩ := by rw [hts, tot_snoc]
      have hfn : fb (L.take (k + 1)) = (fb (L.take k) && decide (0 < tms ⟨s, e⟩) && !(decide (k = 0) && decide (s = 16))) := by
        rw [hts, fb_snoc, List.length_take, Nat.min_eq_left (by omega)]
      obtain ⟨t, ht⟩ : ∃ t, tms ⟨s, e⟩ = t := ⟨_, rfl⟩
      obtain ⟨v, hv⟩ : ∃ v, tot (L.take k) = v := ⟨_, rfl⟩
      rw [ht] at T1 ht138 hsn hfn
      rw [hv] at hsn htk ⊢
      have hk2 : k ≤ 500 := by omega
      have hv2 : v ≤ 100000 := by omega
      have HSN := Lib.hid hsn
      have dt1 : decide ((138 : Int) < (t : Int)) = false := decide_eq_false (by omega)
      have dt1' : decide (138 < t) = false := decide_eq_false (by omega)
      have dt2 : decide ((t : Int) < 0) = false := decide_eq_false (by omega)
      clear hb hc hy ht hv hts hsn htk g0 g1 hs he hbl hkL
      cases hf : fb (L.take k) with
      | false =>
        rw [hf, Bool.false_and, Bool.false_and] at hfn
        have HFN := Lib.hid hfn
        clear hf hfn
        go_wp2_with (go_at_call 13; (with_reducible refine (T1.out _ HB.out).mono ?_); rintro x w7 ⟨rfl, b7⟩; have c7 := (b7.cell (World.block_lt_of_cell? _ _ f0)).trans f0; have B7 := Lib.hid (HB.out.trans (b7.mono HB.out.size)); clear b7)
        exact ⟨⟨k + 1, by omega, by go_num, by rw [HSN.out]; go_num, by rw [HFN.out], B7.out⟩, by simp [intOf]; omega⟩
      | true =>
        rw [hf, Bool.true_and] at hfn
        by_cases h0 : 0 < t
        · rw [decide_eq_true h0, Bool.true_and] at hfn
          rw [decide_eq_true h0] at T1
          by_cases hk0 : k = 0
          · have q3 : ((k : Int) == 0) = true := by rw [beq_iff_eq]; omega
            have q4 : (k == 0) = true := by rw [beq_iff_eq]; exact hk0
            by_cases hs16 : s = 16
            · have HFN := Lib.hid (show fb (L.take (k + 1)) = false by rw [hfn, decide_eq_true hk0, decide_eq_true hs16]; rfl)
              have q1 : ((s : Int) == 16) = true := by rw [beq_iff_eq]; omega
              have q2 : (s == 16) = true := by rw [beq_iff_eq]; exact hs16
              clear hf hfn hk0 hs16
              go_wp2_with (go_at_call 13; (with_reducible refine (T1.out _ HB.out).mono ?_); rintro x w7 ⟨rfl, b7⟩; have c7 := (b7.cell (World.block_lt_of_cell? _ _ f0)).trans f0; have B7 := Lib.hid (HB.out.trans (b7.mono HB.out.size)); clear b7)
              exact ⟨⟨k + 1, by omega, by go_num, by rw [HSN.out]; go_num, by rw [HFN.out], B7.out⟩, by simp [intOf]; omega⟩
            · have HFN := Lib.hid (show fb (L.take (k + 1)) = true by rw [hfn, decide_eq_true hk0, decide_eq_false hs16]; rfl)
              have q1 : ((s : Int) == 16) = false := by rw [beq_eq_false_iff_ne]; omega
              have q2 : (s == 16) = false := by rw [beq_eq_false_iff_ne]; exact hs16
              clear hf hfn hk0
              go_wp2_with (go_at_call 13; (with_reducible refine (T1.out _ HB.out).mono ?_); rintro x w7 ⟨rfl, b7⟩; have c7 := (b7.cell (World.block_lt_of_cell? _ _ f0)).trans f0; have B7 := Lib.hid (HB.out.trans (b7.mono HB.out.size)); clear b7)
              exact ⟨⟨k + 1, by omega, by go_num, by rw [HSN.out]; go_num, by rw [HFN.out], B7.out⟩, by simp [intOf]; omega⟩
          · have HFN := Lib.hid (show fb (L.take (k + 1)) = true by rw [hfn, decide_eq_false hk0]; rfl)
            have q1 : ((k : Int) == 0) = false := by rw [beq_eq_false_iff_ne]; omega
            have q2 : (k == 0) = false := by rw [beq_eq_false_iff_ne]; exact hk0
            clear hf hfn
            go_wp2_with (go_at_call 13; (with_reducible refine (T1.out _ HB.out).mono ?_); rintro x w7 ⟨rfl, b7⟩; have c7 := (b7.cell (World.block_lt_of_cell? _ _ f0)).trans f0; have B7 := Lib.hid (HB.out.trans (b7.mono HB.out.size)); clear b7)
            exact ⟨⟨k + 1, by omega, by go_num, by rw [HSN.out]; go_num, by rw [HFN.out], B7.out⟩, by simp [intOf]; omega⟩
        · rw [decide_eq_false h0, Bool.false_and] at hfn
          rw [decide_eq_false h0] at T1
          have HFN := Lib.hid hfn
          clear hf hfn
          go_wp2_with (go_at_call 13; (with_reducible refine (T1.out _ HB.out).mono ?_); rintro x w7 ⟨rfl, b7⟩; have c7 := (b7.cell (World.block_lt_of_cell? _ _ f0)).trans f0; have B7 := Lib.hid (HB.out.trans (b7.mono HB.out.size)); clear b7)
          exact ⟨⟨k + 1, by omega, by go_num, by rw [HSN.out]; go_num, by rw [HFN.out], B7.out⟩, by simp [intOf]; omega⟩
    · obtain rfl : k = m := by omega
      have d1 : decide ((k : Int) < (k : Int)) = false := decide_eq_false (by omega)
      have d1' : decide (k < k) = false := decide_eq_false (by omega)
      have he : L.take k = L := List.take_of_length_le (by rw [HLEN.out]; exact Nat.le_refl _)
      rw [he]
      have h2 := H2.out
      obtain ⟨v, hv⟩ : ∃ v, tot L = v := ⟨_, rfl⟩
      rw [hv] at HU1 HU2 htl ⊢
      have hx1 := hx.1
      have hx2 := hx.2
      have v1 : wrap64 x = x := IntWalk.wrap64_in _ ⟨by omega, by omega⟩
      clear hb he hk
      rcases H1.out with ⟨f1, f2, f3⟩ | ⟨f1, f2, f3⟩
      · subst f2
        rw [f1, Bool.true_and] at h2
        rw [f1]
        obtain rfl : Y1 = v := by omega
        clear H1 f1 f3 hv v1
        cases hx0 : (x == 0) with
        | true =>
          have z1 : (x == 0) = true := hx0
          have z2 : (X2 == 0) = true := by rw [h2, hx0]
          clear h2 hx0
          go_wp2_with (first
          | (go_at_call 10; (with_reducible refine (HU1.out _ HB.out).mono ?_); rintro e w7 ⟨A7, c7, rfl, b7⟩; have B7 := Lib.hid (HB.out.trans (b7.mono HB.out.size)); clear b7)
          | (go_at_call 10; (with_reducible refine (HU2.out _ B7.out).mono ?_); rintro e w8 ⟨A8, c8, rfl, b8⟩; have B8 := Lib.hid (B7.out.trans (b8.mono B7.out.size)); clear b8)
          | (go_at_call 7; (with_reducible refine (HW.out _ B8.out).mono ?_); rintro e w9 ⟨rfl, b9⟩; have B9 := Lib.hid (B8.out.trans (b9.mono B8.out.size)); clear b9))
          go_ret
          exact ⟨by simp, B9.out⟩
        | false =>
          have z1 : (x == 0) = false := hx0
          have z2 : (X2 == 0) = false := by rw [h2, hx0]
          clear h2 hx0
          go_wp2_with (first
          | (go_at_call 10; (with_reducible refine (HU1.out _ HB.out).mono ?_); rintro e w7 ⟨A7, c7, rfl, b7⟩; have B7 := Lib.hid (HB.out.trans (b7.mono HB.out.size)); clear b7)
          | (go_at_call 10; (with_reducible refine (HU2.out _ B7.out).mono ?_); rintro e w8 ⟨A8, c8, rfl, b8⟩; have B8 := Lib.hid (B7.out.trans (b8.mono B7.out.size)); clear b8)
          | (go_at_call 7; (with_reducible refine (HW.out _ B8.out).mono ?_); rintro e w9 ⟨rfl, b9⟩; have B9 := Lib.hid (B8.out.trans (b9.mono B8.out.size)); clear b9))
          go_ret
          exact ⟨by simp, B9.out⟩
      · rw [f1, Bool.false_and] at h2
        rw [f1]
        subst f3
        have z3 : (X1 == 0) = false := by rw [beq_eq_false_iff_ne]; exact f2
        have z4 : (X1 != 0) = true := by rw [bne_iff_ne]; exact f2
        clear H1 f1 f2 hv v1
        cases hx0 : (x == 0) with
        | true =>
          have z1 : (x == 0) = true := hx0
          have z2 : (X2 == 0) = false := h2
          clear h2 hx0
          go_wp2_with (first
          | (go_at_call 10; (with_reducible refine (HU1.out _ HB.out).mono ?_); rintro e w7 ⟨A7, c7, rfl, b7⟩; have B7 := Lib.hid (HB.out.trans (b7.mono HB.out.size)); clear b7)
          | (go_at_call 10; (with_reducible refine (HU2.out _ B7.out).mono ?_); rintro e w8 ⟨A8, c8, rfl, b8⟩; have B8 := Lib.hid (B7.out.trans (b8.mono B7.out.size)); clear b8)
          | (go_at_call 7; (with_reducible refine (HW.out _ B8.out).mono ?_); rintro e w9 ⟨rfl, b9⟩; have B9 := Lib.hid (B8.out.trans (b9.mono B8.out.size)); clear b9))
          go_ret
          exact ⟨by simp, B9.out⟩
        | false =>
          have z1 : (x == 0) = false := hx0
          have z2 : (X2 == 0) = false := h2
          clear h2 hx0
          go_wp2_with (first
          | (go_at_call 10; (with_reducible refine (HU1.out _ HB.out).mono ?_); rintro e w7 ⟨A7, c7, rfl, b7⟩; have B7 := Lib.hid (HB.out.trans (b7.mono HB.out.size)); clear b7)
          | (go_at_call 10; (with_reducible refine (HU2.out _ B7.out).mono ?_); rintro e w8 ⟨A8, c8, rfl, b8⟩; have B8 := Lib.hid (B7.out.trans (b8.mono B7.out.size)); clear b8)
          | (go_at_call 7; (with_reducible refine (HW.out _ B8.out).mono ?_); rintro e w9 ⟨rfl, b9⟩; have B9 := Lib.hid (B8.out.trans (b9.mono B8.out.size)); clear b9))
          go_ret
          exact ⟨by simp, B9.out⟩
end Go.Proofs.YtogbohompffcbaaDoor.U

