/- What the document's May answers; Same of both; the document's Size. Conditions: as each theorem names them. -/
import Derived.Test.YtglakcdkpeabmaaTkA
namespace Go.Proofs.Ytglakcdkpeabmaa
open Go Go.RowKit M
open Go.ChangeShapes (lits)
set_option linter.unusedVariables false
set_option linter.unusedSimpArgs false

theorem rmay_any (l n d : Int) (w : World) :
    Calls Try.prog 9 #[.agg #[.int .u8 l, .int .i64 n, .int .i64 d]] w fun e w' => e = .returned (.bool (may ⟨l, n, d⟩)) ∧ Below w.heap.size w w' := by
  by_cases h0 : n = 0
  · have hv : ∀ b, decide (d = 0) = b → may ⟨l, n, d⟩ = b := fun b h => by
      have hm : isM ⟨l, n, d⟩ = false := by cases q : isM ⟨l, n, d⟩ with | false => rfl | true => (have := isM_iff.1 q; simp only at this; omega)
      unfold may; rw [hm, Bool.or_false]; unfold isB; simp only; rw [decide_eq_true h0, h]; rfl
    have e0 : (n == 0) = true := by rw [beq_iff_eq]; exact h0
    by_cases h1 : d = 0
    · rw [hv true (decide_eq_true h1)]
      have e1 : (d == 0) = true := by rw [beq_iff_eq]; exact h1
      clear h0 h1 hv
      go_enter Try.func9, Try.ntmps9
      go_wp2
      go_ret
      exact ⟨rfl, (Below.refl _ _).alloc (Nat.le_refl _) _⟩
    · rw [hv false (decide_eq_false h1)]
      have e1 : (d == 0) = false := by rw [beq_eq_false_iff_ne]; exact h1
      clear h0 h1 hv
      go_enter Try.func9, Try.ntmps9
      go_wp2
      go_ret
      exact ⟨rfl, (Below.refl _ _).alloc (Nat.le_refl _) _⟩
  have hv : ∀ b, (decide (l = 0) && (decide (3 ≤ n) && (decide (n ≤ 258) && (decide (1 ≤ d) && decide (d ≤ 32768))))) = b → may ⟨l, n, d⟩ = b := fun b h => by
    have hb : isB ⟨l, n, d⟩ = false := by cases q : isB ⟨l, n, d⟩ with | false => rfl | true => exact absurd (isB_iff.1 q).1 h0
    unfold may; rw [hb, Bool.false_or]; exact h
  have e0 : (n == 0) = false := by rw [beq_eq_false_iff_ne]; exact h0
  by_cases h2 : 3 ≤ n
  · have d2 : decide (3 ≤ n) = true := decide_eq_true h2
    by_cases h3 : n ≤ 258
    · have d3 : decide (n ≤ 258) = true := decide_eq_true h3
      by_cases h4 : 1 ≤ d
      · have d4 : decide (1 ≤ d) = true := decide_eq_true h4
        by_cases h5 : d ≤ 32768
        · have d5 : decide (d ≤ 32768) = true := decide_eq_true h5
          by_cases h6 : l = 0
          · have d6 : (l == 0) = true := by rw [beq_iff_eq]; exact h6
            rw [hv true (by simp [h2, h3, h4, h5, h6])]
            clear h0 h2 h3 h4 h5 h6 hv
            go_enter Try.func9, Try.ntmps9
            go_wp2
            go_ret
            exact ⟨rfl, (Below.refl _ _).alloc (Nat.le_refl _) _⟩
          · have d6 : (l == 0) = false := by rw [beq_eq_false_iff_ne]; exact h6
            rw [hv false (by simp [h6])]
            clear h0 h2 h3 h4 h5 h6 hv
            go_enter Try.func9, Try.ntmps9
            go_wp2
            go_ret
            exact ⟨rfl, (Below.refl _ _).alloc (Nat.le_refl _) _⟩
        · have d5 : decide (d ≤ 32768) = false := decide_eq_false h5
          rw [hv false (by simp [h5])]
          clear h0 h2 h3 h4 h5 hv
          go_enter Try.func9, Try.ntmps9
          go_wp2
          go_ret
          exact ⟨rfl, (Below.refl _ _).alloc (Nat.le_refl _) _⟩
      · have d4 : decide (1 ≤ d) = false := decide_eq_false h4
        rw [hv false (by simp [h4])]
        clear h0 h2 h3 h4 hv
        go_enter Try.func9, Try.ntmps9
        go_wp2
        go_ret
        exact ⟨rfl, (Below.refl _ _).alloc (Nat.le_refl _) _⟩
    · have d3 : decide (n ≤ 258) = false := decide_eq_false h3
      rw [hv false (by simp [h3])]
      clear h0 h2 h3 hv
      go_enter Try.func9, Try.ntmps9
      go_wp2
      go_ret
      exact ⟨rfl, (Below.refl _ _).alloc (Nat.le_refl _) _⟩
  · have d2 : decide (3 ≤ n) = false := decide_eq_false h2
    rw [hv false (by simp [h2])]
    clear h0 h2 hv
    go_enter Try.func9, Try.ntmps9
    go_wp2
    go_ret
    exact ⟨rfl, (Below.refl _ _).alloc (Nat.le_refl _) _⟩

/-- the cells that a round reads -/
theorem IsTks.at {w : World} {A : Option Addr} {n : Nat} {L : List Tk} (h : IsTks w A n L) (hn : 0 < n) : ∃ b o, A = some ⟨b, o, none⟩ ∧ b < w.heap.size ∧ ∀ i (hi : i < n), w.cell? ⟨b, o + i * 3, none⟩ = some (.int .u8 (L.getD i default).l) ∧ w.cell? ⟨b, o + i * 3 + 1, none⟩ = some (.int .i64 (L.getD i default).n) ∧ w.cell? ⟨b, o + i * 3 + 2, none⟩ = some (.int .i64 (L.getD i default).d) := by
  rcases h.cells with g | ⟨b, o, g1, g2, g3⟩
  · omega
  · refine ⟨b, o, g1, g2, fun i hi => ?_⟩
    have hl := h.leng
    have e : L[i]? = some (L.getD i default) := by rw [List.getD, List.getElem?_eq_getElem (by omega)]; rfl
    have k := g3 i _ e
    exact ⟨k.l, k.n, k.d⟩
theorem getD_take_succ (L : List Tk) (i : Nat) (hi : i < L.length) : L.take (i + 1) = L.take i ++ [L.getD i default] := by
  rw [List.take_add_one, List.getD, List.getElem?_eq_getElem hi]; rfl
theorem szs_take (L : List Tk) (i : Nat) (hi : i < L.length) : szs (L.take (i + 1)) = szs (L.take i) + szo (L.getD i default) := by
  rw [getD_take_succ L i hi, szs_append]; simp [szs]

set_option maxRecDepth 1000000 in
set_option maxHeartbeats 1000000 in
theorem rsize_any (A : Option Addr) (n c : Nat) (L : List Tk) (w : World) (h : IsTks w A n L) (hn : n ≤ 1000000) :
    Calls Try.prog 13 #[.slice A n c] w fun e w' => e = .returned (.int .i64 (szs L : Nat)) ∧ Below w.heap.size w w' := by
  have HH := Lib.hid h
  have hl := h.leng
  clear h
  go_enter Try.func13, Try.ntmps13
  go_wp2_with fail
  go_loopw [3, 4] (fun s i wr => ∃ k : Nat, k ≤ n ∧ i = .int .i64 k ∧ s = .int .i64 (szs (L.take k) : Nat) ∧ Below w.heap.size w wr) (fun s i _ => n - (intOf i).toNat)
  case atStart => exact ⟨0, Nat.zero_le _, rfl, rfl, Below.refl _ _⟩
  case round =>
    obtain ⟨k, hk, rfl, rfl, hb⟩ := hrel
    by_cases hlt : k < n
    · obtain ⟨b, o, rfl, hbl, hc⟩ := (HH.out.below hb).at (by omega)
      obtain ⟨c0, c1, c2⟩ := hc k hlt
      have hs := szs_take L k (by omega)
      have hle := szs_le (L.take k)
      rw [List.length_take] at hle
      obtain ⟨t, ht⟩ : ∃ t, L.getD k default = t := ⟨_, rfl⟩
      rw [ht] at c0 c1 c2 hs
      obtain ⟨tl, tn, td⟩ := t
      simp only at c0 c1 c2
      have hM := rmay_any tl tn td
      obtain ⟨S, hS⟩ : ∃ S, szs (L.take k) = S := ⟨_, rfl⟩
      rw [hS] at hs hle ⊢
      have hk2 : k < 9223372036854775807 := by omega
      have hS2 : S ≤ 258 * 1000000 := by omega
      by_cases q : may ⟨tl, tn, td⟩ = true
      · rw [q] at hM
        have HM := Lib.hid hM
        have hsz := szo_le ⟨tl, tn, td⟩
        obtain ⟨m, hm, hm2⟩ : ∃ m : Nat, (if tn < 1 then (1 : Int) else tn) = (m : Int) ∧ szo ⟨tl, tn, td⟩ = m := by
          refine ⟨szo ⟨tl, tn, td⟩, ?_, rfl⟩
          unfold may at q
          rw [Bool.or_eq_true] at q
          rcases q with q | q
          · rw [szo_byte q]; have := isB_iff.1 q; simp only at this; rw [if_pos (by omega)]; rfl
          · rw [szo_match q]; have := isM_iff.1 q; simp only at this; rw [if_neg (by omega)]; simp only; omega
        rw [hm2] at hs hsz
        have HS := Lib.hid hs
        have HB := Lib.hid hb
        clear hM q hs hb hc ht hS hm2 hle hl
        go_wp2_with (go_at_call 9; refine (HM.out _).mono ?_; rintro e w1 ⟨rfl, b1⟩; have k1 := (b1.cell (p := ⟨b, o + k * 3 + 1, none⟩) hbl).trans c1; have B1 := Lib.hid (HB.out.trans (b1.mono HB.out.size)); clear b1)
        go_roundw
        case rel => exact ⟨k + 1, by omega, by go_num, by rw [HS.out]; go_num, B1.out⟩
        case measure => simp [intOf]; omega
      · have q' : may ⟨tl, tn, td⟩ = false := by simpa using q
        rw [q'] at hM
        have HM := Lib.hid hM
        have hz : szo ⟨tl, tn, td⟩ = 0 := by
          unfold may at q'
          rw [Bool.or_eq_false_iff] at q'
          unfold szo; rw [q'.1, q'.2]; rfl
        rw [hz, Nat.add_zero] at hs
        have HS := Lib.hid hs
        have HB := Lib.hid hb
        clear hM q q' hz hs hb hc ht hS hle hl
        go_wp2_with (go_at_call 9; refine (HM.out _).mono ?_; rintro e w1 ⟨rfl, b1⟩; have B1 := Lib.hid (HB.out.trans (b1.mono HB.out.size)); clear b1)
        go_roundw
        case rel => exact ⟨k + 1, by omega, by go_num, by rw [HS.out, Nat.add_zero], B1.out⟩
        case measure => simp [intOf]; omega
    · obtain rfl : k = n := by omega
      have hS : szs (L.take k) = szs L := by rw [List.take_of_length_le (by omega)]
      rw [hS]
      have HB := Lib.hid hb
      clear hS hb hl
      go_wp2_with fail
      go_ret
      exact ⟨rfl, HB.out⟩
end Go.Proofs.Ytglakcdkpeabmaa
