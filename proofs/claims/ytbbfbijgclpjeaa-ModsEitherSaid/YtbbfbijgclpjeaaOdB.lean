/- What Page, May, mayAll and Size of package mods answer, and the document's Page, May and Size; Long of the laws. Conditions: as each theorem names them. -/
import Derived.Test.YtbbfbijgclpjeaaOdA
namespace Go.Proofs.Ytbbfbijgclpjeaa.O
open Go Go.RowKit M
set_option linter.unusedVariables false
set_option linter.unusedSimpArgs false

theorem str_none {l : ByteArray} (h : l.size = 0) : l.toList.isEmpty = true := by
  rw [ByteArray.toList_eq, List.isEmpty_iff]
  have : l.data.toList.length = 0 := by rw [size_list]; exact h
  exact List.length_eq_zero_iff.1 this
theorem str_some {l : ByteArray} (h : 0 < l.size) : l.toList.isEmpty = false := by
  rw [ByteArray.toList_eq]
  cases q : l.data.toList.isEmpty with
  | false => rfl
  | true =>
    have := size_list l
    rw [List.isEmpty_iff.1 q] at this
    simp at this
    omega
theorem and_key : ∀ a, a < 129 → ∀ b, b < 128 → 1024 ≤ 128 * a + b → 128 * a + b ≤ 16384 → (bits .and .i64 ((128 * a + b : Nat) : Int) (((128 * a + b : Nat) : Int) - 1) == 0) = pg ((128 * a + b : Nat) : Int) := by decide +kernel
theorem and_pg (n : Int) (h1 : 1024 ≤ n) (h2 : n ≤ 16384) : (bits .and .i64 n (n - 1) == 0) = pg n := by
  obtain ⟨N, rfl⟩ := Int.eq_ofNat_of_zero_le (show 0 ≤ n by omega)
  have := and_key (N / 128) (by omega) (N % 128) (by omega) (by omega) (by omega)
  rw [Nat.div_add_mod] at this
  exact this
theorem pg_no {n : Int} (h : ¬ (n = 1024 ∨ n = 2048 ∨ n = 4096 ∨ n = 8192 ∨ n = 16384)) : pg n = false := by
  cases q : pg n with
  | false => rfl
  | true => exact absurd (pg_iff.1 q) h
theorem page_any (n : Int) (w : World) : Calls Try.prog 18 #[.int .i64 n] w fun e w' => e = .returned (.bool (pg n)) ∧ w = w' := by
  by_cases h1 : 1024 ≤ n
  · by_cases h2 : n ≤ 16384
    · have hb := and_pg n h1 h2
      obtain ⟨z, hz⟩ : ∃ z, pg n = z := ⟨_, rfl⟩
      rw [hz] at hb ⊢
      clear hz
      go_enter Try.func18, Try.ntmps18
      go_wp2
      go_ret
      exact ⟨rfl, rfl⟩
    · rw [pg_no (by omega)]
      have d : decide (n ≤ 16384) = false := decide_eq_false h2
      clear h2
      go_enter Try.func18, Try.ntmps18
      go_wp2
      go_ret
      exact ⟨rfl, rfl⟩
  · rw [pg_no (by omega)]
    have d : decide (1024 ≤ n) = false := decide_eq_false h1
    clear h1
    go_enter Try.func18, Try.ntmps18
    go_wp2
    go_ret
    exact ⟨rfl, rfl⟩
theorem may_no {n : Int} {m : Md} (h : ¬ (pg n = true ∧ 0 ≤ m.p ∧ 0 < m.s.size ∧ m.p + m.s.size ≤ n)) : may n m = false := by
  cases q : may n m with
  | false => rfl
  | true => exact absurd (may_iff.1 q) h
theorem may_any (n p : Int) (s : ByteArray) (w : World) (hs : s.size ≤ 140737488351232) :
    Calls Try.prog 16 #[.int .i64 n, .agg #[.int .i64 p, .string s]] w fun e w' => e = .returned (.bool (may n ⟨p, s⟩)) ∧ Below w.heap.size w w' := by
  have HP := Lib.hid (page_any n)
  have hb0 : Below w.heap.size w (w.alloc (.cells #[.int .i64 p, .string s] 34)) := (Below.refl _ _).alloc (Nat.le_refl _) _
  by_cases h0 : pg n = true
  · have hle := pg_le h0
    rw [h0] at HP
    by_cases h1 : 0 ≤ p
    · by_cases h2 : 0 < s.size
      · have e2 : s.toList.isEmpty = false := str_some h2
        obtain ⟨z, hz⟩ : ∃ z, may n ⟨p, s⟩ = z := ⟨_, rfl⟩
        have d3 : decide (p ≤ n - (s.size : Int)) = z := by
          rw [← hz]
          by_cases h3 : p ≤ n - (s.size : Int)
          · rw [decide_eq_true h3, may_iff.2 ⟨h0, h1, h2, by simp only; omega⟩]
          · rw [decide_eq_false h3, may_no (fun q => h3 (by have := q.2.2.2; simp only at this; omega))]
        rw [hz]
        obtain ⟨hl1, hl2⟩ := hle
        clear hz h0 h2
        go_enter Try.func16, Try.ntmps16
        go_wp2_with (go_at_call 18; (with_reducible refine (HP.out _).mono ?_); rintro e w' ⟨rfl, rfl⟩)
        go_ret
        exact ⟨rfl, hb0⟩
      · rw [may_no (fun q => h2 q.2.2.1)]
        have e2 : s.toList.isEmpty = true := str_none (by omega)
        clear h2 h0 hle
        go_enter Try.func16, Try.ntmps16
        go_wp2_with (go_at_call 18; (with_reducible refine (HP.out _).mono ?_); rintro e w' ⟨rfl, rfl⟩)
        go_ret
        exact ⟨rfl, hb0⟩
    · rw [may_no (fun q => h1 q.2.1)]
      have d1 : decide (0 ≤ p) = false := decide_eq_false h1
      clear h1 h0 hle
      go_enter Try.func16, Try.ntmps16
      go_wp2_with (go_at_call 18; (with_reducible refine (HP.out _).mono ?_); rintro e w' ⟨rfl, rfl⟩)
      go_ret
      exact ⟨rfl, hb0⟩
  · rw [may_no (fun q => h0 q.1)]
    have h0' : pg n = false := by simpa using h0
    rw [h0'] at HP
    clear h0 h0'
    go_enter Try.func16, Try.ntmps16
    go_wp2_with (go_at_call 18; (with_reducible refine (HP.out _).mono ?_); rintro e w' ⟨rfl, rfl⟩)
    go_ret
    exact ⟨rfl, hb0⟩

/-! the document's -/
theorem rpage_any (n : Int) (w : World) : Calls Try.prog 19 #[.int .i64 n] w fun e w' => e = .returned (.bool (pg n)) ∧ w = w' := by
  obtain ⟨z, hz⟩ : ∃ z, pg n = z := ⟨_, rfl⟩
  rw [hz]
  have HZ := Lib.hid hz
  clear hz
  go_enter Try.func19, Try.ntmps19
  go_wp2
  go_loop [3] (fun i => ∃ k : Nat, k ≤ 5 ∧ i = .int .i64 (1024 * 2 ^ k : Nat) ∧ ∀ j, j < k → n ≠ ((1024 * 2 ^ j : Nat) : Int)) (fun i => 32768 - (intOf i).toNat)
  case atStart => exact ⟨0, by omega, rfl, fun j hj => absurd hj (by omega)⟩
  case round =>
    obtain ⟨k, hk, rfl, hp⟩ := hrel
    have HP := Lib.hid hp
    clear hp
    by_cases hlt : k < 5
    · obtain ⟨q, hq⟩ : ∃ q, 1024 * 2 ^ k = q := ⟨_, rfl⟩
      have hq2 : q ≤ 16384 ∧ 1024 ≤ q := by
        have h' : k = 0 ∨ k = 1 ∨ k = 2 ∨ k = 3 ∨ k = 4 := by omega
        rcases h' with rfl | rfl | rfl | rfl | rfl <;> omega
      have hq3 : 1024 * 2 ^ (k + 1) = 2 * q := by rw [Nat.pow_succ]; omega
      have HQ := Lib.hid hq
      have HQ3 := Lib.hid hq3
      have HQ2 := Lib.hid hq2
      rw [hq]
      have d1 : decide ((q : Int) ≤ 16384) = true := decide_eq_true (by omega)
      have d1' : decide (q ≤ 16384) = true := decide_eq_true (by omega)
      by_cases he : (q : Int) = n
      · have hz1 : z = true := by
          rw [← HZ.out]
          refine pg_iff.2 ?_
          have h' : k = 0 ∨ k = 1 ∨ k = 2 ∨ k = 3 ∨ k = 4 := by omega
          rcases h' with rfl | rfl | rfl | rfl | rfl <;> omega
        subst hz1
        have d2 : ((q : Int) == n) = true := by rw [beq_iff_eq]; exact he
        clear hq hq2 hq3 he
        go_wp2
        go_ret
        exact ⟨rfl, rfl⟩
      · have d2 : ((q : Int) == n) = false := by rw [beq_eq_false_iff_ne]; exact he
        have HE := Lib.hid he
        obtain ⟨b1, b2⟩ := hq2
        clear hq hq3 he
        go_wp2
        go_round
        case rel => exact ⟨k + 1, by omega, by rw [HQ3.out]; go_num, fun j hj => (by
          by_cases c : j = k
          · subst c; rw [HQ.out]; exact fun g => HE.out g.symm
          · exact HP.out j (by omega))⟩
        case measure => have := HQ2.out; simp [intOf]; omega
    · obtain rfl : k = 5 := by omega
      have hz1 : z = false := by
        rw [← HZ.out]
        refine pg_no ?_
        have a0 := HP.out 0 (by omega)
        have a1 := HP.out 1 (by omega)
        have a2 := HP.out 2 (by omega)
        have a3 := HP.out 3 (by omega)
        have a4 := HP.out 4 (by omega)
        omega
      subst hz1
      go_wp2
      go_ret
      exact ⟨rfl, rfl⟩
theorem rmay_any (n p : Int) (s : ByteArray) (w : World) (hs : s.size ≤ 140737488351232) :
    Calls Try.prog 17 #[.int .i64 n, .agg #[.int .i64 p, .string s]] w fun e w' => e = .returned (.bool (may n ⟨p, s⟩)) ∧ Below w.heap.size w w' := by
  have HP := Lib.hid (rpage_any n)
  have hb0 : Below w.heap.size w (w.alloc (.cells #[.int .i64 p, .string s] 34)) := (Below.refl _ _).alloc (Nat.le_refl _) _
  by_cases h0 : pg n = true
  · have hle := pg_le h0
    rw [h0] at HP
    by_cases h1 : 0 ≤ p
    · by_cases h4 : p < n
      · by_cases h2 : 0 < s.size
        · obtain ⟨z, hz⟩ : ∃ z, may n ⟨p, s⟩ = z := ⟨_, rfl⟩
          have d3 : decide (p + (s.size : Int) ≤ n) = z := by
            rw [← hz]
            by_cases h3 : p + (s.size : Int) ≤ n
            · rw [decide_eq_true h3, may_iff.2 ⟨h0, h1, h2, h3⟩]
            · rw [decide_eq_false h3, may_no (fun q => h3 q.2.2.2)]
          have d2 : decide (0 < (s.size : Int)) = true := decide_eq_true (by omega)
          rw [hz]
          obtain ⟨hl1, hl2⟩ := hle
          clear hz h0
          go_enter Try.func17, Try.ntmps17
          go_wp2_with (go_at_call 19; (with_reducible refine (HP.out _).mono ?_); rintro e w' ⟨rfl, rfl⟩)
          go_ret
          exact ⟨rfl, hb0⟩
        · rw [may_no (fun q => h2 q.2.2.1)]
          have d2 : decide (0 < (s.size : Int)) = false := decide_eq_false (by omega)
          have d2' : decide (0 < s.size) = false := decide_eq_false h2
          clear h2 h0 hle
          go_enter Try.func17, Try.ntmps17
          go_wp2_with (go_at_call 19; (with_reducible refine (HP.out _).mono ?_); rintro e w' ⟨rfl, rfl⟩)
          go_ret
          exact ⟨rfl, hb0⟩
      · rw [may_no (fun q => h4 (by have h2 := q.2.2.1; have := q.2.2.2; simp only at this h2; omega))]
        have d4 : decide (p < n) = false := decide_eq_false h4
        clear h4 h0 hle
        go_enter Try.func17, Try.ntmps17
        go_wp2_with (go_at_call 19; (with_reducible refine (HP.out _).mono ?_); rintro e w' ⟨rfl, rfl⟩)
        go_ret
        exact ⟨rfl, hb0⟩
    · rw [may_no (fun q => h1 q.2.1)]
      have d1 : decide (0 ≤ p) = false := decide_eq_false h1
      clear h1 h0 hle
      go_enter Try.func17, Try.ntmps17
      go_wp2_with (go_at_call 19; (with_reducible refine (HP.out _).mono ?_); rintro e w' ⟨rfl, rfl⟩)
      go_ret
      exact ⟨rfl, hb0⟩
  · rw [may_no (fun q => h0 q.1)]
    have h0' : pg n = false := by simpa using h0
    rw [h0'] at HP
    clear h0 h0'
    go_enter Try.func17, Try.ntmps17
    go_wp2_with (go_at_call 19; (with_reducible refine (HP.out _).mono ?_); rintro e w' ⟨rfl, rfl⟩)
    go_ret
    exact ⟨rfl, hb0⟩

/-! loops over them -/
theorem szs_snoc {L : List Md} {k : Nat} (h : k < L.length) : szs (L.take (k + 1)) = szs (L.take k) + 4 + (L.getD k default).s.size := by
  rw [List.take_succ_eq_append_getElem h, szs_append, List.getD, List.getElem?_eq_getElem h]
  simp only [szs, Option.getD_some]
  omega
theorem szs_take (L : List Md) (k : Nat) : szs (L.take k) ≤ szs L := by
  have := szs_append (L.take k) (L.drop k)
  rw [List.take_append_drop] at this
  omega
theorem oks_of {N : Int} {L : List Md} {n : Nat} (hn : L.length = n) (h : ∀ j, j < n → may N (L.getD j default) = true) : oks N L = true := oks_iff.2 fun m hm => by
  obtain ⟨j, hj, e⟩ := List.mem_iff_getElem.1 hm
  have := h j (by omega)
  rwa [List.getD, List.getElem?_eq_getElem hj, Option.getD_some, e] at this
theorem oks_not {N : Int} {L : List Md} {j : Nat} (hj : j < L.length) (h : may N (L.getD j default) = false) : oks N L = false := by
  cases q : oks N L with
  | false => rfl
  | true =>
    have := oks_iff.1 q (L.getD j default) (by rw [List.getD, List.getElem?_eq_getElem hj]; exact List.getElem_mem _)
    rw [h] at this; cases this
theorem good_at {w : World} {A : Option Addr} {n : Nat} {L : List Md} (h : IsMds w A n L) {k : Nat} (hk : k < n) : (L.getD k default).ok := h.good _ (by rw [List.getD, List.getElem?_eq_getElem (by rw [h.leng]; exact hk)]; exact List.getElem_mem _)

set_option maxHeartbeats 1000000 in
theorem mayAll_any (N : Int) (A : Option Addr) (n c : Nat) (L : List Md) (W : World) (h : IsMds W A n L) :
    Calls Try.prog 31 #[.int .i64 N, .slice A n c] W fun e w' => e = .returned (.bool (oks N L)) ∧ Below W.heap.size W w' := by
  obtain ⟨z, hz⟩ : ∃ z, oks N L = z := ⟨_, rfl⟩
  rw [hz]
  have HZ := Lib.hid hz
  have HH := Lib.hid h
  have hl := h.leng
  have hm := h.most
  unfold maxLen at hm
  have HL := Lib.hid hl
  clear h hz hl
  go_enter Try.func31, Try.ntmps31
  go_wp2_with fail
  go_loopw [9] (fun i wr => ∃ k : Nat, k ≤ n ∧ i = .int .i64 k ∧ (∀ j, j < k → may N (L.getD j default) = true) ∧ Below W.heap.size W wr) (fun i _ => n - (intOf i).toNat)
  case atStart => exact ⟨0, Nat.zero_le _, rfl, fun j hj => absurd hj (by omega), Below.refl _ _⟩
  case round =>
    obtain ⟨k, hk, rfl, hp, hb⟩ := hrel
    have HP := Lib.hid hp
    have HB := Lib.hid hb
    by_cases hlt : k < n
    · obtain ⟨b, o, rfl, hbl, hc⟩ := (HH.out.below hb).at (by omega)
      obtain ⟨c0, c1⟩ := hc k hlt
      have hg := good_at HH.out hlt
      obtain ⟨m, hm'⟩ : ∃ m, L.getD k default = m := ⟨_, rfl⟩
      rw [hm'] at c0 c1 hg
      have HM := Lib.hid hm'
      obtain ⟨p, s⟩ := m
      simp only at c0 c1
      have HA := Lib.hid (fun w => may_any N p s w hg.s)
      have d1 : decide ((k : Int) < (n : Int)) = true := decide_eq_true (by omega)
      have d1' : decide (k < n) = true := decide_eq_true hlt
      clear hc hm' hp hb hg hbl
      cases hq : may N ⟨p, s⟩ with
      | true =>
        rw [hq] at HA
        have HQ := Lib.hid hq
        clear hq
        go_wp2_with (go_at_call 16; (with_reducible refine (HA.out _).mono ?_); rintro e w1 ⟨rfl, b1⟩; have B1 := Lib.hid ((HB.out.alloc HB.out.size _).trans (b1.mono (by have := HB.out.size; simp; omega))); clear b1)
        go_roundw
        case rel => exact ⟨k + 1, by omega, by go_num, fun j hj => (by
          by_cases c : j = k
          · subst c; rw [HM.out]; exact HQ.out
          · exact HP.out j (by omega)), B1.out⟩
        case measure => simp [intOf]; omega
      | false =>
        rw [hq] at HA
        obtain rfl : z = false := by rw [← HZ.out]; exact oks_not (j := k) (by rw [HL.out]; exact hlt) (by rw [HM.out]; exact hq)
        clear hq
        go_wp2_with (go_at_call 16; (with_reducible refine (HA.out _).mono ?_); rintro e w1 ⟨rfl, b1⟩; have B1 := Lib.hid ((HB.out.alloc HB.out.size _).trans (b1.mono (by have := HB.out.size; simp; omega))); clear b1)
        go_ret
        exact ⟨rfl, B1.out⟩
    · obtain rfl : k = n := by omega
      obtain rfl : z = true := by rw [← HZ.out]; exact oks_of HL.out (fun j hj => hp j hj)
      clear hp hb
      go_wp2_with fail
      go_ret
      exact ⟨rfl, HB.out⟩

set_option maxHeartbeats 1000000 in
theorem size_any (A : Option Addr) (n c : Nat) (L : List Md) (W : World) (h : IsMds W A n L) (hL : szs L ≤ 1000000000) :
    Calls Try.prog 20 #[.slice A n c] W fun e w' => e = .returned (.int .i64 (szs L : Nat)) ∧ Below W.heap.size W w' := by
  obtain ⟨Z, hz⟩ : ∃ Z, szs L = Z := ⟨_, rfl⟩
  rw [hz] at hL ⊢
  have HZ := Lib.hid hz
  have HH := Lib.hid h
  have hl := h.leng
  have hm := h.most
  unfold maxLen at hm
  have HL := Lib.hid hl
  clear h hz hl
  go_enter Try.func20, Try.ntmps20
  go_wp2_with fail
  go_loopw [3, 8] (fun u i wr => ∃ k : Nat, k ≤ n ∧ i = .int .i64 k ∧ u = .int .i64 (szs (L.take k) : Nat) ∧ Below W.heap.size W wr) (fun _ i _ => n - (intOf i).toNat)
  case atStart => exact ⟨0, Nat.zero_le _, rfl, rfl, Below.refl _ _⟩
  case round =>
    obtain ⟨k, hk, rfl, rfl, hb⟩ := hrel
    have HB := Lib.hid hb
    by_cases hlt : k < n
    · obtain ⟨b, o, rfl, hbl, hc⟩ := (HH.out.below hb).at (by omega)
      obtain ⟨c0, c1⟩ := hc k hlt
      have hg := szs_snoc (L := L) (k := k) (by rw [HL.out]; exact hlt)
      have ht := szs_take L (k + 1)
      rw [HZ.out] at ht
      obtain ⟨m, hm'⟩ : ∃ m, L.getD k default = m := ⟨_, rfl⟩
      rw [hm'] at c0 c1 hg
      obtain ⟨p, s⟩ := m
      simp only at c0 c1 hg
      obtain ⟨u, hu⟩ : ∃ u, szs (L.take k) = u := ⟨_, rfl⟩
      rw [hu] at hg ⊢
      have HG := Lib.hid hg
      have b1 : u ≤ 1000000000 := by omega
      have b2 : s.size ≤ 1000000000 := by omega
      have d1 : decide ((k : Int) < (n : Int)) = true := decide_eq_true (by omega)
      have d1' : decide (k < n) = true := decide_eq_true hlt
      clear hc hm' hb hg hbl ht hu
      go_wp2_with fail
      go_roundw
      case rel => exact ⟨k + 1, by omega, by go_num, by rw [HG.out]; go_num, HB.out.alloc HB.out.size _⟩
      case measure => simp [intOf]; omega
    · obtain rfl : k = n := by omega
      have e : szs (L.take k) = Z := by rw [List.take_of_length_le (by rw [HL.out]; exact Nat.le_refl _)]; exact HZ.out
      rw [e]
      clear e hb
      go_wp2_with fail
      go_ret
      exact ⟨rfl, HB.out⟩
set_option maxHeartbeats 1000000 in
theorem rsize_any (A : Option Addr) (n c : Nat) (L : List Md) (W : World) (h : IsMds W A n L) (hL : szs L ≤ 1000000000) :
    Calls Try.prog 21 #[.slice A n c] W fun e w' => e = .returned (.int .i64 (szs L : Nat)) ∧ Below W.heap.size W w' := by
  obtain ⟨Z, hz⟩ : ∃ Z, szs L = Z := ⟨_, rfl⟩
  rw [hz] at hL ⊢
  have HZ := Lib.hid hz
  have HH := Lib.hid h
  have hl := h.leng
  have hm := h.most
  unfold maxLen at hm
  have HL := Lib.hid hl
  clear h hz hl
  go_enter Try.func21, Try.ntmps21
  go_wp2_with fail
  go_loopw [3, 4] (fun u i wr => ∃ k : Nat, k ≤ n ∧ i = .int .i64 k ∧ u = .int .i64 (szs (L.take k) : Nat) ∧ Below W.heap.size W wr) (fun _ i _ => n - (intOf i).toNat)
  case atStart => exact ⟨0, Nat.zero_le _, rfl, rfl, Below.refl _ _⟩
  case round =>
    obtain ⟨k, hk, rfl, rfl, hb⟩ := hrel
    have HB := Lib.hid hb
    by_cases hlt : k < n
    · obtain ⟨b, o, rfl, hbl, hc⟩ := (HH.out.below hb).at (by omega)
      obtain ⟨c0, c1⟩ := hc k hlt
      have hg := szs_snoc (L := L) (k := k) (by rw [HL.out]; exact hlt)
      have ht := szs_take L (k + 1)
      rw [HZ.out] at ht
      obtain ⟨m, hm'⟩ : ∃ m, L.getD k default = m := ⟨_, rfl⟩
      rw [hm'] at c0 c1 hg
      obtain ⟨p, s⟩ := m
      simp only at c0 c1 hg
      obtain ⟨u, hu⟩ : ∃ u, szs (L.take k) = u := ⟨_, rfl⟩
      rw [hu] at hg ⊢
      have HG := Lib.hid hg
      have b1 : u ≤ 1000000000 := by omega
      have b2 : s.size ≤ 1000000000 := by omega
      have d1 : decide ((k : Int) < (n : Int)) = true := decide_eq_true (by omega)
      have d1' : decide (k < n) = true := decide_eq_true hlt
      clear hc hm' hb hg hbl ht hu
      go_wp2_with fail
      go_roundw
      case rel => exact ⟨k + 1, by omega, by go_num, by rw [HG.out]; go_num, HB.out⟩
      case measure => simp [intOf]; omega
    · obtain rfl : k = n := by omega
      have e : szs (L.take k) = Z := by rw [List.take_of_length_le (by rw [HL.out]; exact Nat.le_refl _)]; exact HZ.out
      rw [e]
      clear e hb
      go_wp2_with fail
      go_ret
      exact ⟨rfl, HB.out⟩

/-! more than a law looks at -/
def tsm : List Md → Nat
  | [] => 0
  | m :: r => m.s.size + tsm r
theorem tsm_append (l r : List Md) : tsm (l ++ r) = tsm l + tsm r := by
  induction l with
  | nil => simp [tsm]
  | cons m l ih => simp only [List.cons_append, tsm, ih]; omega
theorem tsm_snoc {L : List Md} {k : Nat} (h : k < L.length) : tsm (L.take (k + 1)) = tsm (L.take k) + (L.getD k default).s.size := by
  rw [List.take_succ_eq_append_getElem h, tsm_append, List.getD, List.getElem?_eq_getElem h]
  simp only [tsm, Option.getD_some]
  omega
theorem tsm_take (L : List Md) (k : Nat) : tsm (L.take k) ≤ tsm L := by
  have := tsm_append (L.take k) (L.drop k)
  rw [List.take_append_drop] at this
  omega
theorem szs_tsm (L : List Md) : szs L = tsm L + 4 * L.length := by
  induction L with
  | nil => rfl
  | cons m L ih => simp only [szs, tsm, List.length_cons, ih]; omega
/-- Long -/
def lng (L : List Md) : Bool := decide (32768 < tsm L ∨ 100 < L.length)
set_option maxHeartbeats 1000000 in
theorem long_any (A : Option Addr) (n c : Nat) (L : List Md) (w : World) (h : IsMds w A n L) :
    Calls Try.prog 10 #[.slice A n c] w fun e w' => e = .returned (.bool (lng L)) ∧ w = w' := by
  obtain ⟨Z, hz⟩ : ∃ Z, lng L = Z := ⟨_, rfl⟩
  rw [hz]
  have HZ := Lib.hid hz
  have HH := Lib.hid h
  have hl := h.leng
  have hm := h.most
  unfold maxLen at hm
  have HL := Lib.hid hl
  clear h hz hl
  go_enter Try.func10, Try.ntmps10
  go_wp2_with fail
  go_loop [3, 4] (fun u i => ∃ k : Nat, k ≤ n ∧ i = .int .i64 k ∧ u = .int .i64 (tsm (L.take k) : Nat) ∧ tsm (L.take k) ≤ 32768) (fun _ i => n - (intOf i).toNat)
  case atStart => exact ⟨0, Nat.zero_le _, rfl, rfl, Nat.zero_le _⟩
  case round =>
    obtain ⟨k, hk, rfl, rfl, hle⟩ := hrel
    by_cases hlt : k < n
    · obtain ⟨b, o, rfl, hbl, hc⟩ := HH.out.at (by omega)
      obtain ⟨c0, c1⟩ := hc k hlt
      have hg := tsm_snoc (L := L) (k := k) (by rw [HL.out]; exact hlt)
      have ht := tsm_take L (k + 1)
      have hgo := good_at HH.out hlt
      obtain ⟨m, hm'⟩ : ∃ m, L.getD k default = m := ⟨_, rfl⟩
      rw [hm'] at c0 c1 hg hgo
      obtain ⟨p, s⟩ := m
      have b2 := hgo.s
      simp only at c0 c1 hg b2
      obtain ⟨u, hu⟩ : ∃ u, tsm (L.take k) = u := ⟨_, rfl⟩
      rw [hu] at hg hle ⊢
      have HG := Lib.hid hg
      have d1 : decide ((k : Int) < (n : Int)) = true := decide_eq_true (by omega)
      have d1' : decide (k < n) = true := decide_eq_true hlt
      by_cases h3 : u + s.size ≤ 32768
      · have d2 : decide (32768 < (u : Int) + (s.size : Int)) = false := decide_eq_false (by omega)
        have d2' : decide (32768 < u + s.size) = false := decide_eq_false (by omega)
        have H3 := Lib.hid h3
        clear hc hm' hg hbl ht hu hgo h3
        go_wp2_with fail
        go_round
        case rel => exact ⟨k + 1, by omega, by go_num, by rw [HG.out]; go_num, by rw [HG.out]; exact H3.out⟩
        case measure => simp [intOf]; omega
      · have d2 : decide (32768 < (u : Int) + (s.size : Int)) = true := decide_eq_true (by omega)
        have d2' : decide (32768 < u + s.size) = true := decide_eq_true (by omega)
        obtain rfl : Z = true := by rw [← HZ.out]; exact decide_eq_true (Or.inl (by omega))
        clear hc hm' hg hbl ht hu hgo h3
        go_wp2_with fail
        go_ret
        exact ⟨rfl, rfl⟩
    · obtain rfl : k = n := by omega
      have e : L.take k = L := List.take_of_length_le (by rw [HL.out]; exact Nat.le_refl _)
      rw [e] at hle
      have d3 : decide (100 < (k : Int)) = Z := by
        rw [← HZ.out]
        unfold lng
        rw [HL.out]
        by_cases g : 100 < k
        · rw [decide_eq_true (by omega), decide_eq_true (Or.inr g)]
        · rw [decide_eq_false (by omega), decide_eq_false (by omega)]
      have d3' : decide (100 < k) = Z := by
        rw [← d3]
        by_cases g : 100 < k
        · rw [decide_eq_true g, decide_eq_true (by omega)]
        · rw [decide_eq_false g, decide_eq_false (by omega)]
      clear e hle
      go_wp2_with fail
      go_ret
      exact ⟨rfl, rfl⟩
end Go.Proofs.Ytbbfbijgclpjeaa.O
