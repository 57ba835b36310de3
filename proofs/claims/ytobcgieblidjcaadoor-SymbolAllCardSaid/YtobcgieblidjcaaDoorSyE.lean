/- Lengths and distances as symbols: what the program's functions answer. Conditions: as each theorem names them. -/
import Derived.Test.YtobcgieblidjcaaDoorSyD
namespace Go.Proofs.YtobcgieblidjcaaDoor
open Go Go.RowKit M
set_option linter.unusedVariables false
set_option linter.unusedSimpArgs false

theorem bt_lb : ∀ i, i < 28 → bt 2 i = lb i := by decide
theorem lt_ll : ∀ i, i < 28 → lt 3 2 i = ll i := by decide
theorem bt_db : ∀ i, i < 30 → bt 1 i = db i := by decide
theorem lt_dl : ∀ i, i < 30 → lt 1 1 i = dl i := by decide
theorem plc_len {n i : Nat} (hn : n ≤ 257) (h : Plc (lt 3 2) 28 n i) : lsy n = i ∧ lex n = n - lt 3 2 i ∧ lb (lsy n) = bt 2 i := by
  have hi := h.lt
  have hl := lt_ll i hi
  have h1 : ll i ≤ n := by rw [← hl]; exact h.lo
  have h2 : n < ll i + ls i := by
    rcases h.hi with e | e
    · obtain rfl : i = 27 := by omega
      show n < 227 + 31
      omega
    · by_cases q : i + 1 < 28
      · rw [lt_ll _ q, ll_stp.next i (by omega)] at e; exact e
      · obtain rfl : i = 27 := by omega
        show n < 227 + 31
        omega
  have hu := len_uniq (n := n) (i := i) (by omega) h1 h2
  exact ⟨hu, by unfold lex; rw [hu, hl], by rw [hu, bt_lb i hi]⟩
theorem plc_dist {n i : Nat} (hn : n ≤ 32768) (h : Plc (lt 1 1) 30 n i) : dsy n = i ∧ dex n = n - lt 1 1 i ∧ db (dsy n) = bt 1 i := by
  have hi := h.lt
  have hl := lt_dl i hi
  have h1 : dl i ≤ n := by rw [← hl]; exact h.lo
  have h2 : n < dl i + ds i := by
    rcases h.hi with e | e
    · obtain rfl : i = 29 := by omega
      show n < 24577 + 8192
      omega
    · by_cases q : i + 1 < 30
      · rw [lt_dl _ q, dl_stp.next i (by omega)] at e; exact e
      · obtain rfl : i = 29 := by omega
        show n < 24577 + 8192
        omega
  have hu := dist_uniq (n := n) (i := i) (by omega) h1 h2
  exact ⟨hu, by unfold dex; rw [hu, hl], by rw [hu, bt_db i hi]⟩

set_option maxRecDepth 1000000 in
theorem length_no (x : Int) (w : World) (H : Tab w) (hx : x < 3 ∨ 258 < x) : Calls Tryd.prog 6 #[.int .i64 x] w fun e w' => e = .returned (.tuple #[.int .i64 0, .int .u32 0, .int .i64 0, .bool false]) ∧ Below w.heap.size w w' := by
  have HS := Lib.hid (show Calls Tryd.prog 19 #[.agg #[.int .i64 257, .int .i64 28, .int .i64 3, .int .i64 257, .int .i64 2], .int .i64 x] w fun e w' => e = .returned (.tuple #[.int .i64 0, .int .u32 0, .int .i64 0, .bool false]) ∧ Below w.heap.size w w' from symbolOf_no 257 28 3 257 2 x w (by omega))
  have c0 := H.l0
  have c1 := H.l1
  have c2 := H.l2
  have c3 := H.l3
  have c4 := H.l4
  have e1 : (x == 258) = false := by rw [beq_eq_false_iff_ne]; omega
  clear H hx
  go_enter Tryd.func6, Tryd.ntmps6
  go_wp2_with (go_at_call 19; (with_reducible refine HS.out.mono ?_); rintro e w1 ⟨rfl, b1⟩; have B1 := Lib.hid b1; clear b1)
  exact bodyPost_ret (v := .tuple #[.int .i64 0, .int .u32 0, .int .i64 0, .bool false]) (by simp [results, Tryd.results6, go_sem]) rfl ⟨rfl, B1.out⟩

set_option maxRecDepth 1000000 in
theorem length_yes (n : Nat) (w : World) (H : Tab w) (hn : 3 ≤ n ∧ n ≤ 258) : Calls Tryd.prog 6 #[.int .i64 n] w fun e w' => e = .returned (.tuple #[.int .i64 (257 + lsy n : Nat), .int .u32 (lex n : Nat), .int .i64 (lb (lsy n) : Nat), .bool true]) ∧ Below w.heap.size w w' := by
  by_cases h : n = 258
  · subst h
    show Calls Tryd.prog 6 #[.int .i64 258] w fun e w' => e = .returned (.tuple #[.int .i64 285, .int .u32 0, .int .i64 0, .bool true]) ∧ Below w.heap.size w w'
    go_enter Tryd.func6, Tryd.ntmps6
    go_wp2_with fail
    exact bodyPost_ret (v := .tuple #[.int .i64 285, .int .u32 0, .int .i64 0, .bool true]) (by simp [results, Tryd.results6, go_sem]) rfl ⟨rfl, Below.refl _ _⟩
  · have hn1 : 3 ≤ n ∧ n ≤ 257 := by omega
    have HS := Lib.hid (show Calls Tryd.prog 19 #[.agg #[.int .i64 257, .int .i64 28, .int .i64 3, .int .i64 257, .int .i64 2], .int .i64 n] w fun e w' => ∃ i, Plc (lt 3 2) 28 n i ∧ e = .returned (.tuple #[.int .i64 (257 + i : Nat), .int .u32 (n - lt 3 2 i : Nat), .int .i64 (bt 2 i : Nat), .bool true]) ∧ Below w.heap.size w w' from symbolOf_yes 257 28 3 257 2 n w (by decide) (by decide) (by decide) (by decide) (.inr rfl) (by decide) hn1)
    have c0 := H.l0
    have c1 := H.l1
    have c2 := H.l2
    have c3 := H.l3
    have c4 := H.l4
    have e1 : ((n : Int) == 258) = false := by rw [beq_eq_false_iff_ne]; omega
    have e2 : (n == 258) = false := by rw [beq_eq_false_iff_ne]; exact h
    obtain ⟨s, hs⟩ : ∃ s, (257 + lsy n : Nat) = s := ⟨_, rfl⟩
    obtain ⟨x, hx⟩ : ∃ x, lex n = x := ⟨_, rfl⟩
    obtain ⟨b, hb⟩ : ∃ b, lb (lsy n) = b := ⟨_, rfl⟩
    have HV := Lib.hid (fun (i : Nat) (g : Plc (lt 3 2) 28 n i) => (show (257 + i : Nat) = s ∧ n - lt 3 2 i = x ∧ bt 2 i = b from ⟨by rw [← hs, (plc_len hn1.2 g).1], by rw [← hx, (plc_len hn1.2 g).2.1], by rw [← hb, (plc_len hn1.2 g).2.2]⟩))
    rw [hs, hx, hb]
    clear H hn hn1 h hs hx hb
    go_enter Tryd.func6, Tryd.ntmps6
    go_wp2_with (go_at_call 19; (with_reducible refine HS.out.mono ?_); rintro e w1 ⟨i, hp, rfl, b1⟩; have B1 := Lib.hid b1; obtain ⟨v1, v2, v3⟩ := HV.out i hp; rw [v1, v2, v3]; clear b1 hp v1 v2 v3)
    exact bodyPost_ret (v := .tuple #[.int .i64 s, .int .u32 x, .int .i64 b, .bool true]) (by simp [results, Tryd.results6, go_sem]) rfl ⟨rfl, B1.out⟩

set_option maxRecDepth 1000000 in
theorem dist_no (x : Int) (w : World) (H : Tab w) (hx : x < 1 ∨ 32768 < x) : Calls Tryd.prog 8 #[.int .i64 x] w fun e w' => e = .returned (.tuple #[.int .i64 0, .int .u32 0, .int .i64 0, .bool false]) ∧ Below w.heap.size w w' := by
  have HS := Lib.hid (show Calls Tryd.prog 19 #[.agg #[.int .i64 0, .int .i64 30, .int .i64 1, .int .i64 32768, .int .i64 1], .int .i64 x] w fun e w' => e = .returned (.tuple #[.int .i64 0, .int .u32 0, .int .i64 0, .bool false]) ∧ Below w.heap.size w w' from symbolOf_no 0 30 1 32768 1 x w (by omega))
  have c0 := H.d0
  have c1 := H.d1
  have c2 := H.d2
  have c3 := H.d3
  have c4 := H.d4
  clear H hx
  go_enter Tryd.func8, Tryd.ntmps8
  go_wp2_with (go_at_call 19; (with_reducible refine HS.out.mono ?_); rintro e w1 ⟨rfl, b1⟩; have B1 := Lib.hid b1; clear b1)
  exact bodyPost_ret (v := .tuple #[.int .i64 0, .int .u32 0, .int .i64 0, .bool false]) (by simp [results, Tryd.results8, go_sem]) rfl ⟨rfl, B1.out⟩

set_option maxRecDepth 1000000 in
theorem dist_yes (n : Nat) (w : World) (H : Tab w) (hn : 1 ≤ n ∧ n ≤ 32768) : Calls Tryd.prog 8 #[.int .i64 n] w fun e w' => e = .returned (.tuple #[.int .i64 (dsy n : Nat), .int .u32 (dex n : Nat), .int .i64 (db (dsy n) : Nat), .bool true]) ∧ Below w.heap.size w w' := by
  have HS := Lib.hid (show Calls Tryd.prog 19 #[.agg #[.int .i64 0, .int .i64 30, .int .i64 1, .int .i64 32768, .int .i64 1], .int .i64 n] w fun e w' => ∃ i, Plc (lt 1 1) 30 n i ∧ e = .returned (.tuple #[.int .i64 (0 + i : Nat), .int .u32 (n - lt 1 1 i : Nat), .int .i64 (bt 1 i : Nat), .bool true]) ∧ Below w.heap.size w w' from symbolOf_yes 0 30 1 32768 1 n w (by decide) (by decide) (by decide) (by decide) (.inl rfl) (by decide) hn)
  have c0 := H.d0
  have c1 := H.d1
  have c2 := H.d2
  have c3 := H.d3
  have c4 := H.d4
  obtain ⟨s, hs⟩ : ∃ s, dsy n = s := ⟨_, rfl⟩
  obtain ⟨x, hx⟩ : ∃ x, dex n = x := ⟨_, rfl⟩
  obtain ⟨b, hb⟩ : ∃ b, db (dsy n) = b := ⟨_, rfl⟩
  have HV := Lib.hid (fun (i : Nat) (g : Plc (lt 1 1) 30 n i) => (show (0 + i : Nat) = s ∧ n - lt 1 1 i = x ∧ bt 1 i = b from ⟨by rw [← hs, (plc_dist hn.2 g).1, Nat.zero_add], by rw [← hx, (plc_dist hn.2 g).2.1], by rw [← hb, (plc_dist hn.2 g).2.2]⟩))
  rw [hb, hs, hx]
  clear H hn hs hx hb
  go_enter Tryd.func8, Tryd.ntmps8
  go_wp2_with (go_at_call 19; (with_reducible refine HS.out.mono ?_); rintro e w1 ⟨i, hp, rfl, b1⟩; have B1 := Lib.hid b1; obtain ⟨v1, v2, v3⟩ := HV.out i hp; rw [v1, v2, v3]; clear b1 hp v1 v2 v3)
  exact bodyPost_ret (v := .tuple #[.int .i64 s, .int .u32 x, .int .i64 b, .bool true]) (by simp [results, Tryd.results8, go_sem]) rfl ⟨rfl, B1.out⟩

set_option maxRecDepth 1000000 in
theorem lbits_no (x : Int) (w : World) (H : Tab w) (hx : x < 257 ∨ 285 < x) : Calls Tryd.prog 12 #[.int .i64 x] w fun e w' => e = .returned (.tuple #[.int .i64 0, .bool false]) ∧ Below w.heap.size w w' := by
  have HS := Lib.hid (show Calls Tryd.prog 22 #[.agg #[.int .i64 257, .int .i64 28, .int .i64 3, .int .i64 257, .int .i64 2], .int .i64 x] w fun e w' => e = .returned (.tuple #[.int .i64 0, .bool false]) ∧ Below w.heap.size w w' from bitsOf_no 257 28 3 257 2 x w (by decide) (by decide) (by omega))
  have c0 := H.l0
  have c1 := H.l1
  have c2 := H.l2
  have c3 := H.l3
  have c4 := H.l4
  have e1 : (x == 285) = false := by rw [beq_eq_false_iff_ne]; omega
  clear H hx
  go_enter Tryd.func12, Tryd.ntmps12
  go_wp2_with (go_at_call 22; (with_reducible refine HS.out.mono ?_); rintro e w1 ⟨rfl, b1⟩; have B1 := Lib.hid b1; clear b1)
  exact bodyPost_ret (v := .tuple #[.int .i64 0, .bool false]) (by simp [results, Tryd.results12, go_sem]) rfl ⟨rfl, B1.out⟩

set_option maxRecDepth 1000000 in
theorem lbits_yes (i : Nat) (x : Int) (w : World) (H : Tab w) (hi : i ≤ 28) (hx : x = 257 + (i : Int)) : Calls Tryd.prog 12 #[.int .i64 x] w fun e w' => e = .returned (.tuple #[.int .i64 (lb i : Nat), .bool true]) ∧ Below w.heap.size w w' := by
  by_cases h : i = 28
  · subst h
    obtain rfl : x = 285 := by omega
    show Calls Tryd.prog 12 #[.int .i64 285] w fun e w' => e = .returned (.tuple #[.int .i64 0, .bool true]) ∧ Below w.heap.size w w'
    go_enter Tryd.func12, Tryd.ntmps12
    go_wp2_with fail
    exact bodyPost_ret (v := .tuple #[.int .i64 0, .bool true]) (by simp [results, Tryd.results12, go_sem]) rfl ⟨rfl, Below.refl _ _⟩
  · have hi' : i < 28 := by omega
    have HS := Lib.hid (show Calls Tryd.prog 22 #[.agg #[.int .i64 257, .int .i64 28, .int .i64 3, .int .i64 257, .int .i64 2], .int .i64 x] w fun e w' => e = .returned (.tuple #[.int .i64 (lb i : Nat), .bool true]) ∧ Below w.heap.size w w' from by rw [← bt_lb i hi']; exact bitsOf_yes 257 28 3 257 2 i x w (by decide) (by decide) (.inr rfl) hi' (by omega))
    have c0 := H.l0
    have c1 := H.l1
    have c2 := H.l2
    have c3 := H.l3
    have c4 := H.l4
    have e1 : (x == 285) = false := by rw [beq_eq_false_iff_ne]; omega
    obtain ⟨b, hb⟩ : ∃ b, lb i = b := ⟨_, rfl⟩
    rw [hb] at HS ⊢
    clear H hi hi' hx h hb
    go_enter Tryd.func12, Tryd.ntmps12
    go_wp2_with (go_at_call 22; (with_reducible refine HS.out.mono ?_); rintro e w1 ⟨rfl, b1⟩; have B1 := Lib.hid b1; clear b1)
    exact bodyPost_ret (v := .tuple #[.int .i64 b, .bool true]) (by simp [results, Tryd.results12, go_sem]) rfl ⟨rfl, B1.out⟩

set_option maxRecDepth 1000000 in
theorem dbits_no (x : Int) (w : World) (H : Tab w) (hx : x < 0 ∨ 29 < x) : Calls Tryd.prog 13 #[.int .i64 x] w fun e w' => e = .returned (.tuple #[.int .i64 0, .bool false]) ∧ Below w.heap.size w w' := by
  have HS := Lib.hid (show Calls Tryd.prog 22 #[.agg #[.int .i64 0, .int .i64 30, .int .i64 1, .int .i64 32768, .int .i64 1], .int .i64 x] w fun e w' => e = .returned (.tuple #[.int .i64 0, .bool false]) ∧ Below w.heap.size w w' from bitsOf_no 0 30 1 32768 1 x w (by decide) (by decide) (by omega))
  have c0 := H.d0
  have c1 := H.d1
  have c2 := H.d2
  have c3 := H.d3
  have c4 := H.d4
  clear H hx
  go_enter Tryd.func13, Tryd.ntmps13
  go_wp2_with (go_at_call 22; (with_reducible refine HS.out.mono ?_); rintro e w1 ⟨rfl, b1⟩; have B1 := Lib.hid b1; clear b1)
  exact bodyPost_ret (v := .tuple #[.int .i64 0, .bool false]) (by simp [results, Tryd.results13, go_sem]) rfl ⟨rfl, B1.out⟩

set_option maxRecDepth 1000000 in
theorem dbits_yes (i : Nat) (x : Int) (w : World) (H : Tab w) (hi : i ≤ 29) (hx : x = (i : Int)) : Calls Tryd.prog 13 #[.int .i64 x] w fun e w' => e = .returned (.tuple #[.int .i64 (db i : Nat), .bool true]) ∧ Below w.heap.size w w' := by
  have HS := Lib.hid (show Calls Tryd.prog 22 #[.agg #[.int .i64 0, .int .i64 30, .int .i64 1, .int .i64 32768, .int .i64 1], .int .i64 x] w fun e w' => e = .returned (.tuple #[.int .i64 (db i : Nat), .bool true]) ∧ Below w.heap.size w w' from by rw [← bt_db i (by omega)]; exact bitsOf_yes 0 30 1 32768 1 i x w (by decide) (by decide) (.inl rfl) (by omega) (by omega))
  have c0 := H.d0
  have c1 := H.d1
  have c2 := H.d2
  have c3 := H.d3
  have c4 := H.d4
  obtain ⟨b, hb⟩ : ∃ b, db i = b := ⟨_, rfl⟩
  rw [hb] at HS ⊢
  clear H hi hx hb
  go_enter Tryd.func13, Tryd.ntmps13
  go_wp2_with (go_at_call 22; (with_reducible refine HS.out.mono ?_); rintro e w1 ⟨rfl, b1⟩; have B1 := Lib.hid b1; clear b1)
  exact bodyPost_ret (v := .tuple #[.int .i64 b, .bool true]) (by simp [results, Tryd.results13, go_sem]) rfl ⟨rfl, B1.out⟩

end Go.Proofs.YtobcgieblidjcaaDoor
