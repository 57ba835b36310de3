/- The law of lengths and distances as symbols, there and back. Conditions: as each theorem names them. -/
import Derived.Test.YtobcgieblidjcaaDoorBkA
import Derived.Test.YtobcgieblidjcaaDoorTyD
namespace Go.Proofs.YtobcgieblidjcaaDoor
open Go Go.RowKit M
set_option linter.unusedVariables false
set_option linter.unusedSimpArgs false

theorem u16_nat {a : Int} (h : (Lit.int .u16 a).wf = true) : ∃ n : Nat, a = n ∧ n < 65536 := by
  have g : 0 ≤ a ∧ a ≤ 65535 := by simpa [Lit.wf, IntKind.min, IntKind.max, IntKind.signed, IntKind.bits] using h
  exact ⟨a.toNat, by omega, by omega⟩
theorem next_len (k : Nat) (hk : 3 ≤ k ∧ k ≤ 258) : ∃ (nx mo b2 : Nat) (th : Bool), ((k < 258 ∧ nx = 257 + lsy k ∧ mo = lex k + 1 ∧ th = true) ∨ (k < 258 ∧ nx = 257 + lsy k + 1 ∧ mo = 0 ∧ th = true) ∨ (k = 258 ∧ th = false)) ∧
    ∀ w, Tab w → Calls Tryd.prog 6 #[.int .i64 ((k : Int) + 1)] w fun y w' => y = .returned (.tuple #[.int .i64 nx, .int .u32 mo, .int .i64 b2, .bool th]) ∧ Below w.heap.size w w' := by
  by_cases h : k < 258
  · refine ⟨257 + lsy (k + 1), lex (k + 1), lb (lsy (k + 1)), true, ?_, fun w H => length_yes (k + 1) w H (by omega)⟩
    rcases len_rise ⟨hk.1, h⟩ with ⟨g1, g2⟩ | ⟨g1, g2⟩
    · exact .inl ⟨h, by rw [g1], g2, rfl⟩
    · exact .inr (.inl ⟨h, by rw [g1]; rfl, g2, rfl⟩)
  · exact ⟨0, 0, 0, false, .inr (.inr ⟨by omega, rfl⟩), fun w H => length_no ((k : Int) + 1) w H (by omega)⟩
theorem next_dist (d : Nat) (hd : 1 ≤ d ∧ d ≤ 32768) : ∃ (nx mo b2 : Nat) (th : Bool), ((d < 32768 ∧ nx = dsy d ∧ mo = dex d + 1 ∧ th = true) ∨ (d < 32768 ∧ nx = dsy d + 1 ∧ mo = 0 ∧ th = true) ∨ (d = 32768 ∧ th = false)) ∧
    ∀ w, Tab w → Calls Tryd.prog 8 #[.int .i64 ((d : Int) + 1)] w fun y w' => y = .returned (.tuple #[.int .i64 nx, .int .u32 mo, .int .i64 b2, .bool th]) ∧ Below w.heap.size w w' := by
  by_cases h : d < 32768
  · refine ⟨dsy (d + 1), dex (d + 1), db (dsy (d + 1)), true, ?_, fun w H => dist_yes (d + 1) w H (by omega)⟩
    rcases dist_rise ⟨hd.1, h⟩ with ⟨g1, g2⟩ | ⟨g1, g2⟩
    · exact .inl ⟨h, by rw [g1], g2, rfl⟩
    · exact .inr (.inl ⟨h, by rw [g1], g2, rfl⟩)
  · exact ⟨0, 0, 0, false, .inr (.inr ⟨by omega, rfl⟩), fun w H => dist_no ((d : Int) + 1) w H (by omega)⟩
theorem turn_len (r X : Nat) : ∃ i bi : Nat,
    (∀ w, Tab w → Calls Tryd.prog 14 #[.int .i64 r, .int .u32 X] w fun y w' => y = .returned (.tuple #[.int .i64 i, .bool (decide (0 < i))]) ∧ Below w.heap.size w w') ∧
    (0 < i → ∀ w, Tab w → Calls Tryd.prog 6 #[.int .i64 i] w fun y w' => y = .returned (.tuple #[.int .i64 r, .int .u32 X, .int .i64 bi, .bool true]) ∧ Below w.heap.size w w') := by
  by_cases h : r < 257 ∨ 285 < r
  · exact ⟨0, 0, fun w H => lengthOf_no (r : Int) X w H (by omega), fun g => by omega⟩
  · have hz : (r : Int) = 257 + ((r - 257 : Nat) : Int) := by omega
    have hi : r - 257 ≤ 28 := by omega
    refine ⟨lof (r - 257) X, lb (r - 257), fun w H => lengthOf_yes _ X r w H hi hz, fun g w H => ?_⟩
    obtain ⟨_, _, _, h4, h5, h6, h7⟩ := lof_one (i := r - 257) (e := X) (by omega)
    have hq := length_yes (lof (r - 257) X) w H ⟨h6, h7⟩
    rw [h4, h5, show 257 + (r - 257) = r by omega] at hq
    exact hq
theorem turn_dist (r X : Nat) : ∃ i bi : Nat,
    (∀ w, Tab w → Calls Tryd.prog 15 #[.int .i64 r, .int .u32 X] w fun y w' => y = .returned (.tuple #[.int .i64 i, .bool (decide (0 < i))]) ∧ Below w.heap.size w w') ∧
    (0 < i → ∀ w, Tab w → Calls Tryd.prog 8 #[.int .i64 i] w fun y w' => y = .returned (.tuple #[.int .i64 r, .int .u32 X, .int .i64 bi, .bool true]) ∧ Below w.heap.size w w') := by
  by_cases h : 29 < r
  · exact ⟨0, 0, fun w H => distOf_no (r : Int) X w H (.inr (by omega)), fun g => by omega⟩
  · have hi : r ≤ 29 := by omega
    refine ⟨dof r X, db r, fun w H => distOf_yes _ X r w H hi rfl, fun g w H => ?_⟩
    obtain ⟨_, _, _, h4, h5, h6, h7⟩ := dof_one (i := r) (e := X) (by omega)
    have hq := dist_yes (dof r X) w H ⟨h6, h7⟩
    rw [h4, h5] at hq
    exact hq
theorem SymbolBack_walk (a0 a1 a2 : Int) (W : World) (w0 : (Lit.int .u16 a0).wf = true) (w1 : (Lit.int .u16 a1).wf = true) (w2 : (Lit.int .u16 a2).wf = true) (H : Tab W) :
    Calls Tryd.prog 4 #[.int .u16 a0, .int .u16 a1, .int .u16 a2] W fun y w' => y = .returned (.bool true) ∧ Below W.heap.size W w' := by
  obtain ⟨n, rfl, hn⟩ := u16_nat w0
  obtain ⟨S, rfl, hS⟩ := u16_nat w1
  obtain ⟨X, rfl, hX⟩ := u16_nat w2
  obtain ⟨k, hk⟩ : ∃ k, 3 + n % 256 = k := ⟨_, rfl⟩
  obtain ⟨d, hd⟩ : ∃ d, 1 + n % 32768 = d := ⟨_, rfl⟩
  obtain ⟨r, hr⟩ : ∃ r, S % 400 = r := ⟨_, rfl⟩
  have hk2 : 3 ≤ k ∧ k ≤ 258 := by omega
  have hd2 : 1 ≤ d ∧ d ≤ 32768 := by omega
  obtain ⟨nx, mo, b2, th, hN, HN⟩ := next_len k hk2
  obtain ⟨nx', mo', b2', th', hN', HN'⟩ := next_dist d hd2
  obtain ⟨i, bi, HP, HI⟩ := turn_len r X
  obtain ⟨j, bj, HQ, HJ⟩ := turn_dist r X
  have l1 := (len_in hk2).1
  have l2 := (dist_in hd2).1
  have t1 := lof_back hk2
  have t2 := dof_back hd2
  refine back_walk n S X W H hn hS hX k (257 + lsy k) (lex k) (lb (lsy k)) d (dsy d) (dex d) (db (dsy d)) hk hd (Nat.lt_of_lt_of_le (lex_lt hk2) (ls_le l1)) (lb_le _ l1) (dex_lt hd2) (db_le _ l2) (by omega) l2
    nx mo b2 nx' mo' b2' th th' hN hN' i j bi bj r hr (Lib.hid fun w H => length_yes k w H hk2) (Lib.hid fun w H => ?_) (Lib.hid HN) (Lib.hid fun w H => dist_yes d w H hd2) (Lib.hid fun w H => ?_) (Lib.hid HN') (Lib.hid HP) (Lib.hid HQ) (Lib.hid HI) (Lib.hid HJ)
  · have hq := lengthOf_yes (lsy k) (lex k) ((257 + lsy k : Nat) : Int) w H l1 (by omega)
    rw [t1, decide_eq_true (show 0 < k by omega)] at hq
    exact hq
  · have hq := distOf_yes (dsy d) (dex d) ((dsy d : Nat) : Int) w H l2 rfl
    rw [t2, decide_eq_true (show 0 < d by omega)] at hq
    exact hq
end Go.Proofs.YtobcgieblidjcaaDoor
