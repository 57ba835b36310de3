/- The document's lengths and distances as symbols (layer 11): LengthOf, DistOf. Conditions: as each theorem names them. -/
import Derived.Test.YtobcgieblidjcaaDoorRsB
namespace Go.Proofs.YtobcgieblidjcaaDoor
open Go Go.RowKit M
set_option linter.unusedVariables false
set_option linter.unusedSimpArgs false

theorem rlof_no (x : Int) (e : Int) (w : World) (hx : x < 257 ∨ 285 < x) : Calls Tryd.prog 16 #[.int .i64 x, .int .u32 e] w fun e w' => e = .returned (.int .i64 0) ∧ w = w' := by
  have HB := Lib.hid (rlb_no x w hx)
  clear hx
  go_enter Tryd.func16, Tryd.ntmps16
  go_wp2_with (go_at_call 10; (with_reducible refine HB.out.mono ?_); rintro e w1 ⟨rfl, rfl⟩)
  go_ret
  exact ⟨rfl, rfl⟩
theorem shr_zero {e b : Nat} (h : e < 2 ^ b) : (e : Int) / 2 ^ b = 0 := by
  have e1 : ((2 : Int) ^ b) = ((2 ^ b : Nat) : Int) := by rw [Int.natCast_pow]; rfl
  rw [e1, ← Int.natCast_ediv, Nat.div_eq_of_lt h]; rfl
theorem shr_some {e b : Nat} (h : ¬ e < 2 ^ b) : (((e : Int) / 2 ^ b) != 0) = true := by
  have e1 : ((2 : Int) ^ b) = ((2 ^ b : Nat) : Int) := by rw [Int.natCast_pow]; rfl
  rw [e1, ← Int.natCast_ediv]
  have h1 : 0 < e / 2 ^ b := Nat.div_pos (by omega) (Nat.two_pow_pos b)
  rw [bne_iff_ne]; omega
set_option maxRecDepth 1000000 in
theorem rlof_yes (i e : Nat) (w : World) (hi : i ≤ 28) (he : e < 4294967296) : Calls Tryd.prog 16 #[.int .i64 (257 + i : Int), .int .u32 e] w fun x w' => x = .returned (.int .i64 (lof i e : Nat)) ∧ Below w.heap.size w w' := by
  have HB := Lib.hid (rlb_yes i w hi)
  have hb := lb_le i hi
  have hll := ll_le i hi
  have hls := lof_ls (i := i) (e := e) hi
  obtain ⟨b, hb'⟩ : ∃ b, lb i = b := ⟨_, rfl⟩
  rw [hb'] at HB hb hls
  have d0 : decide ((b : Int) < 0) = false := decide_eq_false (by omega)
  obtain ⟨x, hx⟩ : ∃ x : Int, 257 + (i : Int) = x := ⟨_, rfl⟩
  rw [hx] at HB ⊢
  by_cases h1 : e < 2 ^ b
  · have hq := shr_zero h1
    by_cases h2 : i = 27
    · have e2 : (x == 284) = true := by rw [beq_iff_eq]; omega
      by_cases h3 : e = 31
      · have hl : lof i e = 0 := by unfold lof; rw [if_neg (fun q => (hls.2 q.2).2 ⟨h2, h3⟩)]
        rw [hl]
        have e3 : ((e : Int) == 31) = true := by rw [beq_iff_eq]; omega
        have e3' : (e == 31) = true := by rw [beq_iff_eq]; exact h3
        clear hl h1 h2 h3 hls hx hb' hi
        go_enter Tryd.func16, Tryd.ntmps16
        go_wp2_with (go_at_call 10; (with_reducible refine HB.out.mono ?_); rintro e w1 ⟨rfl, rfl⟩)
        go_ret
        exact ⟨rfl, Below.refl _ _⟩
      · have hl : lof i e = ll i + e := by unfold lof; rw [if_pos ⟨hi, hls.1 ⟨h1, fun q => h3 q.2⟩⟩]
        rw [hl]
        have e3 : ((e : Int) == 31) = false := by rw [beq_eq_false_iff_ne]; omega
        have e3' : (e == 31) = false := by rw [beq_eq_false_iff_ne]; exact h3
        have ex : x - 257 = (i : Int) := by omega
        have hx1 : x ≤ 285 := by omega
        have hx2 : 0 ≤ x := by omega
        obtain ⟨v, hv⟩ : ∃ v, ll i = v := ⟨_, rfl⟩
        have HV := Lib.hid hv
        rw [hv] at hll ⊢
        clear hl h1 h2 h3 hls hx hb' hv
        go_enter Tryd.func16, Tryd.ntmps16
        go_wp2_with (first
          | (go_at_call 10; (with_reducible refine HB.out.mono ?_); rintro e w1 ⟨rfl, rfl⟩)
          | (go_at_call 20; (with_reducible refine (rlengths_any _).mono ?_); rintro e w1 ⟨rfl, l1, b1⟩; have c0 := l1.cell hi; rw [HV.out] at c0; have B1 := Lib.hid b1; clear l1 b1))
        go_ret
        exact ⟨by simp, B1.out⟩
    · have e2 : (x == 284) = false := by rw [beq_eq_false_iff_ne]; omega
      have hl : lof i e = ll i + e := by unfold lof; rw [if_pos ⟨hi, hls.1 ⟨h1, fun q => h2 q.1⟩⟩]
      rw [hl]
      have ex : x - 257 = (i : Int) := by omega
      have hx1 : x ≤ 285 := by omega
      have hx2 : 0 ≤ x := by omega
      obtain ⟨v, hv⟩ : ∃ v, ll i = v := ⟨_, rfl⟩
      have HV := Lib.hid hv
      rw [hv] at hll ⊢
      clear hl h1 h2 hls hx hb' hv
      go_enter Tryd.func16, Tryd.ntmps16
      go_wp2_with (first
        | (go_at_call 10; (with_reducible refine HB.out.mono ?_); rintro e w1 ⟨rfl, rfl⟩)
        | (go_at_call 20; (with_reducible refine (rlengths_any _).mono ?_); rintro e w1 ⟨rfl, l1, b1⟩; have c0 := l1.cell hi; rw [HV.out] at c0; have B1 := Lib.hid b1; clear l1 b1))
      go_ret
      exact ⟨by simp, B1.out⟩
  · have hq := shr_some h1
    have hl : lof i e = 0 := by unfold lof; rw [if_neg (fun q => h1 (hls.2 q.2).1)]
    rw [hl]
    clear hl h1 hls hx hb' hi
    go_enter Tryd.func16, Tryd.ntmps16
    go_wp2_with (go_at_call 10; (with_reducible refine HB.out.mono ?_); rintro e w1 ⟨rfl, rfl⟩)
    go_ret
    exact ⟨rfl, Below.refl _ _⟩

theorem rdof_no (x : Int) (e : Int) (w : World) (hx : x < 0 ∨ 29 < x) : Calls Tryd.prog 17 #[.int .i64 x, .int .u32 e] w fun e w' => e = .returned (.int .i64 0) ∧ w = w' := by
  have HB := Lib.hid (rdb_no x w hx)
  clear hx
  go_enter Tryd.func17, Tryd.ntmps17
  go_wp2_with (go_at_call 11; (with_reducible refine HB.out.mono ?_); rintro e w1 ⟨rfl, rfl⟩)
  go_ret
  exact ⟨rfl, rfl⟩
set_option maxRecDepth 1000000 in
theorem rdof_yes (i e : Nat) (w : World) (hi : i ≤ 29) (he : e < 4294967296) : Calls Tryd.prog 17 #[.int .i64 i, .int .u32 e] w fun x w' => x = .returned (.int .i64 (dof i e : Nat)) ∧ Below w.heap.size w w' := by
  have HB := Lib.hid (rdb_yes i w hi)
  have hb := db_le i hi
  have hll := dl_le i hi
  have hd2 : ds i = 2 ^ db i := rfl
  obtain ⟨b, hb'⟩ : ∃ b, db i = b := ⟨_, rfl⟩
  rw [hb'] at HB hb hd2
  have d0 : decide ((b : Int) < 0) = false := decide_eq_false (by omega)
  by_cases h1 : e < 2 ^ b
  · have hq := shr_zero h1
    have hl : dof i e = dl i + e := by unfold dof; rw [if_pos ⟨hi, by rw [hd2]; exact h1⟩]
    rw [hl]
    obtain ⟨v, hv⟩ : ∃ v, dl i = v := ⟨_, rfl⟩
    have HV := Lib.hid hv
    rw [hv] at hll ⊢
    clear hl h1 hd2 hb' hv
    go_enter Tryd.func17, Tryd.ntmps17
    go_wp2_with (first
      | (go_at_call 11; (with_reducible refine HB.out.mono ?_); rintro e w1 ⟨rfl, rfl⟩)
      | (go_at_call 21; (with_reducible refine (rdists_any _).mono ?_); rintro e w1 ⟨rfl, l1, b1⟩; have c0 := l1.cell hi; rw [HV.out] at c0; have B1 := Lib.hid b1; clear l1 b1))
    go_ret
    exact ⟨by simp, B1.out⟩
  · have hq := shr_some h1
    have hl : dof i e = 0 := by unfold dof; rw [if_neg (fun q => h1 (by rw [← hd2]; exact q.2))]
    rw [hl]
    clear hl h1 hd2 hb'
    go_enter Tryd.func17, Tryd.ntmps17
    go_wp2_with (go_at_call 11; (with_reducible refine HB.out.mono ?_); rintro e w1 ⟨rfl, rfl⟩)
    go_ret
    exact ⟨rfl, Below.refl _ _⟩
end Go.Proofs.YtobcgieblidjcaaDoor
