/- What Same of package token and the document's Same answer. Conditions: as each theorem names them. -/
import Derived.Test.YthemndeljjampaaDoorTkB
import Derived.Laws.StructEq
namespace Go.Proofs.YthemndeljjampaaDoor
open Go Go.RowKit M
open Go.ChangeShapes (lits)
set_option linter.unusedVariables false
set_option linter.unusedSimpArgs false

theorem same_list {L M : List Tk} (h : L.length = M.length) (k : Nat) (hk : L.length ≤ k) (hp : ∀ j, j < k → j < L.length → L.getD j default = M.getD j default) : L = M := by
  apply List.ext_getElem?
  intro i
  by_cases c : i < L.length
  · have := hp i (by omega) c
    rw [List.getD, List.getD, List.getElem?_eq_getElem c, List.getElem?_eq_getElem (by omega)] at this
    rw [List.getElem?_eq_getElem c, List.getElem?_eq_getElem (by omega)]
    exact congrArg some this
  · rw [List.getElem?_eq_none (by omega), List.getElem?_eq_none (by omega)]

theorem tokHeld : Tryd.prog.stoodInHeld 38 = false := by kernel_rfl
theorem tokGuard : Tryd.prog.eqGuardType Tryd.prog.depth 38 = false := by kernel_rfl
theorem tokFields : Tryd.prog.underlying 38 = some (.struct (Tryd.prog.fieldsOf 38)) := by unfold Program.fieldsOf; rw [Tryd.underlying38]
/-- two tokens, held against each other -/
theorem tok_neq (w : World) (l n d l' n' d' : Int) : (binOp .neq 38 (.agg #[.int .u8 l, .int .i64 n, .int .i64 d]) (.agg #[.int .u8 l', .int .i64 n', .int .i64 d'])).run Tryd.prog w = .ok (.bool (!decide ((⟨l, n, d⟩ : Tk) = ⟨l', n', d'⟩))) w := by
  rw [run_neq_struct, run_equalIn_agg (P := Tryd.prog) w 9999 38 _ _ tokFields tokHeld]
  unfold Program.fieldsOf
  rw [Tryd.underlying38]
  simp [Op.eqFields, go_sem, run_equalIn_int, Tryd.underlying5, Tryd.underlying3]
  by_cases h1 : l = l'
  · by_cases h2 : n = n'
    · by_cases h3 : d = d' <;> simp [h1, h2, h3]
    · simp [h1, h2]
  · simp [h1]

set_option maxRecDepth 1000000 in
set_option maxHeartbeats 1000000 in
theorem rsame_any (A B : Option Addr) (n c m c' : Nat) (L M : List Tk) (w : World) (h : IsTks w A n L) (h' : IsTks w B m M) (hn : n ≤ 1000000) (hm : m ≤ 1000000) :
    Calls Tryd.prog 13 #[.slice A n c, .slice B m c'] w fun e w' => e = .returned (.bool (decide (L = M))) ∧ ∃ q, w' = w.drewN q := by
  have hl := h.leng
  have hl' := h'.leng
  obtain ⟨z, hz⟩ : ∃ z, decide (L = M) = z := ⟨_, rfl⟩
  rw [hz]
  have HZ := Lib.hid hz
  clear hz
  by_cases hnm : n = m
  · subst hnm
    have HH := Lib.hid h
    have HH' := Lib.hid h'
    clear h h'
    go_enter Tryd.func13, Tryd.ntmps13
    go_wp2_with fail
    go_loopw [5] (fun i wr => ∃ k : Nat, k ≤ n ∧ i = .int .i64 k ∧ (∀ j, j < k → L.getD j default = M.getD j default) ∧ ∃ q, wr = w.drewN q) (fun i _ => n - (intOf i).toNat)
    case atStart => exact ⟨0, Nat.zero_le _, rfl, fun j hj => absurd hj (by omega), 0, rfl⟩
    case round =>
      obtain ⟨k, hk, rfl, hp, q, rfl⟩ := hrel
      by_cases hlt : k < n
      · obtain ⟨b, o, rfl, hbl, hc⟩ := HH.out.at (by omega)
        obtain ⟨b', o', rfl, hbl', hc'⟩ := HH'.out.at (by omega)
        obtain ⟨c0, c1, c2⟩ := hc k hlt
        obtain ⟨c0', c1', c2'⟩ := hc' k hlt
        obtain ⟨t, ht⟩ : ∃ t, L.getD k default = t := ⟨_, rfl⟩
        obtain ⟨t', ht'⟩ : ∃ t, M.getD k default = t := ⟨_, rfl⟩
        rw [ht] at c0 c1 c2
        rw [ht'] at c0' c1' c2'
        have HT := Lib.hid ht
        have HT' := Lib.hid ht'
        clear ht ht'
        obtain ⟨tl, tn, td⟩ := t
        obtain ⟨tl', tn', td'⟩ := t'
        simp only at c0 c1 c2 c0' c1' c2'
        clear hc hc'
        have HP := Lib.hid hp
        clear hp
        have hg := tokGuard
        have hk2 : k < 9223372036854775807 := by omega
        by_cases he : (⟨tl, tn, td⟩ : Tk) = ⟨tl', tn', td'⟩
        · have hq : ∀ w, (binOp .neq 38 (.agg #[.int .u8 tl, .int .i64 tn, .int .i64 td]) (.agg #[.int .u8 tl', .int .i64 tn', .int .i64 td'])).run Tryd.prog w = .ok (.bool false) w := fun w => by rw [tok_neq, decide_eq_true he]; rfl
          have HE := Lib.hid he
          clear he
          go_wp2_with fail
          go_quiet (fail)
          clear hq
          go_wp2_with fail
          go_roundw
          case rel => exact ⟨k + 1, by omega, by go_num, fun j hj => (by
            by_cases c : j = k
            · subst c; rw [HT.out, HT'.out]; exact HE.out
            · exact HP.out j (by omega)), _, rfl⟩
          case measure => simp [intOf]; omega
        · have hq : ∀ w, (binOp .neq 38 (.agg #[.int .u8 tl, .int .i64 tn, .int .i64 td]) (.agg #[.int .u8 tl', .int .i64 tn', .int .i64 td'])).run Tryd.prog w = .ok (.bool true) w := fun w => by rw [tok_neq, decide_eq_false he]; rfl
          have hv : decide (L = M) = false := decide_eq_false fun q => he (by rw [← HT.out, ← HT'.out, q])
          obtain rfl : z = false := by rw [← HZ.out, hv]
          clear he hv
          go_wp2_with fail
          go_quiet (fail)
          clear hq
          go_wp2_with fail
          go_ret
          exact ⟨rfl, _, by rw [World.drewN_drewN]⟩
      · obtain rfl : k = n := by omega
        have hv : decide (L = M) = true := decide_eq_true (same_list (by omega) k (by omega) (fun j hj _ => hp j hj))
        obtain rfl : z = true := by rw [← HZ.out, hv]
        clear hp hv hl hl'
        go_wp2_with fail
        go_ret
        exact ⟨rfl, _, rfl⟩
  · have hv : decide (L = M) = false := decide_eq_false fun q => hnm (by rw [← hl, ← hl', q])
    obtain rfl : z = false := by rw [← HZ.out, hv]
    have e1 : ((n : Int) == (m : Int)) = false := by rw [beq_eq_false_iff_ne]; omega
    have e2 : decide (n = m) = false := decide_eq_false hnm
    have e3 : (n == m) = false := by rw [beq_eq_false_iff_ne]; exact hnm
    clear hv hl hl' h h'
    go_enter Tryd.func13, Tryd.ntmps13
    go_wp2_with fail
    go_ret
    exact ⟨rfl, 0, rfl⟩

end Go.Proofs.YthemndeljjampaaDoor
