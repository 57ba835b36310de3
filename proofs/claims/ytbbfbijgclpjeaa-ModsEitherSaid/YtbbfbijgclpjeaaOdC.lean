/- What strings.Clone and the document's Same of layer 18 answer. Conditions: as each theorem names them. -/
import Derived.Test.YtbbfbijgclpjeaaOdB
import Derived.Test.YtbbfbijgclpjeaaCpy
import Derived.Laws.StructEq
import Derived.Lib.UnsafeStr
import Derived.Deep.QuietTactic
import Derived.BigQuiet
namespace Go.Proofs.Ytbbfbijgclpjeaa.O
open Go Go.RowKit M
set_option linter.unusedVariables false
set_option linter.unusedSimpArgs false

instance : DecidableEq Md := fun a b => if h : a.p = b.p ∧ a.s.data.toList = b.s.data.toList then .isTrue (by
    obtain ⟨p, s⟩ := a
    obtain ⟨q, t⟩ := b
    obtain ⟨h1, h2⟩ := h
    simp only at h1 h2
    rw [h1, ByteArray.ext (Array.toList_inj.1 h2)]) else .isFalse (fun e => h (by rw [e]; exact ⟨rfl, rfl⟩))
theorem str_eq (s t : ByteArray) : (s.toList == t.toList) = decide (s = t) := by
  by_cases h : s = t
  · rw [decide_eq_true h, h]; simp
  · rw [decide_eq_false h, beq_eq_false_iff_ne]
    intro q
    rw [ByteArray.toList_eq, ByteArray.toList_eq] at q
    exact h (ByteArray.ext (Array.toList_inj.1 q))
theorem str_ne (s t : ByteArray) : (s.toList != t.toList) = !decide (s = t) := by rw [bne, str_eq]

set_option maxHeartbeats 1000000 in
/-- A copy in memory of its own has the same bytes. -/
theorem sclone_any (s : ByteArray) (w : World) (hs : s.size ≤ 100000000) :
    Calls Try.prog 50 #[.string s] w fun e w' => e = .returned (.string s) ∧ Kept NoB w w' := by
  by_cases h0 : s.size = 0
  · obtain rfl : s = ⟨#[]⟩ := ByteArray.ext (Array.eq_empty_of_size_eq_zero h0)
    go_enter Try.func50, Try.ntmps50
    go_wp2
    go_ret
    exact ⟨rfl, Kept.refl _ _⟩
  · obtain ⟨i0, hi, hz0, hz1, hz2⟩ := info_parts byteInfo
    have hmake := run_make (P := Try.prog) w 61 5 i0 (.int .u8 0) Try.underlying61 hi hz0 .i64 .i64 (s.size : Int) (s.size : Int) (by omega) (by omega) (by rw [hz2]; omega) (by omega)
    obtain ⟨M, hM⟩ : ∃ M, M = madeCells (Value.int .u8 0).cells (((s.size : Nat) : Int).toNat * i0.size) := ⟨_, rfl⟩
    have hMs : M.size = s.size := by rw [hM, size_madeCells, hz1]; simp
    rw [← hM] at hmake
    have hcp := run_copy_string_some (P := Try.prog) (w.alloc (.cells M 5)) 61 9 3 5 w.heap.size 0 s.size s.size s.size s M 5 Try.underlying61 (by kernel_rfl) (heap_alloc_new w _) (Nat.min_self _).symm (by omega)
    obtain ⟨Y, hY⟩ : ∃ Y, Y = (M.toList.take 0 ++ Lib.byteCells (s.data.toList.take s.size) ++ M.toList.drop (0 + s.size)).toArray := ⟨_, rfl⟩
    rw [← hY] at hcp
    have hYl : Y.toList = Lib.byteCells s.data.toList := by
      rw [hY, List.toList_toArray, List.take_zero, List.nil_append, List.drop_of_length_le (by rw [Array.length_toList]; omega), List.append_nil, List.take_of_length_le (by rw [size_list]; exact Nat.le_refl _)]
    have hYs : Y.size = s.size := by rw [← Array.length_toList, hYl, Lib.byteCells_length, size_list]
    have hgY := setRow_heap (w.alloc (.cells M 5)) w.heap.size M Y 5 (0, 0) (heap_alloc_new w _)
    have hne : s.data.toList ≠ [] := fun e => h0 (by rw [← size_list, e]; rfl)
    have hus := Lib.run_unsafeString_row (P := Try.prog) ((w.alloc (.cells M 5)).setRow w.heap.size Y) 79 3 9 5 Try.underlying79 (by kernel_rfl) w.heap.size Y.size (by unfold World.shape?; rw [hgY]) s.data.toList hne (by rw [size_list]; omega) (by rw [size_list]; omega)
      (fun j x hx => Lib.cells_of_row hgY Y.size j _ (by rw [List.take_of_length_le (by rw [Array.length_toList]; exact Nat.le_refl _), hYl]; simp [Lib.byteCells, hx]))
    rw [size_list] at hus
    have hk : Kept NoB w ((w.alloc (.cells M 5)).setRow w.heap.size Y) := ((Kept.refl NoB w).alloc _).setRow _ (.inr (Nat.le_refl _)) _
    have HK := Lib.hid (hk.freeze ⟨w.heap.size, 0, none⟩ (.inr (Nat.le_refl _)) s.size)
    clear hY hM hYl hgY hne hMs hYs hi hz0 hz1 hz2 hk
    rw [Int.toNat_natCast] at hmake
    have h1 : 0 < s.size := by omega
    have h2 : ((s.size : Int) == 0) = false := by rw [beq_eq_false_iff_ne]; omega
    go_enter Try.func50, Try.ntmps50
    go_wp2
    go_ret
    exact ⟨rfl, HK.out⟩
theorem clone_str (s : ByteArray) (w : World) (hs : s.size ≤ 100000000) :
    Calls Try.prog 42 #[.string s] w fun e w' => e = .returned (.string s) ∧ Below w.heap.size w w' := by
  go_enter Try.func42, Try.ntmps42
  go_wp2_with fail
  refine (sclone_any s _ hs).mono ?_; rintro e w' ⟨rfl, hk⟩
  have HK := Lib.hid (hk.below (Nat.le_refl _) (fun _ g => g.elim))
  clear hk
  go_wp2_with fail
  go_ret
  exact ⟨rfl, HK.out⟩

/-! two lists -/
theorem same_list {L M : List Md} (h : L.length = M.length) (k : Nat) (hk : L.length ≤ k) (hp : ∀ j, j < k → j < L.length → L.getD j default = M.getD j default) : L = M := by
  apply List.ext_getElem?
  intro i
  by_cases c : i < L.length
  · have := hp i (by omega) c
    rw [List.getD, List.getD, List.getElem?_eq_getElem c, List.getElem?_eq_getElem (by omega)] at this
    rw [List.getElem?_eq_getElem c, List.getElem?_eq_getElem (by omega)]
    exact congrArg some this
  · rw [List.getElem?_eq_none (by omega), List.getElem?_eq_none (by omega)]
theorem modHeld : Try.prog.stoodInHeld 34 = false := by kernel_rfl
theorem modGuard : Try.prog.eqGuardType Try.prog.depth 34 = false := by kernel_rfl
theorem modFields : Try.prog.underlying 34 = some (.struct (Try.prog.fieldsOf 34)) := by unfold Program.fieldsOf; rw [Try.underlying34]
/-- two modifications, held against each other -/
theorem mod_neq (w : World) (p : Int) (s : ByteArray) (p' : Int) (s' : ByteArray) : (binOp .neq 34 (.agg #[.int .i64 p, .string s]) (.agg #[.int .i64 p', .string s'])).run Try.prog w = .ok (.bool (!decide ((⟨p, s⟩ : Md) = ⟨p', s'⟩))) w := by
  rw [run_neq_struct, run_equalIn_agg (P := Try.prog) w 9999 34 _ _ modFields modHeld]
  unfold Program.fieldsOf
  rw [Try.underlying34]
  simp [Op.eqFields, go_sem, run_equalIn_int, run_equalIn_string, Try.underlying3, Try.underlying9]
  by_cases h1 : p = p'
  · by_cases h2 : s = s'
    · simp [h1, h2]
    · have h3 : ¬ (s.toList = s'.toList) := fun q => h2 (by
        rw [ByteArray.toList_eq, ByteArray.toList_eq] at q
        exact ByteArray.ext (Array.toList_inj.1 q))
      simp [h1, h2, h3]
  · simp [h1]

set_option maxRecDepth 1000000 in
set_option maxHeartbeats 1000000 in
theorem rsame_any (A B : Option Addr) (n c m c' : Nat) (L M : List Md) (w : World) (h : IsMds w A n L) (h' : IsMds w B m M) (hn : n ≤ 1000000) (hm : m ≤ 1000000) :
    Calls Try.prog 26 #[.slice A n c, .slice B m c'] w fun e w' => e = .returned (.bool (decide (L = M))) ∧ Below w.heap.size w w' := by
  have hl := h.leng
  have hl' := h'.leng
  have HBd := Lib.hid (fun q => ((Kept.refl NoB w).drewN q).below (Nat.le_refl _) (fun _ g => g.elim))
  obtain ⟨z, hz⟩ : ∃ z, decide (L = M) = z := ⟨_, rfl⟩
  rw [hz]
  have HZ := Lib.hid hz
  clear hz
  by_cases hnm : n = m
  · subst hnm
    have HH := Lib.hid h
    have HH' := Lib.hid h'
    clear h h'
    go_enter Try.func26, Try.ntmps26
    go_wp2_with fail
    go_loopw [5] (fun i wr => ∃ k : Nat, k ≤ n ∧ i = .int .i64 k ∧ (∀ j, j < k → L.getD j default = M.getD j default) ∧ ∃ q, wr = w.drewN q) (fun i _ => n - (intOf i).toNat)
    case atStart => exact ⟨0, Nat.zero_le _, rfl, fun j hj => absurd hj (by omega), 0, rfl⟩
    case round =>
      obtain ⟨k, hk, rfl, hp, q, rfl⟩ := hrel
      by_cases hlt : k < n
      · obtain ⟨b, o, rfl, hbl, hc⟩ := HH.out.at (by omega)
        obtain ⟨b', o', rfl, hbl', hc'⟩ := HH'.out.at (by omega)
        obtain ⟨c0, c1⟩ := hc k hlt
        obtain ⟨c0', c1'⟩ := hc' k hlt
        obtain ⟨t, ht⟩ : ∃ t, L.getD k default = t := ⟨_, rfl⟩
        obtain ⟨t', ht'⟩ : ∃ t, M.getD k default = t := ⟨_, rfl⟩
        rw [ht] at c0 c1
        rw [ht'] at c0' c1'
        have HT := Lib.hid ht
        have HT' := Lib.hid ht'
        clear ht ht'
        obtain ⟨tl, tn⟩ := t
        obtain ⟨tl', tn'⟩ := t'
        simp only at c0 c1 c0' c1'
        clear hc hc'
        have HP := Lib.hid hp
        clear hp
        have hg := modGuard
        have hk2 : k < 9223372036854775807 := by omega
        by_cases he : (⟨tl, tn⟩ : Md) = ⟨tl', tn'⟩
        · have hq : ∀ w, (binOp .neq 34 (.agg #[.int .i64 tl, .string tn]) (.agg #[.int .i64 tl', .string tn'])).run Try.prog w = .ok (.bool false) w := fun w => by rw [mod_neq, decide_eq_true he]; rfl
          have HE := Lib.hid he
          clear he
          go_wp2_with fail
          go_quiet (fail)
          clear hq
          go_wp2_with fail
          go_roundw
          case rel => exact ⟨k + 1, by omega, by go_num, fun j hj => (by
            by_cases c : j = k
            · subst c; rw [HT.out, HT'.out]; exact HE.out
            · exact HP.out j (by omega)), _, rfl⟩
          case measure => simp [intOf]; omega
        · have hq : ∀ w, (binOp .neq 34 (.agg #[.int .i64 tl, .string tn]) (.agg #[.int .i64 tl', .string tn'])).run Try.prog w = .ok (.bool true) w := fun w => by rw [mod_neq, decide_eq_false he]; rfl
          have hv : decide (L = M) = false := decide_eq_false fun q => he (by rw [← HT.out, ← HT'.out, q])
          obtain rfl : z = false := by rw [← HZ.out, hv]
          clear he hv
          go_wp2_with fail
          go_quiet (fail)
          clear hq
          go_wp2_with fail
          go_ret
          exact ⟨rfl, by rw [World.drewN_drewN]; exact HBd.out _⟩
      · obtain rfl : k = n := by omega
        have hv : decide (L = M) = true := decide_eq_true (same_list (by omega) k (by omega) (fun j hj _ => hp j hj))
        obtain rfl : z = true := by rw [← HZ.out, hv]
        clear hp hv hl hl'
        go_wp2_with fail
        go_ret
        exact ⟨rfl, HBd.out _⟩
  · have hv : decide (L = M) = false := decide_eq_false fun q => hnm (by rw [← hl, ← hl', q])
    obtain rfl : z = false := by rw [← HZ.out, hv]
    have e1 : ((n : Int) == (m : Int)) = false := by rw [beq_eq_false_iff_ne]; omega
    have e2 : decide (n = m) = false := decide_eq_false hnm
    have e3 : (n == m) = false := by rw [beq_eq_false_iff_ne]; exact hnm
    clear hv hl hl' h h'
    go_enter Try.func26, Try.ntmps26
    go_wp2_with fail
    go_ret
    exact ⟨rfl, HBd.out 0⟩
end Go.Proofs.Ytbbfbijgclpjeaa.O
