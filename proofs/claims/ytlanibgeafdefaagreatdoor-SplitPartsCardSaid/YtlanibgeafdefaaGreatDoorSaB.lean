import Derived.Test.YtlanibgeafdefaaGreatDoorSaA
import Derived.LoopNIn
import Derived.Lib.Hide
namespace Go.Proofs.YtlanibgeafdefaaGreatDoor.U
open Go Go.RowKit M
set_option linter.unusedVariables false
set_option maxRecDepth 1000000
set_option linter.unusedSimpArgs false
theorem isNo_any (x : Nat) (w : World) : Calls Tryz.prog 97 #[.int .u8 x] w fun e w' => e = .returned (.bool (decide (15 < x))) ∧ w = w' := by
  by_cases h : 15 < x
  · have d1 : decide ((15 : Int) < (x : Int)) = true := decide_eq_true (by omega)
    rw [decide_eq_true h]
    clear h
    go_enter Tryz.func97, Tryz.ntmps97
    go_wp2_with fail
    go_ret
    exact ⟨rfl, rfl⟩
  · have d1 : decide ((15 : Int) < (x : Int)) = false := decide_eq_false (by omega)
    rw [decide_eq_false h]
    clear h
    go_enter Tryz.func97, Tryz.ntmps97
    go_wp2_with fail
    go_ret
    exact ⟨rfl, rfl⟩
def FirstP (W : World) (l : List Nat) (n : Nat) (e : Ending) (w' : World) : Prop := ∃ i : Int, e = .returned (.int .i64 i) ∧ (0 ≤ i ↔ ∃ j, j < n ∧ 15 < l.getD j 0) ∧ Below W.heap.size W w'
set_option maxRecDepth 1000000 in
theorem index_any (A : Option Addr) (n c : Nat) (l : List Nat) (w : World) (H : IsBys w A n l) (hn : n ≤ 2000) : Calls Tryz.prog 113 #[.slice A n c, .func (.func 97) #[] #[]] w (FirstP w l n) := by
  have HH := Lib.hid H
  have HNo := Lib.hid isNo_any
  clear H
  unfold FirstP
  go_enter Tryz.func113, Tryz.ntmps113
  go_wp2_with fail
  go_loopw [8] (fun x wr => ∃ k : Nat, k ≤ n ∧ x = .int .i64 k ∧ (∀ j, j < k → ¬ 15 < l.getD j 0) ∧ Below w.heap.size w wr) (fun x _ => n - (intOf x).toNat)
  case atStart => exact ⟨0, Nat.zero_le _, rfl, fun j hj => absurd hj (by omega), Below.refl _ _⟩
  case round =>
    obtain ⟨k, hk, rfl, hA, hb⟩ := hrel
    have HA := Lib.hid hA
    have HB := Lib.hid hb
    by_cases hlt : k < n
    · have d1 : decide ((k : Int) < (n : Int)) = true := decide_eq_true (by omega)
      have d1' : decide (k < n) = true := decide_eq_true hlt
      obtain ⟨b, o, rfl, hbb, hc⟩ := (HH.out.below hb).at (by omega)
      have c0 := hc k hlt
      obtain ⟨x, hx⟩ : ∃ x, l.getD k 0 = x := ⟨_, rfl⟩
      rw [hx] at c0
      have HX := Lib.hid hx
      clear hA hb hc hx
      by_cases hy : 15 < x
      · have hd : decide (15 < x) = true := decide_eq_true hy
        have HN := Lib.hid (fun w => HNo.out x w)
        rw [hd] at HN
        have HY := Lib.hid hy
        clear hd hy
        go_wp2_with (go_at_call 97; (with_reducible refine (HN.out _).mono ?_); rintro e w3 ⟨rfl, rfl⟩)
        go_ret
        exact ⟨k, rfl, ⟨fun _ => ⟨k, hlt, by rw [HX.out]; exact HY.out⟩, fun _ => by omega⟩, HB.out⟩
      · have hd : decide (15 < x) = false := decide_eq_false hy
        have HN := Lib.hid (fun w => HNo.out x w)
        rw [hd] at HN
        have HY := Lib.hid hy
        clear hd hy
        go_wp2_with (go_at_call 97; (with_reducible refine (HN.out _).mono ?_); rintro e w3 ⟨rfl, rfl⟩)
        exact ⟨⟨k + 1, by omega, by go_num, fun j hj => by
          by_cases q : j < k
          · exact HA.out j q
          · obtain rfl : j = k := by omega
            rw [HX.out]; exact HY.out, HB.out⟩, by simp [intOf]; omega⟩
    · obtain rfl : k = n := by omega
      have d1 : decide ((k : Int) < (k : Int)) = false := decide_eq_false (by omega)
      have d1' : decide (k < k) = false := decide_eq_false (by omega)
      clear hA hb
      go_wp2_with fail
      go_ret
      exact ⟨-1, rfl, ⟨fun q => absurd q (by decide), fun ⟨j, h1, h2⟩ => absurd h2 (HA.out j h1)⟩, HB.out⟩
def SomeP (W : World) (b : Bool) (e : Ending) (w' : World) : Prop := e = .returned (.bool b) ∧ Below W.heap.size W w'
theorem contains_any (A : Option Addr) (n c : Nat) (l : List Nat) (w : World) (b : Bool) (hb : b = true ↔ ∃ j, j < n ∧ 15 < l.getD j 0) (H : IsBys w A n l) (hn : n ≤ 2000) : Calls Tryz.prog 96 #[.slice A n c, .func (.func 97) #[] #[]] w (SomeP w b) := by
  have HI := Lib.hid (index_any A n c l w H hn)
  unfold FirstP at HI
  unfold SomeP
  have HB := Lib.hid hb
  clear hb H
  go_enter Tryz.func96, Tryz.ntmps96
  go_wp2_with (go_at_call 113; (with_reducible refine HI.out.mono ?_); rintro e w3 ⟨i, rfl, hi, b3⟩; have hdi : decide ((0 : Int) ≤ i) = b := (by rw [Bool.eq_iff_iff, decide_eq_true_eq, hi, HB.out]); have B3 := Lib.hid b3; clear hi b3)
  go_ret
  exact ⟨rfl, B3.out⟩
theorem ruAt (v : Nat) : ∀ (l : List Nat) (k : Nat), (∀ j, j < k → l.getD j 0 = v) → k ≤ l.length → (k = l.length ∨ l.getD k 0 ≠ v) → ru v l = k
  | [], k, h1, h2, h3 => by simp only [List.length_nil] at h2; unfold ru; omega
  | x :: l, 0, h1, h2, h3 => by
    rcases h3 with e | e
    · simp at e
    · unfold ru
      rw [if_neg]
      simpa using e
  | x :: l, k + 1, h1, h2, h3 => by
    have h0 := h1 0 (by omega)
    simp at h0
    unfold ru
    rw [if_pos h0, ruAt v l k (fun j hj => by simpa using h1 (j + 1) (by omega)) (by simpa using h2) (by simpa using h3)]
set_option maxRecDepth 1000000 in
theorem alike_any (A : Option Addr) (n c : Nat) (l : List Nat) (v : Nat) (w : World) (H : IsBys w A n (v :: l)) (hn : n ≤ 2000) : Calls Tryz.prog 98 #[.slice A n c] w fun e w' => e = .returned (.int .i64 (ru v l + 1 : Nat)) ∧ Below w.heap.size w w' := by
  have hlen : l.length + 1 = n := by have := H.leng; simpa using this
  obtain ⟨b, o, rfl, hbb, hc⟩ := H.at (by omega)
  have c0 : w.cell? ⟨b, o, none⟩ = some (.int .u8 (v : Nat)) := by have := hc 0 (by omega); simpa using this
  have HC := Lib.hid hc
  have HLen := Lib.hid hlen
  have h1n : 1 ≤ n := by omega
  clear H hc hlen
  go_enter Tryz.func98, Tryz.ntmps98
  go_wp2_with fail
  go_loopw [3] (fun x wr => ∃ k q : Nat, k + 1 ≤ n ∧ x = .int .i64 (k + 1 : Nat) ∧ (∀ j, j < k → l.getD j 0 = v) ∧ wr = w.drewN q) (fun x _ => n - (intOf x).toNat)
  case atStart => exact ⟨0, 0, by omega, rfl, fun j hj => absurd hj (by omega), rfl⟩
  case round =>
    obtain ⟨k, q, hk, rfl, hA, rfl⟩ := hrel
    have HA := Lib.hid hA
    clear hA
    obtain ⟨z, hz⟩ : ∃ z, k + 1 = z := ⟨_, rfl⟩
    rw [hz] at hk ⊢
    have HZ := Lib.hid hz
    clear hz
    by_cases hlt : z < n
    · have d1 : decide ((z : Int) < (n : Int)) = true := decide_eq_true (by omega)
      have d1' : decide (z < n) = true := decide_eq_true hlt
      have c1 := HC.out z hlt
      obtain ⟨x, hx⟩ : ∃ x, (v :: l).getD z 0 = x := ⟨_, rfl⟩
      rw [hx] at c1
      have HX := Lib.hid (show l.getD k 0 = x by rw [← hx, ← HZ.out]; simp)
      clear hx
      by_cases hy : x = v
      · have hd : ((x : Int) == (v : Int)) = true := by rw [beq_iff_eq]; omega
        have hd' : (x == v) = true := by rw [beq_iff_eq]; exact hy
        have HY := Lib.hid hy
        clear hy
        go_wp2_with fail
        go_quiet (fail)
        go_wp2_with fail
        exact ⟨⟨z, _, by omega, by go_num, fun j hj => by
          have hz := HZ.out
          by_cases c : j < k
          · exact HA.out j c
          · obtain rfl : j = k := by omega
            rw [HX.out]; exact HY.out, rfl⟩, by simp [intOf]; omega⟩
      · have hd : ((x : Int) == (v : Int)) = false := by rw [beq_eq_false_iff_ne]; omega
        have hd' : (x == v) = false := by rw [beq_eq_false_iff_ne]; exact hy
        have HY := Lib.hid hy
        clear hy
        go_wp2_with fail
        go_quiet (fail)
        go_wp2_with fail
        have hr : ru v l + 1 = z := by
          rw [ruAt v l k HA.out (by have := HLen.out; have := HZ.out; omega) (.inr (by rw [HX.out]; exact HY.out)), HZ.out]
        rw [hr]
        go_ret
        exact ⟨rfl, belowDN (belowDN (Below.refl _ _) _) _⟩
    · have d1 : decide ((z : Int) < (n : Int)) = false := decide_eq_false (by omega)
      have d1' : decide (z < n) = false := decide_eq_false (by omega)
      go_wp2_with fail
      go_quiet (fail)
      go_wp2_with fail
      have hr : ru v l + 1 = z := by
        rw [ruAt v l k HA.out (by have := HLen.out; have := HZ.out; omega) (.inl (by have := HLen.out; have := HZ.out; omega)), HZ.out]
      rw [hr]
      go_ret
      exact ⟨rfl, belowDN (belowDN (Below.refl _ _) _) _⟩
def sof (v n : Nat) (ahead : Bool) : Nat := if v = 0 ∧ 11 ≤ n then 18 else if v = 0 ∧ 3 ≤ n then 17 else if v ≠ 0 ∧ ahead = true ∧ 3 ≤ n then 16 else v
set_option maxRecDepth 1000000 in
set_option maxHeartbeats 1000000 in
theorem sof_any (v n : Nat) (ahead : Bool) (w : World) (H : Tab w) (hv : v ≤ 15) (hn : n ≤ 2000) : Calls Tryz.prog 115 #[.int .u8 v, .int .i64 n, .bool ahead] w fun e w' => e = .returned (.int .u8 (sof v n ahead : Nat)) ∧ w = w' := by
  have c18 : w.cell? ⟨0, 36, none⟩ = some (.int .i64 11) := H.at0 18 (by omega)
  have c17 : w.cell? ⟨0, 34, none⟩ = some (.int .i64 3) := H.at0 17 (by omega)
  have c16 : w.cell? ⟨0, 32, none⟩ = some (.int .i64 3) := H.at0 16 (by omega)
  clear H
  by_cases h0 : v = 0
  · have z1 : ((v : Int) == 0) = true := by rw [beq_iff_eq]; omega
    have z2 : ((v : Int) != 0) = false := by rw [bne_eq_false_iff_eq]; omega
    have z1' : (v == 0) = true := by rw [beq_iff_eq]; omega
    have z2' : (v != 0) = false := by rw [bne_eq_false_iff_eq]; omega
    by_cases h11 : 11 ≤ n
    · have d1 : decide ((11 : Int) ≤ (n : Int)) = true := decide_eq_true (by omega)
      have d1' : decide (11 ≤ n) = true := decide_eq_true (by omega)
      rw [show sof v n ahead = 18 by unfold sof; rw [if_pos ⟨h0, h11⟩]]
      clear h0 h11
      go_enter Tryz.func115, Tryz.ntmps115
      go_wp2_with fail
      go_ret
      exact ⟨rfl, rfl⟩
    · have d1 : decide ((11 : Int) ≤ (n : Int)) = false := decide_eq_false (by omega)
      have d1' : decide (11 ≤ n) = false := decide_eq_false (by omega)
      by_cases h3 : 3 ≤ n
      · have d2 : decide ((3 : Int) ≤ (n : Int)) = true := decide_eq_true (by omega)
        have d2' : decide (3 ≤ n) = true := decide_eq_true (by omega)
        rw [show sof v n ahead = 17 by unfold sof; rw [if_neg (fun q => h11 q.2), if_pos ⟨h0, h3⟩]]
        clear h0 h11 h3
        go_enter Tryz.func115, Tryz.ntmps115
        go_wp2_with fail
        go_ret
        exact ⟨rfl, rfl⟩
      · have d2 : decide ((3 : Int) ≤ (n : Int)) = false := decide_eq_false (by omega)
        have d2' : decide (3 ≤ n) = false := decide_eq_false (by omega)
        rw [show sof v n ahead = v by unfold sof; rw [if_neg (fun q => h11 q.2), if_neg (fun q => h3 q.2), if_neg (fun q => q.1 h0)]]
        clear h0 h11 h3
        go_enter Tryz.func115, Tryz.ntmps115
        go_wp2_with fail
        go_ret
        exact ⟨rfl, rfl⟩
  · have z1 : ((v : Int) == 0) = false := by rw [beq_eq_false_iff_ne]; omega
    have z2 : ((v : Int) != 0) = true := by rw [bne_iff_ne]; omega
    have z1' : (v == 0) = false := by rw [beq_eq_false_iff_ne]; omega
    have z2' : (v != 0) = true := by rw [bne_iff_ne]; omega
    cases ahead with
    | false =>
      rw [show sof v n false = v by unfold sof; rw [if_neg (fun q => h0 q.1), if_neg (fun q => h0 q.1), if_neg (fun q => by cases q.2.1)]]
      clear h0
      go_enter Tryz.func115, Tryz.ntmps115
      go_wp2_with fail
      go_ret
      exact ⟨rfl, rfl⟩
    | true =>
      by_cases h3 : 3 ≤ n
      · have d2 : decide ((3 : Int) ≤ (n : Int)) = true := decide_eq_true (by omega)
        have d2' : decide (3 ≤ n) = true := decide_eq_true (by omega)
        rw [show sof v n true = 16 by unfold sof; rw [if_neg (fun q => h0 q.1), if_neg (fun q => h0 q.1), if_pos ⟨h0, rfl, h3⟩]]
        clear h0 h3
        go_enter Tryz.func115, Tryz.ntmps115
        go_wp2_with fail
        go_ret
        exact ⟨rfl, rfl⟩
      · have d2 : decide ((3 : Int) ≤ (n : Int)) = false := decide_eq_false (by omega)
        have d2' : decide (3 ≤ n) = false := decide_eq_false (by omega)
        rw [show sof v n true = v by unfold sof; rw [if_neg (fun q => h0 q.1), if_neg (fun q => h0 q.1), if_neg (fun q => h3 q.2.2)]]
        clear h0 h3
        go_enter Tryz.func115, Tryz.ntmps115
        go_wp2_with fail
        go_ret
        exact ⟨rfl, rfl⟩
def smo (s : Nat) : Nat := sl s + 2 ^ sm s - 1
set_option maxRecDepth 1000000 in
theorem most_any (s : Nat) (w : World) (H : Tab w) (hs : s < 19) : Calls Tryz.prog 116 #[.int .u8 s] w fun e w' => e = .returned (.int .i64 (smo s : Nat)) ∧ ∃ q, w' = w.drewN q := by
  have c0 := H.at0 s hs
  have c1 := H.at1 s hs
  have hl := sl_le s
  have hm := sm_le s
  unfold smo
  clear H
  obtain ⟨b, hb⟩ : ∃ b, sm s = b := ⟨_, rfl⟩
  obtain ⟨l, hl'⟩ : ∃ l, sl s = l := ⟨_, rfl⟩
  rw [hb] at c1 hm ⊢
  rw [hl'] at c0 hl ⊢
  have h4 : b = 0 ∨ b = 2 ∨ b = 3 ∨ b = 7 := by rw [← hb]; unfold sm; split; omega; split; omega; split <;> omega
  clear hb hl' hm
  rcases h4 with rfl | rfl | rfl | rfl
  all_goals
    have hw1 : IntKind.i64.wrap (s : Int) = (s : Int) := by rw [IntKind.wrap_i64]; omega
    go_enter Tryz.func116, Tryz.ntmps116
    go_wp2_with fail
    go_quiet (fail)
    go_wp2_with fail
    go_ret
    exact ⟨by go_num, _, rfl⟩
end Go.Proofs.YtlanibgeafdefaaGreatDoor.U
