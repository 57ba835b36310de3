/- The iterator of slices.Backward over ints: it hands over index and number, the last first. Conditions: as each theorem names them. -/
import Derived.Test.YthemndeljjampaaDoorChF
import Derived.RangeFuncBox
import Derived.RangeFuncCalls
import Derived.RangeFuncLeaves
import Derived.RangeFuncWrites
import Derived.Shelf.Abstract
import Derived.OwnWalkIn
import Derived.TacticsInMore
import Derived.LoopNIn
import Derived.LoopIn
namespace Go.Proofs.YthemndeljjampaaDoor
open Go Go.RowKit M
set_option linter.unusedVariables false
set_option linter.unusedSimpArgs false
attribute [local go_sem] Oper.semAt_some

/-- what has come when j rounds are over: n - 1, n - 2, .. -/
def down (n j : Nat) : List Nat := (List.range j).map fun i => n - 1 - i
theorem down_succ (n j : Nat) : down n (j + 1) = down n j ++ [n - 1 - j] := by simp [down, List.range_succ]
theorem down_length (n j : Nat) : (down n j).length = j := by simp [down]
abbrev Ix (n : Nat) := { i : Nat // i < n }
def enc2 (n : Nat) (f : Nat → Int) (x : Ix n) : Array Value := #[.int .i64 (x.1 : Int), .int .i64 (f x.1)]
/-- what a round may write: block M, and what was made since -/
def Sx (M n₁ : Nat) : Nat → Prop := fun j => j = M ∨ n₁ ≤ j
theorem keptSx_t {M n₁ : Nat} {A B C : World} (h : Kept (Sx M n₁) A B) (k : Kept (Sx M n₁) B C) : Kept (Sx M n₁) A C := h.trans k fun j hj => .inl hj
theorem keptSx_b {M n₁ : Nat} (W : World) (l : Nat) (o o' : Obj) (hl : n₁ ≤ l) (h : W.heap[l]? = some o) : Kept (Sx M n₁) W (W.putObj l o') :=
  (Kept.refl _ W).grown (grownBy_putObj' W l o') (fun k e => by cases e; exact .inl (.inr hl))

set_option maxRecDepth 1000000 in
set_option maxHeartbeats 2000000 in
theorem back1_in (m l Bs M n₁ n c : Nat) (A : Option Addr) (f : Nat → Int) (hm : 1 ≤ m) (hn : n ≤ 1048576) (hB1 : Bs < n₁) (hB2 : Bs ≠ M) (J Jx : List (Ix n) → World → Prop)
    (hY : ∀ pre x W, J pre W → pre.length < n → YieldAt Fence.wide (m - 1) Tryd.prog l (enc2 n f x) W fun e W' =>
      (e = .returned (.bool true) ∧ J (pre ++ [x]) W' ∧ Kept (Sx M n₁) W W') ∨ (e = .returned (.bool false) ∧ Jx (pre ++ [x]) W'))
    (W : World) (hBs : W.cell? ⟨Bs, 0, none⟩ = some (.slice A n c)) (hc : 0 < n → ∃ b o, A = some ⟨b, o, none⟩ ∧ b < n₁ ∧ b ≠ M ∧ ∀ i, i < n → W.cell? ⟨b, o + i, none⟩ = some (.int .i64 (f i))) (h0 : J [] W) :
    CallsIn Fence.wide m Tryd.prog 34 #[.func (.yield l) #[] #[], .pointer (some ⟨Bs, 0, none⟩)] W fun e W' => (∃ v, e = .returned v) ∧
      ((∃ ys : List (Ix n), ys.map (·.1) = down n n ∧ J ys W') ∨ (∃ pre : List (Ix n), (∃ j, j ≤ n ∧ pre.map (·.1) = down n j) ∧ Jx pre W')) := by
  refine callsIn_of_wp Tryd.func34 rfl trivial ?_ rfl
  simp only [Tryd.ntmps34, List.size_toArray, List.length_cons, List.length_nil, Nat.reduceAdd, Nat.reduceSub, Array.replicate_succ, Array.replicate_zero, List.push_toArray, List.append_toArray, List.nil_append, List.cons_append]
  gi_wp2
  gi_loopw [3] (fun i wr => ∃ (r : Nat) (pre : List (Ix n)), r ≤ n ∧ ((r = 0 ∧ i = .int .i64 (-1)) ∨ (∃ q, r = q + 1 ∧ i = .int .i64 q)) ∧ pre.map (·.1) = down n (n - r) ∧ J pre wr ∧ Kept (Sx M n₁) W wr)
    (fun i _ => (intOf i + 1).toNat)
  case atStart =>
    refine ⟨n, [], Nat.le_refl _, ?_, by simp [down], h0, Kept.refl _ _⟩
    cases n with
    | zero => exact .inl ⟨rfl, by simp⟩
    | succ q => exact .inr ⟨q, rfl, by go_num⟩
  case round =>
    obtain ⟨r, pre, hr, hi, hp, hJs, hk⟩ := hrel
    have hBs' : wr.cell? ⟨Bs, 0, none⟩ = some (.slice A n c) := hk.cell hBs (fun g => by rcases g with g | g; exact hB2 g; exact absurd hB1 (by simpa using g))
    have hlen : pre.length = n - r := by
      have := congrArg List.length hp
      rwa [List.length_map, down_length] at this
    rcases hi with ⟨rfl, rfl⟩ | ⟨q, rfl, rfl⟩
    · gi_wp2
      go_end0
      exact ⟨⟨_, rfl⟩, .inl ⟨pre, by rw [hp, Nat.sub_zero], hJs⟩⟩
    · have hqn : q < n := by omega
      have hpl : pre.length < n := by omega
      have hpos : 0 < n := by omega
      obtain ⟨b, o, rfl, hb1, hb2, hcs⟩ := hc hpos
      have hcx : wr.cell? ⟨b, o + q, none⟩ = some (.int .i64 (f q)) := hk.cell (hcs q hqn) (fun g => by rcases g with g | g; exact hb2 g; exact absurd hb1 (by simpa using g))
      obtain ⟨fn, tmps, assign, body, hy, hR⟩ := hY pre ⟨q, hqn⟩ wr hJs hpl
      unfold enc2 at hy
      dsimp only at hy
      obtain ⟨y, hyy⟩ : ∃ y, f q = y := ⟨_, rfl⟩
      rw [hyy] at hcx hy
      have HK := Lib.hid hk
      have HP := Lib.hid hp
      have HL := Lib.hid hlen
      clear hk hc hcs hyy hBs hp hlen
      gi_wp2
      refine hR.mono ?_
      rintro e W3 (⟨rfl, hJ3, hk3⟩ | ⟨rfl, hJx3⟩)
      · gi_wp2
        go_roundw
        case rel => exact ⟨q, pre ++ [⟨q, hqn⟩], by omega, (by
            cases q with
            | zero => exact .inl ⟨rfl, by simp⟩
            | succ q => exact .inr ⟨q, rfl, by go_num⟩), (by
            rw [List.map_append, HP.out, show n - q = (n - (q + 1)) + 1 by omega, down_succ]
            simp only [List.map_cons, List.map_nil]
            congr 2
            omega), hJ3, keptSx_t HK.out hk3⟩
        case measure => simp [intOf]
      · gi_wp2
        refine bodyPost_ret (results_none rfl _ _ _) rfl ?_
        exact ⟨⟨_, rfl⟩, .inr ⟨pre ++ [⟨q, hqn⟩], ⟨n - q, by omega, (by
            rw [List.map_append, HP.out, show n - q = (n - (q + 1)) + 1 by omega, down_succ]
            simp only [List.map_cons, List.map_nil]
            congr 2
            omega)⟩, hJx3⟩⟩

theorem back_any (A : Option Addr) (n c : Nat) (w : World) :
    Calls Tryd.prog 31 #[.slice A n c] w fun e w' => e = .returned (.func (.func 34) #[] #[.pointer (some ⟨w.heap.size, 0, none⟩)]) ∧ w' = w.alloc (.cells #[.slice A n c] 71) := by
  go_enter Tryd.func31, Tryd.ntmps31
  go_wp2
  go_ret
  exact ⟨rfl, rfl⟩

/-- the iterator's contract -/
theorem back_stops (m Bs M n₁ n c : Nat) (A : Option Addr) (f : Nat → Int) (hm : 1 ≤ m) (hn : n ≤ 1048576) (w : World) (hB0 : Bs < w.heap.size) (hB1 : Bs < n₁) (hB2 : Bs ≠ M)
    (hBs : w.cell? ⟨Bs, 0, none⟩ = some (.slice A n c)) (hc : 0 < n → ∃ b o, A = some ⟨b, o, none⟩ ∧ b < n₁ ∧ b ≠ M ∧ ∀ i, i < n → w.cell? ⟨b, o + i, none⟩ = some (.int .i64 (f i))) :
    SeqStopsK Fence.wide m Tryd.prog 34 #[.pointer (some ⟨Bs, 0, none⟩)] (enc2 n f) (Kept (Sx M n₁)) (fun ys => ys.map (·.1) = down n n) (fun pre => ∃ j, j ≤ n ∧ pre.map (·.1) = down n j) n w := fun l J Jx W hW _ _ hY h0 => by
  have hc' : 0 < n → ∃ b o, A = some ⟨b, o, none⟩ ∧ b < n₁ ∧ b ≠ M ∧ ∀ i, i < n → W.cell? ⟨b, o + i, none⟩ = some (.int .i64 (f i)) := fun hp => by
    obtain ⟨b, o, e1, e2, e3, e5⟩ := hc hp
    exact ⟨b, o, e1, e2, e3, fun i hi => (hW.cell (p := ⟨b, o + i, none⟩) (World.block_lt_of_cell? _ _ (e5 i hi))).trans (e5 i hi)⟩
  exact back1_in m l Bs M n₁ n c A f hm hn hB1 hB2 J Jx hY W ((hW.cell (p := ⟨Bs, 0, none⟩) hB0).trans hBs) hc' h0
end Go.Proofs.YthemndeljjampaaDoor
