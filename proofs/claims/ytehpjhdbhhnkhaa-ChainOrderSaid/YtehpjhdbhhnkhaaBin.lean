/- What BinarySearch, Clone and Reverse of package slices answer of ints. Conditions: as each theorem names them. -/
import Derived.Test.YtehpjhdbhhnkhaaOwI
import Derived.Lib.LazyBuf
namespace Go.Proofs.Ytehpjhdbhhnkhaa
open Go Go.RowKit M
set_option linter.unusedVariables false
set_option linter.unusedSimpArgs false

theorem nan1_any (a : Int) (w : World) : Calls Try.prog 23 #[.int .i64 a] w fun e w' => e = .returned (.bool false) ∧ w = w' := by
  go_enter Try.func23, Try.ntmps23
  go_wp2
  go_ret
  exact ⟨rfl, rfl⟩
theorem nan2_any (a : Int) (w : World) : Calls Try.prog 24 #[.int .i64 a] w fun e w' => e = .returned (.bool false) ∧ w = w' := by
  go_enter Try.func24, Try.ntmps24
  go_wp2
  go_ret
  exact ⟨rfl, rfl⟩
theorem less_any (a c : Int) (w : World) : Calls Try.prog 22 #[.int .i64 a, .int .i64 c] w fun e w' => e = .returned (.bool (decide (a < c))) ∧ w = w' := by
  go_enter Try.func22, Try.ntmps22
  go_wp2_with (go_at_call 24; refine (nan2_any _ _).mono ?_; rintro e w' ⟨rfl, rfl⟩)
  go_ret
  exact ⟨rfl, rfl⟩

/-- where x stands, or would stand -/
structure Bs (f : Nat → Int) (n : Nat) (x : Int) (i : Nat) : Prop where
  le : i ≤ n
  lo : i = 0 ∨ f (i - 1) < x
  hi : i = n ∨ x ≤ f i
def BinPost (f : Nat → Int) (n : Nat) (x : Int) (W : World) (e : Ending) (w' : World) : Prop := ∃ (i : Nat) (bb : Bool), e = .returned (.tuple #[.int .i64 i, .bool bb]) ∧ Bs f n x i ∧ W = w'
set_option maxRecDepth 1000000 in
set_option maxHeartbeats 1000000 in
theorem bin_any (A : Option Addr) (n c : Nat) (f : Nat → Int) (x : Int) (W : World) (hn : n ≤ 1048576) (H : Nums W .i64 A n f) :
    Calls Try.prog 21 #[.slice A n c, .int .i64 x] W (BinPost f n x W) := by
  have HH := Lib.hid H
  clear H
  go_enter Try.func21, Try.ntmps21
  go_wp2_with fail
  go_loop [7, 8] (fun i j => ∃ a d : Nat, i = .int .i64 a ∧ j = .int .i64 d ∧ a ≤ d ∧ d ≤ n ∧ (a = 0 ∨ f (a - 1) < x) ∧ (d = n ∨ x ≤ f d)) (fun i j => ((intOf j) - (intOf i)).toNat)
  case atStart => exact ⟨0, n, rfl, rfl, by omega, Nat.le_refl _, .inl rfl, .inl rfl⟩
  case round =>
    obtain ⟨a, d, rfl, rfl, h1, h2, h3, h4⟩ := hrel
    have H3 := Lib.hid h3
    have H4 := Lib.hid h4
    clear h3 h4
    by_cases hlt : a < d
    · obtain ⟨h, hh⟩ : ∃ h, (a + d) / 2 = h := ⟨_, rfl⟩
      have hh1 : a ≤ h := by omega
      have hh2 : h < d := by omega
      have hh3 : h < n := by omega
      have e1 : ((a : Int) + (d : Int)) / 2 = (h : Int) := by omega
      obtain ⟨b, o, rfl, _, hcs⟩ := HH.out (by omega)
      have hc := hcs h hh3
      clear hh hcs
      obtain ⟨y, hy⟩ : ∃ y, f h = y := ⟨_, rfl⟩
      rw [hy] at hc
      have HY := Lib.hid hy
      clear hy
      go_wp2_with (go_at_call 22; refine (less_any _ _ _).mono ?_; rintro e w' ⟨rfl, rfl⟩)
      · have q : y < x := by assumption
        go_round
        case rel => exact ⟨h + 1, d, by go_num, rfl, by omega, by omega, .inr (by rw [Nat.add_sub_cancel, HY.out]; exact q), H4.out⟩
        case measure => simp [intOf]; omega
      · have q : x ≤ y := by assumption
        go_round
        case rel => exact ⟨a, h, rfl, rfl, by omega, by omega, H3.out, .inr (by rw [HY.out]; exact q)⟩
        case measure => simp [intOf]; omega
    · obtain rfl : a = d := by omega
      by_cases g : a < n
      · obtain ⟨b, o, rfl, _, hcs⟩ := HH.out (by omega)
        have hc := hcs a g
        obtain ⟨y, hy⟩ : ∃ y, f a = y := ⟨_, rfl⟩
        rw [hy] at hc
        clear hy hcs
        go_wp2_with (go_at_call 23; refine (nan1_any _ _).mono ?_; rintro e w' ⟨rfl, rfl⟩)
        all_goals
          go_ret2
          exact ⟨a, _, rfl, ⟨h2, H3.out, H4.out⟩, rfl⟩
      · go_wp2_with fail
        go_ret2
        exact ⟨a, _, rfl, ⟨h2, H3.out, H4.out⟩, rfl⟩

/-- an empty slice of one's own -/
theorem Is.emp (w : World) (F : Nat → Int) : Is w.heap.size (w.alloc (.cells #[] 3)) (.slice (some ⟨w.heap.size, 0, none⟩) 0 0) 0 F :=
  ⟨by simp [il], .inr ⟨w.heap.size, 0, #[], rfl, Nat.le_refl _, heap_alloc_new _ _, Nat.le_refl _, Nat.zero_le _, rfl, rfl⟩⟩
theorem Is.slice {base : Nat} {w : World} {v : Value} {n : Nat} {F : Nat → Int} (h : Is base w v n F) : ∃ A c, v = .slice A n c := by
  rcases h.2 with ⟨rfl, rfl⟩ | ⟨g, cap, cur, rfl, _⟩
  · exact ⟨_, _, rfl⟩
  · exact ⟨_, _, rfl⟩
theorem iadd_at (b o j : Nat) : (⟨b, o, none⟩ : Addr).add j = ⟨b, o + j, none⟩ := by
  unfold Addr.add
  split
  · rename_i h; subst h; rfl
  · rfl
/-- a row of ints that the call made -/
def MadeI (W : World) (n : Nat) (f : Nat → Int) (e : Ending) (w' : World) : Prop := ∃ v, e = .returned v ∧ Is W.heap.size w' v n f ∧ Below W.heap.size W w'
set_option maxRecDepth 1000000 in
set_option maxHeartbeats 1000000 in
/-- a copy: nil of nil -/
theorem clone_any (A : Option Addr) (n c : Nat) (f : Nat → Int) (W : World) (hn : n ≤ 1048576) (H : Nums W .i64 A n f) :
    Calls Try.prog 18 #[.slice A n c] W (MadeI W n f) := by
  have HH := Lib.hid H
  clear H
  have qn : ∀ (w : World) (a : Option Addr) (l c : Nat), (binOp .eql 31 (.slice a l c) (.slice none 0 0)).run Try.prog w = .ok (.bool a.isNone) w := fun w a l c => Lib.run_eql_slice_nil w _ _ a l c 0 0 Try.underlying31
  cases A with
  | none =>
    have h0 : n = 0 := by
      rcases Nat.eq_zero_or_pos n with h | h
      · exact h
      · obtain ⟨b, o, e, _⟩ := HH.out h; cases e
    subst h0
    go_enter Try.func18, Try.ntmps18
    go_wp2_with fail
    go_ret
    exact ⟨_, rfl, Is.nil _ _ _, Below.refl _ _⟩
  | some ad =>
    have hG : ∀ j, j < n → (W.alloc (.cells #[] 3)).cell? (ad.add j) = some (.int .i64 (f j)) := fun j hj => by
      obtain ⟨b, o, e, hb, hc⟩ := HH.out (by omega)
      cases e
      rw [iadd_at]
      exact ((Below.refl W.heap.size W).alloc (Nat.le_refl _) (.cells #[] 3)).cell hb |>.trans (hc j hj)
    have HG := Lib.hid hG
    clear hG
    go_enter Try.func18, Try.ntmps18
    go_wp2_with (at_builtin; refine wpList_api rfl _ _ rfl W.heap.size _ 0 f rfl (Is.emp W f) ad n c f rfl HG.out (by omega) (by simp) ?_; intro v' w1 h1 _ h3 _)
    go_ret
    exact ⟨v', rfl, (by
      have e : 0 + n = n := Nat.zero_add n
      rw [e] at h1
      exact h1.congr (fun i hi => by unfold catI; rw [if_neg (by omega)]; rfl)), ((Below.refl _ _).alloc (Nat.le_refl _) _).trans h3⟩

/-- turned about in place -/
def turned (n : Nat) (F : Nat → Int) (k : Nat) (i : Nat) : Int := if i < k ∨ n - 1 - k < i then F (n - 1 - i) else F i
set_option maxRecDepth 1000000 in
set_option maxHeartbeats 1000000 in
theorem reverse_any (base : Nat) (v : Value) (n : Nat) (F : Nat → Int) (W : World) (hn : n ≤ 1048576) (H : Is base W v n F) :
    Calls Try.prog 19 #[v] W fun e w' => e = .returned (.tuple #[]) ∧ Is base w' v n (fun i => F (n - 1 - i)) ∧ Below base W w' := by
  by_cases h0 : n = 0
  · subst h0
    obtain ⟨A, c, rfl⟩ := H.slice
    have HH := Lib.hid H
    clear H
    go_enter Try.func19, Try.ntmps19
    go_wp2_with fail
    go_loopw [2, 3] (fun i j wr => i = .int .i64 0 ∧ j = .int .i64 (-1) ∧ wr = W) (fun i j _ => 0)
    case atStart => exact ⟨rfl, rfl, rfl⟩
    case round =>
      obtain ⟨rfl, rfl, rfl⟩ := hrel
      go_wp2_with fail
      go_end0
      exact ⟨rfl, HH.out.congr (fun i hi => by omega), Below.refl _ _⟩
  · obtain ⟨g, cap, rfl, hg, hgl⟩ := H.form (by omega)
    have hcp := H.cap
    unfold maxLen at hcp
    have HH := Lib.hid H
    clear H
    have en : (n : Int) - 1 = ((n - 1 : Nat) : Int) := by omega
    go_enter Try.func19, Try.ntmps19
    go_wp2_with fail
    go_loopw [2, 3] (fun i j wr => ∃ a d : Nat, i = .int .i64 a ∧ j = .int .i64 d ∧ a + d + 1 = n ∧ a ≤ d + 1 ∧ Is base wr (.slice (some ⟨g, 0, none⟩) n cap) n (turned n F a) ∧ Below base W wr) (fun i j _ => ((intOf j) - (intOf i)).toNat)
    case atStart => exact ⟨0, n - 1, rfl, rfl, by omega, by omega, HH.out.congr (fun i hi => by unfold turned; rw [if_neg (by omega)]), Below.refl _ _⟩
    case round =>
      obtain ⟨a, d, rfl, rfl, h1, h2, hI, hB⟩ := hrel
      by_cases hlt : a < d
      · have hs := ((hI.set a (turned n F a d)).set d (turned n F a a)).congr (G := turned n F (a + 1)) (fun i hi => by
          unfold turned
          by_cases c1 : i = d
          · subst c1
            rw [if_pos rfl, if_neg (by omega), if_pos (by omega)]
            congr 1; omega
          · rw [if_neg c1]
            by_cases c2 : i = a
            · subst c2
              rw [if_pos rfl, if_neg (by omega), if_pos (by omega)]
              congr 1; omega
            · rw [if_neg c2]
              by_cases c3 : i < a ∨ n - 1 - a < i
              · rw [if_pos c3, if_pos (by omega)]
              · rw [if_neg c3, if_neg (by omega)])
        have ca := hI.cell (i := a) (by omega)
        have cd := hI.cell (i := d) (by omega)
        have fa := hI.frozen a
        have fd := hI.frozen d
        obtain ⟨u1, q1⟩ : ∃ u, turned n F a a = u := ⟨_, rfl⟩
        obtain ⟨u2, q2⟩ : ∃ u, turned n F a d = u := ⟨_, rfl⟩
        rw [q1] at ca hs
        rw [q2] at cd hs
        have HS := Lib.hid hs
        have HB := Lib.hid hB
        have ha : a < n := by omega
        have hd : d < n := by omega
        have e1 : (d : Int) - 1 = ((d - 1 : Nat) : Int) := by omega
        clear q1 q2 hs hB hI
        go_wp2_with fail
        go_region
        go_wp2_with fail
        go_roundw
        case rel => exact ⟨a + 1, d - 1, by go_num, rfl, by omega, by omega, HS.out.drew, ((HB.out.setCell (p := ⟨g, a, none⟩) hg _).setCell (p := ⟨g, d, none⟩) hg _).drew⟩
        case measure => simp [intOf]; omega
      · have HI := Lib.hid (hI.congr (G := fun i => F (n - 1 - i)) (fun i hi => by
          unfold turned
          by_cases c3 : i < a ∨ n - 1 - a < i
          · rw [if_pos c3]
          · rw [if_neg c3]; congr 1; omega))
        have HB := Lib.hid hB
        clear hI hB
        go_wp2_with fail
        go_end0
        exact ⟨rfl, HI.out, HB.out⟩
end Go.Proofs.Ytehpjhdbhhnkhaa
