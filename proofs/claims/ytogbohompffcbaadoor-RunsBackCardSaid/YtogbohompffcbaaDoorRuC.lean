/- The document's Pack (layer 12). Conditions: as each theorem names them. -/
import Derived.Test.YtogbohompffcbaaDoorRuB
namespace Go.Proofs.YtogbohompffcbaaDoor.U
open Go Go.RowKit M
set_option linter.unusedVariables false
set_option linter.unusedSimpArgs false

theorem ru_at (v : Nat) : ∀ (m : List Nat) (j : Nat), j < ru v m → m[j]? = some v
  | [], j, h => absurd h (Nat.not_lt_zero j)
  | x :: m, j, h => by
    unfold ru at h
    split at h
    · rename_i e
      cases j with
      | zero => rw [e]; rfl
      | succ j => rw [List.getElem?_cons_succ]; exact ru_at v m j (by omega)
    · omega
theorem ru_end (v : Nat) : ∀ (m : List Nat), m[ru v m]? ≠ some v
  | [] => by simp
  | x :: m => by
    unfold ru
    split
    · rw [List.getElem?_cons_succ]; exact ru_end v m
    · rename_i e; intro h; simp at h; exact e h
/-- as many as are alike at once, from place k on -/
def rn (l : List Nat) (k : Nat) : Nat := ru (l.getD k 0) (l.drop k)
theorem rn_at {l : List Nat} {k j : Nat} (h : j < rn l k) : k + j < l.length ∧ l.getD (k + j) 0 = l.getD k 0 := by
  have h1 := ru_at _ _ _ h
  rw [List.getElem?_drop] at h1
  exact ⟨(List.getElem?_eq_some_iff.1 h1).1, by rw [List.getD, h1]; rfl⟩
theorem rn_end {l : List Nat} {k : Nat} (h : k + rn l k < l.length) : l.getD (k + rn l k) 0 ≠ l.getD k 0 := by
  have h1 := ru_end (l.getD k 0) (l.drop k)
  rw [List.getElem?_drop] at h1
  intro e
  apply h1
  show l[k + rn l k]? = _
  rw [← e, List.getD, List.getElem?_eq_getElem h]
  rfl
theorem pk_at {l : List Nat} {k : Nat} (hk : k < l.length) : pk (l.drop k) = one (l.getD k 0) (rn l k) ++ pk (l.drop (k + rn l k)) ∧ 1 ≤ rn l k ∧ k + rn l k ≤ l.length := by
  have hd : l.drop k = l.getD k 0 :: l.drop (k + 1) := by
    rw [List.drop_eq_getElem_cons hk, List.getD, List.getElem?_eq_getElem hk]; rfl
  have hr : rn l k = ru (l.getD k 0) (l.drop (k + 1)) + 1 := by
    unfold rn
    rw [hd]
    show (if _ then _ else _) = _
    rw [if_pos rfl]
  have h1 := ru_le (l.getD k 0) (l.drop (k + 1))
  rw [List.length_drop] at h1
  refine ⟨?_, by omega, by omega⟩
  have e : pk (l.drop k) = one (l.getD k 0) (ru (l.getD k 0) (l.drop (k + 1)) + 1) ++ pk ((l.drop (k + 1)).drop (ru (l.getD k 0) (l.drop (k + 1)))) := by
    rw [← pk_cons, ← hd]
  rw [e, List.drop_drop, hr, show k + 1 + ru (l.getD k 0) (l.drop (k + 1)) = k + (ru (l.getD k 0) (l.drop (k + 1)) + 1) by omega]

set_option maxRecDepth 1000000 in
set_option maxHeartbeats 1000000 in
theorem rpack_bad (A : Option Addr) (n c : Nat) (l : List Nat) (w : World) (H : IsBys w A n l) (hn : n ≤ 100000) (hb : ∃ i, i < n ∧ 15 < l.getD i 0) : Calls Tryd.prog 9 #[.slice A n c] w fun e w' => e = .returned (.tuple #[.slice none 0 0, .int .i64 2]) ∧ w = w' := by
  obtain ⟨m, hm, hx⟩ := hb
  obtain ⟨b, o, rfl, hbl, hc⟩ := H.at (by omega)
  have HC := Lib.hid hc
  have HH := Lib.hid H
  clear H hc hbl
  go_enter Tryd.func9, Tryd.ntmps9
  go_wp2_with fail
  go_loopw [4] (fun x wr => ∃ k : Nat, k ≤ m ∧ x = .int .i64 k ∧ w = wr) (fun x _ => m - (intOf x).toNat)
  case atStart => exact ⟨0, Nat.zero_le _, rfl, rfl⟩
  case round =>
    obtain ⟨k, hk, rfl, rfl⟩ := hrel
    have hkn : k < n := by omega
    have d1 : decide ((k : Int) < (n : Int)) = true := decide_eq_true (by omega)
    have d1' : decide (k < n) = true := decide_eq_true hkn
    have c0 := HC.out k hkn
    have hle := HH.out.le k
    obtain ⟨x, hx0⟩ : ∃ x, l.getD k 0 = x := ⟨_, rfl⟩
    rw [hx0] at c0 hle
    by_cases h : 15 < x
    · have d2 : decide (15 < (x : Int)) = true := decide_eq_true (by omega)
      have d2' : decide (15 < x) = true := decide_eq_true h
      clear h hx0 hkn
      go_wp2_with fail
      go_ret2
      exact ⟨rfl, rfl⟩
    · have d2 : decide (15 < (x : Int)) = false := decide_eq_false (by omega)
      have d2' : decide (15 < x) = false := decide_eq_false h
      have hkm : k ≠ m := fun e => by subst e; omega
      have HB := Lib.hid (show k + 1 ≤ m ∧ k + 1 ≤ 100000 by omega)
      have hkb : k ≤ 100000 := by omega
      clear h hx0 hkm hm
      go_wp2_with fail
      go_roundw
      case rel => exact ⟨k + 1, HB.out.1, by go_num, trivial⟩
      case measure => (have := HB.out.1; simp [intOf]; try omega)

/-- what a call that makes a list of runs answers -/
def RnP (W : World) (L : List Rn) (e : Ending) (w' : World) : Prop := ∃ v, e = .returned (.tuple #[v, .int .i64 0]) ∧ Owr W.heap.size w' v L ∧ Below W.heap.size W w'
set_option maxRecDepth 1000000 in
set_option maxHeartbeats 2000000 in
theorem rpack_any (A : Option Addr) (n c : Nat) (l : List Nat) (w : World) (H : IsBys w A n l) (hn : n ≤ 100000) (hb : ∀ i, i < n → l.getD i 0 ≤ 15) : Calls Tryd.prog 9 #[.slice A n c] w (RnP w (pk l)) := by
  have HH := Lib.hid H
  have HB := Lib.hid hb
  have hl := H.leng
  have HL := Lib.hid hl
  obtain ⟨T, hT⟩ : ∃ T, pk l = T := ⟨_, rfl⟩
  have hTl : T.length ≤ n := by rw [← hT, ← hl]; exact pk_len l
  rw [hT]
  have HT := Lib.hid hT
  have HTL := Lib.hid hTl
  clear H hb hl hT hTl
  go_enter Tryd.func9, Tryd.ntmps9
  go_wp2_with fail
  go_loopw [4] (fun x wr => ∃ k : Nat, k ≤ n ∧ x = .int .i64 k ∧ w = wr) (fun x _ => n - (intOf x).toNat)
  case atStart => exact ⟨0, Nat.zero_le _, rfl, rfl⟩
  case round =>
    obtain ⟨k, hk, rfl, rfl⟩ := hrel
    by_cases hlt : k < n
    · have d1 : decide ((k : Int) < (n : Int)) = true := decide_eq_true (by omega)
      have d1' : decide (k < n) = true := decide_eq_true hlt
      obtain ⟨b, o, rfl, hbl, hc⟩ := HH.out.at (by omega)
      have c0 := hc k hlt
      have hle := HB.out k hlt
      obtain ⟨x, hx0⟩ : ∃ x, l.getD k 0 = x := ⟨_, rfl⟩
      rw [hx0] at c0 hle
      have d2 : decide (15 < (x : Int)) = false := decide_eq_false (by omega)
      have d2' : decide (15 < x) = false := decide_eq_false (by omega)
      clear hx0 hc hle
      go_wp2_with fail
      go_roundw
      case rel => exact ⟨k + 1, by omega, by go_num, trivial⟩
      case measure => (simp [intOf]; try omega)
    · obtain rfl : k = n := by omega
      have d1 : decide ((k : Int) < (k : Int)) = false := decide_eq_false (by omega)
      have d1' : decide (k < k) = false := decide_eq_false (by omega)
      go_wp2_with fail
      go_loopw [5, 6] (fun v x wr2 => ∃ (p : Nat) (L : List Rn), p ≤ k ∧ x = .int .i64 p ∧ Owr w.heap.size wr2 v L ∧ L ++ pk (l.drop p) = T ∧ Below w.heap.size w wr2) (fun _ x _ => k - (intOf x).toNat)
      case atStart => exact ⟨0, [], Nat.zero_le _, rfl, Owr.nil _ _, by rw [List.drop_zero]; exact HT.out, Below.refl _ _⟩
      case round =>
        obtain ⟨p, L, hp, rfl, hO, hTt, hbl2⟩ := hrel
        have hLb : L.length ≤ 200000 := by have := congrArg List.length hTt; rw [List.length_append] at this; have := HTL.out; omega
        have HO := Lib.hid hO
        have HB2 := Lib.hid hbl2
        by_cases hlt2 : p < k
        · have d2 : decide ((p : Int) < (k : Int)) = true := decide_eq_true (by omega)
          have d2' : decide (p < k) = true := decide_eq_true hlt2
          obtain ⟨b, o, rfl, hbb, hc⟩ := (HH.out.below hbl2).at (by omega)
          have c0 := hc p hlt2
          have HC := Lib.hid hc
          obtain ⟨e1, e2, e3⟩ := pk_at (l := l) (k := p) (by rw [HL.out]; exact hlt2)
          rw [HL.out] at e3
          have ra := fun j => rn_at (l := l) (k := p) (j := j)
          have re := rn_end (l := l) (k := p)
          have hle := HB.out p hlt2
          obtain ⟨x, hx⟩ : ∃ x, l.getD p 0 = x := ⟨_, rfl⟩
          obtain ⟨R, hR⟩ : ∃ R, rn l p = R := ⟨_, rfl⟩
          rw [hx, hR] at e1 ra
          rw [hx, hR] at re
          rw [hR] at e2 e3
          rw [hx] at c0 hle
          have HRa := Lib.hid ra
          have HRe := Lib.hid re
          have HE := Lib.hid (show (L ++ one x R) ++ pk (l.drop (p + R)) = T from by rw [List.append_assoc, ← e1]; exact hTt)
          have HBd := Lib.hid (show 1 ≤ R ∧ p + R ≤ k ∧ p < k ∧ L.length + R ≤ 1000000 from by omega)
          have hn9 := hn
          clear hO hbl2 hTt hc e1 ra re hx hR e2 e3
          go_wp2_with fail
          go_loopw [6, 8] (fun y z wr3 => ∃ j : Nat, j ≤ R ∧ y = .int .i64 ((p + j : Nat) : Int) ∧ z = .int .i64 j ∧ wr = wr3) (fun _ z _ => R - (intOf z).toNat)
          case atStart => exact ⟨0, Nat.zero_le _, rfl, rfl, rfl⟩
          case round =>
            obtain ⟨j, hj, rfl, rfl, rfl⟩ := hrel
            by_cases hjR : j < R
            · obtain ⟨g1, g2⟩ := HRa.out j hjR
              rw [HL.out] at g1
              obtain ⟨t, ht⟩ : ∃ t, p + j = t := ⟨_, rfl⟩
              rw [ht] at g1 g2 ⊢
              have c1 := HC.out t g1
              rw [g2] at c1
              have d3 : decide ((t : Int) < (k : Int)) = true := decide_eq_true (by omega)
              have d3' : decide (t < k) = true := decide_eq_true g1
              have HJ := Lib.hid (show j + 1 ≤ R ∧ ((p + (j + 1) : Nat) : Int) = (t : Int) + 1 from by omega)
              have htb : t ≤ 100000 := by omega
              have hjb : j ≤ 200000 := by have := HBd.out; omega
              clear g2 ht hjR
              go_wp2_with fail
              go_roundw
              case rel => exact ⟨j + 1, HJ.out.1, by rw [HJ.out.2], by go_num, trivial⟩
              case measure => (have := HJ.out.1; simp [intOf]; try omega)
            · obtain rfl : j = R := by omega
              obtain ⟨t, ht⟩ : ∃ t, p + j = t := ⟨_, rfl⟩
              have HTt := Lib.hid ht
              rw [ht] at HBd HE HRe
              rw [ht]
              rw [HL.out] at HRe
              by_cases htk : t < k
              · have d3 : decide ((t : Int) < (k : Int)) = true := decide_eq_true (by omega)
                have d3' : decide (t < k) = true := decide_eq_true htk
                have c1 := HC.out t htk
                have hne := HRe.out htk
                obtain ⟨y, hy⟩ : ∃ y, l.getD t 0 = y := ⟨_, rfl⟩
                rw [hy] at c1 hne
                have q1 : ((y : Int) == (x : Int)) = false := by rw [beq_eq_false_iff_ne]; omega
                have q1' : (y == x) = false := by rw [beq_eq_false_iff_ne]; exact hne
                clear ht hjR hy hne
                by_cases hx0 : x = 0
                · have q0 : ((x : Int) == 0) = true := by rw [beq_iff_eq]; omega
                  have q0' : (x == 0) = true := by rw [beq_iff_eq]; exact hx0
                  have HZ := Lib.hid (rzeros_any w.heap.size _ L j _ HO.out HB2.out.size (by have := HBd.out; omega))
                  have HOne := Lib.hid (show one x j = zrs j by unfold one; rw [if_pos hx0])
                  unfold MoreR at HZ
                  clear hx0
                  go_wp2_with (go_at_call 21; (with_reducible refine HZ.out.mono ?_); rintro e w5 ⟨v', rfl, o5, b5⟩; have HO5 := Lib.hid o5; have HB5 := Lib.hid (HB2.out.trans b5); clear o5 b5)
                  go_roundw
                  case rel => exact ⟨_, L ++ one x j, HBd.out.2.1, rfl, by rw [HOne.out]; exact HO5.out, HE.out, HB5.out⟩
                  case measure => (have := HBd.out; have := HTt.out; simp [intOf]; try omega)
                · have q0 : ((x : Int) == 0) = false := by rw [beq_eq_false_iff_ne]; omega
                  have q0' : (x == 0) = false := by rw [beq_eq_false_iff_ne]; exact hx0
                  have HZ := Lib.hid (rothers_any w.heap.size _ L x j _ HO.out HB2.out.size (by omega) HBd.out.1 (by have := HBd.out; omega))
                  have HOne := Lib.hid (show one x j = oth x j by unfold one; rw [if_neg hx0])
                  unfold MoreR at HZ
                  clear hx0
                  go_wp2_with (go_at_call 22; (with_reducible refine HZ.out.mono ?_); rintro e w5 ⟨v', rfl, o5, b5⟩; have HO5 := Lib.hid o5; have HB5 := Lib.hid (HB2.out.trans b5); clear o5 b5)
                  go_roundw
                  case rel => exact ⟨_, L ++ one x j, HBd.out.2.1, rfl, by rw [HOne.out]; exact HO5.out, HE.out, HB5.out⟩
                  case measure => (have := HBd.out; have := HTt.out; simp [intOf]; try omega)
              · have d3 : decide ((t : Int) < (k : Int)) = false := decide_eq_false (by omega)
                have d3' : decide (t < k) = false := decide_eq_false htk
                clear ht hjR
                by_cases hx0 : x = 0
                · have q0 : ((x : Int) == 0) = true := by rw [beq_iff_eq]; omega
                  have q0' : (x == 0) = true := by rw [beq_iff_eq]; exact hx0
                  have HZ := Lib.hid (rzeros_any w.heap.size _ L j _ HO.out HB2.out.size (by have := HBd.out; omega))
                  have HOne := Lib.hid (show one x j = zrs j by unfold one; rw [if_pos hx0])
                  unfold MoreR at HZ
                  clear hx0
                  go_wp2_with (go_at_call 21; (with_reducible refine HZ.out.mono ?_); rintro e w5 ⟨v', rfl, o5, b5⟩; have HO5 := Lib.hid o5; have HB5 := Lib.hid (HB2.out.trans b5); clear o5 b5)
                  go_roundw
                  case rel => exact ⟨_, L ++ one x j, HBd.out.2.1, rfl, by rw [HOne.out]; exact HO5.out, HE.out, HB5.out⟩
                  case measure => (have := HBd.out; have := HTt.out; simp [intOf]; try omega)
                · have q0 : ((x : Int) == 0) = false := by rw [beq_eq_false_iff_ne]; omega
                  have q0' : (x == 0) = false := by rw [beq_eq_false_iff_ne]; exact hx0
                  have HZ := Lib.hid (rothers_any w.heap.size _ L x j _ HO.out HB2.out.size (by omega) HBd.out.1 (by have := HBd.out; omega))
                  have HOne := Lib.hid (show one x j = oth x j by unfold one; rw [if_neg hx0])
                  unfold MoreR at HZ
                  clear hx0
                  go_wp2_with (go_at_call 22; (with_reducible refine HZ.out.mono ?_); rintro e w5 ⟨v', rfl, o5, b5⟩; have HO5 := Lib.hid o5; have HB5 := Lib.hid (HB2.out.trans b5); clear o5 b5)
                  go_roundw
                  case rel => exact ⟨_, L ++ one x j, HBd.out.2.1, rfl, by rw [HOne.out]; exact HO5.out, HE.out, HB5.out⟩
                  case measure => (have := HBd.out; have := HTt.out; simp [intOf]; try omega)
        · obtain rfl : p = k := by omega
          have d2 : decide ((p : Int) < (p : Int)) = false := decide_eq_false (by omega)
          have d2' : decide (p < p) = false := decide_eq_false (by omega)
          have HE := Lib.hid (show L = T from by
            rw [List.drop_of_length_le (by rw [HL.out]; exact Nat.le_refl _), pk_nil, List.append_nil] at hTt
            exact hTt)
          clear hO hbl2 hTt
          go_wp2_with fail
          go_ret2
          exact ⟨_, rfl, by rw [← HE.out]; exact HO.out, HB2.out⟩
end Go.Proofs.YtogbohompffcbaaDoor.U
