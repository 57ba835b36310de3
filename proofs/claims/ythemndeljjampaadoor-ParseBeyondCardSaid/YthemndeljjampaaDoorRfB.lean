/- The document's finder of layer 8: how long a candidate is. Conditions: as each theorem names them. -/
import Derived.Test.YthemndeljjampaaDoorRfA
namespace Go.Proofs.YthemndeljjampaaDoor.Q
open Go Go.RowKit M
set_option linter.unusedVariables false
set_option linter.unusedSimpArgs false

set_option maxRecDepth 1000000 in
set_option maxHeartbeats 1000000 in
theorem rlong_any {w : World} {B F b q : Nat} {s : ByteArray} (H : Rf w B F b s q) (p k : Nat) (hp : p < k) (hk : k ≤ s.size) :
    Calls Tryd.prog 28 #[.pointer (some ⟨F, 0, none⟩), .int .i64 p, .int .i64 k] w fun e w' => e = .returned (.int .i64 (lng s p k)) ∧ ∃ n, w' = w.drewN n := by
  have h0 := H.fd.at0
  have hl := H.len
  obtain ⟨ms, hms⟩ : ∃ ms, most s k = ms := ⟨_, rfl⟩
  have hm2 : ms ≤ 258 ∧ k + ms ≤ s.size ∧ (ms = 258 ∨ k + ms = s.size) := by rw [← hms]; unfold most; omega
  have HG := Lib.hid (lng_is s p k)
  have HMS := Lib.hid hms
  clear H hms
  obtain ⟨z, hz⟩ : ∃ z, lng s p k = z := ⟨_, rfl⟩
  rw [hz] at HG ⊢
  have hzm : z ≤ ms := by have := HG.out.le; rw [HMS.out] at this; exact this
  clear hz
  go_enter Tryd.func28, Tryd.ntmps28
  go_wp2_with fail
  go_loopw [7] (fun i wr => ∃ n c : Nat, i = .int .i64 n ∧ n ≤ z ∧ wr = w.drewN c) (fun i _ => z - (intOf i).toNat)
  case atStart => exact ⟨0, 0, rfl, Nat.zero_le _, rfl⟩
  case round =>
    obtain ⟨n, c, rfl, hn, rfl⟩ := hrel
    by_cases c0 : n < 258
    · have d0 : decide (n < 258) = true := decide_eq_true c0
      have d0' : decide ((n : Int) < 258) = true := decide_eq_true (by omega)
      obtain ⟨y, hy⟩ : ∃ y, k + n = y := ⟨_, rfl⟩
      have w2 : IntKind.i64.wrap ((k : Int) + (n : Int)) = (y : Int) := by rw [IntWalk.i64_in _ (by omega)]; omega
      have w4 : (k : Int) + (n : Int) = (y : Int) := by omega
      by_cases c1 : y < s.size
      · have d1 : decide (y < s.size) = true := decide_eq_true c1
        have d1' : decide ((y : Int) < (s.size : Int)) = true := decide_eq_true (by omega)
        obtain ⟨x, hx⟩ : ∃ x, p + n = x := ⟨_, rfl⟩
        have i1 : x < s.size := by omega
        have b1 := byt_eq i1
        have b2 := byt_eq c1
        have w1 : IntKind.i64.wrap ((p : Int) + (n : Int)) = (x : Int) := by rw [IntWalk.i64_in _ (by omega)]; omega
        have w3 : (p : Int) + (n : Int) = (x : Int) := by omega
        by_cases c2 : byt s x = byt s y
        · have c3 : n < z := by
            rcases Nat.lt_or_ge n z with g | g
            · exact g
            · obtain rfl : n = z := by omega
              rcases HG.out.stop with q | q
              · rw [HMS.out] at q; omega
              · rw [hx, hy] at q; exact absurd c2 q
          have ee : (((s[x]'i1).toNat : Int) == ((s[y]'c1).toNat : Int)) = true := by rw [b1, b2, c2]; simp
          clear b1 b2 c2 hx hy
          go_wp2_with fail
          go_quiet (fail)
          clear w3 w4
          go_wp2_with fail
          go_roundw
          case rel => exact ⟨n + 1, _, by go_num, by omega, rfl⟩
          case measure => simp [intOf]; omega
        · have c3 : n = z := by
            rcases Nat.lt_or_ge n z with g | g
            · have := HG.out.same n g
              rw [hx, hy] at this
              exact absurd this c2
            · omega
          have ee : (((s[x]'i1).toNat : Int) == ((s[y]'c1).toNat : Int)) = false := by rw [b1, b2, beq_eq_false_iff_ne]; omega
          clear b1 b2 c2 hx hy
          subst c3
          go_wp2_with fail
          go_quiet (fail)
          clear w3 w4
          go_wp2_with fail
          go_ret
          exact ⟨rfl, _, World.drewN_drewN _ _ _⟩
      · have d1 : decide (y < s.size) = false := decide_eq_false c1
        have d1' : decide ((y : Int) < (s.size : Int)) = false := decide_eq_false (by omega)
        obtain rfl : n = z := by omega
        clear hy
        go_wp2_with fail
        go_quiet (fail)
        clear w4
        go_wp2_with fail
        go_ret
        exact ⟨rfl, _, World.drewN_drewN _ _ _⟩
    · have d0 : decide (n < 258) = false := decide_eq_false c0
      have d0' : decide ((n : Int) < 258) = false := decide_eq_false (by omega)
      obtain rfl : n = z := by omega
      go_wp2_with fail
      go_quiet (fail)
      go_wp2_with fail
      go_ret
      exact ⟨rfl, _, World.drewN_drewN _ _ _⟩
end Go.Proofs.YthemndeljjampaaDoor.Q
