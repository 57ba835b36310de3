/- How long a candidate is: what alike of package chain answers. Conditions: as each theorem names them. -/
import Derived.Test.YthemndeljjampaaDoorChE
namespace Go.Proofs.YthemndeljjampaaDoor
open Go Go.RowKit M
set_option linter.unusedVariables false
set_option linter.unusedSimpArgs false
section
variable {B F : Nat} {s : ByteArray} {L : List Nat} {la : Int} {w : World}
theorem idx_any (s : ByteArray) (i : Nat) (w : World) (hi : i < s.size) : (Instr.index 9 (.string s) (.int .i64 (i : Int))).run Tryd.prog w = .ok (.int .u8 (byt s i)) w := by
  rw [← byt_eq hi]
  have h : (0 : Int) ≤ (i : Int) := by omega
  have h2 : (i : Int).toNat = i := Int.toNat_natCast i
  simp [go_sem, Instr.index, hi, Tryd.underlying9]
set_option maxRecDepth 1000000 in
set_option maxHeartbeats 1000000 in
theorem alike_any (H : Fd w B F s L la) (p k : Nat) (hp : p < k) (hk : k + 3 ≤ s.size) (h3 : 3 ≤ lng s p k) :
    Calls Tryd.prog 33 #[.pointer (some ⟨F, 0, none⟩), .int .i64 p, .int .i64 k] w fun e w' => e = .returned (.int .i64 (lng s p k)) ∧ ∃ n, w' = w.drewN n := by
  have h0 := H.c0
  have hl := H.len
  obtain ⟨ms, hms⟩ : ∃ ms, most s k = ms := ⟨_, rfl⟩
  have e1 : (if (s.size : Int) - (k : Int) < 258 then (s.size : Int) - (k : Int) else 258) = (ms : Int) := by
    rw [← hms]; unfold most
    by_cases c : (s.size : Int) - (k : Int) < 258
    · rw [if_pos c]; omega
    · rw [if_neg c]; omega
  have hm2 : ms ≤ 258 ∧ k + ms ≤ s.size ∧ 3 ≤ ms := by rw [← hms]; unfold most; omega
  have HG := Lib.hid (lng_is s p k)
  have HMS := Lib.hid hms
  clear H hms
  obtain ⟨z, hz⟩ : ∃ z, lng s p k = z := ⟨_, rfl⟩
  rw [hz] at h3 HG ⊢
  have hzm : z ≤ ms := by have := HG.out.le; rw [HMS.out] at this; exact this
  clear hz
  go_enter Tryd.func33, Tryd.ntmps33
  go_wp2_with fail
  go_loopw [8] (fun i wr => ∃ n c : Nat, i = .int .i64 n ∧ n ≤ z ∧ wr = w.drewN c) (fun i _ => z - (intOf i).toNat)
  case atStart => exact ⟨3, 0, rfl, h3, rfl⟩
  case round =>
    obtain ⟨n, c, rfl, hn, rfl⟩ := hrel
    by_cases c1 : n < ms
    · have d1 : decide (n < ms) = true := decide_eq_true c1
      have d1' : decide ((n : Int) < (ms : Int)) = true := decide_eq_true (by omega)
      obtain ⟨x, hx⟩ : ∃ x, p + n = x := ⟨_, rfl⟩
      obtain ⟨y, hy⟩ : ∃ y, k + n = y := ⟨_, rfl⟩
      have i1 : x < s.size := by omega
      have i2 : y < s.size := by omega
      have b1 := byt_eq i1
      have b2 := byt_eq i2
      have w1 : IntKind.i64.wrap ((p : Int) + (n : Int)) = (x : Int) := by rw [IntWalk.i64_in _ (by omega)]; omega
      have w2 : IntKind.i64.wrap ((k : Int) + (n : Int)) = (y : Int) := by rw [IntWalk.i64_in _ (by omega)]; omega
      have w3 : (p : Int) + (n : Int) = (x : Int) := by omega
      have w4 : (k : Int) + (n : Int) = (y : Int) := by omega
      by_cases c2 : byt s x = byt s y
      · have c3 : n < z := by
          rcases Nat.lt_or_ge n z with g | g
          · exact g
          · obtain rfl : n = z := by omega
            rcases HG.out.stop with q | q
            · rw [HMS.out] at q; omega
            · rw [hx, hy] at q; exact absurd c2 q
        have ee : (((s[x]'i1).toNat : Int) == ((s[y]'i2).toNat : Int)) = true := by rw [b1, b2, c2]; simp
        clear b1 b2 c2 hx hy
        go_wp2_with fail
        go_quiet (fail)
        clear w3 w4
        go_wp2_with fail
        go_roundw
        case rel => exact ⟨n + 1, _, by go_num, by omega, rfl⟩
        case measure => simp [intOf]; omega
      · have c3 : n = z := by
          rcases Nat.lt_or_ge n z with g | g
          · have := HG.out.same n g
            rw [hx, hy] at this
            exact absurd this c2
          · omega
        have ee : (((s[x]'i1).toNat : Int) == ((s[y]'i2).toNat : Int)) = false := by rw [b1, b2, beq_eq_false_iff_ne]; omega
        clear b1 b2 c2 hx hy
        subst c3
        go_wp2_with fail
        go_quiet (fail)
        clear w3 w4
        go_wp2_with fail
        go_ret
        exact ⟨rfl, _, World.drewN_drewN _ _ _⟩
    · have d1 : decide (n < ms) = false := decide_eq_false c1
      have d1' : decide ((n : Int) < (ms : Int)) = false := decide_eq_false (by omega)
      obtain rfl : n = z := by omega
      go_wp2_with fail
      go_quiet (fail)
      go_wp2_with fail
      go_ret
      exact ⟨rfl, _, World.drewN_drewN _ _ _⟩
end
end Go.Proofs.YthemndeljjampaaDoor
