/- What rowOf of package pack answers. Conditions: as each theorem names them. -/
import Derived.Test.YteicamfelamfhaaPkC
namespace Go.Proofs.Yteicamfelamfhaa
open Go.RowKit M
set_option linter.unusedVariables false

theorem row_most (L : List Th) : ∀ k, (row L k).length ≤ 2 * L.length
  | 0 => by simp [row]
  | k + 1 => by rw [row_length]; have := row_most L k; omega
/-- what a row's things weigh at most -/
theorem row_wt {L : List Th} {M : Nat} (h : ∀ t ∈ L, t.wt ≤ M) : ∀ k, ∀ t ∈ row L (k + 1), t.wt ≤ M * 2 ^ k
  | 0, t, ht => by rw [row_one] at ht; simpa using h t ht
  | k + 1, t, ht => by
    have ih := row_wt h k
    rcases (mrg_mem t _ _).1 ht with g | g
    · exact Nat.le_trans (h t g) (Nat.le_mul_of_pos_right _ (Nat.two_pow_pos _))
    · have key : ∀ (R : List Th), (∀ u ∈ R, u.wt ≤ M * 2 ^ k) → ∀ u ∈ pks R, u.wt ≤ M * 2 ^ (k + 1) := by
        intro R
        induction R using pks.induct with
        | case1 c d r ih2 =>
          intro hr u hu
          rcases List.mem_cons.1 hu with rfl | hu
          · have h1 := hr c (by simp); have h2 := hr d (by simp)
            simp only [Th.wt]; rw [Nat.pow_succ, ← Nat.mul_assoc]; omega
          · exact ih2 (fun t ht => hr t (by simp [ht])) u hu
        | case2 r hr => intro _ u hu; unfold pks at hu; split at hu; exact absurd rfl (hr _ _ _); cases hu
      exact key _ ih t g

/-- it lies where A does, or from B on -/
def Far (A : Option Addr) (B : Nat) (A' : Option Addr) : Prop := A' = A ∨ ∀ b o, A' = some ⟨b, o, none⟩ → B ≤ b
/-- the row of a level, as a slice -/
def GotRow (W : World) (A : Option Addr) (L : List Tp) (K : Nat) (x : Ending) (w' : World) : Prop :=
  ∃ A' n' cap X, x = .returned (.slice A' n' cap) ∧ X.length = n' ∧ n' ≤ cap ∧ X.map (·.1) = row (L.map (·.1)) K ∧ Things w' W.heap.size A' X ∧ Far A W.heap.size A' ∧ Below W.heap.size W w'

set_option maxHeartbeats 4000000 in
theorem rowOf_any (A : Option Addr) (n c K : Nat) (L : List Tp) (W : World) (hl : L.length = n) (hn : n ≤ 320) (hnc : n ≤ c) (h1 : 1 ≤ K) (h2 : K ≤ 15) (HL : Things W W.heap.size A L) (wl : ∀ x ∈ L, x.1.wt ≤ 1073741824) :
    Calls Try.prog 20 #[.slice A n c, .int .i64 K] W (GotRow W A L K) := by
  have e1 : (K : Int) - 1 = ((K - 1 : Nat) : Int) := by omega
  obtain ⟨z, hz⟩ : ∃ z, K - 1 = z := ⟨_, rfl⟩
  rw [hz] at e1
  have HZ := Lib.hid hz
  have NL := Lib.hid hl
  have KL := Lib.hid HL
  have WL := Lib.hid wl
  clear hz hl HL wl
  go_enter Try.func20, Try.ntmps20
  go_wp2_with fail
  go_loopw [5, 9] (fun v i wr => ∃ (j : Nat) (A' : Option Addr) (n' cap : Nat) (X : List Tp), i = .int .i64 j ∧ v = .slice A' n' cap ∧ j ≤ z ∧ n' ≤ 640 ∧ n' ≤ cap ∧ Hid (X.length = n' ∧ X.map (·.1) = row (L.map (·.1)) (j + 1) ∧ Things wr W.heap.size A' X ∧ Far A W.heap.size A' ∧ Below W.heap.size W wr)) (fun _ i _ => z - (intOf i).toNat)
  case atStart => exact ⟨0, A, n, c, L, rfl, rfl, Nat.zero_le _, by omega, hnc, Lib.hid ⟨NL.out, (row_one _).symm, KL.out, .inl rfl, Below.refl _ _⟩⟩
  case round =>
    obtain ⟨j, A', n', cap, X, rfl, rfl, q1, q2, q3, HB⟩ := hrel
    by_cases c1 : j < z
    · have HWX := Lib.hid (show ∀ x ∈ X, x.1.wt ≤ 1125899906842624 / 2 from fun x hx => by
        have h3 : x.1 ∈ row (L.map (·.1)) (j + 1) := by rw [← HB.out.2.1]; exact List.mem_map_of_mem hx
        have h4 := row_wt (M := 1073741824) (fun t ht => by
          obtain ⟨y, hy, rfl⟩ := List.mem_map.1 ht
          exact WL.out y hy) j _ h3
        have hz := HZ.out
        have h5 : 1073741824 * 2 ^ j ≤ 1073741824 * 2 ^ 14 := Nat.mul_le_mul_left _ (Nat.pow_le_pow_right (by omega) (by omega))
        omega)
      have HR := Lib.hid HB.out.1
      have HT := Lib.hid HB.out.2.2.1
      have HS := Lib.hid HB.out.2.2.2.2.size
      go_wp2_with fail
      refine (pkgs_any A' n' cap W.heap.size X _ HR.out (by omega) HS.out (fun x hx => by have := HWX.out x hx; omega) HT.out).mono ?_; rintro x w1 ⟨g, gp, rfl, t1, b1⟩
      have T1 := Lib.hid t1
      have B1 := Lib.hid b1
      have hnp : n' / 2 ≤ 600 := by omega
      obtain ⟨np, hnp'⟩ : ∃ np, n' / 2 = np := ⟨_, rfl⟩
      rw [hnp'] at hnp ⊢
      have HNP := Lib.hid hnp'
      clear t1 b1 hnp'
      go_wp2_with fail
      refine (merge_any A n c W.heap.size g np L (pkt gp X) _ NL.out (by rw [pkt_length, HR.out]; exact HNP.out) (by omega) hnp (KL.out.below (HB.out.2.2.2.2.trans (B1.out.mono HS.out))) T1.out (fun x hx => by have := WL.out x hx; omega) (fun x hx => by
        obtain ⟨i, hi, rfl⟩ := List.getElem_of_mem hx
        have hi' := hi
        rw [pkt_length] at hi'
        have e := pkt_at gp X hi'
        rw [List.getElem?_eq_getElem hi] at e
        rw [Option.some.inj e]
        have l1 : 2 * i < X.length := by omega
        have l2 : 2 * i + 1 < X.length := by omega
        have m1 : X.getD (2 * i) tp0 ∈ X := by rw [List.getD, List.getElem?_eq_getElem l1]; exact List.getElem_mem l1
        have m2 : X.getD (2 * i + 1) tp0 ∈ X := by rw [List.getD, List.getElem?_eq_getElem l2]; exact List.getElem_mem l2
        have := HWX.out _ m1
        have := HWX.out _ m2
        simp only [Th.wt]; omega)).mono ?_; rintro x w2 ⟨A2, cap2, rfl, t2, a2, g2, b2⟩
      have F2 := Lib.hid (And.intro t2 (And.intro a2 b2))
      clear t2 a2 b2
      obtain ⟨n2, hn2⟩ : ∃ n2, n + np = n2 := ⟨_, rfl⟩
      rw [hn2] at g2 ⊢
      have HN2 := Lib.hid hn2
      clear hn2
      go_wp2_with fail
      go_roundw
      case rel =>
        obtain ⟨t2, a2, b2⟩ := F2.out
        have hnp := HNP.out
        have hn2 := HN2.out
        have hx := HR.out
        refine ⟨j + 1, A2, n2, cap2, _, by go_num, rfl, by omega, by omega, g2, Lib.hid ⟨?_, ?_, t2, ?_, ?_⟩⟩
        · rw [mr2_length, pkt_length, NL.out]; omega
        · rw [mr2_fst, pkt_fst, HB.out.2.1]; rfl
        · exact .inr (fun b o e => by have := a2 b o e; have := HS.out; have := B1.out.size; omega)
        · exact (HB.out.2.2.2.2.trans (B1.out.mono HS.out)).trans (b2.mono (by have := HS.out; have := B1.out.size; omega))
      case measure => simp [intOf]; omega
    · obtain rfl : j = z := by omega
      go_wp2_with fail
      go_ret
      obtain ⟨a1, a2, a3, a4, a5⟩ := HB.out
      have hz := HZ.out
      exact ⟨_, _, _, _, rfl, a1, q3, by rw [a2, ← hz]; congr 1; omega, a3, a4, a5⟩
end Go.Proofs.Yteicamfelamfhaa
