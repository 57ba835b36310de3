/- The walk of WordTurns: it returns true for any arguments that their kinds hold. Conditions: none. -/
import Derived.Test.YtkkkcklinedbkaaWalkH
import Derived.Test.YtkkkcklinedbkaaMathC
namespace Go.Proofs.Ytkkkcklinedbkaa
open Go.RowKit M
set_option linter.unusedVariables false

theorem turn_nat (N K : Nat) (w : World) (hN : N < big) (hK : K ≤ 64) :
    Calls Try.prog 18 #[.int .u64 N, .int .i64 K] w fun e w' => e = .returned (.int .u64 (rv N K)) ∧ w = w' := by
  have h := turn_any N K w (by omega) (by simpa using hN)
  rwa [Int.toNat_natCast, Int.toNat_natCast, show min K 64 = K by omega] at h
theorem mask_nat (K : Nat) (w : World) (hK : K ≤ 64) :
    Calls Try.prog 16 #[.int .i64 K] w fun e w' => e = .returned (.int .u64 (mk K)) ∧ w = w' := by
  have h := mask_any K w
  rwa [Int.toNat_natCast, show min K 64 = K by omega] at h

set_option maxHeartbeats 800000 in
theorem turns_zero (a1 a2 a3 : Int) (N K L : Nat) (w : World) (h1 : 0 ≤ a1 ∧ a1 ≤ 255) (h2 : -2147483648 ≤ a2 ∧ a2 ≤ 2147483647) (h3 : -2147483648 ≤ a3 ∧ a3 ≤ 2147483647) (hN : N < big)
    (hK : a1 % 65 = K) (hK64 : K ≤ 64) (hLb : L < big) (hLk : L < 2 ^ K) (ha : bits .and .u64 (N : Int) (mk K : Int) = (L : Int)) (HR : Hid (rv (rv N K) K = L)) (HM : Hid (rv L K = rv N K))
    (han : bits .andNot .u64 (rv N K : Int) (mk K : Int) = 0) (hupr : 0 ≤ up a2 a3 ∧ up a2 a3 ≤ 4611686018427387904)
    (HU : Hid ((a2 < 1 ∧ up a2 a3 = 0) ∨ (1 ≤ a2 ∧ a3 < 1 ∧ up a2 a3 = 0) ∨ (1 ≤ a2 ∧ 1 ≤ a3 ∧ a2 ≤ up a2 a3 ∧ up a2 a3 - a2 < a3 ∧ (up a2 a3 % a3 == 0) = true))) (hz1 : ((L : Int) != 0) = false) :
    Calls Try.prog 6 #[.int .u64 N, .int .u8 a1, .int .i32 a2, .int .i32 a3] w fun e w' => e = .returned (.bool true) ∧ Below w.heap.size w w' := by
  go_enter Try.func6, Try.ntmps6
  go_wp2_with fail
  refine (turn_nat N K _ hN hK64).mono ?_; rintro e w' ⟨rfl, rfl⟩
  go_wp2_with fail
  refine (mask_nat K _ hK64).mono ?_; rintro e w' ⟨rfl, rfl⟩
  go_wp2_with fail
  refine (turn_nat _ K _ (rv_big N K hK64) hK64).mono ?_; rintro e w' ⟨rfl, rfl⟩
  rw [HR.out]
  go_wp2_with fail
  refine (mask_nat K _ hK64).mono ?_; rintro e w' ⟨rfl, rfl⟩
  go_wp2_with fail
  refine (turn_nat L K _ hLb hK64).mono ?_; rintro e w' ⟨rfl, rfl⟩
  rw [HM.out]
  rcases HU.out with ⟨u1, u2⟩ | ⟨u1, u2, u3⟩ | ⟨u1, u2, u3, u4, u5⟩
  all_goals
    go_wp2_with fail
    refine (up_any a2 a3 _ (by omega) (by omega)).mono ?_; rintro e w' ⟨rfl, rfl⟩
    go_wp2_with fail
    refine (alive_any _).mono ?_; rintro e W4 ⟨rfl, hb4⟩
    go_wp2_with fail
    go_ret
    exact ⟨rfl, hb4⟩

set_option maxHeartbeats 800000 in
theorem turns_some (a1 a2 a3 : Int) (N K L : Nat) (w : World) (h1 : 0 ≤ a1 ∧ a1 ≤ 255) (h2 : -2147483648 ≤ a2 ∧ a2 ≤ 2147483647) (h3 : -2147483648 ≤ a3 ∧ a3 ≤ 2147483647) (hN : N < big)
    (hK : a1 % 65 = K) (hK64 : K ≤ 64) (hLb : L < big) (hLk : L < 2 ^ K) (ha : bits .and .u64 (N : Int) (mk K : Int) = (L : Int)) (HR : Hid (rv (rv N K) K = L)) (HM : Hid (rv L K = rv N K))
    (han : bits .andNot .u64 (rv N K : Int) (mk K : Int) = 0) (hupr : 0 ≤ up a2 a3 ∧ up a2 a3 ≤ 4611686018427387904)
    (HU : Hid ((a2 < 1 ∧ up a2 a3 = 0) ∨ (1 ≤ a2 ∧ a3 < 1 ∧ up a2 a3 = 0) ∨ (1 ≤ a2 ∧ 1 ≤ a3 ∧ a2 ≤ up a2 a3 ∧ up a2 a3 - a2 < a3 ∧ (up a2 a3 % a3 == 0) = true))) (hz1 : ((L : Int) != 0) = true)
    (G D : Nat) (HG : Hid (lg L = (G : Int))) (hg : G < K) (hD : (K : Int) - 1 - G = D) (hd1 : ((L : Int) / 2 ^ G != 1) = false) (hd2 : bits .and .u64 ((rv N K : Int) / 2 ^ D) 1 = 1) (hd3 : bits .and .u64 (rv N K : Int) (mk D : Int) = 0) :
    Calls Try.prog 6 #[.int .u64 N, .int .u8 a1, .int .i32 a2, .int .i32 a3] w fun e w' => e = .returned (.bool true) ∧ Below w.heap.size w w' := by
  go_enter Try.func6, Try.ntmps6
  go_wp2_with fail
  refine (turn_nat N K _ hN hK64).mono ?_; rintro e w' ⟨rfl, rfl⟩
  go_wp2_with fail
  refine (mask_nat K _ hK64).mono ?_; rintro e w' ⟨rfl, rfl⟩
  go_wp2_with fail
  refine (turn_nat _ K _ (rv_big N K hK64) hK64).mono ?_; rintro e w' ⟨rfl, rfl⟩
  rw [HR.out]
  go_wp2_with fail
  refine (mask_nat K _ hK64).mono ?_; rintro e w' ⟨rfl, rfl⟩
  go_wp2_with fail
  refine (turn_nat L K _ hLb hK64).mono ?_; rintro e w' ⟨rfl, rfl⟩
  rw [HM.out]
  go_wp2_with fail
  refine (log_any L _ (by omega) (by simpa using hLb)).mono ?_; rintro e w' ⟨rfl, rfl⟩
  rw [Int.toNat_natCast, HG.out]
  go_wp2_with fail
  refine (mask_nat D _ (by omega)).mono ?_; rintro e w' ⟨rfl, rfl⟩
  rcases HU.out with ⟨u1, u2⟩ | ⟨u1, u2, u3⟩ | ⟨u1, u2, u3, u4, u5⟩
  all_goals
    go_wp2_with fail
    refine (up_any a2 a3 _ (by omega) (by omega)).mono ?_; rintro e w' ⟨rfl, rfl⟩
    go_wp2_with fail
    refine (alive_any _).mono ?_; rintro e W4 ⟨rfl, hb4⟩
    go_wp2_with fail
    go_ret
    exact ⟨rfl, hb4⟩

theorem WordTurns_walk (a0 a1 a2 a3 : Int) (w : World) (w0 : (Lit.int .u64 a0).wf = true) (w1 : (Lit.int .u8 a1).wf = true) (w2 : (Lit.int .i32 a2).wf = true) (w3 : (Lit.int .i32 a3).wf = true) :
    Calls Try.prog 6 #[.int .u64 a0, .int .u8 a1, .int .i32 a2, .int .i32 a3] w fun e w' => e = .returned (.bool true) ∧ Below w.heap.size w w' := by
  have hn := u64_bounds w0
  have h1 : 0 ≤ a1 ∧ a1 ≤ 255 := by simpa [Lit.wf, IntKind.min, IntKind.max, IntKind.signed, IntKind.bits] using w1
  have h2 : -2147483648 ≤ a2 ∧ a2 ≤ 2147483647 := by simpa [Lit.wf, IntKind.min, IntKind.max, IntKind.signed, IntKind.bits] using w2
  have h3 : -2147483648 ≤ a3 ∧ a3 ≤ 2147483647 := by simpa [Lit.wf, IntKind.min, IntKind.max, IntKind.signed, IntKind.bits] using w3
  clear w0 w1 w2 w3
  obtain ⟨N, rfl⟩ := Int.eq_ofNat_of_zero_le hn.1
  have hN := hn.2
  rw [Int.toNat_natCast] at hN
  obtain ⟨K, hK⟩ : ∃ K : Nat, a1 % 65 = K := ⟨(a1 % 65).toNat, by omega⟩
  have hK64 : K ≤ 64 := by omega
  clear hn
  obtain ⟨L, hL⟩ : ∃ L, L = N % 2 ^ K := ⟨_, rfl⟩
  have hLb : L < big := by rw [hL]; exact mod_big N _ hN
  have hLk : L < 2 ^ K := by rw [hL]; exact Nat.mod_lt _ (Nat.two_pow_pos K)
  have ha : bits .and .u64 (N : Int) (mk K : Int) = (L : Int) := by rw [hL]; exact and_mask N K hN hK64
  have HR : Hid (rv (rv N K) K = L) := by rw [hL]; exact rv_rv N K
  have HM : Hid (rv L K = rv N K) := by rw [hL]; exact rv_mod N K K (Nat.le_refl K)
  have han := andNot_mask (rv N K) K (rv_lt N K) hK64
  have hupr := up_range a2 a3
  have hu : (a2 < 1 ∧ up a2 a3 = 0) ∨ (1 ≤ a2 ∧ a3 < 1 ∧ up a2 a3 = 0) ∨ (1 ≤ a2 ∧ 1 ≤ a3 ∧ a2 ≤ up a2 a3 ∧ up a2 a3 - a2 < a3 ∧ (up a2 a3 % a3 == 0) = true) := by
    by_cases g1 : a2 < 1
    · exact .inl ⟨g1, up_zero _ _ (.inl g1)⟩
    · by_cases g2 : a3 < 1
      · exact .inr (.inl ⟨by omega, g2, up_zero _ _ (.inr g2)⟩)
      · have g := up_facts a2 a3 (by omega) (by omega) (by omega)
        exact .inr (.inr ⟨by omega, by omega, g.1, g.2.1, by simp [g.2.2]⟩)
  by_cases hz : L = 0
  · exact turns_zero a1 a2 a3 N K L w h1 h2 h3 hN hK hK64 hLb hLk ha HR HM han hupr hu (by simp [hz])
  · have hg1 := log_lt hz hLk
    have HT := rv_top_shift L K hz hLk
    have HZ := rv_top_low L K hz hLk
    rw [show rv L K = rv N K from HM] at HT HZ
    have hrb := rv_big N K hK64
    have e2 : ((rv N K : Int) / 2 ^ (K - 1 - L.log2)) = ((rv N K / 2 ^ (K - 1 - L.log2) : Nat) : Int) := by simp
    refine turns_some a1 a2 a3 N K L w h1 h2 h3 hN hK hK64 hLb hLk ha HR HM han hupr hu (by simp [hz]) L.log2 (K - 1 - L.log2) (lg_nat L hz) hg1 (by omega) ?_ ?_ ?_
    · have e : ((L : Int) / 2 ^ L.log2) = ((L / 2 ^ L.log2 : Nat) : Int) := by simp
      rw [e, log_div hz]; rfl
    · rw [e2]
      exact and_one_cast _ (Nat.lt_of_le_of_lt (Nat.div_le_self _ _) hrb) HT
    · rw [and_mask _ _ hrb (by omega), HZ]; rfl
end Go.Proofs.Ytkkkcklinedbkaa
