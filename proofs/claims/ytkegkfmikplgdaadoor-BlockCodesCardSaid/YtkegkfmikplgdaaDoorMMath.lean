/- Texts of one place, one behind the other: Math, QmB, QmC, QmD, QmE. -/
import Derived.Laws.Bits64b
import Derived.IntWalk
/- The plain mathematics of layer 1: bytes of numbers, bits turned about, greatest bits, multiples. No program. -/
namespace Go.Proofs.YtkegkfmikplgdaaDoor.M
open Go
set_option linter.unusedVariables false

/-- 2^64, behind a name that the walk does not open -/
def big : Nat := 18446744073709551616
theorem big_eq : big = 2 ^ 64 := by decide

/-- the number with k bits, all 1 -/
def mk (k : Nat) : Nat := 2 ^ k - 1
/-- the lowest k bits of n, the last one first -/
def rv (n : Nat) : Nat → Nat
  | 0 => 0
  | k + 1 => 2 * rv n k + n / 2 ^ k % 2
/-- the greatest bit -/
def lg (n : Nat) : Int := if n = 0 then -1 else (n.log2 : Int)
/-- the least multiple, unless it is too great -/
def up (n to : Int) : Int := if n < 1 ∨ to < 1 then 0 else if 4611686018427387904 < ((n - 1) / to + 1) * to then 0 else ((n - 1) / to + 1) * to
/-- the lowest k bytes, the lowest one first -/
def le (n : Nat) : Nat → List UInt8
  | 0 => []
  | k + 1 => UInt8.ofNat (n % 256) :: le (n / 256) k
/-- the number that bytes are -/
def vl : List UInt8 → Nat
  | [] => 0
  | b :: r => b.toNat + 256 * vl r

theorem rv_lt (n k : Nat) : rv n k < 2 ^ k := by
  induction k with
  | zero => simp [rv]
  | succ k ih => simp only [rv, Nat.pow_succ]; omega

theorem div_pow (n k : Nat) : n / 2 ^ k / 2 = n / 2 ^ (k + 1) := by rw [Nat.div_div_eq_div_mul, Nat.pow_succ]
theorem div_pow256 (n k : Nat) : n / 256 ^ k / 256 = n / 256 ^ (k + 1) := by rw [Nat.div_div_eq_div_mul, Nat.pow_succ]


theorem wrap_nat (a : Nat) : IntKind.u64.wrap (a : Int) = ((a % 18446744073709551616 : Nat) : Int) := by rw [IntKind.wrap_u64]; omega
theorem wrap_nat_lt (a : Nat) (h : a < 18446744073709551616) : IntKind.u64.wrap (a : Int) = (a : Int) := by rw [wrap_nat]; congr 1; omega
theorem pow_le64 {k : Nat} (h : k ≤ 64) : 2 ^ k ≤ 18446744073709551616 := by
  have := Nat.pow_le_pow_right (n := 2) (by decide) h
  simpa using this
theorem pow_lt64 {k : Nat} (h : k < 64) : 2 * 2 ^ k ≤ 18446744073709551616 := by
  have := Nat.pow_le_pow_right (n := 2) (by decide) h
  rw [Nat.pow_succ] at this
  have e : (2 : Nat) ^ 64 = 18446744073709551616 := by decide
  omega
theorem cast_pow2 (k : Nat) : (2 : Int) ^ k = ((2 ^ k : Nat) : Int) := by simp

/-- what Mask answers -/
theorem mask_val (m : Nat) (h : m ≤ 64) : IntKind.u64.wrap (IntKind.u64.wrap (2 ^ m) - 1) = (mk m : Int) := by
  unfold mk
  rw [cast_pow2, wrap_nat]
  have hp : 0 < 2 ^ m := Nat.two_pow_pos m
  by_cases h4 : m = 64
  · subst h4; decide
  · have h5 := pow_lt64 (show m < 64 by omega)
    rw [Nat.mod_eq_of_lt (by omega), IntKind.wrap_u64]
    omega

theorem mk_zero : mk 0 = 0 := rfl
theorem mk_succ (k : Nat) : mk (k + 1) = 2 * mk k + 1 := by
  unfold mk
  have := Nat.two_pow_pos k
  rw [Nat.pow_succ]; omega
theorem mk_lt (k : Nat) : mk k < 2 ^ k := by
  unfold mk
  have := Nat.two_pow_pos k
  omega

/-- what fits answers -/
theorem fits_val (n x : Int) (h0 : 0 ≤ n) (h1 : 0 ≤ x) : (n / 2 ^ (8 * x).toNat == 0) = decide (n.toNat < 256 ^ x.toNat) := by
  obtain ⟨a, rfl⟩ := Int.eq_ofNat_of_zero_le h0
  obtain ⟨b, rfl⟩ := Int.eq_ofNat_of_zero_le h1
  have e : (8 * (b : Int)).toNat = 8 * b := by omega
  have e2 : (256 : Nat) ^ b = 2 ^ (8 * b) := by rw [Nat.pow_mul]
  rw [e, Int.toNat_natCast, Int.toNat_natCast, e2, cast_pow2, ← Int.natCast_ediv, Bool.eq_iff_iff]
  simp only [beq_iff_eq, decide_eq_true_eq]
  have hp : 0 < 2 ^ (8 * b) := Nat.two_pow_pos _
  constructor
  · intro h
    have h' : a / 2 ^ (8 * b) = 0 := by omega
    rcases (Nat.div_eq_zero_iff).1 h' with h'' | h''
    · omega
    · exact h''
  · intro h
    rw [Nat.div_eq_of_lt h]; rfl

theorem and_one (a : Nat) : a &&& 1 = a % 2 := by
  simp
theorem or_bit (t b : Nat) (hb : b < 2) : 2 * t ||| b = 2 * t + b := by
  have := Nat.two_pow_add_eq_or_of_lt (i := 1) (b := b) (by simpa using hb) t
  simpa using this.symm

/-- a round of Turn -/
theorem turn_step (n k : Nat) (hn : n < 18446744073709551616) (hk : k < 64) :
    bits .or .u64 (IntKind.u64.wrap ((rv n k : Int) * 2)) (bits .and .u64 ((n / 2 ^ k : Nat) : Int) 1) = (rv n (k + 1) : Int) := by
  have h1 := rv_lt n k
  have h2 := pow_lt64 hk
  have h3 : n / 2 ^ k ≤ n := Nat.div_le_self _ _
  have e1 : IntKind.u64.wrap ((rv n k : Int) * 2) = ((2 * rv n k : Nat) : Int) := by
    rw [show ((rv n k : Int) * 2) = ((2 * rv n k : Nat) : Int) by omega]
    exact wrap_nat_lt _ (by omega)
  have e2 : bits .and .u64 ((n / 2 ^ k : Nat) : Int) 1 = ((n / 2 ^ k % 2 : Nat) : Int) := by
    have := bits_and_u64_nat (n / 2 ^ k) 1 (by omega) (by decide)
    rw [and_one] at this
    exact this
  rw [e1, e2, bits_or_u64_nat _ _ (by omega) (by omega), or_bit _ _ (by omega)]
  rfl

theorem turn_step' (n k : Nat) (hn : n < big) (hk : k < 64) :
    bits .or .u64 (IntKind.u64.wrap ((rv n k : Int) * 2)) (bits .and .u64 ((n : Int) / 2 ^ k) 1) = (rv n (k + 1) : Int) := by
  have h := turn_step n k hn hk
  rw [Int.natCast_ediv, Int.natCast_pow] at h
  exact h
theorem div_step (n k : Nat) : (n : Int) / 2 ^ k / 2 = (n : Int) / 2 ^ (k + 1) := by
  rw [cast_pow2, cast_pow2, ← Int.natCast_ediv, ← Int.natCast_ediv, ← div_pow]
  rfl

theorem lg_zero : lg 0 = -1 := rfl
/-- the greatest bit, by how often it can be halved -/
theorem lg_of (n k : Nat) (h1 : n / 2 ^ k = 0) (h2 : k = 0 ∨ n / 2 ^ (k - 1) ≠ 0) : lg n = (k : Int) - 1 := by
  have hp : 0 < 2 ^ k := Nat.two_pow_pos k
  have h3 : n < 2 ^ k := by
    rcases (Nat.div_eq_zero_iff).1 h1 with h | h
    · omega
    · exact h
  unfold lg
  by_cases hn : n = 0
  · subst hn
    rcases h2 with h2 | h2
    · subst h2; rfl
    · simp at h2
  · rw [if_neg hn]
    have hk : k ≠ 0 := by
      intro h; subst h; simp at h3; exact hn h3
    rcases h2 with h2 | h2
    · exact absurd h2 hk
    · have h4 : 2 ^ (k - 1) ≤ n := by
        apply Nat.le_of_not_lt
        intro h5
        exact h2 (Nat.div_eq_of_lt h5)
      have h5 := (Nat.log2_lt hn (k := k)).2 h3
      have h6 := (Nat.le_log2 hn (k := k - 1)).2 h4
      omega
theorem lg_lt (n : Nat) (h : n < 18446744073709551616) : lg n < 64 := by
  unfold lg
  split
  · omega
  · rename_i hn
    have := (Nat.log2_lt hn (k := 64)).2 (by simpa using h)
    omega
theorem lg_ge (n : Nat) : -1 ≤ lg n := by unfold lg; split <;> omega

/-- bit k -/
theorem halves_zero (n k : Nat) (h : (n : Int) / 2 ^ k = 0) : n / 2 ^ k = 0 := by
  rw [cast_pow2, ← Int.natCast_ediv] at h; omega
theorem halves_ne (n k : Nat) (h : (n : Int) / 2 ^ k ≠ 0) : n / 2 ^ k ≠ 0 := by
  rw [cast_pow2, ← Int.natCast_ediv] at h; omega
theorem halves_pos (n k : Nat) (h : 0 < (n : Int) / 2 ^ k) : n / 2 ^ k ≠ 0 := by
  rw [cast_pow2, ← Int.natCast_ediv] at h; omega
theorem halves_lt (n k : Nat) (hn : n < big) (h : n / 2 ^ k ≠ 0) : k < 64 := by
  apply Nat.lt_of_not_le
  intro h4
  apply h
  apply Nat.div_eq_of_lt
  have := Nat.pow_le_pow_right (n := 2) (by decide) h4
  rw [← big_eq] at this
  omega
theorem halves_nonneg (n k : Nat) : 0 ≤ (n : Int) / 2 ^ k := by
  rw [cast_pow2, ← Int.natCast_ediv]; exact Int.natCast_nonneg _
theorem halves_le (n k : Nat) (hn : n < big) : (n : Int) / 2 ^ k ≤ 18446744073709551615 := by
  rw [cast_pow2, ← Int.natCast_ediv]
  have : n / 2 ^ k ≤ n := Nat.div_le_self _ _
  unfold big at hn
  omega

/-- what Up answers -/
theorem up_mul_lt (n to : Int) (hn : 1 ≤ n) (ht : 1 ≤ to) : 0 ≤ ((n - 1) / to + 1) * to ∧ ((n - 1) / to + 1) * to ≤ n - 1 + to := by
  have h1 := Int.ediv_mul_le (n - 1) (show to ≠ 0 by omega)
  have h2 : 0 ≤ (n - 1) / to := Int.ediv_nonneg (by omega) (by omega)
  rw [Int.add_mul, Int.one_mul]
  refine ⟨?_, by omega⟩
  have h3 := Int.mul_nonneg h2 (show 0 ≤ to by omega)
  omega
theorem up_mul_ge (n to : Int) (hn : 1 ≤ n) (ht : 1 ≤ to) : n ≤ ((n - 1) / to + 1) * to := by
  have h1 := Int.lt_ediv_add_one_mul_self (n - 1) (show 0 < to by omega)
  omega
/-- the least multiple, reckoned by what is left -/
theorem up_left0 (n to : Int) (hn : 1 ≤ n) (ht : 1 ≤ to) (h : n % to = 0) : ((n - 1) / to + 1) * to = n := by
  have h1 := up_mul_lt n to hn ht
  have h2 := up_mul_ge n to hn ht
  obtain ⟨q, hq⟩ := Int.dvd_of_emod_eq_zero h
  generalize hm : (n - 1) / to + 1 = m at *
  -- n = to * q, n ≤ m * to < n + to
  rw [hq] at h1 h2 ⊢
  have e1 : q ≤ m := by
    apply Int.le_of_not_gt
    intro hlt
    have := Int.mul_le_mul_of_nonneg_left (show m + 1 ≤ q by omega) (show 0 ≤ to by omega)
    rw [Int.mul_add, Int.mul_comm to m] at this
    omega
  have e2 : m ≤ q := by
    apply Int.le_of_not_gt
    intro hlt
    have := Int.mul_le_mul_of_nonneg_left (show q + 1 ≤ m by omega) (show 0 ≤ to by omega)
    rw [Int.mul_add, Int.mul_comm to m] at this
    omega
  rw [show m = q by omega, Int.mul_comm]
theorem up_left (n to : Int) (hn : 1 ≤ n) (ht : 1 ≤ to) (h : n % to ≠ 0) : ((n - 1) / to + 1) * to = n - n % to + to := by
  have h1 := Int.emod_add_mul_ediv n to
  have h2 := Int.emod_nonneg n (show to ≠ 0 by omega)
  have h3 := Int.emod_lt_of_pos n (show 0 < to by omega)
  have h4 : (n - 1) / to = n / to := by
    have e : n - 1 = (n % to - 1) + to * (n / to) := by omega
    have e2 : (n - 1) / to = ((n % to - 1) + to * (n / to)) / to := by rw [← e]
    rw [e2, Int.add_mul_ediv_left _ _ (show to ≠ 0 by omega), Int.ediv_eq_zero_of_lt (by omega) (by omega), Int.zero_add]
  rw [h4, Int.add_mul, Int.one_mul]
  have h5 : n / to * to = to * (n / to) := Int.mul_comm _ _
  omega

theorem up_wrap (n to : Int) (h1 : 1 ≤ n) (h2 : 1 ≤ to) (h3 : n ≤ 9223372036854775807) (h4 : to ≤ 9223372036854775807) :
    IntKind.u64.wrap (IntKind.u64.wrap ((n - 1) / to + 1) * to) = ((n - 1) / to + 1) * to := by
  have hq := up_mul_lt n to h1 h2
  have h5 : 0 ≤ (n - 1) / to := Int.ediv_nonneg (by omega) (by omega)
  have h6 : (n - 1) / to ≤ n - 1 := Int.ediv_le_self _ (by omega)
  rw [IntWalk.u64_in ((n - 1) / to + 1) ⟨by omega, by omega⟩, IntWalk.u64_in _ ⟨by omega, by omega⟩]
theorem mk_step (k : Nat) (h : k < 64) : IntKind.u64.wrap (IntKind.u64.wrap (2 * (mk k : Int)) + 1) = (mk (k + 1) : Int) := by
  have h1 := mk_lt k
  have h2 := pow_lt64 h
  rw [mk_succ, IntWalk.u64_in (2 * (mk k : Int)) ⟨by omega, by omega⟩, IntWalk.u64_in _ ⟨by omega, by omega⟩]
  omega

theorem bit_val (N k : Nat) : (N : Int) / 2 ^ k % 2 = ((N / 2 ^ k % 2 : Nat) : Int) := by simp
theorem rturn_step (N k : Nat) (h : k < 64) :
    IntKind.u64.wrap (IntKind.u64.wrap (2 * (rv N k : Int)) + ((N / 2 ^ k % 2 : Nat) : Int)) = (rv N (k + 1) : Int) := by
  have h1 := rv_lt N k
  have h2 := pow_lt64 h
  have e : rv N (k + 1) = 2 * rv N k + N / 2 ^ k % 2 := rfl
  rw [e, IntWalk.u64_in (2 * (rv N k : Int)) ⟨by omega, by omega⟩, IntWalk.u64_in _ ⟨by omega, by omega⟩]
  omega
theorem up_far (n to : Int) (h1 : 1 ≤ n) (h2 : 1 ≤ to) (h : 4611686018427387904 < n ∨ 4611686018427387904 < to) : up n to = 0 := by
  have g := up_mul_ge n to h1 h2
  have g0 : 0 ≤ (n - 1) / to := Int.ediv_nonneg (by omega) (by omega)
  have g1 : 0 ≤ (n - 1) / to * to := Int.mul_nonneg g0 (by omega)
  have g2 : ((n - 1) / to + 1) * to = (n - 1) / to * to + to := by rw [Int.add_mul, Int.one_mul]
  unfold up
  rw [if_neg (by omega), if_pos (by omega)]
theorem up_at0 (n to : Int) (h1 : 1 ≤ n) (h2 : 1 ≤ to) (h3 : n ≤ 4611686018427387904) (h : n % to = 0) : up n to = n := by
  have g := up_left0 n to h1 h2 h
  unfold up
  rw [if_neg (by omega), g, if_neg (by omega)]
theorem up_at1 (n to : Int) (h1 : 1 ≤ n) (h2 : 1 ≤ to) (h : n % to ≠ 0) (h3 : 4611686018427387904 - to < n - n % to) : up n to = 0 := by
  have g := up_left n to h1 h2 h
  unfold up
  rw [if_neg (by omega), g, if_pos (by omega)]
theorem up_at2 (n to : Int) (h1 : 1 ≤ n) (h2 : 1 ≤ to) (h : n % to ≠ 0) (h3 : ¬ 4611686018427387904 - to < n - n % to) : up n to = n - n % to + to := by
  have g := up_left n to h1 h2 h
  unfold up
  rw [if_neg (by omega), g, if_neg (by omega)]

/-- bytes as a string -/
def bstr (l : List UInt8) : ByteArray := ⟨l.toArray⟩

end Go.Proofs.YtkegkfmikplgdaaDoor.M

/- The plain mathematics of layer 1, on: bytes as strings. No program. -/
namespace Go.Proofs.YtkegkfmikplgdaaDoor.M
open Go
set_option linter.unusedVariables false

theorem le_length (n k : Nat) : (le n k).length = k := by
  induction k generalizing n with
  | zero => rfl
  | succ k ih => simp [le, ih]

/-- the bytes, place by place -/
theorem le_eq (n k : Nat) : le n k = (List.range k).map fun j => UInt8.ofNat (n / 256 ^ j % 256) := by
  induction k generalizing n with
  | zero => rfl
  | succ k ih =>
    rw [le, ih, List.range_succ_eq_map, List.map_cons, List.map_map]
    congr 1
    · simp
    · apply List.map_congr_left
      intro j _
      simp only [Function.comp]
      rw [Nat.div_div_eq_div_mul, Nat.pow_succ', Nat.mul_comm]

theorem foldl_push (ns : List Int) (s : ByteArray) : ns.foldl (fun r n => r.push (UInt8.ofNat n.toNat)) s = ⟨(s.data.toList ++ ns.map fun n => UInt8.ofNat n.toNat).toArray⟩ := by
  induction ns generalizing s with
  | nil => simp
  | cons n ns ih =>
    rw [List.foldl_cons, ih]
    simp [ByteArray.push]

theorem str_le (N s : Nat) (f : Nat → Int) (hf : ∀ j, j < s → f j = ((N / 256 ^ j % 256 : Nat) : Int)) :
    ((List.range s).map f).foldl (fun r n => r.push (UInt8.ofNat n.toNat)) ByteArray.empty = bstr (le N s) := by
  rw [foldl_push, le_eq]
  unfold bstr
  congr 1
  simp only [List.map_map]
  show ([] ++ _).toArray = _
  rw [List.nil_append]
  congr 1
  apply List.map_congr_left
  intro j hj
  simp only [Function.comp]
  rw [hf j (List.mem_range.1 hj), Int.toNat_natCast]

theorem byte_step (N k : Nat) : (N : Int) / 2 ^ (8 * k) % 256 = ((N / 256 ^ k % 256 : Nat) : Int) := by
  rw [Int.natCast_emod, Int.natCast_ediv, Int.natCast_pow]
  rw [show ((256 : Nat) : Int) = 2 ^ 8 from rfl, ← Int.pow_mul]
  rfl

theorem vl_snoc (l : List UInt8) (b : UInt8) : vl (l ++ [b]) = vl l + 256 ^ l.length * b.toNat := by
  induction l with
  | nil => simp [vl]
  | cons x l ih =>
    simp only [List.cons_append, vl, ih, List.length_cons, Nat.pow_succ]
    rw [Nat.mul_add, Nat.mul_comm (256 ^ l.length) 256, Nat.mul_assoc]
    omega
theorem vl_lt (l : List UInt8) : vl l < 256 ^ l.length := by
  induction l with
  | nil => simp [vl]
  | cons x l ih =>
    have := x.toNat_lt
    simp only [vl, List.length_cons, Nat.pow_succ]
    omega
theorem size_list (s : ByteArray) : s.data.toList.length = s.size := by rw [Array.length_toList]; rfl
theorem byte_at (s : ByteArray) (i : Nat) (h : i < s.size) : s.data.toList[i]'(by rw [size_list]; exact h) = s[i] := by
  rw [Array.getElem_toList]; rfl
theorem take_next (s : ByteArray) (a m : Nat) (h : a + m < s.size) : (s.data.toList.drop a).take (m + 1) = (s.data.toList.drop a).take m ++ [s[a + m]] := by
  have hl := size_list s
  rw [List.take_succ_eq_append_getElem (by rw [List.length_drop]; omega), List.getElem_drop, byte_at s (a + m) h]
theorem pow256 (k : Nat) : (256 : Nat) ^ k = 2 ^ (8 * k) := by rw [Nat.pow_mul]
theorem pow256_le {k m : Nat} (h : k ≤ m) : (256 : Nat) ^ k ≤ 256 ^ m := Nat.pow_le_pow_right (by decide) h

theorem or_high (x b i : Nat) (h : x < 2 ^ i) : x ||| b * 2 ^ i = x + 2 ^ i * b := by
  have := Nat.two_pow_add_eq_or_of_lt h b
  rw [Nat.or_comm, Nat.mul_comm b, ← this, Nat.add_comm]

/-- a round of Get -/
theorem get_step (s : ByteArray) (a m : Nat) (h : a + m < s.size) (hm : m < 8) :
    bits .or .u64 (vl ((s.data.toList.drop a).take m) : Int) (IntKind.u64.wrap (IntKind.u64.wrap (s[a + m].toNat : Int) * 2 ^ (8 * m))) = (vl ((s.data.toList.drop a).take (m + 1)) : Int) := by
  have hl := size_list s
  have hlen : ((s.data.toList.drop a).take m).length = m := by rw [List.length_take, List.length_drop]; omega
  have h1 := vl_lt ((s.data.toList.drop a).take m)
  rw [hlen] at h1
  have hb := s[a + m].toNat_lt
  rw [take_next s a m h, vl_snoc, hlen]
  generalize vl ((s.data.toList.drop a).take m) = x at *
  generalize s[a + m].toNat = b at *
  have hp : 256 ^ (m + 1) ≤ 256 ^ 8 := pow256_le (by omega)
  have hq : 256 ^ m * b ≤ 256 ^ m * 255 := Nat.mul_le_mul_left _ (by omega)
  have hr : 256 ^ m ≤ 256 ^ 7 := pow256_le (by omega)
  have e8 : (256 : Nat) ^ 8 = 18446744073709551616 := by decide
  rw [Nat.pow_succ] at hp
  have e1 : IntKind.u64.wrap (b : Int) = (b : Int) := wrap_nat_lt b (by omega)
  have e2 : (b : Int) * 2 ^ (8 * m) = ((b * 2 ^ (8 * m) : Nat) : Int) := by rw [Int.natCast_mul, Int.natCast_pow]; rfl
  have e3 : b * 2 ^ (8 * m) = 256 ^ m * b := by rw [← pow256, Nat.mul_comm]
  have hlt : b * 2 ^ (8 * m) < 18446744073709551616 := by rw [e3]; omega
  have hx : x < 2 ^ (8 * m) := by rw [← pow256]; exact h1
  rw [e1, e2, wrap_nat_lt _ hlt, bits_or_u64_nat _ _ (by omega) hlt, or_high x b _ hx, ← pow256]

/-- a round of the document's Get: the bytes from the last one on -/
theorem rget_step (s : ByteArray) (i m : Nat) (h : i < s.size) (hm : m < 8) :
    IntKind.u64.wrap (IntKind.u64.wrap (256 * (vl ((s.data.toList.drop (i + 1)).take m) : Int)) + IntKind.u64.wrap (s[i].toNat : Int)) = (vl ((s.data.toList.drop i).take (m + 1)) : Int) := by
  have hl := size_list s
  have hb := s[i].toNat_lt
  have h1 := vl_lt ((s.data.toList.drop (i + 1)).take m)
  have hlen : ((s.data.toList.drop (i + 1)).take m).length ≤ m := List.length_take_le _ _
  have h2 : 256 ^ ((s.data.toList.drop (i + 1)).take m).length ≤ 256 ^ 7 := pow256_le (by omega)
  have e7 : (256 : Nat) ^ 7 = 72057594037927936 := by decide
  have e : (s.data.toList.drop i).take (m + 1) = s[i] :: (s.data.toList.drop (i + 1)).take m := by
    rw [List.drop_eq_getElem_cons (by omega), List.take_succ_cons, byte_at s i h]
  rw [e, vl]
  generalize vl ((s.data.toList.drop (i + 1)).take m) = x at *
  generalize s[i].toNat = b at *
  rw [IntWalk.u64_in (256 * (x : Int)) ⟨by omega, by omega⟩, IntWalk.u64_in (b : Int) ⟨by omega, by omega⟩, IntWalk.u64_in _ ⟨by omega, by omega⟩]
  omega

/-- the bytes as numbers -/
def bys (N k : Nat) : List Int := (List.range k).map fun j => ((N / 256 ^ j % 256 : Nat) : Int)
theorem bys_length (N k : Nat) : (bys N k).length = k := by simp [bys]
theorem bys_succ (N k : Nat) : bys N (k + 1) = bys N k ++ [(N : Int) / 256 ^ k % 256] := by
  unfold bys
  rw [List.range_succ, List.map_append]
  simp
theorem bys_le (N k : Nat) : (bys N k).map (fun n => UInt8.ofNat n.toNat) = le N k := by
  rw [le_eq]
  unfold bys
  rw [List.map_map]
  apply List.map_congr_left
  intro j _
  simp only [Function.comp]
  rw [Int.toNat_natCast]
theorem cast_pow256 (k : Nat) : (256 : Int) ^ k = ((256 ^ k : Nat) : Int) := by simp
theorem d256_nonneg (N k : Nat) : 0 ≤ (N : Int) / 256 ^ k := by
  rw [cast_pow256, ← Int.natCast_ediv]; exact Int.natCast_nonneg _
theorem d256_le (N k : Nat) (hN : N < big) : (N : Int) / 256 ^ k ≤ 18446744073709551615 := by
  rw [cast_pow256, ← Int.natCast_ediv]
  have : N / 256 ^ k ≤ N := Nat.div_le_self _ _
  unfold big at hN
  omega
theorem d256_step (N k : Nat) : (N : Int) / 256 ^ k / 256 = (N : Int) / 256 ^ (k + 1) := by
  rw [cast_pow256, cast_pow256, ← Int.natCast_ediv, ← Int.natCast_ediv, ← div_pow256]
  rfl
theorem d256_zero (N k : Nat) : (N : Int) / 256 ^ k = 0 ↔ N < 256 ^ k := by
  have hp : 0 < 256 ^ k := Nat.pow_pos (by decide)
  rw [cast_pow256, ← Int.natCast_ediv]
  constructor
  · intro h
    have h' : N / 256 ^ k = 0 := by omega
    rcases (Nat.div_eq_zero_iff).1 h' with g | g
    · omega
    · exact g
  · intro h
    rw [Nat.div_eq_of_lt h]; rfl

end Go.Proofs.YtkegkfmikplgdaaDoor.M

/- The plain mathematics of layer 1, on: bits turned about and back. No program. -/
namespace Go.Proofs.YtkegkfmikplgdaaDoor.M
open Go
set_option linter.unusedVariables false

theorem rv_zero (k : Nat) : rv 0 k = 0 := by
  induction k with
  | zero => rfl
  | succ k ih => simp [rv, ih]
theorem rv_split (n a b : Nat) : rv n (a + b) = rv n a * 2 ^ b + rv (n / 2 ^ a) b := by
  induction b with
  | zero => simp [rv]
  | succ b ih =>
    show 2 * rv n (a + b) + n / 2 ^ (a + b) % 2 = rv n a * 2 ^ (b + 1) + (2 * rv (n / 2 ^ a) b + n / 2 ^ a / 2 ^ b % 2)
    rw [ih, Nat.div_div_eq_div_mul, ← Nat.pow_add, Nat.pow_succ, Nat.mul_add]
    have : 2 * (rv n a * 2 ^ b) = rv n a * (2 ^ b * 2) := by rw [Nat.mul_comm (2 ^ b) 2, ← Nat.mul_assoc, ← Nat.mul_assoc, Nat.mul_comm 2]
    omega
theorem rv_front (m k : Nat) : rv m (k + 1) = m % 2 * 2 ^ k + rv (m / 2) k := by
  have := rv_split m 1 k
  rw [Nat.add_comm 1 k] at this
  simpa [rv] using this
theorem mod_pow_succ (n k : Nat) : n % 2 ^ (k + 1) = n % 2 ^ k + 2 ^ k * (n / 2 ^ k % 2) := by
  rw [Nat.pow_succ, Nat.mod_mul]
/-- turned twice -/
theorem rv_rv (n k : Nat) : rv (rv n k) k = n % 2 ^ k := by
  induction k with
  | zero => simp [rv, Nat.mod_one]
  | succ k ih =>
    rw [rv_front]
    have e1 : rv n (k + 1) % 2 = n / 2 ^ k % 2 := by simp only [rv]; omega
    have e2 : rv n (k + 1) / 2 = rv n k := by simp only [rv]; omega
    rw [e1, e2, ih, mod_pow_succ, Nat.mul_comm]
    omega
/-- bits below k alone count -/
theorem rv_mod (n k m : Nat) (h : k ≤ m) : rv (n % 2 ^ m) k = rv n k := by
  induction k with
  | zero => rfl
  | succ k ih =>
    simp only [rv]
    rw [ih (by omega)]
    congr 1
    have h1 := Nat.testBit_mod_two_pow n m k
    rw [Nat.testBit_eq_decide_div_mod_eq, Nat.testBit_eq_decide_div_mod_eq] at h1
    have h2 : k < m := by omega
    simp only [h2, decide_true, Bool.true_and, decide_eq_decide] at h1
    omega
/-- the greatest bit, turned -/
theorem lg_nat (n : Nat) (h : n ≠ 0) : lg n = (n.log2 : Int) := by unfold lg; rw [if_neg h]
theorem log_lt {n k : Nat} (h : n ≠ 0) (hk : n < 2 ^ k) : n.log2 < k := (Nat.log2_lt h).2 hk
theorem log_div {n : Nat} (h : n ≠ 0) : n / 2 ^ n.log2 = 1 := by
  have h1 : 2 ^ n.log2 ≤ n := Nat.log2_self_le h
  have h2 : n < 2 ^ (n.log2 + 1) := Nat.lt_log2_self
  have hp : 0 < 2 ^ n.log2 := Nat.two_pow_pos _
  rw [Nat.pow_succ] at h2
  have h3 : 1 ≤ n / 2 ^ n.log2 := (Nat.le_div_iff_mul_le hp).2 (by omega)
  have h4 : n / 2 ^ n.log2 < 2 := Nat.div_lt_of_lt_mul (by omega)
  omega
theorem rv_top (low k : Nat) (h : low ≠ 0) (hk : low < 2 ^ k) : rv low k = rv low (low.log2 + 1) * 2 ^ (k - 1 - low.log2) := by
  have h1 := log_lt h hk
  have h2 : low < 2 ^ (low.log2 + 1) := Nat.lt_log2_self
  have e : k = (low.log2 + 1) + (k - 1 - low.log2) := by omega
  have h3 := rv_split low (low.log2 + 1) (k - 1 - low.log2)
  rw [← e, Nat.div_eq_of_lt h2, rv_zero, Nat.add_zero] at h3
  exact h3
theorem rv_top_shift (low k : Nat) (h : low ≠ 0) (hk : low < 2 ^ k) : rv low k / 2 ^ (k - 1 - low.log2) % 2 = 1 := by
  rw [rv_top low k h hk, Nat.mul_div_cancel _ (Nat.two_pow_pos _)]
  simp only [rv]
  rw [log_div h]
  omega
theorem rv_top_low (low k : Nat) (h : low ≠ 0) (hk : low < 2 ^ k) : rv low k % 2 ^ (k - 1 - low.log2) = 0 := by
  rw [rv_top low k h hk]
  exact Nat.mul_mod_left _ _

theorem and_mk (n k : Nat) : n &&& mk k = n % 2 ^ k := Nat.and_two_pow_sub_one_eq_mod n k
theorem mk_big (k : Nat) (h : k ≤ 64) : mk k < big := by
  have h1 := mk_lt k
  have h2 := pow_le64 h
  unfold big; omega
theorem rv_big (n k : Nat) (h : k ≤ 64) : rv n k < big := by
  have h1 := rv_lt n k
  have h2 := pow_le64 h
  unfold big; omega
theorem mod_big (n m : Nat) (h : n < big) : n % m < big := Nat.lt_of_le_of_lt (Nat.mod_le n m) h

/-- n & Mask(k) -/
theorem and_mask (n k : Nat) (hn : n < big) (hk : k ≤ 64) : bits .and .u64 (n : Int) (mk k : Int) = ((n % 2 ^ k : Nat) : Int) := by
  rw [bits_and_u64_nat n (mk k) hn (mk_big k hk), and_mk]

/-- t &^ Mask(k) -/
theorem andNot_mask (x k : Nat) (hx : x < 2 ^ k) (hk : k ≤ 64) : bits .andNot .u64 (x : Int) (mk k : Int) = 0 := by
  have hb : x < big := by have := pow_le64 hk; unfold big; omega
  have hm := mk_big k hk
  have h1 : (BitVec.ofInt 64 (x : Int)).toNat = x := by
    rw [BitVec.ofInt_natCast, BitVec.toNat_ofNat]; exact Nat.mod_eq_of_lt (by rw [← big_eq]; exact hb)
  have h2 : (BitVec.ofInt 64 (mk k : Int)).toNat = mk k := by
    rw [BitVec.ofInt_natCast, BitVec.toNat_ofNat]; exact Nat.mod_eq_of_lt (by rw [← big_eq]; exact hm)
  have h3 : (BitVec.ofInt 64 (x : Int) &&& ~~~ (BitVec.ofInt 64 (mk k : Int))) = 0#64 := by
    generalize BitVec.ofInt 64 (x : Int) = A at *
    generalize BitVec.ofInt 64 (mk k : Int) = B at *
    apply BitVec.eq_of_getLsbD_eq
    intro i hi
    have eA : A.getLsbD i = x.testBit i := by rw [← h1]; exact BitVec.testBit_toNat A
    have eB : B.getLsbD i = (mk k).testBit i := by rw [← h2]; exact BitVec.testBit_toNat B
    rw [BitVec.getLsbD_and, BitVec.getLsbD_not, eA, eB, BitVec.getLsbD_zero]
    by_cases hik : i < k
    · have : (mk k).testBit i = true := by
        unfold mk; rw [Nat.testBit_two_pow_sub_one]; simpa using hik
      simp [this]
    · have : x.testBit i = false := Nat.testBit_lt_two_pow (Nat.lt_of_lt_of_le hx (Nat.pow_le_pow_right (by decide) (by omega)))
      simp [this]
  show IntKind.u64.wrap ((BitVec.ofInt 64 (x : Int) &&& ~~~ (BitVec.ofInt 64 (mk k : Int))).toNat : Int) = 0
  rw [h3]; rfl

theorem up_zero (n to : Int) (h : n < 1 ∨ to < 1) : up n to = 0 := if_pos h
theorem up_pos (n to : Int) (h1 : 1 ≤ n) (h2 : 1 ≤ to) (h3 : n - 1 + to ≤ 4611686018427387904) : up n to = ((n - 1) / to + 1) * to := by
  have := up_mul_lt n to h1 h2
  unfold up
  rw [if_neg (by omega), if_neg (by omega)]
theorem up_facts (n to : Int) (h1 : 1 ≤ n) (h2 : 1 ≤ to) (h3 : n - 1 + to ≤ 4611686018427387904) : n ≤ up n to ∧ up n to - n < to ∧ up n to % to = 0 := by
  have g1 := up_mul_lt n to h1 h2
  have g2 := up_mul_ge n to h1 h2
  rw [up_pos n to h1 h2 h3]
  exact ⟨g2, by omega, Int.mul_emod_left _ _⟩
theorem up_range (n to : Int) : 0 ≤ up n to ∧ up n to ≤ 4611686018427387904 := by
  unfold up
  split
  · omega
  · rename_i h
    have g := up_mul_lt n to (by omega) (by omega)
    split <;> omega
theorem and_one_cast (n : Nat) (hn : n < big) (h : n % 2 = 1) : bits .and .u64 (n : Int) 1 = 1 := by
  have := bits_and_u64_nat n 1 hn (by decide)
  rw [and_one, h] at this
  exact this

theorem le_mod (n a : Nat) : le (n % 256 ^ a) a = le n a := by
  induction a generalizing n with
  | zero => rfl
  | succ a ih =>
    simp only [le]
    have h1 : n % 256 ^ (a + 1) % 256 = n % 256 := by
      rw [Nat.pow_succ', Nat.mod_mul_right_mod]
    have h2 : n % 256 ^ (a + 1) / 256 = n / 256 % 256 ^ a := by
      rw [Nat.pow_succ', Nat.mod_mul_right_div_self]
    rw [h1, h2, ih]
theorem le_add (n a b : Nat) : le n (a + b) = le n a ++ le (n / 256 ^ a) b := by
  induction a generalizing n with
  | zero => simp [le]
  | succ a ih =>
    rw [show a + 1 + b = (a + b) + 1 by omega]
    simp only [le, List.cons_append]
    rw [ih, Nat.div_div_eq_div_mul, Nat.pow_succ']
theorem bstr_append (a b : List UInt8) : bstr a ++ bstr b = bstr (a ++ b) := by
  apply ByteArray.ext
  rw [ByteArray.data_append]
  simp [bstr]
theorem bstr_cut (n a b : Nat) : bstr (le (n % 256 ^ a) a) ++ bstr (le (n / 256 ^ a) b) = bstr (le n (a + b)) := by
  rw [bstr_append, le_mod, le_add]

theorem bstr_size (l : List UInt8) : (bstr l).size = l.length := by simp [bstr, ByteArray.size]
theorem bstr_le_size (n k : Nat) : (bstr (le n k)).size = k := by rw [bstr_size, le_length]

end Go.Proofs.YtkegkfmikplgdaaDoor.M

/- The plain mathematics of layer 1, on: multiples of multiples; masks that grow. No program. -/
namespace Go.Proofs.YtkegkfmikplgdaaDoor.M
open Go
set_option linter.unusedVariables false

/-- multiples of t that are near are the same -/
theorem near_mul (t p q : Int) (ht : 1 ≤ t) (h : p * t < q * t + t) : p ≤ q := by
  apply Int.le_of_not_gt
  intro g
  have := Int.mul_le_mul_of_nonneg_right (show q + 1 ≤ p by omega) (show 0 ≤ t by omega)
  rw [Int.add_mul, Int.one_mul] at this
  omega
theorem up_uniq (n t q : Int) (h1 : 1 ≤ n) (h2 : 1 ≤ t) (h3 : n - 1 + t ≤ 4611686018427387904) (g1 : n ≤ q * t) (g2 : q * t < n + t) : up n t = q * t := by
  have f1 := up_mul_lt n t h1 h2
  have f2 := up_mul_ge n t h1 h2
  rw [up_pos n t h1 h2 h3]
  have e1 := near_mul t ((n - 1) / t + 1) q h2 (by omega)
  have e2 := near_mul t q ((n - 1) / t + 1) h2 (by omega)
  rw [show (n - 1) / t + 1 = q by omega]
theorem up_form (n t : Int) (h1 : 1 ≤ n) (h2 : 1 ≤ t) (h3 : n - 1 + t ≤ 4611686018427387904) : ∃ q, up n t = q * t ∧ n ≤ q * t ∧ q * t < n + t := by
  have f1 := up_mul_lt n t h1 h2
  have f2 := up_mul_ge n t h1 h2
  exact ⟨_, up_pos n t h1 h2 h3, f2, by omega⟩
theorem up_again (u a b : Int) (hu : 1 ≤ u ∧ u ≤ 65536) (ha : 1 ≤ a ∧ a ≤ 65536) (hb : 1 ≤ b ∧ b ≤ 65536) :
    up (up u a) a = up u a ∧ up u a ≤ up u (a * b) ∧ up (up u a) (a * b) = up u (a * b) ∧ 1 ≤ up u a := by
  have hab1 : 1 * 1 ≤ a * b := Int.mul_le_mul ha.1 hb.1 (by omega) (by omega)
  have hab2 : a * b ≤ 65536 * 65536 := Int.mul_le_mul ha.2 hb.2 (by omega) (by omega)
  obtain ⟨p, e1, e2, e3⟩ := up_form u a hu.1 ha.1 (by omega)
  obtain ⟨q, f1, f2, f3⟩ := up_form u (a * b) hu.1 (by omega) (by omega)
  rw [e1, f1]
  have g1 : up (p * a) a = p * a := up_uniq _ _ _ (by omega) ha.1 (by omega) (by omega) (by omega)
  have e4 : q * (a * b) = q * b * a := by rw [Int.mul_comm a b, Int.mul_assoc]
  have g2 : p ≤ q * b := near_mul a p (q * b) ha.1 (by rw [← e4]; omega)
  have g3 : p * a ≤ q * (a * b) := by
    rw [e4]
    exact Int.mul_le_mul_of_nonneg_right g2 (by omega)
  exact ⟨g1, g3, up_uniq _ _ _ (by omega) (by omega) (by omega) g3 (by omega), by omega⟩

/-- masks grow bit by bit -/
theorem mask_grow (K : Nat) (h : K < 64) : bits .or .u64 (IntKind.u64.wrap ((mk K : Int) * 2)) 1 = (mk (K + 1) : Int) := by
  have h1 := mk_lt K
  have h2 := pow_lt64 h
  have e1 : IntKind.u64.wrap ((mk K : Int) * 2) = ((2 * mk K : Nat) : Int) := by
    rw [show ((mk K : Int) * 2) = ((2 * mk K : Nat) : Int) by omega]
    exact wrap_nat_lt _ (by omega)
  have e2 := bits_or_u64_nat (2 * mk K) 1 (by omega) (by decide)
  rw [or_bit _ _ (by omega), ← mk_succ] at e2
  rw [e1]
  exact e2
theorem mask_less (K : Nat) (h : K < 64) : bits .andNot .u64 (mk K : Int) (mk (K + 1) : Int) = 0 := by
  have h1 := mk_lt K
  exact andNot_mask (mk K) (K + 1) (by rw [Nat.pow_succ]; omega) (by omega)

theorem lg_mono (n m : Nat) (h : n ≤ m) : lg n ≤ lg m := by
  by_cases hn : n = 0
  · subst hn; have := lg_ge m; rw [lg_zero]; exact this
  · have hm : m ≠ 0 := by omega
    rw [lg_nat n hn, lg_nat m hm]
    have h1 : 2 ^ n.log2 ≤ n := Nat.log2_self_le hn
    have h2 : n.log2 ≤ m.log2 := (Nat.le_log2 hm).2 (by omega)
    omega
theorem and63 (G : Nat) (h : G < 64) : bits .and .i64 (G : Int) 63 = (G : Int) := by
  have e := bits_mask .i64 63 (by decide) (fun n h1 h2 => by rw [IntKind.wrap_i64]; omega) 6 (by decide) (G : Int) (by omega) (by omega)
  have e' : bits .and .i64 (G : Int) 63 = (G : Int) % 64 := e
  rw [e']
  omega

end Go.Proofs.YtkegkfmikplgdaaDoor.M

/- The plain mathematics of layer 1, on: bytes as numbers and back. No program. -/
namespace Go.Proofs.YtkegkfmikplgdaaDoor.M
open Go
set_option linter.unusedVariables false

theorem vl_le (n k : Nat) : vl (le n k) = n % 256 ^ k := by
  induction k generalizing n with
  | zero => simp [le, vl, Nat.mod_one]
  | succ k ih =>
    simp only [le, vl, ih]
    have h : (UInt8.ofNat (n % 256)).toNat = n % 256 := by simp
    rw [h, Nat.pow_succ', Nat.mod_mul]
theorem le_vl (l : List UInt8) : le (vl l) l.length = l := by
  induction l with
  | nil => rfl
  | cons b r ih =>
    have hb := b.toNat_lt
    have e1 : (b.toNat + 256 * vl r) % 256 = b.toNat := by omega
    have e2 : (b.toNat + 256 * vl r) / 256 = vl r := by omega
    simp only [List.length_cons, le, vl]
    rw [e1, e2, ih, UInt8.ofNat_toNat]
theorem bstr_inj (a b : List UInt8) (h : bstr a = bstr b) : a = b := by
  have := congrArg (fun s : ByteArray => s.data.toList) h
  simpa [bstr] using this
theorem bstr_ne (n m k : Nat) (hn : n < 256 ^ k) (hm : m < 256 ^ k) (h : n ≠ m) : bstr (le n k) ≠ bstr (le m k) := by
  intro g
  have := congrArg vl (bstr_inj _ _ g)
  rw [vl_le, vl_le, Nat.mod_eq_of_lt hn, Nat.mod_eq_of_lt hm] at this
  exact h this
theorem bstr_data (s : ByteArray) : bstr s.data.toList = s := by
  apply ByteArray.ext
  simp [bstr]
/-- what was put between two texts is got -/
theorem got_between (x y : ByteArray) (n k : Nat) (hn : n < 256 ^ k) : vl (((x ++ bstr (le n k) ++ y).data.toList.drop x.size).take k) = n := by
  have e : (x ++ bstr (le n k) ++ y).data.toList = x.data.toList ++ (le n k ++ y.data.toList) := by
    simp [ByteArray.data_append, bstr]
  have hl := le_length n k
  rw [e, List.drop_left' (size_list x), List.take_left' hl, vl_le, Nat.mod_eq_of_lt hn]
theorem vl_take_lt (s : ByteArray) (k : Nat) (h : k ≤ s.size) : vl (s.data.toList.take k) < 256 ^ k := by
  have h1 := vl_lt (s.data.toList.take k)
  have hl := size_list s
  rwa [List.length_take, show min k s.data.toList.length = k by omega] at h1
theorem put_take (s : ByteArray) (k : Nat) (h : k ≤ s.size) : bstr (le (vl (s.data.toList.take k)) k) = bstr (s.data.toList.take k) := by
  have hl := size_list s
  have e := le_vl (s.data.toList.take k)
  rw [List.length_take, show min k s.data.toList.length = k by omega] at e
  rw [e]

theorem take_extract (s : ByteArray) (k : Nat) : bstr (s.data.toList.take k) = s.extract 0 k := by
  apply ByteArray.ext
  rw [ByteArray.data_extract]
  apply Array.ext'
  simp [bstr]

end Go.Proofs.YtkegkfmikplgdaaDoor.M
