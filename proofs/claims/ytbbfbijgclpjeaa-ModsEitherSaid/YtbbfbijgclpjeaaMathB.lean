/- The plain mathematics of layer 1, on: bytes as strings. No program. -/
import Derived.Test.YtbbfbijgclpjeaaMath
namespace Go.Proofs.Ytbbfbijgclpjeaa.M
open Go
set_option linter.unusedVariables false

theorem le_length (n k : Nat) : (le n k).length = k := by
  induction k generalizing n with
  | zero => rfl
  | succ k ih => simp [le, ih]

/-- the bytes, place by place -/
theorem le_eq (n k : Nat) : le n k = (List.range k).map fun j => UInt8.ofNat (n / 256 ^ j % 256) := by
  induction k generalizing n with
  | zero => rfl
  | succ k ih =>
    rw [le, ih, List.range_succ_eq_map, List.map_cons, List.map_map]
    congr 1
    · simp
    · apply List.map_congr_left
      intro j _
      simp only [Function.comp]
      rw [Nat.div_div_eq_div_mul, Nat.pow_succ', Nat.mul_comm]

theorem foldl_push (ns : List Int) (s : ByteArray) : ns.foldl (fun r n => r.push (UInt8.ofNat n.toNat)) s = ⟨(s.data.toList ++ ns.map fun n => UInt8.ofNat n.toNat).toArray⟩ := by
  induction ns generalizing s with
  | nil => simp
  | cons n ns ih =>
    rw [List.foldl_cons, ih]
    simp [ByteArray.push]

theorem str_le (N s : Nat) (f : Nat → Int) (hf : ∀ j, j < s → f j = ((N / 256 ^ j % 256 : Nat) : Int)) :
    ((List.range s).map f).foldl (fun r n => r.push (UInt8.ofNat n.toNat)) ByteArray.empty = bstr (le N s) := by
  rw [foldl_push, le_eq]
  unfold bstr
  congr 1
  simp only [List.map_map]
  show ([] ++ _).toArray = _
  rw [List.nil_append]
  congr 1
  apply List.map_congr_left
  intro j hj
  simp only [Function.comp]
  rw [hf j (List.mem_range.1 hj), Int.toNat_natCast]

theorem byte_step (N k : Nat) : (N : Int) / 2 ^ (8 * k) % 256 = ((N / 256 ^ k % 256 : Nat) : Int) := by
  rw [Int.natCast_emod, Int.natCast_ediv, Int.natCast_pow]
  rw [show ((256 : Nat) : Int) = 2 ^ 8 from rfl, ← Int.pow_mul]
  rfl

theorem vl_snoc (l : List UInt8) (b : UInt8) : vl (l ++ [b]) = vl l + 256 ^ l.length * b.toNat := by
  induction l with
  | nil => simp [vl]
  | cons x l ih =>
    simp only [List.cons_append, vl, ih, List.length_cons, Nat.pow_succ]
    rw [Nat.mul_add, Nat.mul_comm (256 ^ l.length) 256, Nat.mul_assoc]
    omega
theorem vl_lt (l : List UInt8) : vl l < 256 ^ l.length := by
  induction l with
  | nil => simp [vl]
  | cons x l ih =>
    have := x.toNat_lt
    simp only [vl, List.length_cons, Nat.pow_succ]
    omega
theorem size_list (s : ByteArray) : s.data.toList.length = s.size := by rw [Array.length_toList]; rfl
theorem byte_at (s : ByteArray) (i : Nat) (h : i < s.size) : s.data.toList[i]'(by rw [size_list]; exact h) = s[i] := by
  rw [Array.getElem_toList]; rfl
theorem take_next (s : ByteArray) (a m : Nat) (h : a + m < s.size) : (s.data.toList.drop a).take (m + 1) = (s.data.toList.drop a).take m ++ [s[a + m]] := by
  have hl := size_list s
  rw [List.take_succ_eq_append_getElem (by rw [List.length_drop]; omega), List.getElem_drop, byte_at s (a + m) h]
theorem pow256 (k : Nat) : (256 : Nat) ^ k = 2 ^ (8 * k) := by rw [Nat.pow_mul]
theorem pow256_le {k m : Nat} (h : k ≤ m) : (256 : Nat) ^ k ≤ 256 ^ m := Nat.pow_le_pow_right (by decide) h

theorem or_high (x b i : Nat) (h : x < 2 ^ i) : x ||| b * 2 ^ i = x + 2 ^ i * b := by
  have := Nat.two_pow_add_eq_or_of_lt h b
  rw [Nat.or_comm, Nat.mul_comm b, ← this, Nat.add_comm]

/-- a round of Get -/
theorem get_step (s : ByteArray) (a m : Nat) (h : a + m < s.size) (hm : m < 8) :
    bits .or .u64 (vl ((s.data.toList.drop a).take m) : Int) (IntKind.u64.wrap (IntKind.u64.wrap (s[a + m].toNat : Int) * 2 ^ (8 * m))) = (vl ((s.data.toList.drop a).take (m + 1)) : Int) := by
  have hl := size_list s
  have hlen : ((s.data.toList.drop a).take m).length = m := by rw [List.length_take, List.length_drop]; omega
  have h1 := vl_lt ((s.data.toList.drop a).take m)
  rw [hlen] at h1
  have hb := s[a + m].toNat_lt
  rw [take_next s a m h, vl_snoc, hlen]
  generalize vl ((s.data.toList.drop a).take m) = x at *
  generalize s[a + m].toNat = b at *
  have hp : 256 ^ (m + 1) ≤ 256 ^ 8 := pow256_le (by omega)
  have hq : 256 ^ m * b ≤ 256 ^ m * 255 := Nat.mul_le_mul_left _ (by omega)
  have hr : 256 ^ m ≤ 256 ^ 7 := pow256_le (by omega)
  have e8 : (256 : Nat) ^ 8 = 18446744073709551616 := by decide
  rw [Nat.pow_succ] at hp
  have e1 : IntKind.u64.wrap (b : Int) = (b : Int) := wrap_nat_lt b (by omega)
  have e2 : (b : Int) * 2 ^ (8 * m) = ((b * 2 ^ (8 * m) : Nat) : Int) := by rw [Int.natCast_mul, Int.natCast_pow]; rfl
  have e3 : b * 2 ^ (8 * m) = 256 ^ m * b := by rw [← pow256, Nat.mul_comm]
  have hlt : b * 2 ^ (8 * m) < 18446744073709551616 := by rw [e3]; omega
  have hx : x < 2 ^ (8 * m) := by rw [← pow256]; exact h1
  rw [e1, e2, wrap_nat_lt _ hlt, bits_or_u64_nat _ _ (by omega) hlt, or_high x b _ hx, ← pow256]

/-- a round of the document's Get: the bytes from the last one on -/
theorem rget_step (s : ByteArray) (i m : Nat) (h : i < s.size) (hm : m < 8) :
    IntKind.u64.wrap (IntKind.u64.wrap (256 * (vl ((s.data.toList.drop (i + 1)).take m) : Int)) + IntKind.u64.wrap (s[i].toNat : Int)) = (vl ((s.data.toList.drop i).take (m + 1)) : Int) := by
  have hl := size_list s
  have hb := s[i].toNat_lt
  have h1 := vl_lt ((s.data.toList.drop (i + 1)).take m)
  have hlen : ((s.data.toList.drop (i + 1)).take m).length ≤ m := List.length_take_le _ _
  have h2 : 256 ^ ((s.data.toList.drop (i + 1)).take m).length ≤ 256 ^ 7 := pow256_le (by omega)
  have e7 : (256 : Nat) ^ 7 = 72057594037927936 := by decide
  have e : (s.data.toList.drop i).take (m + 1) = s[i] :: (s.data.toList.drop (i + 1)).take m := by
    rw [List.drop_eq_getElem_cons (by omega), List.take_succ_cons, byte_at s i h]
  rw [e, vl]
  generalize vl ((s.data.toList.drop (i + 1)).take m) = x at *
  generalize s[i].toNat = b at *
  rw [IntWalk.u64_in (256 * (x : Int)) ⟨by omega, by omega⟩, IntWalk.u64_in (b : Int) ⟨by omega, by omega⟩, IntWalk.u64_in _ ⟨by omega, by omega⟩]
  omega

/-- the bytes as numbers -/
def bys (N k : Nat) : List Int := (List.range k).map fun j => ((N / 256 ^ j % 256 : Nat) : Int)
theorem bys_length (N k : Nat) : (bys N k).length = k := by simp [bys]
theorem bys_succ (N k : Nat) : bys N (k + 1) = bys N k ++ [(N : Int) / 256 ^ k % 256] := by
  unfold bys
  rw [List.range_succ, List.map_append]
  simp
theorem bys_le (N k : Nat) : (bys N k).map (fun n => UInt8.ofNat n.toNat) = le N k := by
  rw [le_eq]
  unfold bys
  rw [List.map_map]
  apply List.map_congr_left
  intro j _
  simp only [Function.comp]
  rw [Int.toNat_natCast]
theorem cast_pow256 (k : Nat) : (256 : Int) ^ k = ((256 ^ k : Nat) : Int) := by simp
theorem d256_nonneg (N k : Nat) : 0 ≤ (N : Int) / 256 ^ k := by
  rw [cast_pow256, ← Int.natCast_ediv]; exact Int.natCast_nonneg _
theorem d256_le (N k : Nat) (hN : N < big) : (N : Int) / 256 ^ k ≤ 18446744073709551615 := by
  rw [cast_pow256, ← Int.natCast_ediv]
  have : N / 256 ^ k ≤ N := Nat.div_le_self _ _
  unfold big at hN
  omega
theorem d256_step (N k : Nat) : (N : Int) / 256 ^ k / 256 = (N : Int) / 256 ^ (k + 1) := by
  rw [cast_pow256, cast_pow256, ← Int.natCast_ediv, ← Int.natCast_ediv, ← div_pow256]
  rfl
theorem d256_zero (N k : Nat) : (N : Int) / 256 ^ k = 0 ↔ N < 256 ^ k := by
  have hp : 0 < 256 ^ k := Nat.pow_pos (by decide)
  rw [cast_pow256, ← Int.natCast_ediv]
  constructor
  · intro h
    have h' : N / 256 ^ k = 0 := by omega
    rcases (Nat.div_eq_zero_iff).1 h' with g | g
    · omega
    · exact g
  · intro h
    rw [Nat.div_eq_of_lt h]; rfl

end Go.Proofs.Ytbbfbijgclpjeaa.M
