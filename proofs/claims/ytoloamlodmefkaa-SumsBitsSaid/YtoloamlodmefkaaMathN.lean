/- The plain mathematics of layer 4: Adler-32, in numbers. No program. -/
import Derived.Test.YtoloamlodmefkaaMathK
namespace Go.Proofs.Ytoloamlodmefkaa.M
open Go
set_option linter.unusedVariables false

/-- 65,521, behind a name that the walk does not open -/
def md : Nat := 65521
/-- the two numbers behind a byte -/
def adStep (p : Nat × Nat) (b : Nat) : Nat × Nat := ((p.1 + b) % 65521, (p.2 + (p.1 + b) % 65521) % 65521)
def adp (p : Nat × Nat) (l : List Nat) : Nat × Nat := l.foldl adStep p
def lo (a : Nat) : Nat := a % 65536 % 65521
def hi (a : Nat) : Nat := a / 65536 % 65521
/-- the sum a, gone on over a text -/
def adl (a : Nat) (s : ByteArray) : Nat := (adp (lo a, hi a) (nums s)).2 * 65536 + (adp (lo a, hi a) (nums s)).1
/-- two sums, joined -/
def join (a b n : Nat) : Nat := (hi a + hi b + n % 65521 * (lo a + 65521 - 1)) % 65521 * 65536 + (lo a + 65521 - 1 + lo b) % 65521

def bsum : List Nat → Nat
  | [] => 0
  | b :: r => b + bsum r
def bq : List Nat → Nat
  | [] => 0
  | b :: r => (r.length + 1) * b + bq r

theorem lo_lt (a : Nat) : lo a < 65521 := Nat.mod_lt _ (by decide)
theorem hi_lt (a : Nat) : hi a < 65521 := Nat.mod_lt _ (by decide)
theorem adp_append (p : Nat × Nat) (l m : List Nat) : adp p (l ++ m) = adp (adp p l) m := List.foldl_append
theorem adStep_lt (p : Nat × Nat) (b : Nat) : (adStep p b).1 < 65521 ∧ (adStep p b).2 < 65521 := ⟨Nat.mod_lt _ (by decide), Nat.mod_lt _ (by decide)⟩
theorem adp_lt : ∀ (l : List Nat) (p : Nat × Nat), p.1 < 65521 → p.2 < 65521 → (adp p l).1 < 65521 ∧ (adp p l).2 < 65521
  | [], p, h1, h2 => ⟨h1, h2⟩
  | b :: r, p, _, _ => adp_lt r (adStep p b) (adStep_lt p b).1 (adStep_lt p b).2

theorem adp_one : ∀ (l : List Nat) (p : Nat × Nat), p.1 < 65521 → (adp p l).1 = (p.1 + bsum l) % 65521
  | [], p, h => by show p.1 = _; simp only [bsum]; omega
  | b :: r, p, _ => by
    show (adp (adStep p b) r).1 = _
    rw [adp_one r _ (adStep_lt p b).1]
    simp only [adStep, bsum]
    omega
theorem adp_two : ∀ (l : List Nat) (p : Nat × Nat), p.2 < 65521 → (adp p l).2 = (p.2 + l.length * p.1 + bq l) % 65521
  | [], p, h => by show p.2 = _; simp only [bq, List.length_nil]; omega
  | b :: r, p, _ => by
    show (adp (adStep p b) r).2 = _
    rw [adp_two r _ (adStep_lt p b).2]
    simp only [adStep, bq, List.length_cons]
    have e1 : (r.length * ((p.1 + b) % 65521)) % 65521 = (r.length * (p.1 + b)) % 65521 := by rw [Nat.mul_mod, Nat.mod_mod, ← Nat.mul_mod]
    have e2 : (r.length + 1) * p.1 = r.length * p.1 + p.1 := Nat.succ_mul _ _
    have e3 : (r.length + 1) * b = r.length * b + b := Nat.succ_mul _ _
    have e4 : r.length * (p.1 + b) = r.length * p.1 + r.length * b := Nat.mul_add _ _ _
    rw [e2, e3]
    rw [e4] at e1
    generalize r.length * ((p.1 + b) % 65521) = u at e1 ⊢
    generalize r.length * p.1 = v at e1 ⊢
    generalize r.length * b = x at e1 ⊢
    omega

theorem mk_lo (h l : Nat) (h1 : l < 65521) : lo (h * 65536 + l) = l := by unfold lo; omega
theorem mk_hi (h l : Nat) (h1 : l < 65521) (h2 : h < 65521) : hi (h * 65536 + l) = h := by unfold hi; omega
theorem adl_lo (a : Nat) (s : ByteArray) : lo (adl a s) = (adp (lo a, hi a) (nums s)).1 := mk_lo _ _ (adp_lt _ _ (lo_lt a) (hi_lt a)).1
theorem adl_hi (a : Nat) (s : ByteArray) : hi (adl a s) = (adp (lo a, hi a) (nums s)).2 := mk_hi _ _ (adp_lt _ _ (lo_lt a) (hi_lt a)).1 (adp_lt _ _ (lo_lt a) (hi_lt a)).2
theorem adl_lt (a : Nat) (s : ByteArray) : adl a s < big32 := by
  have h := adp_lt (nums s) (lo a, hi a) (lo_lt a) (hi_lt a)
  unfold adl big32; omega
theorem adl_append (a : Nat) (s t : ByteArray) : adl (adl a s) t = adl a (s ++ t) := by
  show (adp (lo (adl a s), hi (adl a s)) (nums t)).2 * 65536 + (adp (lo (adl a s), hi (adl a s)) (nums t)).1 = (adp (lo a, hi a) (nums (s ++ t))).2 * 65536 + (adp (lo a, hi a) (nums (s ++ t))).1
  rw [adl_lo, adl_hi, nums_append, adp_append]
theorem adl_empty (a : Nat) : adl a ⟨#[]⟩ = hi a * 65536 + lo a := rfl
theorem join_lt (a b n : Nat) : join a b n < big32 := by
  have h1 : (hi a + hi b + n % 65521 * (lo a + 65521 - 1)) % 65521 < 65521 := Nat.mod_lt _ (by decide)
  have h2 : (lo a + 65521 - 1 + lo b) % 65521 < 65521 := Nat.mod_lt _ (by decide)
  unfold join big32; omega
theorem join_hi (x y u n : Nat) (hx : x < 65521) (hy : y < 65521) (hu : u < 65521) :
    (IntKind.u64.wrap ((y : Int) + (u : Int) + IntKind.u64.wrap ((n : Int) % 65521 * ((x : Int) + 65521 - 1)))).tmod 65521 = (((y + u + n % 65521 * (x + 65521 - 1)) % 65521 : Nat) : Int) := by
  have e : (n : Int) % 65521 * ((x : Int) + 65521 - 1) = ((n % 65521 * (x + 65521 - 1) : Nat) : Int) := by
    rw [Int.natCast_mul, show (n : Int) % 65521 = ((n % 65521 : Nat) : Int) by omega, show (x : Int) + 65521 - 1 = ((x + 65521 - 1 : Nat) : Int) by omega]
  have hb : n % 65521 * (x + 65521 - 1) ≤ 65520 * 131040 := Nat.mul_le_mul (by omega) (by omega)
  rw [e]
  generalize n % 65521 * (x + 65521 - 1) = p at *
  rw [IntKind.wrap_u64, IntKind.wrap_u64, Int.tmod_eq_emod_of_nonneg (by omega)]
  omega
theorem join_lo (x z : Nat) : ((x : Int) + 65521 - 1 + (z : Int)) % 65521 = (((x + 65521 - 1 + z) % 65521 : Nat) : Int) := by omega

/-- the sum of a text from its beginning, joined to another one, is that of both -/
theorem join_adl (a : Nat) (t : ByteArray) : join a (adl 1 t) t.size = adl a t := by
  unfold join
  rw [adl_lo, adl_hi]
  show _ = (adp (lo a, hi a) (nums t)).2 * 65536 + (adp (lo a, hi a) (nums t)).1
  have ha := lo_lt a
  rw [adp_one (nums t) (lo a, hi a) (lo_lt a), adp_one (nums t) (lo 1, hi 1) (lo_lt 1), adp_two (nums t) (lo a, hi a) (hi_lt a), adp_two (nums t) (lo 1, hi 1) (hi_lt 1), nums_length]
  simp only [show lo 1 = 1 from rfl, show hi 1 = 0 from rfl]
  generalize bsum (nums t) = B
  generalize bq (nums t) = Q
  generalize t.size = n
  generalize lo a = x at ha ⊢
  generalize hi a = y
  have e1 : (n % 65521 * (x + 65521 - 1)) % 65521 = (n * (x + 65521 - 1)) % 65521 := by rw [Nat.mul_mod, Nat.mod_mod, ← Nat.mul_mod]
  have e2 : n * (x + 65521 - 1) + n = n * x + n * 65521 := by
    rw [← Nat.mul_succ, ← Nat.mul_add]; congr 1
  rw [Nat.zero_add, Nat.mul_one]
  generalize n % 65521 * (x + 65521 - 1) = u at e1 ⊢
  generalize n * (x + 65521 - 1) = v at e1 e2
  generalize n * x = z at e2 ⊢
  have e3 : (y + (n + Q) % 65521 + u) % 65521 = (y + z + Q) % 65521 := by omega
  have e4 : (x + 65521 - 1 + (1 + B) % 65521) % 65521 = (x + B) % 65521 := by omega
  rw [e3, e4]

/-! one byte more -/
theorem nums_take (s : ByteArray) (k : Nat) (h : k < s.size) : (nums s).take (k + 1) = (nums s).take k ++ [s[k].toNat] := by
  have hl : k < (nums s).length := by rw [nums_length]; exact h
  have e : ∀ g, (nums s)[k]'g = s[k].toNat := by
    intro g
    simp only [nums, List.getElem_map]
    rfl
  rw [List.take_add_one, List.getElem?_eq_getElem hl, e]
  rfl
theorem nums_all (s : ByteArray) : (nums s).take s.size = nums s := List.take_of_length_le (by rw [nums_length]; exact Nat.le_refl _)
theorem adp_take (p : Nat × Nat) (s : ByteArray) (k b : Nat) (h : k < s.size) (hb : s[k].toNat = b) : adp p ((nums s).take (k + 1)) = adStep (adp p ((nums s).take k)) b := by
  rw [nums_take s k h, adp_append, hb]; rfl
theorem cr_take (c : Nat) (s : ByteArray) (k b : Nat) (h : k < s.size) (hb : s[k].toNat = b) : cr c ((nums s).take (k + 1)) = st (cr c ((nums s).take k) ^^^ b) := by
  rw [nums_take s k h, cr_append, hb]; rfl
theorem cm_take (T : Nat → Nat) (c : Nat) (s : ByteArray) (k b : Nat) (h : k < s.size) (hb : s[k].toNat = b) :
    cm T c ((nums s).take (k + 1)) = T ((cm T c ((nums s).take k) ^^^ b) % 256) ^^^ cm T c ((nums s).take k) / 256 := by
  rw [nums_take s k h, cm_append, hb]; rfl
theorem byte_lt (s : ByteArray) (k : Nat) (h : k < s.size) : s[k].toNat < 256 := UInt8.toNat_lt _
theorem take_lt (s : ByteArray) (k : Nat) : ∀ b ∈ (nums s).take k, b < 256 := fun b hb => nums_lt s b (List.mem_of_mem_take hb)

/-- texts which differ in one byte alone have unlike sums -/
theorem bsum_append : ∀ l m : List Nat, bsum (l ++ m) = bsum l + bsum m
  | [], m => by simp [bsum]
  | b :: r, m => by show b + bsum (r ++ m) = b + bsum r + bsum m; rw [bsum_append r m, Nat.add_assoc]
theorem adp_ne (l m : List Nat) (b c : Nat) (hb : b < 256) (hc : c < 256) (h : b ≠ c) : (adp (1, 0) (l ++ b :: m)).1 ≠ (adp (1, 0) (l ++ c :: m)).1 := by
  rw [adp_one _ _ (by decide), adp_one _ _ (by decide), bsum_append, bsum_append]
  simp only [bsum]
  omega
theorem adl_ne (s t : ByteArray) (l m : List Nat) (b c : Nat) (hs : nums s = l ++ b :: m) (ht : nums t = l ++ c :: m) (hb : b < 256) (hc : c < 256) (h : b ≠ c) : adl 1 s ≠ adl 1 t := by
  intro g
  have := congrArg lo g
  rw [adl_lo, adl_lo, hs, ht] at this
  exact adp_ne l m b c hb hc h this
theorem crc_ne (s t : ByteArray) (l m : List Nat) (b c : Nat) (hs : nums s = l ++ b :: m) (ht : nums t = l ++ c :: m) (h : b ≠ c) : crc s ≠ crc t := by
  intro g
  have g2 := nt_inj g
  have hm := nums_lt s
  have hm2 := nums_lt t
  rw [hs] at g2 hm
  rw [ht] at g2 hm2
  rw [cr_append, cr_append] at g2
  have hl : cr 4294967295 l < big32 := cr_lt (by decide) l (fun x hx => hm x (by simp [hx]))
  have hb : b < big32 := Nat.lt_trans (hm b (by simp)) (by decide)
  have hc : c < big32 := Nat.lt_trans (hm2 c (by simp)) (by decide)
  have g3 := cr_inj (st_lt (xor_lt hl hb)) (st_lt (xor_lt hl hc)) m (fun x hx => hm x (by simp [hx])) g2
  have g4 := st_inj (xor_lt hl hb) (xor_lt hl hc) g3
  rw [Nat.xor_comm _ b, Nat.xor_comm _ c] at g4
  exact h (xor_inj g4)
/-- CRC-32 of the exclusive or of two texts of one length -/
theorem crc_xor (z x y u : ByteArray) (hz : nums z = List.zipWith (· ^^^ ·) (nums x) (nums y)) (hl : (nums x).length = (nums y).length) (hu : nums u = List.replicate (nums x).length 0) :
    crc z = crc x ^^^ crc y ^^^ crc u := by
  unfold crc
  have e : cr 4294967295 (nums z) = cr 4294967295 (nums x) ^^^ cr 4294967295 (nums y) ^^^ cr 4294967295 (nums u) := by
    have h1 : nums z = List.zipWith (· ^^^ ·) (nums z) (nums u) := by
      rw [hu]
      have hzl : (nums z).length = (nums x).length := by rw [hz, List.length_zipWith, ← hl, Nat.min_self]
      rw [← hzl]
      generalize nums z = l
      induction l with
      | nil => rfl
      | cons a l ih => rw [List.length_cons, List.replicate_succ, List.zipWith_cons_cons, Nat.xor_zero, ← ih]
    have h2 := cr_xor (4294967295 ^^^ 4294967295) 4294967295 (nums z) (nums u) (by rw [hu, List.length_replicate, hz, List.length_zipWith, ← hl, Nat.min_self])
    rw [← h1, Nat.xor_self, Nat.zero_xor] at h2
    rw [h2]
    congr 1
    have h3 := cr_xor 4294967295 4294967295 (nums x) (nums y) hl
    rw [← hz, Nat.xor_self] at h3
    exact h3
  rw [e]
  unfold nt
  generalize cr 4294967295 (nums x) = A
  generalize cr 4294967295 (nums y) = B
  generalize cr 4294967295 (nums u) = C
  generalize 4294967295 = M
  rw [xor4, Nat.xor_assoc, Nat.xor_assoc]
end Go.Proofs.Ytoloamlodmefkaa.M
