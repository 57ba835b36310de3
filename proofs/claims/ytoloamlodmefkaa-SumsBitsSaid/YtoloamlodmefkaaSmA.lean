/- What half, halves, whole, AdlerMore, Adler and AdlerJoin of package sums, and the document's step, Adler, Join and CRC, answer, for any arguments that their kinds hold. Conditions: as each theorem names them. -/
import Derived.Test.YtoloamlodmefkaaProg
import Derived.Test.YtoloamlodmefkaaMathN
import Derived.WalkKit
import Derived.Lib.Hide
import Derived.Outline
namespace Go.Proofs.Ytoloamlodmefkaa
open Go.RowKit M
set_option linter.unusedVariables false

theorem half_any (n : Nat) (w : World) (h : n < big32) :
    Calls Try.prog 21 #[.int .u32 n] w fun e w' => e = .returned (.int .u32 (hf n)) ∧ w = w' := by
  have ha : bits .and .u32 (n : Int) 1 = ((n % 2 : Nat) : Int) := by
    have := and32 n 1 h (by decide)
    rw [Nat.and_one_is_mod] at this
    exact this
  have hx : bits .xor .u32 ((n : Int) / 2) 3988292384 = ((n / 2 ^^^ poly : Nat) : Int) := by
    have := xor32 (n / 2) poly (Nat.lt_of_le_of_lt (Nat.div_le_self _ _) h) (by decide)
    exact this
  have hv := Lib.hid (show hf n = if n % 2 = 0 then n / 2 else n / 2 ^^^ poly from rfl)
  by_cases h0 : n % 2 = 0
  · rw [h0] at ha
    go_enter Try.func21, Try.ntmps21
    go_wp2
    go_ret
    exact ⟨congrArg (fun z => Ending.returned (.int .u32 z)) (by rw [hv.out, if_pos h0]; rfl), rfl⟩
  · have h1 : n % 2 = 1 := by omega
    rw [h1] at ha
    go_enter Try.func21, Try.ntmps21
    go_wp2
    go_ret
    exact ⟨congrArg (fun z => Ending.returned (.int .u32 z)) (by rw [hv.out, if_neg h0]), rfl⟩

theorem hf_of (n : Nat) (h : n < big32) (e : n % 2 = 1) : bits .xor .u32 ((n : Int) / 2 % 4294967296) 3988292384 = ((hf n : Nat) : Int) := by
  rw [show (n : Int) / 2 % 4294967296 = (n : Int) / 2 by unfold big32 at h; omega]
  have := xor32 (n / 2) poly (Nat.lt_of_le_of_lt (Nat.div_le_self _ _) h) (by decide)
  rw [show hf n = n / 2 ^^^ poly by unfold hf; rw [if_neg (by omega)]]
  exact this
theorem hf_of0 (n : Nat) (h : n < big32) (e : n % 2 = 0) : (n : Int) / 2 % 4294967296 = ((hf n : Nat) : Int) := by
  rw [show hf n = n / 2 by unfold hf; rw [if_pos e]]
  unfold big32 at h; omega

theorem step_any (n : Nat) (w : World) (h : n < big32) :
    Calls Try.prog 20 #[.int .u32 n] w fun e w' => e = .returned (.int .u32 (st n)) ∧ w = w' := by
  have H := Lib.hid h
  clear h
  go_enter Try.func20, Try.ntmps20
  go_wp2
  go_loop [0, 3] (fun c i => ∃ k : Nat, k ≤ 8 ∧ i = .int .i64 k ∧ c = .int .u32 (sk n k)) (fun _ i => 8 - (intOf i).toNat)
  case atStart => exact ⟨0, Nat.zero_le _, rfl, rfl⟩
  case round =>
    obtain ⟨k, hk, rfl, rfl⟩ := hrel
    by_cases hlt : k < 8
    · obtain ⟨c, hc⟩ : ∃ c, c = sk n k := ⟨_, rfl⟩
      have hl := sk_lt H.out k
      rw [← hc] at hl ⊢
      have HL := Lib.hid hl
      have HC := Lib.hid hc
      clear hl hc
      by_cases h0 : c % 2 = 0
      · have hb : ((c : Int) % 2 == 1) = false := by rw [beq_eq_false_iff_ne]; omega
        have h0' := Lib.hid h0
        clear h0
        go_wp2
        go_round
        case rel => exact ⟨k + 1, by omega, by go_num, congrArg (Value.int .u32) (by rw [hf_of0 c HL.out h0'.out, HC.out]; rfl)⟩
        case measure => simp [intOf]; omega
      · have hb : ((c : Int) % 2 == 1) = true := by rw [beq_iff_eq]; omega
        have h1 := Lib.hid (show c % 2 = 1 by omega)
        have hx := hf_of c HL.out h1.out
        clear h0
        go_wp2
        go_round
        case rel => exact ⟨k + 1, by omega, by go_num, congrArg (Value.int .u32) (by rw [HC.out]; rfl)⟩
        case measure => simp [intOf]; omega
    · obtain rfl : k = 8 := by omega
      go_wp2
      go_ret
      exact ⟨rfl, rfl⟩

theorem halves_any (a : Nat) (w : World) (h : a < big32) :
    Calls Try.prog 22 #[.int .u32 a] w fun e w' => e = .returned (.tuple #[.int .u64 (lo a), .int .u64 (hi a)]) ∧ w = w' := by
  have hm : bits .and .u32 (a : Int) 65535 = ((a % 65536 : Nat) : Int) := by
    have := and32 a 65535 h (by decide)
    rw [show (65535 : Nat) = 2 ^ 16 - 1 from rfl, Nat.and_two_pow_sub_one_eq_mod] at this
    exact this
  have h' : a ≤ 4294967295 := by unfold big32 at h; omega
  clear h
  go_enter Try.func22, Try.ntmps22
  go_wp2
  go_ret2
  exact ⟨rfl, rfl⟩

theorem whole_any (l h : Nat) (w : World) (hl : l < 65521) (hh : h < 65521) :
    Calls Try.prog 23 #[.int .u64 l, .int .u64 h] w fun e w' => e = .returned (.int .u32 ((h * 65536 + l : Nat) : Int)) ∧ w = w' := by
  have ho : bits .or .u64 ((h : Int) * 65536) (l : Int) = ((h * 65536 + l : Nat) : Int) := by
    have := bits_or_u64_nat (h * 65536) l (by omega) (by omega)
    rw [show h * 65536 ||| l = h * 65536 + l by
      have := Nat.two_pow_add_eq_or_of_lt (i := 16) (b := l) (show l < 2 ^ 16 by omega) h
      rw [Nat.mul_comm]; exact this.symm] at this
    exact this
  have hw : IntKind.u64.wrap ((h : Int) * 65536) = (h : Int) * 65536 := by rw [IntKind.wrap_u64]; omega
  go_enter Try.func23, Try.ntmps23
  go_wp2
  go_ret
  exact ⟨congrArg (fun z => Ending.returned (.int .u32 z)) (by first | rfl | (simp; omega)), rfl⟩

theorem more_any (a : Nat) (s : ByteArray) (w : World) (h : a < big32) (hs : s.size ≤ maxLen) :
    Calls Try.prog 13 #[.int .u32 a, .string s] w fun e w' => e = .returned (.int .u32 (adl a s)) ∧ w = w' := by
  have hs' : s.size ≤ 9223372036854775807 := by unfold maxLen at hs; omega
  have HV := Lib.hid (show adl a s = (adp (lo a, hi a) (nums s)).2 * 65536 + (adp (lo a, hi a) (nums s)).1 from rfl)
  go_enter Try.func13, Try.ntmps13
  go_wp2_with (go_at_call 22; refine (halves_any a _ h).mono ?_; rintro e w' ⟨rfl, rfl⟩)
  have hp1 := lo_lt a
  have hp2 := hi_lt a
  obtain ⟨p, hp⟩ : ∃ p, p = (lo a, hi a) := ⟨_, rfl⟩
  rw [← hp] at HV
  have e1 : lo a = p.1 := by rw [hp]
  have e2 : hi a = p.2 := by rw [hp]
  rw [e1, e2]
  rw [e1] at hp1
  rw [e2] at hp2
  clear hp e1 e2
  go_loop [5, 6, 15] (fun x y i => ∃ k : Nat, k ≤ s.size ∧ i = .int .i64 k ∧ x = .int .u64 (adp p ((nums s).take k)).1 ∧ y = .int .u64 (adp p ((nums s).take k)).2) (fun _ _ i => s.size - (intOf i).toNat)
  case atStart => exact ⟨0, Nat.zero_le _, rfl, rfl, rfl⟩
  case round =>
    obtain ⟨k, hk, rfl, rfl, rfl⟩ := hrel
    obtain ⟨q1, q2⟩ := adp_lt ((nums s).take k) p hp1 hp2
    by_cases hlt : k < s.size
    · have hn := fun b hb => adp_take p s k b hlt hb
      obtain ⟨b, hb⟩ : ∃ b, s[k].toNat = b := ⟨_, rfl⟩
      have hb1 : b < 256 := by rw [← hb]; exact byte_lt s k hlt
      have hn' := Lib.hid (hn b hb)
      have hN := Lib.hid hb
      obtain ⟨x, hx⟩ : ∃ x, (adp p ((nums s).take k)).1 = x := ⟨_, rfl⟩
      obtain ⟨y, hy⟩ : ∃ y, (adp p ((nums s).take k)).2 = y := ⟨_, rfl⟩
      rw [hx] at q1 ⊢
      rw [hy] at q2 ⊢
      have HX := Lib.hid hx
      have HY := Lib.hid hy
      clear hn hx hy
      go_wp2_with fail
      go_round
      case rel => exact ⟨k + 1, by omega, by go_num, congrArg (Value.int .u64) (by rw [hn'.out]; simp only [adStep, HX.out]; omega), congrArg (Value.int .u64) (by rw [hn'.out]; simp only [adStep, HX.out, HY.out]; omega)⟩
      case measure => simp [intOf]; omega
    · obtain rfl : k = s.size := by omega
      rw [nums_all] at q1 q2 ⊢
      go_wp2_with (go_at_call 23; refine (whole_any _ _ _ q1 q2).mono ?_; rintro e w' ⟨rfl, rfl⟩)
      go_ret
      exact ⟨by rw [HV.out]; rfl, rfl⟩

theorem adler_any (s : ByteArray) (w : World) (hs : s.size ≤ maxLen) :
    Calls Try.prog 11 #[.string s] w fun e w' => e = .returned (.int .u32 (adl 1 s)) ∧ w = w' := by
  go_enter Try.func11, Try.ntmps11
  go_wp2_with (go_at_call 13; refine (more_any 1 s _ (by decide) hs).mono ?_; rintro e w' ⟨rfl, rfl⟩)
  go_ret
  exact ⟨rfl, rfl⟩

theorem join_any (a b n : Nat) (w : World) (ha : a < big32) (hb : b < big32) (hn : n < 18446744073709551616) :
    Calls Try.prog 14 #[.int .u32 a, .int .u32 b, .int .u64 n] w fun e w' => e = .returned (.int .u32 (join a b n)) ∧ w = w' := by
  have HV := Lib.hid (show join a b n = (hi a + hi b + n % 65521 * (lo a + 65521 - 1)) % 65521 * 65536 + (lo a + 65521 - 1 + lo b) % 65521 from rfl)
  go_enter Try.func14, Try.ntmps14
  go_wp2_with fail
  refine (halves_any a _ ha).mono ?_; rintro e w' ⟨rfl, rfl⟩
  go_wp2_with fail
  refine (halves_any b _ hb).mono ?_; rintro e w' ⟨rfl, rfl⟩
  have h1 := lo_lt a
  have h2 := hi_lt a
  have h3 := lo_lt b
  have h4 := hi_lt b
  generalize lo a = x at *
  generalize hi a = y at *
  generalize lo b = z at *
  generalize hi b = u at *
  go_wp2_with fail
  rw [join_lo x z, join_hi x y u n h1 h2 h4]
  refine (whole_any _ _ _ (Nat.mod_lt _ (by decide)) (Nat.mod_lt _ (by decide))).mono ?_; rintro e w' ⟨rfl, rfl⟩
  rw [← HV.out]
  go_wp2_with fail
  go_ret
  exact ⟨rfl, rfl⟩

theorem radler_any (a : Nat) (s : ByteArray) (w : World) (h : a < big32) (hs : s.size ≤ maxLen) :
    Calls Try.prog 12 #[.int .u32 a, .string s] w fun e w' => e = .returned (.int .u32 (adl a s)) ∧ w = w' := by
  have hs' : s.size ≤ 9223372036854775807 := by unfold maxLen at hs; omega
  have ha : a ≤ 4294967295 := by unfold big32 at h; omega
  have HV := Lib.hid (show adl a s = (adp (lo a, hi a) (nums s)).2 * 65536 + (adp (lo a, hi a) (nums s)).1 from rfl)
  clear h
  go_enter Try.func12, Try.ntmps12
  have e1 : (a : Int) % 65536 % 65521 = ((lo a : Nat) : Int) := by unfold lo; omega
  have e2 : (a : Int) / 65536 % 65521 = ((hi a : Nat) : Int) := by unfold hi; omega
  have E1 := Lib.hid e1
  have E2 := Lib.hid e2
  clear e1 e2
  go_wp2_with fail
  rw [E1.out, E2.out]
  have hp1 := lo_lt a
  have hp2 := hi_lt a
  obtain ⟨p, hp⟩ : ∃ p, p = (lo a, hi a) := ⟨_, rfl⟩
  rw [← hp] at HV
  have e1 : lo a = p.1 := by rw [hp]
  have e2 : hi a = p.2 := by rw [hp]
  rw [e1, e2]
  rw [e1] at hp1
  rw [e2] at hp2
  clear hp e1 e2
  go_loop [5, 6, 7] (fun x y i => ∃ k : Nat, k ≤ s.size ∧ i = .int .i64 k ∧ x = .int .i64 (adp p ((nums s).take k)).1 ∧ y = .int .i64 (adp p ((nums s).take k)).2) (fun _ _ i => s.size - (intOf i).toNat)
  case atStart => exact ⟨0, Nat.zero_le _, rfl, rfl, rfl⟩
  case round =>
    obtain ⟨k, hk, rfl, rfl, rfl⟩ := hrel
    obtain ⟨q1, q2⟩ := adp_lt ((nums s).take k) p hp1 hp2
    by_cases hlt : k < s.size
    · have hn := fun b hb => adp_take p s k b hlt hb
      obtain ⟨b, hb⟩ : ∃ b, s[k].toNat = b := ⟨_, rfl⟩
      have hb1 : b < 256 := by rw [← hb]; exact byte_lt s k hlt
      have hn' := Lib.hid (hn b hb)
      obtain ⟨x, hx⟩ : ∃ x, (adp p ((nums s).take k)).1 = x := ⟨_, rfl⟩
      obtain ⟨y, hy⟩ : ∃ y, (adp p ((nums s).take k)).2 = y := ⟨_, rfl⟩
      rw [hx] at q1 ⊢
      rw [hy] at q2 ⊢
      have HX := Lib.hid hx
      have HY := Lib.hid hy
      clear hn hx hy
      go_wp2_with fail
      go_round
      case rel => exact ⟨k + 1, by omega, by go_num, congrArg (Value.int .i64) (by rw [hn'.out]; simp only [adStep, HX.out]; omega), congrArg (Value.int .i64) (by rw [hn'.out]; simp only [adStep, HX.out, HY.out]; omega)⟩
      case measure => simp [intOf]; omega
    · obtain rfl : k = s.size := by omega
      rw [nums_all] at q1 q2 ⊢
      generalize (adp p (nums s)).1 = x at *
      generalize (adp p (nums s)).2 = y at *
      go_wp2_with fail
      go_ret
      exact ⟨by rw [HV.out]; rfl, rfl⟩

theorem rjoin_val (x y z u n : Nat) (h1 : x < 65521) (h2 : y < 65521) (h3 : z < 65521) (h4 : u < 65521) :
    wrap64 (wrap64 ((wrap64 ((y : Int) + (u : Int) + wrap64 ((n : Int) % 65521 * (((x : Int) - 1) % 65521)))).tmod 65521 * 65536) + ((x : Int) + (z : Int) - 1) % 65521) % 4294967296
      = (((y + u + n % 65521 * (x + 65521 - 1)) % 65521 * 65536 + (x + 65521 - 1 + z) % 65521 : Nat) : Int) := by
  have e : (n : Int) % 65521 * (((x : Int) - 1) % 65521) = ((n % 65521 * ((x + 65521 - 1) % 65521) : Nat) : Int) := by
    rw [Int.natCast_mul, show (n : Int) % 65521 = ((n % 65521 : Nat) : Int) by omega, show ((x : Int) - 1) % 65521 = (((x + 65521 - 1) % 65521 : Nat) : Int) by omega]
  have hb : n % 65521 * ((x + 65521 - 1) % 65521) ≤ 65520 * 65520 := Nat.mul_le_mul (by omega) (by omega)
  have hm : (n % 65521 * ((x + 65521 - 1) % 65521)) % 65521 = (n % 65521 * (x + 65521 - 1)) % 65521 := Nat.mul_mod_mod _ _ _
  rw [e]
  generalize n % 65521 * ((x + 65521 - 1) % 65521) = p at *
  generalize n % 65521 * (x + 65521 - 1) = q at *
  rw [IntWalk.wrap64_in (p : Int) ⟨by omega, by omega⟩, IntWalk.wrap64_in ((y : Int) + (u : Int) + (p : Int)) ⟨by omega, by omega⟩, Int.tmod_eq_emod_of_nonneg (by omega)]
  have hr : ((y : Int) + (u : Int) + (p : Int)) % 65521 = (((y + u + q) % 65521 : Nat) : Int) := by omega
  rw [hr]
  have hr2 : (y + u + q) % 65521 < 65521 := Nat.mod_lt _ (by decide)
  generalize (y + u + q) % 65521 = r at *
  have hs : ((x : Int) + (z : Int) - 1) % 65521 = (((x + 65521 - 1 + z) % 65521 : Nat) : Int) := by omega
  rw [hs]
  have hs2 : (x + 65521 - 1 + z) % 65521 < 65521 := Nat.mod_lt _ (by decide)
  generalize (x + 65521 - 1 + z) % 65521 = t at *
  rw [IntWalk.wrap64_in ((r : Int) * 65536) ⟨by omega, by omega⟩, IntWalk.wrap64_in ((r : Int) * 65536 + (t : Int)) ⟨by omega, by omega⟩]
  omega

theorem rjoin_any (a b n : Nat) (w : World) (ha : a < big32) (hb : b < big32) (hn : n < 18446744073709551616) :
    Calls Try.prog 15 #[.int .u32 a, .int .u32 b, .int .u64 n] w fun e w' => e = .returned (.int .u32 (join a b n)) ∧ w = w' := by
  have HV := Lib.hid (show join a b n = (hi a + hi b + n % 65521 * (lo a + 65521 - 1)) % 65521 * 65536 + (lo a + 65521 - 1 + lo b) % 65521 from rfl)
  have ha' : a ≤ 4294967295 := by unfold big32 at ha; omega
  have hb' : b ≤ 4294967295 := by unfold big32 at hb; omega
  have e1 : (a : Int) % 65536 % 65521 = ((lo a : Nat) : Int) := by unfold lo; omega
  have e2 : (a : Int) / 65536 % 65521 = ((hi a : Nat) : Int) := by unfold hi; omega
  have e3 : (b : Int) % 65536 % 65521 = ((lo b : Nat) : Int) := by unfold lo; omega
  have e4 : (b : Int) / 65536 % 65521 = ((hi b : Nat) : Int) := by unfold hi; omega
  have h1 := lo_lt a
  have h2 := hi_lt a
  have h3 := lo_lt b
  have h4 := hi_lt b
  clear ha hb
  generalize lo a = x at *
  generalize hi a = y at *
  generalize lo b = z at *
  generalize hi b = u at *
  go_enter Try.func15, Try.ntmps15
  go_wp2_with fail
  go_ret
  exact ⟨congrArg (fun z => Ending.returned (.int .u32 z)) ((rjoin_val x y z u n h1 h2 h3 h4).trans (by rw [HV.out])), rfl⟩

theorem rcrc_any (s : ByteArray) (w : World) (hs : s.size ≤ maxLen) :
    Calls Try.prog 17 #[.string s] w fun e w' => e = .returned (.int .u32 (crc s)) ∧ w = w' := by
  have hs' : s.size ≤ 9223372036854775807 := by unfold maxLen at hs; omega
  have HV := Lib.hid (show crc s = nt (cr 4294967295 (nums s)) from rfl)
  have hM := Lib.hid (show 4294967295 < big32 by decide)
  obtain ⟨M, hM2⟩ : ∃ M : Nat, M = 4294967295 := ⟨_, rfl⟩
  go_enter Try.func17, Try.ntmps17
  go_wp2_with fail
  go_loop [3, 4] (fun c i => ∃ k : Nat, k ≤ s.size ∧ i = .int .i64 k ∧ c = .int .u32 (cr 4294967295 ((nums s).take k))) (fun _ i => s.size - (intOf i).toNat)
  case atStart => exact ⟨0, Nat.zero_le _, rfl, rfl⟩
  case round =>
    obtain ⟨k, hk, rfl, rfl⟩ := hrel
    have hl := cr_lt hM.out ((nums s).take k) (take_lt s k)
    by_cases hlt : k < s.size
    · have hn := fun b hb => cr_take 4294967295 s k b hlt hb
      obtain ⟨b, hb⟩ : ∃ b, s[k].toNat = b := ⟨_, rfl⟩
      have hb1 : b < 256 := by rw [← hb]; exact byte_lt s k hlt
      have hn' := Lib.hid (hn b hb)
      obtain ⟨c, hc⟩ : ∃ c, cr 4294967295 ((nums s).take k) = c := ⟨_, rfl⟩
      rw [hc] at hl ⊢
      have HC := Lib.hid hc
      have hbb : b < big32 := Nat.lt_trans hb1 (by decide)
      have hx := xor32 c b hl hbb
      have hxl := Lib.hid (xor_lt hl hbb)
      clear hn hc hl hbb
      go_wp2_with (go_at_call 20; refine (step_any _ _ hxl.out).mono ?_; rintro e w' ⟨rfl, rfl⟩)
      go_round
      case rel => exact ⟨k + 1, by omega, by go_num, congrArg (Value.int .u32) (by rw [hn'.out, HC.out])⟩
      case measure => simp [intOf]; omega
    · obtain rfl : k = s.size := by omega
      rw [nums_all] at hl ⊢
      have hx := xor32 _ 4294967295 hl (by decide)
      have hx' : bits .xor .u32 ((cr 4294967295 (nums s) : Nat) : Int) 4294967295 = ((nt (cr 4294967295 (nums s)) : Nat) : Int) := hx
      clear hx hl
      go_wp2_with fail
      go_ret
      exact ⟨by rw [HV.out]; rfl, rfl⟩

end Go.Proofs.Ytoloamlodmefkaa
