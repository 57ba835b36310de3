/- What the document's Table, CRCMore and CRC of package sums, and the document's More, answer. Conditions: as each theorem names them. -/
import Derived.Test.YtoloamlodmefkaaSmB
namespace Go.Proofs.Ytoloamlodmefkaa
open Go.RowKit M
set_option linter.unusedVariables false

set_option maxHeartbeats 1000000 in
set_option maxRecDepth 1000000 in
theorem rtable_any (W : World) :
    Calls Try.prog 9 #[] W fun e w' => e = .returned (.agg (TV st)) ∧ Below W.heap.size W w' := by
  have hz := arrZero
  go_enter Try.func9, Try.ntmps9
  go_wp2_with fail
  clear hz
  go_loopw [2] (fun i wr => ∃ k : Nat, k ≤ 256 ∧ i = .int .i64 k ∧ Tb wr W.heap.size (fun _ => 0) ∧ Tb wr (W.heap.size + 1) (upTo k) ∧ Below W.heap.size W wr) (fun i _ => 256 - (intOf i).toNat)
  case atStart =>
    refine ⟨0, Nat.zero_le _, rfl, (Tb.made W _).alloc _, ?_, ((Below.refl _ _).alloc (Nat.le_refl _) _).alloc (by simp) _⟩
    have h := Tb.made (W.alloc (.cells (TV fun x => 0) 25)) (fun x => 0)
    rw [show (W.alloc (.cells (TV fun x => 0) 25)).heap.size = W.heap.size + 1 by simp] at h
    exact h.congr (fun i hi => by unfold upTo; rw [if_neg (by omega)])
  case round =>
    obtain ⟨k, hk, rfl, ht0, ht1, hb⟩ := hrel
    by_cases hlt : k < 256
    · have hc := ht1.cell hlt
      have hf := ht1.frozen k
      have hkb := Lib.hid (show k < big32 from Nat.lt_trans hlt (by decide))
      have HT0 := Lib.hid ht0
      have HT1 := Lib.hid ht1
      have HB := Lib.hid hb
      clear ht0 ht1 hb
      go_wp2_with (go_at_call 20; refine (step_any _ _ hkb.out).mono ?_; rintro e w' ⟨rfl, rfl⟩)
      go_roundw
      case rel =>
        refine ⟨k + 1, by omega, by go_num, HT0.out.other (by simp) _, (HT1.out.set k (st k)).congr ?_, HB.out.setCell (by simp) _⟩
        intro i hi
        by_cases e : i = k
        · subst e
          simp [upTo]
        · rw [if_neg e]
          unfold upTo
          by_cases e2 : i < k
          · rw [if_pos e2, if_pos (by omega)]
          · rw [if_neg e2, if_neg (by omega)]
      case measure => simp [intOf]; omega
    · obtain rfl : k = 256 := by omega
      have ht : Tb wr (W.heap.size + 1) st := ht1.congr (fun i hi => by unfold upTo; rw [if_pos hi])
      have HT0 := Lib.hid ht0
      have HT := Lib.hid ht
      have HB := Lib.hid hb
      clear ht0 ht1 ht hb
      go_wp2_with (first | (refine step_load _ rfl rfl _ rfl st HT.out ?_) | (refine step_store_row rfl _ _ rfl _ _ st rfl rfl HT0.out ?_))
      have hr := HT0.out.setRow st
      refine bodyPost_ret (v := .agg (TV st)) (results_cell_row rfl _ _ _ _ _ _ _ rfl hr.row Try.underlying25 rfl (arrSizeV st)) rfl ⟨rfl, below_setRow HB.out _ _ (Nat.le_refl _)⟩

theorem not32 (c : Nat) (h : c < big32) : bits .xor .u32 4294967295 (c : Int) = ((nt c : Nat) : Int) := by
  have := xor32 4294967295 c (by decide) h
  rw [Nat.xor_comm] at this
  exact this
theorem sgn32 : IntKind.u32.signed = false := rfl
theorem max32 : IntKind.u32.max = 4294967295 := by decide

/-- the cells of a table are numbers of 32 bits -/
def Tn (f : Nat → Nat) : Prop := ∀ i, i < 256 → f i < big32

set_option maxHeartbeats 1000000 in
theorem cmore_any (f : Nat → Nat) (c : Nat) (s : ByteArray) (W : World) (hT : Tn f) (hc : c < big32) (hs : s.size ≤ maxLen) :
    Calls Try.prog 18 #[.agg (TV f), .int .u32 c, .string s] W fun e w' => e = .returned (.int .u32 (crcm f c s)) ∧ Below W.heap.size W w' := by
  have hs' : s.size ≤ 9223372036854775807 := by unfold maxLen at hs; omega
  have HV := Lib.hid (show crcm f c s = nt (cm f (nt c) (nums s)) from rfl)
  have hn := not32 c hc
  have hsg := sgn32
  have hmx := max32
  have HC := Lib.hid (nt_lt hc)
  have HM := Lib.hid (Tb.made W f)
  have HB := Lib.hid ((Below.refl W.heap.size W).alloc (Nat.le_refl _) (.cells (TV f) 25))
  go_enter Try.func18, Try.ntmps18
  go_wp2_with fail
  obtain ⟨d, hd⟩ : ∃ d, nt c = d := ⟨_, rfl⟩
  rw [hd] at HC HV ⊢
  clear hn hd hc
  go_loop [1, 12] (fun x i => ∃ k : Nat, k ≤ s.size ∧ i = .int .i64 k ∧ x = .int .u32 (cm f d ((nums s).take k))) (fun _ i => s.size - (intOf i).toNat)
  case atStart => exact ⟨0, Nat.zero_le _, rfl, rfl⟩
  case round =>
    obtain ⟨k, hk, rfl, rfl⟩ := hrel
    have hl := cm_lt hT HC.out ((nums s).take k)
    by_cases hlt : k < s.size
    · have hn := fun b hb => cm_take f d s k b hlt hb
      obtain ⟨b, hb⟩ : ∃ b, s[k].toNat = b := ⟨_, rfl⟩
      have hb1 : b < 256 := by rw [← hb]; exact byte_lt s k hlt
      have hn' := Lib.hid (hn b hb)
      obtain ⟨x, hx⟩ : ∃ x, cm f d ((nums s).take k) = x := ⟨_, rfl⟩
      rw [hx] at hl ⊢
      have HX := Lib.hid hx
      have h8 := xor8 (x % 256) b (Nat.mod_lt _ (by decide)) hb1
      rw [idx_byte x b hb1] at h8
      obtain ⟨j, hj⟩ : ∃ j, (x ^^^ b) % 256 = j := ⟨_, rfl⟩
      have hj1 : j < 256 := by rw [← hj]; exact Nat.mod_lt _ (by decide)
      rw [hj] at h8
      have HJ := Lib.hid hj
      have hcell := HM.out.cell hj1
      have h9 := xor32 (f j) (x / 256) (hT j hj1) (Nat.lt_of_le_of_lt (Nat.div_le_self _ _) hl)
      have hx' : x ≤ 4294967295 := by unfold big32 at hl; omega
      rw [Int.natCast_emod] at h8
      rw [Int.natCast_ediv] at h9
      have h8' : bits .xor .u8 ((x : Int) % 256) (b : Int) = (j : Int) := h8
      have h9' : bits .xor .u32 (f j : Int) ((x : Int) / 256) = ((f j ^^^ x / 256 : Nat) : Int) := h9
      clear hn hx hl hj h8 h9
      go_wp2_with fail
      go_round
      case rel => exact ⟨k + 1, by omega, by go_num, congrArg (Value.int .u32) (by rw [hn'.out, HX.out, HJ.out])⟩
      case measure => simp [intOf]; omega
    · obtain rfl : k = s.size := by omega
      rw [nums_all] at hl ⊢
      have hn := not32 _ hl
      clear hl
      go_wp2_with fail
      go_ret
      exact ⟨by rw [HV.out]; rfl, HB.out⟩

set_option maxHeartbeats 1000000 in
theorem rmore_any (f : Nat → Nat) (c : Nat) (s : ByteArray) (W : World) (hT : Tn f) (hc : c < big32) (hs : s.size ≤ maxLen) :
    Calls Try.prog 19 #[.agg (TV f), .int .u32 c, .string s] W fun e w' => e = .returned (.int .u32 (crcm f c s)) ∧ Below W.heap.size W w' := by
  have hs' : s.size ≤ 9223372036854775807 := by unfold maxLen at hs; omega
  have HV := Lib.hid (show crcm f c s = nt (cm f (nt c) (nums s)) from rfl)
  have hn : bits .xor .u32 (c : Int) 4294967295 = ((nt c : Nat) : Int) := xor32 c 4294967295 hc (by decide)
  have HC := Lib.hid (nt_lt hc)
  have HM := Lib.hid (Tb.made W f)
  have HB := Lib.hid ((Below.refl W.heap.size W).alloc (Nat.le_refl _) (.cells (TV f) 25))
  go_enter Try.func19, Try.ntmps19
  go_wp2_with fail
  obtain ⟨d, hd⟩ : ∃ d, nt c = d := ⟨_, rfl⟩
  rw [hd] at HC HV ⊢
  clear hn hd hc
  go_loop [1, 7] (fun x i => ∃ k : Nat, k ≤ s.size ∧ i = .int .i64 k ∧ x = .int .u32 (cm f d ((nums s).take k))) (fun _ i => s.size - (intOf i).toNat)
  case atStart => exact ⟨0, Nat.zero_le _, rfl, rfl⟩
  case round =>
    obtain ⟨k, hk, rfl, rfl⟩ := hrel
    have hl := cm_lt hT HC.out ((nums s).take k)
    by_cases hlt : k < s.size
    · have hn := fun b hb => cm_take f d s k b hlt hb
      obtain ⟨b, hb⟩ : ∃ b, s[k].toNat = b := ⟨_, rfl⟩
      have hb1 : b < 256 := by rw [← hb]; exact byte_lt s k hlt
      have hn' := Lib.hid (hn b hb)
      obtain ⟨x, hx⟩ : ∃ x, cm f d ((nums s).take k) = x := ⟨_, rfl⟩
      rw [hx] at hl ⊢
      have HX := Lib.hid hx
      have hbb : b < big32 := Nat.lt_trans hb1 (by decide)
      have h8 := xor32 x b hl hbb
      have hxb := xor_lt hl hbb
      obtain ⟨y, hy⟩ : ∃ y, x ^^^ b = y := ⟨_, rfl⟩
      rw [hy] at h8 hxb
      have HY := Lib.hid hy
      obtain ⟨j, hj⟩ : ∃ j, y % 256 = j := ⟨_, rfl⟩
      have hj1 : j < 256 := by rw [← hj]; exact Nat.mod_lt _ (by decide)
      have HJ := Lib.hid hj
      have hcell := HM.out.cell hj1
      have h9 := xor32 (f j) (x / 256) (hT j hj1) (Nat.lt_of_le_of_lt (Nat.div_le_self _ _) hl)
      have hx' : x ≤ 4294967295 := by unfold big32 at hl; omega
      have hy' : y ≤ 4294967295 := by unfold big32 at hxb; omega
      have hyj : (y : Int) % 256 = (j : Int) := by omega
      have hxq : (x : Int) / 256 % 4294967296 = (x : Int) / 256 := by omega
      rw [Int.natCast_ediv] at h9
      have h9' : bits .xor .u32 (f j : Int) ((x : Int) / 256) = ((f j ^^^ x / 256 : Nat) : Int) := h9
      clear hn hx hl hj h9 hy hxb hbb
      go_wp2_with fail
      go_round
      case rel => exact ⟨k + 1, by omega, by go_num, congrArg (Value.int .u32) (by rw [hn'.out, HX.out, HY.out, HJ.out])⟩
      case measure => simp [intOf]; omega
    · obtain rfl : k = s.size := by omega
      rw [nums_all] at hl ⊢
      have hn : bits .xor .u32 ((cm f d (nums s) : Nat) : Int) 4294967295 = ((nt (cm f d (nums s)) : Nat) : Int) := xor32 _ 4294967295 hl (by decide)
      clear hl
      go_wp2_with fail
      go_ret
      exact ⟨by rw [HV.out]; rfl, HB.out⟩

theorem Tn_st : Tn st := fun i hi => st_lt (Nat.lt_trans hi (by decide))

theorem crc_any (s : ByteArray) (W : World) (hs : s.size ≤ maxLen) :
    Calls Try.prog 16 #[.string s] W fun e w' => e = .returned (.int .u32 (crc s)) ∧ Below W.heap.size W w' := by
  have HV := Lib.hid (crcm_st s)
  go_enter Try.func16, Try.ntmps16
  go_wp2_with fail
  refine (table_any _).mono ?_; rintro e w1 ⟨rfl, b1⟩
  go_wp2_with fail
  refine (cmore_any st 0 s _ Tn_st (by decide) hs).mono ?_; rintro e w2 ⟨rfl, b2⟩
  rw [HV.out]
  go_wp2_with fail
  go_ret
  exact ⟨rfl, b1.trans (b2.mono b1.size)⟩

end Go.Proofs.Ytoloamlodmefkaa
