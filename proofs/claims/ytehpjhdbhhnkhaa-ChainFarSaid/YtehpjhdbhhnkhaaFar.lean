/- ChainFar returns true for any argument that its kind holds. Conditions: none. -/
import Derived.Test.YtehpjhdbhhnkhaaWks
import Derived.Lib.ConvBytes
namespace Go.Proofs.Ytehpjhdbhhnkhaa
open Go Go.RowKit M
set_option linter.unusedVariables false
set_option linter.unusedSimpArgs false

/-- the text's bytes -/
def farb (N j : Nat) : Nat := if N ≤ j then (if j = N + 1 then 255 else 0) else if j < 3 then (if j = 1 then 255 else 0) else j % 251 + 1
theorem farb_lt (N j : Nat) : farb N j < 256 := by
  unfold farb
  by_cases h1 : N ≤ j
  · rw [if_pos h1]
    by_cases h2 : j = N + 1
    · rw [if_pos h2]; omega
    · rw [if_neg h2]; omega
  · rw [if_neg h1]
    by_cases h2 : j < 3
    · rw [if_pos h2]
      by_cases h3 : j = 1
      · rw [if_pos h3]; omega
      · rw [if_neg h3]; omega
    · rw [if_neg h2]; omega
/-- the text -/
def ftx (N : Nat) : ByteArray := ⟨((List.range (N + 3)).map fun j => UInt8.ofNat (farb N j)).toArray⟩
theorem ftx_size (N : Nat) : (ftx N).size = N + 3 := by
  show (((List.range (N + 3)).map fun j => UInt8.ofNat (farb N j)).toArray).size = N + 3
  rw [List.size_toArray, List.length_map, List.length_range]
theorem ftx_byt (N j : Nat) (h : j < N + 3) : byt (ftx N) j = farb N j := by
  unfold byt ftx
  rw [List.toList_toArray, List.getD, List.getElem?_map, List.getElem?_range h]
  show (UInt8.ofNat (farb N j)).toNat = farb N j
  rw [UInt8.toNat_ofNat', Nat.mod_eq_of_lt (farb_lt N j)]
section
variable {N : Nat}
theorem f0 (hN : 3 ≤ N) : byt (ftx N) 0 = 0 ∧ byt (ftx N) (0 + 1) = 255 ∧ byt (ftx N) (0 + 2) = 0 := by
  refine ⟨?_, ?_, ?_⟩ <;> rw [ftx_byt N _ (by omega)] <;> unfold farb <;> rw [if_neg (by omega)] <;> rfl
theorem fN (hN : 3 ≤ N) : byt (ftx N) N = 0 ∧ byt (ftx N) (N + 1) = 255 ∧ byt (ftx N) (N + 2) = 0 := by
  refine ⟨?_, ?_, ?_⟩ <;> rw [ftx_byt N _ (by omega)] <;> unfold farb <;> rw [if_pos (by omega)]
  · rw [if_neg (by omega)]
  · rw [if_pos rfl]
  · rw [if_neg (by omega)]
theorem far_lng (hN : 3 ≤ N) : lng (ftx N) 0 N = 3 := by
  obtain ⟨a0, a1, a2⟩ := f0 hN
  obtain ⟨b0, b1, b2⟩ := fN hN
  refine (lng_is (ftx N) 0 N).uniq ⟨?_, ?_, .inl ?_⟩
  · unfold most; rw [ftx_size]; omega
  · intro i hi
    have : i = 0 ∨ i = 1 ∨ i = 2 := by omega
    rcases this with rfl | rfl | rfl
    · rw [Nat.add_zero, a0, Nat.add_zero, b0]
    · rw [a1, b1]
    · rw [a2, b2]
  · unfold most; rw [ftx_size]; omega
theorem far_cnd (hN : 3 ≤ N) : nr (ftx N) [0] N 5 = if N ≤ 32768 then [0] else [] := by
  obtain ⟨a0, a1, a2⟩ := f0 hN
  obtain ⟨b0, b1, b2⟩ := fN hN
  have h3 : at3 (ftx N) 0 (byt (ftx N) N) (byt (ftx N) (N + 1)) (byt (ftx N) (N + 2)) = true := at3_iff.2 ⟨by rw [ftx_size]; omega, by rw [a0, b0], by rw [a1, b1], by rw [a2, b2]⟩
  have hg : grp (ftx N) [0] (byt (ftx N) N) (byt (ftx N) (N + 1)) (byt (ftx N) (N + 2)) = [0] := by
    unfold grp
    rw [List.filter_cons, if_pos h3]; rfl
  unfold nr cnd
  rw [if_pos (by rw [ftx_size]; omega), hg]
  by_cases c : N ≤ 32768
  · rw [if_pos c, List.filter_cons, if_pos (by simp; omega)]; rfl
  · rw [if_neg c, List.filter_cons, if_neg (by simp; omega)]; rfl
theorem far_fnd (hN : 3 ≤ N) : fnd (ftx N) N 9 2 (nr (ftx N) [0] N 5) (0, 0) = if N ≤ 32768 then (3, N) else (0, 0) := by
  rw [far_cnd hN]
  by_cases c : N ≤ 32768
  · rw [if_pos c, if_pos c, fnd_go _ _ _ _ _ _ _ (by rw [far_lng hN]; omega)]
    unfold fnd stp
    rw [far_lng hN, if_pos ⟨by omega, by simp only; omega⟩]
    rfl
  · rw [if_neg c, if_neg c]; rfl
end

theorem far_info : (Try.prog.info? 5).map (fun i => (i.zero, i.size, i.bytes)) = some (some (.int .u8 0), 1, 1) := by kernel_rfl
theorem madeB (w : World) (n : Nat) (hn : n ≤ 40000) : (Instr.makeSlice 35 (.int .i64 (n : Int)) (.int .i64 (n : Int))).run Try.prog w = .ok (.slice (some ⟨w.heap.size, 0, none⟩) n n) (w.alloc (.cells (madeCells #[.int .u8 0] n) 5)) := by
  obtain ⟨i, h1, h2, h3, h4⟩ := info_of far_info
  exact run_make_row 35 5 i _ Try.underlying35 h1 h2 h3 rfl .i64 .i64 n (by rw [h4]; omega) (by omega) w
/-- a row as a string -/
theorem conv_row8 {w : World} {b n cp : Nat} {f : Nat → Nat} (h : w.rowIs b 5 n (fun j => .int .u8 (f j : Nat))) (hf : ∀ j, j < n → f j < 256) :
    (convert 35 9 (.slice (some ⟨b, 0, none⟩) n cp)).run Try.prog w = .ok (.string ⟨((List.range n).map fun j => UInt8.ofNat (f j)).toArray⟩) w := by
  have hl : ((List.range n).map fun j => UInt8.ofNat (f j)).length = n := by rw [List.length_map, List.length_range]
  have := run_convert_bytes_back (P := Try.prog) w 35 9 5 ⟨b, 0, none⟩ cp ((List.range n).map fun j => UInt8.ofNat (f j)) Try.underlying35 Try.underlying5 Try.underlying9 (fun i hi => by
    rw [hl] at hi
    have ha : (⟨b, 0, none⟩ : Addr).add i = ⟨b, i, none⟩ := by rw [iadd_at, Nat.zero_add]
    rw [ha, h.cell hi, List.getElem_map, List.getElem_range, UInt8.toNat_ofNat', Nat.mod_eq_of_lt (hf i hi)])
  rw [hl] at this
  exact this
/-- three bytes copied into a row -/
def put3 (o : Nat) (f : Nat → Nat) (j : Nat) : Nat := if o ≤ j ∧ j < o + 3 then (if j = o + 1 then 255 else 0) else f j
theorem copy3 {w : World} {g n o c : Nat} {f : Nat → Nat} (h : w.rowIs g 5 n (fun j => .int .u8 (f j : Nat))) (ho : o + 3 ≤ n) (len : Nat) (hl : 3 ≤ len) :
    ∃ W', (Builtin.copy_ #[35, 9] 3 #[.slice (some ⟨g, o, none⟩) len c, .string ⟨#[0, 255, 0]⟩]).run Try.prog w = .ok (goInt 3) W' ∧ W'.rowIs g 5 n (fun j => .int .u8 (put3 o f j : Nat)) ∧ ∀ B, B ≤ g → Below B w W' := by
  obtain ⟨cur, hb, hn, hc⟩ := h
  have hm : (3 : Nat) = Nat.min (⟨#[0, 255, 0]⟩ : ByteArray).size len := (Nat.min_eq_left hl).symm
  have r := run_copy_string_some (P := Try.prog) w 35 9 3 5 g o len c 3 ⟨#[0, 255, 0]⟩ cur 5 Try.underlying35 (by kernel_rfl) hb hm (by omega)
  refine ⟨_, r, ⟨_, setRow_heap w g cur _ 5 _ hb, ?_, fun i hi => ?_⟩, fun B hB => ?_⟩
  · simp [Lib.byteCells]; omega
  · have hcl : cur.toList.length = n := by simpa using hn
    have e3 : Lib.byteCells ((⟨#[0, 255, 0]⟩ : ByteArray).data.toList.take 3) = [.int .u8 0, .int .u8 255, .int .u8 0] := rfl
    rw [e3]
    have hci := hc i hi
    rw [List.getElem?_toArray]
    show _ = some (Value.int .u8 ((put3 o f i : Nat) : Int))
    unfold put3
    by_cases c1 : o ≤ i ∧ i < o + 3
    · rw [if_pos c1, List.append_assoc, List.getElem?_append_right (by rw [List.length_take]; omega), List.length_take, show min o cur.toList.length = o by omega]
      have : i - o = 0 ∨ i - o = 1 ∨ i - o = 2 := by omega
      rcases this with q | q | q <;> rw [q]
      · rw [if_neg (by omega)]; rfl
      · rw [if_pos (by omega)]; rfl
      · rw [if_neg (by omega)]; rfl
    · rw [if_neg c1]
      by_cases c2 : i < o
      · rw [List.append_assoc, List.getElem?_append_left (by rw [List.length_take]; omega), List.getElem?_take, if_pos c2, Array.getElem?_toList]
        exact hci
      · rw [List.getElem?_append_right (by simp; omega)]
        simp only [List.length_append, List.length_take, List.length_cons, List.length_nil]
        rw [List.getElem?_drop, show o + 3 + (i - (min o cur.toList.length + (0 + 1 + 1 + 1))) = i by omega, Array.getElem?_toList]
        exact hci
  · exact (Kept.setRow (Kept.refl (fun j => j = g) w) g (.inl rfl) _).below (Nat.le_trans hB (Nat.le_of_lt (Array.getElem?_eq_some_iff.1 hb).1)) (fun j hj => by rw [hj]; exact hB)

/-- what lies in the row, step by step, is the text -/
theorem farb_of {N : Nat} (hN : 3 ≤ N) (j : Nat) (hj : j < N + 3) : put3 N (put3 0 (fun j => j % 251 + 1)) j = farb N j := by
  unfold put3 farb
  by_cases c1 : N ≤ j
  · rw [if_pos ⟨c1, hj⟩, if_pos c1]
  · rw [if_neg (fun q => c1 q.1), if_neg c1]
    by_cases c2 : j < 3
    · rw [if_pos ⟨by omega, by omega⟩, if_pos c2, Nat.zero_add]
    · rw [if_neg (fun q => c2 (by omega)), if_neg c2]

set_option maxRecDepth 1000000 in
set_option maxHeartbeats 1000000 in
theorem ChainFar_walk (a0 : Int) (W : World) (w0 : (Lit.int .i8 a0).wf = true) :
    Calls Try.prog 4 #[.int .i8 a0] W fun e w' => e = .returned (.bool true) ∧ Below W.heap.size W w' := by
  have hb : -128 ≤ a0 ∧ a0 ≤ 127 := by simpa [Lit.wf, IntKind.min, IntKind.max, IntKind.signed, IntKind.bits] using w0
  obtain ⟨hb1, hb2⟩ := hb
  clear w0
  obtain ⟨N, hN⟩ : ∃ N : Nat, 32768 + a0 = (N : Int) := ⟨(32768 + a0).toNat, by omega⟩
  have hN3 : 3 ≤ N := by omega
  have hN4 : N ≤ 32895 := by omega
  obtain ⟨M, hM⟩ : ∃ M, N + 3 = M := ⟨_, rfl⟩
  have e2 : (N : Int) + 3 = (M : Int) := by omega
  have hM2 : M ≤ 40000 := by omega
  have hmk := madeB W M hM2
  have HMM := Lib.hid hM
  clear hM
  go_enter Try.func4, Try.ntmps4
  go_wp2_with fail
  clear hmk
  have E2 := Lib.hid e2
  have HN := Lib.hid hN
  clear e2 hN
  go_loopw [5] (fun i wr => ∃ k : Nat, k ≤ M ∧ i = .int .i64 k ∧ wr.rowIs W.heap.size 5 M (fun j => .int .u8 ((if j < k then j % 251 + 1 else 0 : Nat) : Int)) ∧ Below W.heap.size W wr) (fun i _ => M - (intOf i).toNat)
  case atStart => exact ⟨0, Nat.zero_le _, rfl, (World.rowIs_made W (.int .u8 0) M 5).congr (fun i hi => by rw [if_neg (by omega)]; rfl), (Below.refl _ _).alloc (Nat.le_refl _) _⟩
  case round =>
    obtain ⟨k, hk, rfl, hr, hbl⟩ := hrel
    by_cases hlt : k < M
    · obtain ⟨r, hr1⟩ : ∃ r, k % 251 = r := ⟨_, rfl⟩
      have hr2 : r < 251 := by omega
      have hr3 : (k : Int) % 251 = (r : Int) := by omega
      have hs := (World.rowIs.set hr k (.int .u8 ((r + 1 : Nat) : Int))).congr (g := fun j => .int .u8 ((if j < k + 1 then j % 251 + 1 else 0 : Nat) : Int)) (fun j hj => by
        by_cases c : j = k
        · rw [if_pos c, if_pos (by omega), c, hr1]
        · rw [if_neg c]
          by_cases c2 : j < k
          · rw [if_pos c2, if_pos (by omega)]
          · rw [if_neg c2, if_neg (by omega)])
      have hc := World.rowIs.cell hr hlt
      have hf := World.rowIs.frozen hr k
      have HS := Lib.hid hs
      have HB := Lib.hid hbl
      clear hr hs hbl hr1
      go_wp2_with fail
      go_roundw
      case rel => exact ⟨k + 1, by omega, by go_num, by have := HS.out; rw [show ((r + 1 : Nat) : Int) = (r : Int) + 1 by omega] at this; exact this, HB.out.setCell (p := ⟨W.heap.size, k, none⟩) (Nat.le_refl _) _⟩
      case measure => simp [intOf]; omega
    · obtain rfl : k = M := by omega
      have hrow := World.rowIs.congr hr (g := fun j => .int .u8 ((j % 251 + 1 : Nat) : Int)) (fun j hj => by rw [if_pos hj])
      have HM' := HMM.out
      obtain ⟨w2, hc2, hr2, hb2⟩ := copy3 (o := 0) (c := k) (f := fun j => j % 251 + 1) hrow (by omega) k (by omega)
      obtain ⟨w3, hc3, hr3, hb3⟩ := copy3 (o := N) (c := 3) hr2 (by omega) 3 (Nat.le_refl _)
      have hcv := conv_row8 (cp := k) (f := farb N) (World.rowIs.congr hr3 (fun j hj => by rw [farb_of hN3 j (by omega)])) (fun j _ => farb_lt N j)
      rw [← HM'] at hcv
      change (convert 35 9 (.slice (some ⟨W.heap.size, 0, none⟩) (N + 3) k)).run Try.prog w3 = .ok (.string (ftx N)) w3 at hcv
      rw [HM'] at hcv
      have BL := Lib.hid ((hbl.trans (hb2 _ (Nat.le_refl _))).trans (hb3 _ (Nat.le_refl _)))
      have hkN : k - N = 3 := by omega
      have hkN2 : N < k := by omega
      clear hr hrow hr2 hb2 hr3 hb3 HM' hbl
      go_wp2_with fail
      refine (new_any (ftx N) _ (by rw [ftx_size]; omega)).mono ?_; rintro e w4 ⟨F, rfl, hF, H4, b4⟩
      have B4 := Lib.hid (BL.out.trans (b4.mono BL.out.size))
      have hBF : W.heap.size ≤ w3.heap.size := BL.out.size
      have HP := Lib.hid (put_ok H4 0 (by rw [ftx_size]; omega) (by omega) (fun p hp => by cases hp))
      clear b4 H4 hF hc2 hc3 hcv hkN hkN2
      go_wp2_with fail
      refine HP.out.mono ?_; rintro e w5 ⟨rfl, h5, b5⟩
      have B5 := Lib.hid (B4.out.trans (b5.mono hBF))
      have HF := Lib.hid (find_any h5 N 5 9 2 (by omega))
      rw [show ([] : List Nat) ++ [0] = [0] from rfl, far_fnd hN3] at HF
      clear h5 b5
      by_cases hc : 0 < a0
      · rw [if_neg (by have := HN.out; omega)] at HF
        go_wp2_with fail
        refine HF.out.mono ?_; rintro e w6 ⟨rfl, b6⟩
        have B6 := Lib.hid (B5.out.trans (b6.mono B5.out.size))
        clear b6
        go_wp2_with fail
        refine (works_any _).mono ?_; rintro e w7 ⟨rfl, b7⟩
        have B7 := Lib.hid ((B6.out.alloc B6.out.size (.cells #[.int .i64 0, .int .i64 0] 29)).trans (b7.mono (by simp; have := B6.out.size; omega)))
        clear b7
        go_wp2_with fail
        go_ret
        exact ⟨rfl, B7.out⟩
      · rw [if_pos (by have := HN.out; omega)] at HF
        have hc' : decide (0 < a0) = false := decide_eq_false hc
        go_wp2_with fail
        refine HF.out.mono ?_; rintro e w6 ⟨rfl, b6⟩
        have B6 := Lib.hid (B5.out.trans (b6.mono B5.out.size))
        clear b6
        go_wp2_with fail
        refine (works_any _).mono ?_; rintro e w7 ⟨rfl, b7⟩
        have B7 := Lib.hid ((B6.out.alloc B6.out.size (.cells #[.int .i64 3, .int .i64 N] 29)).trans (b7.mono (by simp; have := B6.out.size; omega)))
        clear b7
        go_wp2_with fail
        go_ret
        exact ⟨rfl, B7.out⟩
end Go.Proofs.Ytehpjhdbhhnkhaa
