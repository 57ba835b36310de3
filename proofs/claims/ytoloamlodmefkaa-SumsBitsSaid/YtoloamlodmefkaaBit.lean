/- SumsBits returns true for any arguments that their kinds hold. Conditions: none. -/
import Derived.Test.YtoloamlodmefkaaMor
import Derived.RegionTactic
import Derived.BigRegion
namespace Go.Proofs.Ytoloamlodmefkaa
open Go.RowKit M
set_option linter.unusedVariables false
set_option linter.unusedSimpArgs false

theorem cell0 {W w : World} {B tb : Nat} (h : Ta W B tb st w) : w.cell? ⟨tb, 0, none⟩ = some (.int .u32 0) := by
  have c := h.t.cell (i := 0) (by decide)
  rw [st_zero] at c
  exact c

theorem inf8 : (Try.prog.info? 5).map (fun i => (i.zero, i.size, i.bytes)) = some (some (.int .u8 0), 1, 1) := by kernel_rfl
/-- both texts' bytes' exclusive or, at a place -/
def xb (s t : ByteArray) (j : Nat) : Nat := (nums s).getD j 0 ^^^ (nums t).getD j 0
theorem nums_getD (s : ByteArray) (j : Nat) (h : j < s.size) : (nums s).getD j 0 = s[j].toNat := by
  rw [List.getD, nums_at s j h]; rfl
theorem xb_at (s t : ByteArray) (j : Nat) (hs : j < s.size) (ht : j < t.size) : xb s t j = s[j].toNat ^^^ t[j].toNat := by
  unfold xb; rw [nums_getD s j hs, nums_getD t j ht]
/-- a row of n bytes, of which the first m are both texts' exclusive or -/
def Rx (w : World) (b : Nat) (s t : ByteArray) (n m : Nat) : Prop := w.rowIs b 5 n (fun j => .int .u8 ((if j < m then xb s t j else 0 : Nat) : Int))

/-- the first n bytes of both texts' exclusive or; n bytes 0 -/
def xtext (s t : ByteArray) (n : Nat) : ByteArray := ⟨((List.range n).map fun j => UInt8.ofNat (xb s t j)).toArray⟩
def ztext (n : Nat) : ByteArray := ⟨(List.replicate n (0 : UInt8)).toArray⟩
theorem xtext_size (s t : ByteArray) (n : Nat) : (xtext s t n).size = n := by
  show (((List.range n).map fun j => UInt8.ofNat (xb s t j)).toArray).size = n
  rw [List.size_toArray, List.length_map, List.length_range]
theorem ztext_size (n : Nat) : (ztext n).size = n := by
  show ((List.replicate n (0 : UInt8)).toArray).size = n
  rw [List.size_toArray, List.length_replicate]
theorem ztext_nums (n : Nat) : nums (ztext n) = List.replicate n 0 := by
  unfold nums ztext
  rw [List.toList_toArray, List.map_replicate]; rfl
theorem getD_lt (s : ByteArray) (j : Nat) : (nums s).getD j 0 < 256 := by
  by_cases h : j < s.size
  · rw [nums_getD s j h]; exact UInt8.toNat_lt _
  · rw [List.getD, List.getElem?_eq_none (by rw [nums_length]; omega)]; decide
theorem xb_lt (s t : ByteArray) (j : Nat) : xb s t j < 256 := xor_lt8 (getD_lt s j) (getD_lt t j)
theorem xtext_nums (s t : ByteArray) (n : Nat) : nums (xtext s t n) = (List.range n).map (xb s t) := by
  unfold nums xtext
  rw [List.toList_toArray, List.map_map]
  apply List.map_congr_left
  intro j _
  show (UInt8.ofNat (xb s t j)).toNat = xb s t j
  rw [UInt8.toNat_ofNat', Nat.mod_eq_of_lt (xb_lt s t j)]
theorem nums_extract (s : ByteArray) (n : Nat) : nums (s.extract 0 n) = (nums s).take n := by
  unfold nums
  rw [ByteArray.data_extract, Array.toList_extract, List.extract_eq_take_drop, List.drop_zero, Nat.sub_zero, List.map_take]
theorem xor_text (s t : ByteArray) (n : Nat) (hs : n ≤ s.size) (ht : n ≤ t.size) : crc (xtext s t n) = crc (s.extract 0 n) ^^^ crc (t.extract 0 n) ^^^ crc (ztext n) := by
  have l1 : (nums (s.extract 0 n)).length = n := by rw [nums_extract, List.length_take, nums_length]; omega
  have l2 : (nums (t.extract 0 n)).length = n := by rw [nums_extract, List.length_take, nums_length]; omega
  refine crc_xor _ _ _ _ ?_ (by rw [l1, l2]) (by rw [l1, ztext_nums])
  rw [xtext_nums]
  apply List.ext_getElem?
  intro j
  by_cases hj : j < n
  · rw [List.getElem?_map, List.getElem?_range hj, List.getElem?_zipWith, nums_extract, nums_extract, List.getElem?_take_of_lt hj, List.getElem?_take_of_lt hj, nums_at s j (by omega), nums_at t j (by omega)]
    show some (xb s t j) = some (s[j].toNat ^^^ t[j].toNat)
    rw [xb_at s t j (by omega) (by omega)]
  · rw [List.getElem?_eq_none (by rw [List.length_map, List.length_range]; omega), List.getElem?_eq_none (by rw [List.length_zipWith, l1, l2]; omega)]

/-- Behind a call: the row that a law holds is as it was, and so is what lay below. -/
structure Rw (W : World) (B b : Nat) (s t : ByteArray) (n : Nat) (w : World) : Prop where
  row : Rx w b s t n n
  bel : Below B W w
  le : B ≤ b
theorem Rw.next {W w w' : World} {B b n : Nat} {s t : ByteArray} (h : Rw W B b s t n w) (hb : Below w.heap.size w w') : Rw W B b s t n w' :=
  ⟨World.rowIs.of_block h.row (hb.block b (World.rowIs.lt h.row)), h.bel.trans (hb.mono (Nat.le_trans h.le (Nat.le_of_lt (World.rowIs.lt h.row)))), h.le⟩
theorem Rw.alloc {W w : World} {B b n : Nat} {s t : ByteArray} (h : Rw W B b s t n w) (o : Obj) : Rw W B b s t n (w.alloc o) :=
  ⟨World.rowIs.alloc h.row o, h.bel.alloc (Nat.le_trans h.le (Nat.le_of_lt (World.rowIs.lt h.row))) o, h.le⟩
theorem Rw.drew {W w : World} {B b n : Nat} {s t : ByteArray} (h : Rw W B b s t n w) : Rw W B b s t n w.drew := ⟨World.rowIs.drew h.row, h.bel.drew, h.le⟩

/-- The row, as a string. -/
theorem conv_row8 {w : World} {b n cp : Nat} {f : Nat → Nat} (h : w.rowIs b 5 n (fun j => .int .u8 (f j : Nat))) (hf : ∀ j, j < n → f j < 256) :
    (convert 34 9 (.slice (some ⟨b, 0, none⟩) n cp)).run Try.prog w = .ok (.string ⟨((List.range n).map fun j => UInt8.ofNat (f j)).toArray⟩) w := by
  have hl : ((List.range n).map fun j => UInt8.ofNat (f j)).length = n := by rw [List.length_map, List.length_range]
  have := run_convert_bytes_back (P := Try.prog) w 34 9 5 ⟨b, 0, none⟩ cp ((List.range n).map fun j => UInt8.ofNat (f j)) Try.underlying34 Try.underlying5 Try.underlying9 (fun i hi => by
    rw [hl] at hi
    have ha : (⟨b, 0, none⟩ : Addr).add i = ⟨b, i, none⟩ := by rw [Addr.add_mid, Nat.zero_add]
    rw [ha, h.cell hi, List.getElem_map, List.getElem_range, UInt8.toNat_ofNat', Nat.mod_eq_of_lt (hf i hi)])
  rw [hl] at this
  exact this
theorem conv_rx {W w : World} {B b n : Nat} {s t : ByteArray} (h : Rw W B b s t n w) : (convert 34 9 (.slice (some ⟨b, 0, none⟩) n n)).run Try.prog w = .ok (.string (xtext s t n)) w :=
  conv_row8 (f := xb s t) (World.rowIs.congr h.row (fun i hi => by rw [if_pos hi])) (fun j _ => xb_lt s t j)
theorem conv_zero (w : World) (n : Nat) : (convert 34 9 (.slice (some ⟨w.heap.size, 0, none⟩) n n)).run Try.prog (w.alloc (.cells (madeCells #[.int .u8 0] n) 5)) = .ok (.string (ztext n)) (w.alloc (.cells (madeCells #[.int .u8 0] n) 5)) := by
  have h := conv_row8 (cp := n) (f := fun _ => 0) (World.rowIs_made w (.int .u8 0) n 5) (fun j _ => by decide)
  have e : ((List.range n).map fun _ => UInt8.ofNat 0) = List.replicate n (0 : UInt8) := by
    apply List.ext_getElem?
    intro j
    by_cases hj : j < n
    · rw [List.getElem?_map, List.getElem?_range hj, List.getElem?_replicate, if_pos hj]; rfl
    · rw [List.getElem?_eq_none (by rw [List.length_map, List.length_range]; omega), List.getElem?_eq_none (by rw [List.length_replicate]; omega)]
  rw [h, e]
  rfl

section
variable {ops : Array Oper} {Q : Exit → Act → World → Prop} {md : Region.Mode} {i fuel : Nat} {oi : Oper} {v : Value} {d : Option Tmp} {listed : Array Bool} {a : Act} {w : World} {S : World → Prop}
theorem tk_opS (hi : ops[i]? = some oi) (hd : oi.dst = d) (hs : Region.noSelect ops = true) (hf : Region.free md ops listed i = true) (hr : (Region.ready md ops listed).contains i = true)
    (hQ : ∀ c a w, Q (.panic c) (a.put oi.dst v) w → Q (.panic c) a w) (hw : Region.wanted oi (yielded ops a.tmps) = true) (hy : ∀ w, S w → (execOp a.eval oi).run Try.prog w = .ok (.value v) w)
    (hS : S w) (h : wpAnyH Try.prog md ops Q S fuel (listed.setIfInBounds i true) (a.put d v) w) : wpAnyH Try.prog md ops Q S (fuel + 1) listed a w :=
  wpAnyH_take hi hs hf hr hQ (.inl ⟨hw, hy⟩) hS (by rw [hd]; exact h)
theorem at_callS (hr : Region.ready md ops listed = [i]) (hi : ops[i]? = some oi)
    (h : ∀ K : Act → World → Prop, Shut (∀ a w, S w → (S w → wpAnyH Try.prog md ops Q S fuel (listed.setIfInBounds i true) a w) → K a w) → if Region.wanted oi (yielded ops a.tmps) = true then Oper.wp Try.prog oi a w K Q else K (a.put oi.dst undef) w) :
    wpAnyH Try.prog md ops Q S (fuel + 1) listed a w :=
  wpAnyH_ready hr (by simp) (AllReadyH.cons hi h AllReadyH.nil)
theorem at_regionS {id : Nat} (hS : S w.drew) (h : S w.drew → wpAnyH Try.prog .any ops Q S ops.size (Array.replicate ops.size false) a w.drew) : (Code.region id ops true).wp Try.prog Q a w :=
  wp_region_held_drew (by kernel_rfl) hS h
end

theorem bits_far (a0 a1 : Int) (s t : ByteArray) (w : World) (n : Nat) (hm1 : (if (t.size : Int) < (s.size : Int) then (t.size : Int) else (s.size : Int)) = (n : Int)) (hm2 : (if t.size < s.size then (t.size : Int) else (s.size : Int)) = (n : Int)) (h : 8192 < n) :
    Calls Try.prog 6 #[.int .u8 a0, .int .u8 a1, .string s, .string t] w fun e w' => e = .returned (.bool true) ∧ Below w.heap.size w w' := by
  go_enter Try.func6, Try.ntmps6
  go_wp2_with fail
  refine (alive_any _).mono ?_; rintro e w9 ⟨rfl, b9⟩
  go_wp2_with fail
  go_ret
  exact ⟨rfl, b9⟩

set_option maxHeartbeats 4000000 in
set_option maxRecDepth 1000000 in
theorem bits_yes (i k : Nat) (s t : ByteArray) (w : World) (n : Nat) (hi : i < 256) (hk : k < 256) (hm1 : (if (t.size : Int) < (s.size : Int) then (t.size : Int) else (s.size : Int)) = (n : Int)) (hm2 : (if t.size < s.size then (t.size : Int) else (s.size : Int)) = (n : Int)) (h : n ≤ 8192) (hns : n ≤ s.size) (hnt : n ≤ t.size) :
    Calls Try.prog 6 #[.int .u8 i, .int .u8 k, .string s, .string t] w fun e w' => e = .returned (.bool true) ∧ Below w.heap.size w w' := by
  have hx := xor8 i k hi hk
  have hj := xor_lt8 hi hk
  have hl := xor32 (st i) (st k) (Tn_st i hi) (Tn_st k hk)
  rw [← st_xor] at hl
  obtain ⟨j, hj2⟩ : ∃ j, i ^^^ k = j := ⟨_, rfl⟩
  rw [hj2] at hx hj hl
  have hd0 : decide ((8192 : Int) < (n : Int)) = false := by simp; omega
  have hi' : (i : Int) < 256 := by omega
  have hk' : (k : Int) < 256 := by omega
  have hj' : (j : Int) < 256 := by omega
  have hz := arrZero
  clear hj2
  go_enter Try.func6, Try.ntmps6
  go_wp2_with fail
  refine (table_any _).mono ?_; rintro e w1 ⟨rfl, b1⟩
  have H1 := Lib.hid (Ta.first b1 st)
  clear b1 hm1 hm2
  go_wp2_with (refine step_store rfl _ _ rfl _ st rfl rfl ?_)
  clear hz
  refine at_region H1.out (fun h0 => ?_)
  refine tk_op (i := 0) (d := some 23) (v := ?_) rfl rfl (by kernel_rfl) (by kernel_rfl) (by kernel_rfl) (fun _ _ _ h => h) (by rfl) (fun w hS => ?_) h0 ?_
  rotate_left
  · (have c1 := hS.t.cell hj; have c2 := hS.t.cell hi; have c3 := hS.t.cell hk; have c4 := cell0 hS; go_simp; (try with_reducible rfl))
  simp only [Act.put, List.setIfInBounds_toArray, List.set_cons_zero, List.set_cons_succ]
  refine tk_op (i := 1) (d := some 24) (v := ?_) rfl rfl (by kernel_rfl) (by kernel_rfl) (by kernel_rfl) (fun _ _ _ h => h) (by rfl) (fun w hS => ?_) h0 ?_
  rotate_left
  · (have c1 := hS.t.cell hj; have c2 := hS.t.cell hi; have c3 := hS.t.cell hk; have c4 := cell0 hS; go_simp; (try with_reducible rfl))
  simp only [Act.put, List.setIfInBounds_toArray, List.set_cons_zero, List.set_cons_succ]
  refine tk_op (i := 2) (d := some 25) (v := ?_) rfl rfl (by kernel_rfl) (by kernel_rfl) (by kernel_rfl) (fun _ _ _ h => h) (by rfl) (fun w hS => ?_) h0 ?_
  rotate_left
  · (have c1 := hS.t.cell hj; have c2 := hS.t.cell hi; have c3 := hS.t.cell hk; have c4 := cell0 hS; go_simp; (try with_reducible rfl))
  simp only [Act.put, List.setIfInBounds_toArray, List.set_cons_zero, List.set_cons_succ]
  refine tk_op (i := 3) (d := some 26) (v := ?_) rfl rfl (by kernel_rfl) (by kernel_rfl) (by kernel_rfl) (fun _ _ _ h => h) (by rfl) (fun w hS => ?_) h0 ?_
  rotate_left
  · (have c1 := hS.t.cell hj; have c2 := hS.t.cell hi; have c3 := hS.t.cell hk; have c4 := cell0 hS; go_simp; (try with_reducible rfl))
  simp only [Act.put, List.setIfInBounds_toArray, List.set_cons_zero, List.set_cons_succ]
  refine tk_op (i := 4) (d := some 27) (v := ?_) rfl rfl (by kernel_rfl) (by kernel_rfl) (by kernel_rfl) (fun _ _ _ h => h) (by rfl) (fun w hS => ?_) h0 ?_
  rotate_left
  · (have c1 := hS.t.cell hj; have c2 := hS.t.cell hi; have c3 := hS.t.cell hk; have c4 := cell0 hS; go_simp; (try with_reducible rfl))
  simp only [Act.put, List.setIfInBounds_toArray, List.set_cons_zero, List.set_cons_succ]
  refine tk_op (i := 5) (d := some 28) (v := ?_) rfl rfl (by kernel_rfl) (by kernel_rfl) (by kernel_rfl) (fun _ _ _ h => h) (by rfl) (fun w hS => ?_) h0 ?_
  rotate_left
  · (have c1 := hS.t.cell hj; have c2 := hS.t.cell hi; have c3 := hS.t.cell hk; have c4 := cell0 hS; go_simp; (try with_reducible rfl))
  simp only [Act.put, List.setIfInBounds_toArray, List.set_cons_zero, List.set_cons_succ]
  refine tk_op (i := 6) (d := some 29) (v := ?_) rfl rfl (by kernel_rfl) (by kernel_rfl) (by kernel_rfl) (fun _ _ _ h => h) (by rfl) (fun w hS => ?_) h0 ?_
  rotate_left
  · (have c1 := hS.t.cell hj; have c2 := hS.t.cell hi; have c3 := hS.t.cell hk; have c4 := cell0 hS; go_simp; (try with_reducible rfl))
  simp only [Act.put, List.setIfInBounds_toArray, List.set_cons_zero, List.set_cons_succ]
  refine tk_op (i := 7) (d := some 30) (v := ?_) rfl rfl (by kernel_rfl) (by kernel_rfl) (by kernel_rfl) (fun _ _ _ h => h) (by rfl) (fun w hS => ?_) h0 ?_
  rotate_left
  · (have c1 := hS.t.cell hj; have c2 := hS.t.cell hi; have c3 := hS.t.cell hk; have c4 := cell0 hS; go_simp; (try with_reducible rfl))
  simp only [Act.put, List.setIfInBounds_toArray, List.set_cons_zero, List.set_cons_succ]
  refine tk_op (i := 8) (d := some 31) (v := ?_) rfl rfl (by kernel_rfl) (by kernel_rfl) (by kernel_rfl) (fun _ _ _ h => h) (by rfl) (fun w hS => ?_) h0 ?_
  rotate_left
  · (have c1 := hS.t.cell hj; have c2 := hS.t.cell hi; have c3 := hS.t.cell hk; have c4 := cell0 hS; go_simp; (try with_reducible rfl))
  simp only [Act.put, List.setIfInBounds_toArray, List.set_cons_zero, List.set_cons_succ]
  refine tk_op (i := 9) (d := some 32) (v := ?_) rfl rfl (by kernel_rfl) (by kernel_rfl) (by kernel_rfl) (fun _ _ _ h => h) (by rfl) (fun w hS => ?_) h0 ?_
  rotate_left
  · (have c1 := hS.t.cell hj; have c2 := hS.t.cell hi; have c3 := hS.t.cell hk; have c4 := cell0 hS; go_simp; (try with_reducible rfl))
  simp only [Act.put, List.setIfInBounds_toArray, List.set_cons_zero, List.set_cons_succ]
  refine tk_op (i := 10) (d := some 33) (v := ?_) rfl rfl (by kernel_rfl) (by kernel_rfl) (by kernel_rfl) (fun _ _ _ h => h) (by rfl) (fun w hS => ?_) h0 ?_
  rotate_left
  · (have c1 := hS.t.cell hj; have c2 := hS.t.cell hi; have c3 := hS.t.cell hk; have c4 := cell0 hS; go_simp; (try with_reducible rfl))
  simp only [Act.put, List.setIfInBounds_toArray, List.set_cons_zero, List.set_cons_succ]
  refine tk_op (i := 11) (d := some 34) (v := ?_) rfl rfl (by kernel_rfl) (by kernel_rfl) (by kernel_rfl) (fun _ _ _ h => h) (by rfl) (fun w hS => ?_) h0 ?_
  rotate_left
  · (have c1 := hS.t.cell hj; have c2 := hS.t.cell hi; have c3 := hS.t.cell hk; have c4 := cell0 hS; go_simp; (try with_reducible rfl))
  simp only [Act.put, List.setIfInBounds_toArray, List.set_cons_zero, List.set_cons_succ]
  refine tk_op (i := 12) (d := some 35) (v := ?_) rfl rfl (by kernel_rfl) (by kernel_rfl) (by kernel_rfl) (fun _ _ _ h => h) (by rfl) (fun w hS => ?_) h0 ?_
  rotate_left
  · (have c1 := hS.t.cell hj; have c2 := hS.t.cell hi; have c3 := hS.t.cell hk; have c4 := cell0 hS; go_simp; (try with_reducible rfl))
  simp only [Act.put, List.setIfInBounds_toArray, List.set_cons_zero, List.set_cons_succ]
  refine tk_op (i := 13) (d := some 36) (v := ?_) rfl rfl (by kernel_rfl) (by kernel_rfl) (by kernel_rfl) (fun _ _ _ h => h) (by rfl) (fun w hS => ?_) h0 ?_
  rotate_left
  · (have c1 := hS.t.cell hj; have c2 := hS.t.cell hi; have c3 := hS.t.cell hk; have c4 := cell0 hS; go_simp; (try with_reducible rfl))
  simp only [Act.put, List.setIfInBounds_toArray, List.set_cons_zero, List.set_cons_succ]
  refine tk_op (i := 14) (d := some 37) (v := ?_) rfl rfl (by kernel_rfl) (by kernel_rfl) (by kernel_rfl) (fun _ _ _ h => h) (by rfl) (fun w hS => ?_) h0 ?_
  rotate_left
  · (have c1 := hS.t.cell hj; have c2 := hS.t.cell hi; have c3 := hS.t.cell hk; have c4 := cell0 hS; go_simp; (try with_reducible rfl))
  simp only [Act.put, List.setIfInBounds_toArray, List.set_cons_zero, List.set_cons_succ]
  refine tk_op (i := 15) (d := some 38) (v := ?_) rfl rfl (by kernel_rfl) (by kernel_rfl) (by kernel_rfl) (fun _ _ _ h => h) (by rfl) (fun w hS => ?_) h0 ?_
  rotate_left
  · (have c1 := hS.t.cell hj; have c2 := hS.t.cell hi; have c3 := hS.t.cell hk; have c4 := cell0 hS; go_simp; (try with_reducible rfl))
  simp only [Act.put, List.setIfInBounds_toArray, List.set_cons_zero, List.set_cons_succ]
  refine tk_op (i := 16) (d := some 39) (v := ?_) rfl rfl (by kernel_rfl) (by kernel_rfl) (by kernel_rfl) (fun _ _ _ h => h) (by rfl) (fun w hS => ?_) h0 ?_
  rotate_left
  · (have c1 := hS.t.cell hj; have c2 := hS.t.cell hi; have c3 := hS.t.cell hk; have c4 := cell0 hS; go_simp; (try with_reducible rfl))
  simp only [Act.put, List.setIfInBounds_toArray, List.set_cons_zero, List.set_cons_succ]
  refine tk_op (i := 17) (d := some 40) (v := ?_) rfl rfl (by kernel_rfl) (by kernel_rfl) (by kernel_rfl) (fun _ _ _ h => h) (by rfl) (fun w hS => ?_) h0 ?_
  rotate_left
  · (have c1 := hS.t.cell hj; have c2 := hS.t.cell hi; have c3 := hS.t.cell hk; have c4 := cell0 hS; go_simp; (try with_reducible rfl))
  simp only [Act.put, List.setIfInBounds_toArray, List.set_cons_zero, List.set_cons_succ]
  refine wpAnyH_done (by kernel_rfl) ?_ _

  obtain ⟨W5, hW⟩ : ∃ W5, W5 = (w1.alloc (.cells (TV st) 25)).drew := ⟨_, rfl⟩
  rw [← hW] at h0 ⊢
  have H5 := Lib.hid h0.b
  clear h0 hW H1 hx hj hl hi hk hi' hk' hj'
  have hmk := run_make_row' (P := Try.prog) 34 5 (.int .u8 0) 1 Try.underlying34 inf8 rfl .i64 .i64 n (by omega) (by omega)
  go_wp2_with fail
  go_loopw [12] (fun j wr => ∃ m : Nat, m ≤ n ∧ j = .int .i64 m ∧ Rx wr W5.heap.size s t n m ∧ Below w.heap.size w wr) (fun j _ => n - (intOf j).toNat)
  case atStart => exact ⟨0, Nat.zero_le _, rfl, (World.rowIs_made W5 (.int .u8 0) n 5).congr (fun i hi => by rw [if_neg (by omega)]; rfl), H5.out.alloc H5.out.size _⟩
  case round =>
    obtain ⟨m, hm, rfl, hr, hb⟩ := hrel
    by_cases hlt : m < n
    · have hc := hr.cell hlt
      have hf := hr.frozen m
      have hs1 : (m : Int) < (s.size : Int) := by omega
      have ht1 : (m : Int) < (t.size : Int) := by omega
      have hn1 : (m : Int) < (n : Int) := by omega
      have hx1 := xb_at s t m (by omega) (by omega)
      obtain ⟨b, hb1⟩ : ∃ b, (s[m]'(by omega)).toNat = b := ⟨_, rfl⟩
      obtain ⟨c, hc1⟩ : ∃ c, (t[m]'(by omega)).toNat = c := ⟨_, rfl⟩
      have hb2 : b < 256 := by rw [← hb1]; exact byte_lt s m (by omega)
      have hc2 : c < 256 := by rw [← hc1]; exact byte_lt t m (by omega)
      rw [hb1, hc1] at hx1
      have hxx := xor8 b c hb2 hc2
      rw [← hx1] at hxx
      have HR := Lib.hid hr
      have HB := Lib.hid hb
      clear hr hb hx1 hmk
      go_wp2_with fail
      go_region
      go_wp2_with fail
      go_roundw
      case rel =>
        refine ⟨m + 1, by omega, by go_num, ((HR.out.set m _).drew).congr ?_, (HB.out.setCell H5.out.size _).drew⟩
        intro i hi
        by_cases e : i = m
        · subst e
          rw [if_pos rfl, if_pos (by omega)]
        · rw [if_neg e]
          by_cases e2 : i < m
          · rw [if_pos e2, if_pos (by omega)]
          · rw [if_neg e2, if_neg (by omega)]
      case measure => simp [intOf]; omega
    · obtain rfl : m = n := by omega
      have hsx : (s.extract 0 m).size = m := by rw [ByteArray.size_extract]; omega
      have htx : (t.extract 0 m).size = m := by rw [ByteArray.size_extract]; omega
      have hQ := xor_text s t m hns hnt
      have hmz : (xtext s t m).size = m := by rw [xtext_size]
      have huz : (ztext m).size = m := by rw [ztext_size]
      have hmx : m ≤ maxLen := by unfold maxLen; omega
      have hn1 : (m : Int) ≤ (s.size : Int) := by omega
      have hn2 : (m : Int) ≤ (t.size : Int) := by omega
      have hn3 : (0 : Int) ≤ (m : Int) := by omega
      have hcv0 := conv_zero wr m
      have HR := Lib.hid (Rw.mk (W := w) (B := w.heap.size) hr hb H5.out.size)
      clear hr hb
      obtain ⟨x, hx⟩ : ∃ x, x = s.extract 0 m := ⟨_, rfl⟩
      obtain ⟨y, hy⟩ : ∃ y, y = t.extract 0 m := ⟨_, rfl⟩
      obtain ⟨z, hz⟩ : ∃ z, z = xtext s t m := ⟨_, rfl⟩
      obtain ⟨u, hu⟩ : ∃ u, u = ztext m := ⟨_, rfl⟩
      rw [← hx] at hsx hQ
      rw [← hy] at htx hQ
      rw [← hz] at hmz hQ
      rw [← hu] at huz hQ hcv0
      have HX := Lib.hid (show x.size ≤ maxLen by omega)
      have HY := Lib.hid (show y.size ≤ maxLen by omega)
      have HZ := Lib.hid (show z.size ≤ maxLen by omega)
      have HU := Lib.hid (show u.size ≤ maxLen by omega)
      have q1 := xor32 (crc x) (crc y) (crc_lt x) (crc_lt y)
      have q2 := xor32 (crc x ^^^ crc y) (crc u) (xor_lt (crc_lt x) (crc_lt y)) (crc_lt u)
      rw [← hQ] at q2
      obtain ⟨q, hq⟩ : ∃ q, q = crc x ^^^ crc y := ⟨_, rfl⟩
      rw [← hq] at q1 q2
      have hxe : s.extract 0 m = x := hx.symm
      have hye : t.extract 0 m = y := hy.symm
      have HZE := Lib.hid hz
      clear hQ hq hx hy hz hu hsx htx hmz huz hmx h hns hnt hlt hm
      go_wp2_with fail
      refine at_regionS (S := Rw w w.heap.size W5.heap.size s t m) ((HR.out.alloc _).drew) (fun h0 => ?_)
      refine tk_opS (i := 0) (d := some 61) (v := ?_) rfl rfl (by kernel_rfl) (by kernel_rfl) (by kernel_rfl) (fun _ _ _ h => h) (by rfl) (fun w hS => ?_) h0 ?_
      rotate_left
      · (have hcv := conv_rx hS; rw [← HZE.out] at hcv; go_simp; (try with_reducible rfl))
      simp only [Act.put, List.setIfInBounds_toArray, List.set_cons_zero, List.set_cons_succ]
      refine tk_opS (i := 1) (d := some 62) (v := ?_) rfl rfl (by kernel_rfl) (by kernel_rfl) (by kernel_rfl) (fun _ _ _ h => h) (by rfl) (fun w hS => ?_) h0 ?_
      rotate_left
      · (have hcv := conv_rx hS; rw [← HZE.out] at hcv; go_simp; (try with_reducible rfl))
      simp only [Act.put, List.setIfInBounds_toArray, List.set_cons_zero, List.set_cons_succ]
      refine tk_opS (i := 3) (d := some 64) (v := ?_) rfl rfl (by kernel_rfl) (by kernel_rfl) (by kernel_rfl) (fun _ _ _ h => h) (by rfl) (fun w hS => ?_) h0 ?_
      rotate_left
      · (have hcv := conv_rx hS; rw [← HZE.out] at hcv; go_simp; (try with_reducible rfl))
      simp only [Act.put, List.setIfInBounds_toArray, List.set_cons_zero, List.set_cons_succ]
      refine tk_opS (i := 4) (d := some 65) (v := ?_) rfl rfl (by kernel_rfl) (by kernel_rfl) (by kernel_rfl) (fun _ _ _ h => h) (by rfl) (fun w hS => ?_) h0 ?_
      rotate_left
      · (have hcv := conv_rx hS; rw [← HZE.out] at hcv; go_simp; (try with_reducible rfl))
      simp only [Act.put, List.setIfInBounds_toArray, List.set_cons_zero, List.set_cons_succ]
      refine tk_opS (i := 5) (d := some 66) (v := ?_) rfl rfl (by kernel_rfl) (by kernel_rfl) (by kernel_rfl) (fun _ _ _ h => h) (by rfl) (fun w hS => ?_) h0 ?_
      rotate_left
      · (have hcv := conv_rx hS; rw [← HZE.out] at hcv; go_simp; (try with_reducible rfl))
      simp only [Act.put, List.setIfInBounds_toArray, List.set_cons_zero, List.set_cons_succ]
      refine tk_opS (i := 7) (d := some 68) (v := ?_) rfl rfl (by kernel_rfl) (by kernel_rfl) (by kernel_rfl) (fun _ _ _ h => h) (by rfl) (fun w hS => ?_) h0 ?_
      rotate_left
      · (have hcv := conv_rx hS; rw [← HZE.out] at hcv; go_simp; (try with_reducible rfl))
      simp only [Act.put, List.setIfInBounds_toArray, List.set_cons_zero, List.set_cons_succ]
      refine tk_opS (i := 8) (d := some 69) (v := ?_) rfl rfl (by kernel_rfl) (by kernel_rfl) (by kernel_rfl) (fun _ _ _ h => h) (by rfl) (fun w hS => ?_) h0 ?_
      rotate_left
      · (have hcv := conv_rx hS; rw [← HZE.out] at hcv; go_simp; (try with_reducible rfl))
      simp only [Act.put, List.setIfInBounds_toArray, List.set_cons_zero, List.set_cons_succ]
      refine tk_opS (i := 9) (d := some 70) (v := ?_) rfl rfl (by kernel_rfl) (by kernel_rfl) (by kernel_rfl) (fun _ _ _ h => h) (by rfl) (fun w hS => ?_) h0 ?_
      rotate_left
      · (have hcv := conv_rx hS; rw [← HZE.out] at hcv; go_simp; (try with_reducible rfl))
      simp only [Act.put, List.setIfInBounds_toArray, List.set_cons_zero, List.set_cons_succ]
      refine tk_opS (i := 12) (d := some 73) (v := ?_) rfl rfl (by kernel_rfl) (by kernel_rfl) (by kernel_rfl) (fun _ _ _ h => h) (by rfl) (fun w hS => ?_) h0 ?_
      rotate_left
      · (have hcv := conv_rx hS; rw [← HZE.out] at hcv; go_simp; (try with_reducible rfl))
      simp only [Act.put, List.setIfInBounds_toArray, List.set_cons_zero, List.set_cons_succ]
      refine at_callS (i := 2) (by kernel_rfl) rfl (fun K hK => ?_)
      go_simp
      refine (crc_any z _ HZ.out).mono ?_; rintro e wr0 ⟨rfl, br⟩
      refine hK.out _ _ (h0.next br) (fun h1 => ?_)
      clear hK K h0 br
      (try simp only [Act.put, List.setIfInBounds_toArray, List.set_cons_zero, List.set_cons_succ])
      refine at_callS (i := 6) (by kernel_rfl) rfl (fun K hK => ?_)
      go_simp
      refine (crc_any x _ HX.out).mono ?_; rintro e wr1 ⟨rfl, br⟩
      refine hK.out _ _ (h1.next br) (fun h2 => ?_)
      clear hK K h1 br
      (try simp only [Act.put, List.setIfInBounds_toArray, List.set_cons_zero, List.set_cons_succ])
      refine at_callS (i := 10) (by kernel_rfl) rfl (fun K hK => ?_)
      go_simp
      refine (crc_any y _ HY.out).mono ?_; rintro e wr2 ⟨rfl, br⟩
      refine hK.out _ _ (h2.next br) (fun h3 => ?_)
      clear hK K h2 br
      (try simp only [Act.put, List.setIfInBounds_toArray, List.set_cons_zero, List.set_cons_succ])
      refine tk_opS (i := 11) (d := some 72) (v := ?_) rfl rfl (by kernel_rfl) (by kernel_rfl) (by kernel_rfl) (fun _ _ _ h => h) (by rfl) (fun w hS => ?_) h3 ?_
      rotate_left
      · (have hcv := conv_rx hS; rw [← HZE.out] at hcv; go_simp; (try with_reducible rfl))
      simp only [Act.put, List.setIfInBounds_toArray, List.set_cons_zero, List.set_cons_succ]
      refine at_callS (i := 13) (by kernel_rfl) rfl (fun K hK => ?_)
      go_simp
      refine (crc_any u _ HU.out).mono ?_; rintro e wr3 ⟨rfl, br⟩
      refine hK.out _ _ (h3.next br) (fun h4 => ?_)
      clear hK K h3 br
      (try simp only [Act.put, List.setIfInBounds_toArray, List.set_cons_zero, List.set_cons_succ])
      refine tk_opS (i := 14) (d := some 75) (v := ?_) rfl rfl (by kernel_rfl) (by kernel_rfl) (by kernel_rfl) (fun _ _ _ h => h) (by rfl) (fun w hS => ?_) h4 ?_
      rotate_left
      · (have hcv := conv_rx hS; rw [← HZE.out] at hcv; go_simp; (try with_reducible rfl))
      simp only [Act.put, List.setIfInBounds_toArray, List.set_cons_zero, List.set_cons_succ]
      refine tk_opS (i := 15) (d := some 76) (v := ?_) rfl rfl (by kernel_rfl) (by kernel_rfl) (by kernel_rfl) (fun _ _ _ h => h) (by rfl) (fun w hS => ?_) h4 ?_
      rotate_left
      · (have hcv := conv_rx hS; rw [← HZE.out] at hcv; go_simp; (try with_reducible rfl))
      simp only [Act.put, List.setIfInBounds_toArray, List.set_cons_zero, List.set_cons_succ]
      refine tk_opS (i := 16) (d := some 77) (v := ?_) rfl rfl (by kernel_rfl) (by kernel_rfl) (by kernel_rfl) (fun _ _ _ h => h) (by rfl) (fun w hS => ?_) h4 ?_
      rotate_left
      · (have hcv := conv_rx hS; rw [← HZE.out] at hcv; go_simp; (try with_reducible rfl))
      simp only [Act.put, List.setIfInBounds_toArray, List.set_cons_zero, List.set_cons_succ]
      refine at_callS (i := 17) (by kernel_rfl) rfl (fun K hK => ?_)
      go_simp
      refine (alive_any _).mono ?_; rintro e wr4 ⟨rfl, br⟩
      refine hK.out _ _ (h4.next br) (fun h5 => ?_)
      clear hK K h4 br
      (try simp only [Act.put, List.setIfInBounds_toArray, List.set_cons_zero, List.set_cons_succ])
      refine tk_opS (i := 18) (d := some 79) (v := ?_) rfl rfl (by kernel_rfl) (by kernel_rfl) (by kernel_rfl) (fun _ _ _ h => h) (by rfl) (fun w hS => ?_) h5 ?_
      rotate_left
      · (have hcv := conv_rx hS; rw [← HZE.out] at hcv; go_simp; (try with_reducible rfl))
      simp only [Act.put, List.setIfInBounds_toArray, List.set_cons_zero, List.set_cons_succ]
      refine tk_opS (i := 19) (d := some 8) (v := ?_) rfl rfl (by kernel_rfl) (by kernel_rfl) (by kernel_rfl) (fun _ _ _ h => h) (by rfl) (fun w hS => ?_) h5 ?_
      rotate_left
      · (have hcv := conv_rx hS; rw [← HZE.out] at hcv; go_simp; (try with_reducible rfl))
      simp only [Act.put, List.setIfInBounds_toArray, List.set_cons_zero, List.set_cons_succ]
      refine wpAnyH_done (by kernel_rfl) ?_ _
    
      have H6 := Lib.hid h5
      go_wp2_with fail
      go_ret
      exact ⟨rfl, H6.out.bel⟩

theorem SumsBits_walk (a0 a1 : Int) (a2 a3 : ByteArray) (w : World) (w0 : (Lit.int .u8 a0).wf = true) (w1 : (Lit.int .u8 a1).wf = true) (w2 : a2.size ≤ maxLen) (w3 : a3.size ≤ maxLen) :
    Calls Try.prog 6 #[.int .u8 a0, .int .u8 a1, .string a2, .string a3] w fun e w' => e = .returned (.bool true) ∧ Below w.heap.size w w' := by
  obtain ⟨i, rfl, hi⟩ := u8_nat w0
  obtain ⟨k, rfl, hk⟩ := u8_nat w1
  by_cases g : a3.size < a2.size
  · have m1 : (if (a3.size : Int) < (a2.size : Int) then (a3.size : Int) else (a2.size : Int)) = (a3.size : Int) := if_pos (by omega)
    have m2 : (if a3.size < a2.size then (a3.size : Int) else (a2.size : Int)) = (a3.size : Int) := if_pos g
    by_cases h : a3.size ≤ 8192
    · exact bits_yes i k a2 a3 w a3.size hi hk m1 m2 h (by omega) (by omega)
    · exact bits_far i k a2 a3 w a3.size m1 m2 (by omega)
  · have m1 : (if (a3.size : Int) < (a2.size : Int) then (a3.size : Int) else (a2.size : Int)) = (a2.size : Int) := if_neg (by omega)
    have m2 : (if a3.size < a2.size then (a3.size : Int) else (a2.size : Int)) = (a2.size : Int) := if_neg g
    by_cases h : a2.size ≤ 8192
    · exact bits_yes i k a2 a3 w a2.size hi hk m1 m2 h (by omega) (by omega)
    · exact bits_far i k a2 a3 w a2.size m1 m2 (by omega)

end Go.Proofs.Ytoloamlodmefkaa
