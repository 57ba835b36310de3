/- CanonSplit returns true for any lengths and counts, whichever symbol is parted. Conditions: none. -/
import Derived.Test.YtgcdmgilgknneaaApp
import Derived.Test.YtgcdmgilgknneaaMathS
import Derived.Test.YtgcdmgilgknneaaTel
namespace Go.Proofs.Ytgcdmgilgknneaa
open Go.RowKit M
set_option linter.unusedVariables false

theorem u16_nat {a : Int} (h : (Lit.int .u16 a).wf = true) : ∃ n : Nat, a = n ∧ n < 65536 := by
  have g : 0 ≤ a ∧ a ≤ 65535 := by simpa [Lit.wf, IntKind.min, IntKind.max, IntKind.signed, IntKind.bits] using h
  exact ⟨a.toNat, by omega, by omega⟩

set_option maxHeartbeats 1000000 in
set_option maxRecDepth 1000000 in
theorem split_far (A B : Option Addr) (n m c d : Nat) (x p : Int) (W : World) (hn : n ≤ maxLen) (hm : m ≤ maxLen) (h : 300 < n ∨ n = 0 ∨ 400 < m) :
    Calls Try.prog 6 #[.slice A n c, .slice B m d, .int .u16 x, .int .u16 p] W fun e w' => e = .returned (.bool true) ∧ Below W.heap.size W w' := by
  have hn' : n ≤ 9223372036854775807 := by unfold maxLen at hn; omega
  have hm' : m ≤ 9223372036854775807 := by unfold maxLen at hm; omega
  by_cases h1 : 300 < n
  · have d1 : decide (300 < (n : Int)) = true := decide_eq_true (by omega)
    clear h
    go_enter Try.func6, Try.ntmps6
    go_wp2_with fail
    refine (alive_any _).mono ?_; rintro e w2 ⟨rfl, b2⟩
    go_wp2_with fail
    go_ret
    exact ⟨rfl, b2⟩
  · have d1 : decide (300 < (n : Int)) = false := decide_eq_false (by omega)
    by_cases h2 : n = 0
    · have d2 : ((n : Int) == 0) = true := by rw [beq_iff_eq]; omega
      clear h h2
      go_enter Try.func6, Try.ntmps6
      go_wp2_with fail
      refine (alive_any _).mono ?_; rintro e w2 ⟨rfl, b2⟩
      go_wp2_with fail
      go_ret
      exact ⟨rfl, b2⟩
    · have d2 : ((n : Int) == 0) = false := by rw [beq_eq_false_iff_ne]; omega
      have d3 : decide (400 < (m : Int)) = true := decide_eq_true (by omega)
      clear h h2
      go_enter Try.func6, Try.ntmps6
      go_wp2_with fail
      refine (alive_any _).mono ?_; rintro e w2 ⟨rfl, b2⟩
      go_wp2_with fail
      go_ret
      exact ⟨rfl, b2⟩

set_option maxHeartbeats 1000000 in
set_option maxRecDepth 1000000 in
theorem split_early (A B : Option Addr) (n m c d : Nat) (l : Nat → Nat) (x : Nat) (p : Int) (W : World) (hn : n ≤ 300) (h0 : 0 < n) (hm : m ≤ 400) (hl : ∀ i, l i ≤ 255) (H : Nums W .u8 A n (fun i => (l i : Int))) (hx : x < 65536)
    (h : l (x % n) = 0 ∨ 15 ≤ l (x % n) ∨ kind l n = 5) :
    Calls Try.prog 6 #[.slice A n c, .slice B m d, .int .u16 x, .int .u16 p] W fun e w' => e = .returned (.bool true) ∧ Below W.heap.size W w' := by
  have d1 : decide (300 < (n : Int)) = false := decide_eq_false (by omega)
  have d2 : ((n : Int) == 0) = false := by rw [beq_eq_false_iff_ne]; omega
  have d3 : decide (400 < (m : Int)) = false := decide_eq_false (by omega)
  have HN := Lib.hid (show n ≤ maxLen by unfold maxLen; omega)
  have HL := Lib.hid hl
  have HA := Lib.hid H
  obtain ⟨b, o, rfl, hb, hc⟩ := H h0
  obtain ⟨k, hk⟩ : ∃ k, x % n = k := ⟨_, rfl⟩
  rw [hk] at h
  have hkn : k < n := by rw [← hk]; exact Nat.mod_lt _ h0
  have hmod : (x : Int).tmod (n : Int) = (k : Int) := by rw [Int.tmod_eq_emod_of_nonneg (by omega)]; omega
  have hmod2 : (x : Int) % (n : Int) = (k : Int) := by omega
  have hcell : W.cell? ⟨b, o + k, none⟩ = some (.int .u8 (l k)) := hc k hkn
  obtain ⟨z, hz⟩ : ∃ z, l k = z := ⟨_, rfl⟩
  rw [hz] at h hcell
  have h255 : z ≤ 255 := by rw [← hz]; exact hl k
  have hxw : IntKind.i64.wrap (x : Int) = (x : Int) := IntWalk.i64_in _ (by omega)
  clear hl H hk hz hc
  by_cases e0 : z = 0
  · have q0 : ((z : Int) == 0) = true := by rw [beq_iff_eq]; omega
    clear h e0
    go_enter Try.func6, Try.ntmps6
    go_wp2_with fail
    refine (alive_any _).mono ?_; rintro e w2 ⟨rfl, b2⟩
    go_wp2_with fail
    go_ret
    exact ⟨rfl, b2⟩
  · have q0 : ((z : Int) == 0) = false := by rw [beq_eq_false_iff_ne]; omega
    by_cases e1 : 15 ≤ z
    · have q1 : decide (15 ≤ (z : Int)) = true := decide_eq_true (by omega)
      clear h e0
      go_enter Try.func6, Try.ntmps6
      go_wp2_with fail
      refine (alive_any _).mono ?_; rintro e w2 ⟨rfl, b2⟩
      go_wp2_with fail
      go_ret
      exact ⟨rfl, b2⟩
    · have q1 : decide (15 ≤ (z : Int)) = false := decide_eq_false (by omega)
      have hk5 : kind l n = 5 := by omega
      have HK := Lib.hid hk5
      clear h e0 hk5
      go_enter Try.func6, Try.ntmps6
      go_wp2_with fail
      refine (kind_any _ n c l _ HN.out HL.out HA.out).mono ?_; rintro e w1 ⟨rfl, b1⟩
      rw [HK.out]
      have B1 := Lib.hid b1
      clear b1
      go_wp2_with fail
      refine (alive_any _).mono ?_; rintro e w2 ⟨rfl, b2⟩
      have B2 := Lib.hid (B1.out.trans (b2.mono B1.out.size))
      clear b2
      go_wp2_with fail
      go_ret
      exact ⟨rfl, B2.out⟩

/-- Block b holds n ints. -/
def Irow (w : World) (b n : Nat) (z : Nat → Int) : Prop := w.rowIs b 3 n (fun i => .int .i64 (z i))
theorem Irow.nums {w : World} {b n : Nat} {z : Nat → Int} (h : Irow w b n z) : Nums w .i64 (some ⟨b, 0, none⟩) n z := fun hn =>
  ⟨b, 0, rfl, World.rowIs.lt h, fun i hi => by rw [Nat.zero_add]; exact World.rowIs.cell h hi⟩
theorem Irow.congr {w : World} {b n : Nat} {z y : Nat → Int} (h : Irow w b n z) (e : ∀ i, i < n → z i = y i) : Irow w b n y := World.rowIs.congr h (fun i hi => by rw [e i hi])
theorem Irow.made (w : World) (n : Nat) : Irow (w.alloc (.cells (madeCells #[.int .i64 0] (n * 1)) 3)) w.heap.size n (fun _ => 0) := by
  rw [Nat.mul_one]
  exact World.rowIs_made w (.int .i64 0) n 3
theorem Irow.set {w : World} {b n : Nat} {z : Nat → Int} (h : Irow w b n z) (i : Nat) (v : Int) : Irow (w.setCell ⟨b, i, none⟩ (.int .i64 v)) b n (fun j => if j = i then v else z j) :=
  World.rowIs.congr (World.rowIs.set h i (.int .i64 v)) (fun j hj => by by_cases e : j = i <;> simp [e])
theorem Irow.other {w : World} {b n : Nat} {z : Nat → Int} (h : Irow w b n z) {a : Addr} (ha : b ≠ a.block) (v : Value) : Irow (w.setCell a v) b n z := World.rowIs.setOther h ha v
theorem Irow.alloc {w : World} {b n : Nat} {z : Nat → Int} (h : Irow w b n z) (o : Obj) : Irow (w.alloc o) b n z := World.rowIs.alloc h o
theorem Irow.at' {w w' : World} {b n : Nat} {z : Nat → Int} (h : Irow w b n z) (e : w'.heap[b]? = w.heap[b]?) : Irow w' b n z := World.rowIs.of_block h e
theorem Irow.below {w w' : World} {b n : Nat} {z : Nat → Int} (h : Irow w b n z) (hb : Below w.heap.size w w') : Irow w' b n z := World.rowIs.of_block h (hb.block b (World.rowIs.lt h))

theorem Bs_Irow_ne {base : Nat} {w : World} {g b n m cap : Nat} {F : Nat → Nat} {z : Nat → Int} (O : Bs base w (.slice (some ⟨g, 0, none⟩) n cap) n F) (I : Irow w b m z) : g ≠ b := by
  rintro rfl
  obtain ⟨c, hb, _⟩ := I
  rcases O.2 with ⟨h', _⟩ | ⟨g', cap', cur, h', _, hh, _⟩
  · simp at h'
  · simp only [Value.slice.injEq, Option.some.injEq, Addr.mk.injEq, and_true, true_and] at h'
    obtain ⟨rfl, rfl⟩ := h'
    rw [hh] at hb
    injection hb with hb
    injection hb with _ ht
    exact absurd ht (by decide)

theorem wg_nat {l y : Nat → Nat} {z : Nat → Int} (hl : ∀ i, l i ≤ 255) (hy : ∀ i, y i ≤ 65535) : ∀ n, n ≤ 400 → (∀ i, i < n → z i = (y i : Int)) → wg l z n = (sw l y n : Nat)
  | 0, _, _ => rfl
  | n + 1, h, hz => by
    have h1 := wg_nat hl hy n (by omega) (fun i hi => hz i (by omega))
    have h2 := sw_le hl hy n
    have h3 : l n * y n ≤ 255 * 65535 := Nat.mul_le_mul (hl n) (hy n)
    have e : (l n : Int) * (y n : Int) = ((l n * y n : Nat) : Int) := by push_cast; rfl
    simp only [wg, sw]
    rw [h1, hz n (by omega), e]
    split
    · have e2 : wrap64 ((l n * y n : Nat) : Int) = ((l n * y n : Nat) : Int) := IntWalk.wrap64_in _ ⟨by omega, by omega⟩
      rw [e2, IntWalk.wrap64_in _ ⟨by omega, by omega⟩]; omega
    · have : y n = 0 := by omega
      rw [this]; simp

set_option maxHeartbeats 4000000 in
set_option maxRecDepth 1000000 in
theorem split_ok (B : Option Addr) (b o n m c d : Nat) (l y : Nat → Nat) (x p : Nat) (W : World) (hn : n ≤ 300) (h0 : 0 < n) (hm : m ≤ 400) (hl : ∀ i, l i ≤ 255) (H : Nums W .u8 (some ⟨b, o, none⟩) n (fun i => (l i : Int))) (hb : b < W.heap.size) (hc : ∀ i, i < n → W.cell? ⟨b, o + i, none⟩ = some (.int .u8 (l i)))
    (hy : ∀ i, y i ≤ 65535) (HZ : Nums W .u16 B m (fun i => (y i : Int))) (hx : x < 65536) (hp : p < 65536) (k z : Nat) (hk : x % n = k) (hz : l k = z) (z1 : 1 ≤ z) (z14 : z ≤ 14) (K : Nat) (hK : kind l n = K) (h5 : K ≠ 5) :
    Calls Try.prog 6 #[.slice (some ⟨b, o, none⟩) n c, .slice B m d, .int .u16 x, .int .u16 p] W fun e w' => e = .returned (.bool true) ∧ Below W.heap.size W w' := by
  have d1 : decide (300 < (n : Int)) = false := decide_eq_false (by omega)
  have d2 : ((n : Int) == 0) = false := by rw [beq_eq_false_iff_ne]; omega
  have d3 : decide (400 < (m : Int)) = false := decide_eq_false (by omega)
  have HN := Lib.hid (show n ≤ maxLen by unfold maxLen; omega)
  have HL := Lib.hid hl
  have HA := Lib.hid H
  have HC := Lib.hid hc
  have HY := Lib.hid hy
  have HZZ := Lib.hid HZ
  have HX := Lib.hid hx
  have hkn : k < n := by rw [← hk]; exact Nat.mod_lt _ h0
  have hmod : (x : Int).tmod (n : Int) = (k : Int) := by rw [Int.tmod_eq_emod_of_nonneg (by omega)]; omega
  have hmod2 : (x : Int) % (n : Int) = (k : Int) := by omega
  have hcell : W.cell? ⟨b, o + k, none⟩ = some (.int .u8 (l k)) := hc k hkn
  rw [hz] at hcell
  have hxw : IntKind.i64.wrap (x : Int) = (x : Int) := IntWalk.i64_in _ (by omega)
  have q0 : ((z : Int) == 0) = false := by rw [beq_eq_false_iff_ne]; omega
  have q1 : decide (15 ≤ (z : Int)) = false := decide_eq_false (by omega)
  have q5 : ((K : Int) == 5) = false := by rw [beq_eq_false_iff_ne]; omega
  have HK := Lib.hid hK
  have HZ1 := Lib.hid hz
  have H5 := Lib.hid h5
  clear hl H hk hz hc hy HZ hK h5
  go_enter Try.func6, Try.ntmps6
  go_wp2_with fail
  refine (kind_any _ n c l _ HN.out HL.out HA.out).mono ?_; rintro e w1 ⟨rfl, b1⟩
  rw [HK.out]
  have B1 := Lib.hid b1
  clear b1
  have HC1 := Lib.hid (fun i (hi : i < n) => (B1.out.cell hb).trans (HC.out i hi))
  have hmk : ∀ w, (Instr.makeSlice 23 (.int .i64 ((n : Int) + 1)) (.int .i64 ((n : Int) + 1))).run Try.prog w = .ok (.slice (some ⟨w.heap.size, 0, none⟩) (n + 1) (n + 1)) (w.alloc (.cells (madeCells #[.int .i64 0] ((n + 1) * 1)) 3)) := fun w => madeInt w (n + 1) (by omega)
  have hE := Lib.hid (Bs.empty w1 (Nat.le_refl _) l)
  have hG : Hid (∀ j, j < n → (w1.alloc (.cells #[] 5)).cell? ((⟨b, o, none⟩ : Addr).add j) = some (.int .u8 (l j))) := Lib.hid (fun j hj => by
    rw [iadd_at]
    exact (((Below.refl w1.heap.size w1).alloc (Nat.le_refl _) _).cell (World.block_lt_of_cell? _ _ (HC1.out j hj))).trans (HC1.out j hj))
  go_wp2_with (at_builtin; refine wpList_app rfl _ _ rfl w1.heap.size _ 0 l rfl hE.out ⟨b, o, none⟩ n c l rfl hG.out (by omega) (by simp) ?_; intro v2 w2 hown2 hg2 hb2; rw [Nat.zero_add] at hown2; obtain ⟨g, cap, rfl, hg1, hg3⟩ := hown2.form h0; have O2 := Lib.hid (hown2.congr (G := l) (fun i hi => by unfold cat; rw [if_neg (by omega)]; rfl)); have B2 := Lib.hid (((Below.refl w1.heap.size w1).alloc (Nat.le_refl _) _).trans hb2); clear hown2 hg2 hb2)
  clear hmk
  obtain ⟨t, ht⟩ : ∃ t, min n m = t := ⟨_, rfl⟩
  have t1 : t ≤ n := by omega
  have t2 : t ≤ m := by omega
  have HT := Lib.hid ht
  clear ht
  go_loopw [12] (fun i wr => ∃ j : Nat, j ≤ t ∧ i = .int .i64 j ∧ Irow wr w2.heap.size (n + 1) (fun i => if i < j then (y i : Int) else 0) ∧ Below w2.heap.size w2 wr) (fun i _ => t - (intOf i).toNat)
  case atStart =>
    refine ⟨0, Nat.zero_le _, rfl, ?_, (Below.refl _ _).alloc (Nat.le_refl _) _⟩
    have h := Irow.made w2 (n + 1)
    first | exact h.congr (fun i hi => by simp) | (simp only [Nat.mul_one] at h ⊢; exact h.congr (fun i hi => by simp))
  case round =>
    obtain ⟨j, hjt, rfl, hr, hbl⟩ := hrel
    by_cases hlt : j < t
    · have l1 : j < n := by omega
      have l2 : j < m := by omega
      obtain ⟨b3, o3, rfl, hb3, hc3⟩ := HZZ.out (by omega)
      have hy := HY.out j
      have g1 : wr.cell? ⟨b3, o3 + j, none⟩ = some (.int .u16 (y j)) := (hbl.cell (Nat.lt_of_lt_of_le hb3 (Nat.le_trans B1.out.size B2.out.size))).trans ((B2.out.cell (Nat.lt_of_lt_of_le hb3 B1.out.size)).trans ((B1.out.cell hb3).trans (hc3 j l2)))
      have g2 := World.rowIs.cell hr (show j < n + 1 by omega)
      have g3 := World.rowIs.frozen hr j
      obtain ⟨v, hv⟩ : ∃ v, (if j < j then (y j : Int) else 0) = v := ⟨_, rfl⟩
      simp only [hv] at g2
      obtain ⟨u, hu⟩ : ∃ u, y j = u := ⟨_, rfl⟩
      rw [hu] at g1 hy
      have HU := Lib.hid hu
      have HR := Lib.hid hr
      have HB := Lib.hid hbl
      have huw : IntKind.i64.wrap (u : Int) = (u : Int) := IntWalk.i64_in _ (by omega)
      clear hr hbl hc3 hv hu
      go_wp2_with fail
      go_roundw
      case rel =>
        refine ⟨j + 1, by omega, by go_num, (HR.out.set j (u : Int)).congr (fun i hi => ?_), HB.out.setCell (by simp) _⟩
        by_cases e : i = j
        · rw [if_pos e, if_pos (by omega), e, HU.out]
        · rw [if_neg e]
          by_cases e2 : i < j
          · rw [if_pos e2, if_pos (by omega)]
          · rw [if_neg e2, if_neg (by omega)]
      case measure => simp [intOf]; omega
    · obtain rfl : j = t := by omega
      obtain ⟨Y, hY⟩ : ∃ Y : Nat → Nat, ∀ i, Y i = if i < j then y i else 0 := ⟨_, fun _ => rfl⟩
      have hYle : ∀ i, Y i ≤ 65535 := fun i => by
        rw [hY]
        have := HY.out i
        split <;> omega
      have hr2 : Irow wr w2.heap.size (n + 1) (fun i => (Y i : Int)) := hr.congr (fun i hi => by
        rw [hY]; split <;> rfl)
      have hYn : Y n = 0 := by rw [hY, if_neg (by omega)]
      have HYL := Lib.hid hYle
      have HYN := Lib.hid hYn
      have HR := Lib.hid hr2
      have HB := Lib.hid hbl
      have HO := Lib.hid (O2.out.below hbl)
      have BW := Lib.hid ((B1.out.trans (B2.out.mono B1.out.size)).trans (hbl.mono (Nat.le_trans B1.out.size B2.out.size)))
      have HAW := Lib.hid (HA.out.below BW.out)
      clear hr hr2 hbl hY hYle hYn
      have hTT := HT.out
      have hcase : (j < n ∧ ¬ j < m) ∨ ¬ j < n := by omega
      clear hTT
      have WG : Hid (Calls Try.prog 17 #[.slice (some ⟨b, o, none⟩) n c, .slice (some ⟨w2.heap.size, 0, none⟩) (n + 1) (n + 1)] wr fun e w' => e = .returned (.int .i64 (sw l Y n : Nat)) ∧ Below wr.heap.size wr w') := Lib.hid ((weighs_any _ _ n (n + 1) c (n + 1) l _ _ HN.out (by unfold maxLen; omega) HAW.out HR.out.nums HL.out).mono fun e w' ⟨r1, r2⟩ => ⟨by
        rw [r1, Nat.min_eq_left (by omega), wg_nat HL.out HYL.out n (by omega) (fun _ _ => rfl)], r2⟩)
      rcases hcase with ⟨l1, l2⟩ | l1
      all_goals (
        go_wp2_with fail
        refine WG.out.mono ?_; rintro e w4 ⟨rfl, b4⟩
        have I4 := Lib.hid (HR.out.below b4)
        have O4 := Lib.hid (HO.out.below b4)
        have BW4 := Lib.hid (BW.out.trans (b4.mono BW.out.size))
        have s1 : w2.heap.size < w4.heap.size := World.rowIs.lt I4.out
        have s2 : g < w4.heap.size := O4.out.lt.2
        have s3 : W.heap.size ≤ w1.heap.size := B1.out.size
        clear b4
        have f1 := O4.out.cell hkn
        rw [HZ1.out] at f1
        have f2 := O4.out.frozen k
        have f3 : w4.cell? ⟨w2.heap.size, k, none⟩ = some (.int .i64 (Y k)) := World.rowIs.cell I4.out (by omega)
        obtain ⟨a, ha⟩ : ∃ a, Y k = a := ⟨_, rfl⟩
        have hale : a ≤ 65535 := by rw [← ha]; exact HYL.out k
        rw [ha] at f3
        have HAA := Lib.hid ha
        clear ha
        have HG4 : Hid (∀ i, i < 1 → ((w4.setCell ⟨g, k, none⟩ (.int .u8 ((z : Int) + 1))).alloc (.cells #[.int .u8 ((z : Int) + 1)] 5)).cell? ((⟨w4.heap.size, 0, none⟩ : Addr).add i) = some (.int .u8 ((z + 1 : Nat) : Int))) := Lib.hid (fun i hi => by
          obtain rfl : i = 0 := by omega
          have hs : (w4.setCell ⟨g, k, none⟩ (.int .u8 ((z : Int) + 1))).heap.size = w4.heap.size := by simp [World.setCell]
          have hh := heap_alloc_new (w4.setCell ⟨g, k, none⟩ (.int .u8 ((z : Int) + 1))) (.cells #[.int .u8 ((z : Int) + 1)] 5)
          rw [hs] at hh
          rw [iadd_at, cell_of_row _ _ _ _ _ _ hh]; rfl)
        obtain ⟨q, hq⟩ : ∃ q, p % (a + 1) = q := ⟨_, rfl⟩
        have hqle : q ≤ a := by
          rw [← hq]
          exact Nat.le_of_lt_succ (Nat.mod_lt _ (Nat.succ_pos _))
        have hqm2 : (p : Int) % ((a : Int) + 1) = (q : Int) := by rw [← hq]; rfl
        have hqm : (p : Int).tmod ((a : Int) + 1) = (q : Int) := by rw [Int.tmod_eq_emod_of_nonneg (by omega)]; exact hqm2
        have hpw : IntKind.i64.wrap (p : Int) = (p : Int) := IntWalk.i64_in _ (by omega)
        clear hq
        have HS4 := Lib.hid (show w1.heap.size ≤ ((w4.setCell ⟨g, k, none⟩ (.int .u8 ((z : Int) + 1))).alloc (.cells #[.int .u8 ((z : Int) + 1)] 5)).heap.size by simp [World.setCell]; omega)
        have OS4 : Hid (Bs w1.heap.size ((w4.setCell ⟨g, k, none⟩ (.int .u8 ((z : Int) + 1))).alloc (.cells #[.int .u8 ((z : Int) + 1)] 5)) (.slice (some ⟨g, 0, none⟩) n cap) n (fun i => if i = k then z + 1 else l i)) := Lib.hid ((O4.out.set k (z + 1)).alloc _)
        have IS4 := Lib.hid ((I4.out.other (a := ⟨g, k, none⟩) (by simp; omega) (.int .u8 ((z : Int) + 1))).alloc (.cells #[.int .u8 ((z : Int) + 1)] 5))
        have BS4 := Lib.hid ((BW4.out.setCell (p := ⟨g, k, none⟩) (by simp; omega) (.int .u8 ((z : Int) + 1))).alloc (by simp [World.setCell]; omega) (.cells #[.int .u8 ((z : Int) + 1)] 5))
        have HNE : Hid (some w2.heap.size ≠ Value.ownBlock (.slice (some ⟨g, 0, none⟩) n cap)) := Lib.hid (fun e => by
          have e2 : w2.heap.size = g := Option.some.inj e
          omega)
        go_wp2_with (at_builtin; refine wpList_app rfl _ _ rfl w1.heap.size _ n _ rfl OS4.out ⟨w4.heap.size, 0, none⟩ 1 1 (fun _ => z + 1) rfl HG4.out (by omega) HS4.out ?_; intro v6 w6 hown6 hg6 hb6; obtain ⟨g6, cap6, rfl, hg6a, hg6b⟩ := hown6.form (by omega); have O6 := Lib.hid hown6; have I6 := Lib.hid (IS4.out.at' (hg6.block w2.heap.size (World.rowIs.lt IS4.out) HNE.out)); have B6 := Lib.hid (BS4.out.trans (hb6.mono s3)); clear hown6 hg6 hb6; have f4 : w6.cell? ⟨w2.heap.size, n, none⟩ = some (.int .i64 (Y n)) := World.rowIs.cell I6.out (by omega); have f5 := World.rowIs.frozen I6.out n; have f6 : w6.cell? ⟨w2.heap.size, k, none⟩ = some (.int .i64 (Y k)) := World.rowIs.cell I6.out (by omega); have f7 := World.rowIs.frozen I6.out k)
        have hne6 : g6 ≠ w2.heap.size := Bs_Irow_ne O6.out I6.out
        have I7' := ((I6.out.set n (q : Int)).set k ((a : Int) - (q : Int))).congr (y := fun i => (spy Y n k q i : Int)) (fun i hi => by
          have hya := HAA.out
          unfold spy upd
          by_cases e1 : i = k
          · rw [if_pos e1, if_neg (show ¬ i = n by omega), if_pos e1, hya]; omega
          · rw [if_neg e1]
            by_cases e2 : i = n
            · rw [if_pos e2, if_pos e2]
            · rw [if_neg e2, if_neg e2, if_neg e1])
        have O7' := ((O6.out.other (a := ⟨w2.heap.size, n, none⟩) (by simp [Value.ownBlock]; omega) (.int .i64 (q : Int))).other (a := ⟨w2.heap.size, k, none⟩) (by simp [Value.ownBlock]; omega) (.int .i64 ((a : Int) - (q : Int)))).congr (G := spl l n k) (fun i hi => by
          have hlz := HZ1.out
          unfold cat spl upd
          by_cases e1 : i < n
          · rw [if_pos e1, if_neg (show ¬ i = n by omega), hlz]
          · rw [if_neg e1, if_pos (show i = n by omega), hlz])
        have B7' := (B6.out.setCell (p := ⟨w2.heap.size, n, none⟩) (by simp; omega) (.int .i64 (q : Int))).setCell (p := ⟨w2.heap.size, k, none⟩) (by simp; omega) (.int .i64 ((a : Int) - (q : Int)))
        obtain ⟨w7, hw7⟩ : ∃ w7, (w6.setCell ⟨w2.heap.size, n, none⟩ (.int .i64 (q : Int))).setCell ⟨w2.heap.size, k, none⟩ (.int .i64 ((a : Int) - (q : Int))) = w7 := ⟨_, rfl⟩
        rw [hw7] at I7' O7' B7' ⊢
        have I7 := Lib.hid I7'
        have O7 := Lib.hid O7'
        have B7 := Lib.hid B7'
        have A7 := Lib.hid (HA.out.below B7')
        clear hw7 I7' O7' B7' f1 f2 f3 f4 f5 f6 f7 hcell
        have hmm := kind_may (show kind l n ≠ 5 by rw [HK.out]; exact H5.out)
        have hsk := spl_kind hmm hn hkn (by rw [HZ1.out]; exact z1) (by rw [HZ1.out]; exact z14)
        have hLs : ∀ i, spl l n k i ≤ 255 := fun i => by
          have := HL.out i
          have h2 := HZ1.out
          unfold spl upd
          split
          · omega
          · split <;> omega
        have hYs : ∀ i, spy Y n k q i ≤ 65535 := fun i => by
          have := HYL.out i
          have h2 := HAA.out
          unfold spy upd
          split
          · omega
          · split <;> omega
        have hsw := spl_sw (l := l) (y := Y) (q := q) hkn (by rw [HAA.out]; exact hqle)
        have hswle := sw_le HL.out HYL.out n
        rw [HAA.out] at hsw
        obtain ⟨K2, hK2⟩ : ∃ K2, kind (spl l n k) (n + 1) = K2 := ⟨_, rfl⟩
        rw [HK.out, hK2] at hsk
        obtain ⟨s0, hs0⟩ : ∃ s0, sw l Y n = s0 := ⟨_, rfl⟩
        rw [hs0] at hsw hswle ⊢
        have HK2 := Lib.hid hK2
        have HLS := Lib.hid hLs
        have HYS := Lib.hid hYs
        have HSW := Lib.hid hsw
        clear hmm hK2 hLs hYs hsw hs0
        have hs5 : s0 ≤ 5013427500 := by omega
        refine (kind_any _ n c l _ HN.out HL.out A7.out).mono ?_; rintro e w8 ⟨rfl, b8⟩
        rw [HK.out]
        have B8 := Lib.hid (B7.out.trans (b8.mono B7.out.size))
        have O8 := Lib.hid (O7.out.below b8)
        have I8 := Lib.hid (I7.out.below b8)
        clear b8
        go_wp2_with fail
        refine (kind_any _ (n + 1) cap6 (spl l n k) _ (by unfold maxLen; omega) HLS.out O8.out.nums).mono ?_; rintro e w9 ⟨rfl, b9⟩
        rw [HK2.out]
        have B9 := Lib.hid (B8.out.trans (b9.mono B8.out.size))
        have O9 := Lib.hid (O8.out.below b9)
        have I9 := Lib.hid (I8.out.below b9)
        clear b9
        have WG2 : Hid (Calls Try.prog 17 #[.slice (some ⟨g6, 0, none⟩) (n + 1) cap6, .slice (some ⟨w2.heap.size, 0, none⟩) (n + 1) (n + 1)] w9 fun e w' => e = .returned (.int .i64 ((s0 : Int) + (a : Int))) ∧ Below w9.heap.size w9 w') := Lib.hid ((weighs_any _ _ (n + 1) (n + 1) cap6 (n + 1) (spl l n k) _ _ (by unfold maxLen; omega) (by unfold maxLen; omega) O9.out.nums I9.out.nums HLS.out).mono fun e w' ⟨r1, r2⟩ => ⟨by
          rw [r1, Nat.min_self, wg_nat HLS.out HYS.out (n + 1) (by omega) (fun _ _ => rfl), HSW.out]; rfl, r2⟩)
        rcases hsk with rfl | ⟨rfl, rfl⟩
        all_goals (
          go_wp2_with fail
          refine WG2.out.mono ?_; rintro e w10 ⟨rfl, b10⟩
          have B10 := Lib.hid (B9.out.trans (b10.mono B9.out.size))
          clear b10
          go_wp2_with fail
          refine (alive_any _).mono ?_; rintro e w11 ⟨rfl, b11⟩
          have B11 := Lib.hid (B10.out.trans (b11.mono B10.out.size))
          clear b11
          go_wp2_with fail
          go_ret
          exact ⟨rfl, B11.out⟩))

theorem CanonSplit_walk (a0 : Option Addr) (len0 cap0 : Nat) (z0 : List Int) (a1 : Option Addr) (len1 cap1 : Nat) (z1 : List Int) (a2 a3 : Int) (w : World) (w0 : IsRow .u8 w a0 len0 cap0 z0) (w1 : IsRow .u16 w a1 len1 cap1 z1) (w2 : (Lit.int .u16 a2).wf = true) (w3 : (Lit.int .u16 a3).wf = true) :
    Calls Try.prog 6 #[.slice a0 len0 cap0, .slice a1 len1 cap1, .int .u16 a2, .int .u16 a3] w fun e w' => e = .returned (.bool true) ∧ Below w.heap.size w w' := by
  have h0 := w0.most
  have h1 := w1.most
  obtain ⟨x, rfl, hx⟩ := u16_nat w2
  obtain ⟨p, rfl, hp⟩ := u16_nat w3
  by_cases h : 300 < len0 ∨ len0 = 0 ∨ 400 < len1
  · exact split_far _ _ _ _ _ _ _ _ w (by omega) (by omega) h
  · obtain ⟨q1, q2⟩ := w0.nat8
    obtain ⟨q3, q4⟩ := w1.nat16
    by_cases he : nat8 z0 (x % len0) = 0 ∨ 15 ≤ nat8 z0 (x % len0) ∨ kind (nat8 z0) len0 = 5
    · exact split_early a0 a1 len0 len1 cap0 cap1 _ x _ w (by omega) (by omega) (by omega) q1 q2 hx he
    · obtain ⟨b, o, rfl, hb, hc⟩ := id q2 (by omega)
      exact split_ok a1 b o len0 len1 cap0 cap1 _ _ x p w (by omega) (by omega) (by omega) q1 q2 hb hc q3 q4 hx hp _ _ rfl rfl (by omega) (by omega) _ rfl (by omega)
end Go.Proofs.Ytgcdmgilgknneaa
