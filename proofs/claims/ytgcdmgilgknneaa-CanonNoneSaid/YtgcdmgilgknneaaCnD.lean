/- What Lens and Weigh of package canon, and the document's Weigh, Same, SameLens and Bit, answer. Conditions: as each theorem names them. -/
import Derived.Test.YtgcdmgilgknneaaCnC
import Derived.Deep.QuietTactic
import Derived.BigQuiet
namespace Go.Proofs.Ytgcdmgilgknneaa
open Go.RowKit M
set_option linter.unusedVariables false

/-- Lengths are answered; all that was there stays. -/
def GotL (W : World) (n : Nat) (g : Nat → Nat) (e : Ending) (w' : World) : Prop :=
  ∃ A c, e = .returned (.slice A n c) ∧ n ≤ c ∧ c ≤ 400 ∧ Nums w' .u8 A n (fun i => (g i : Int)) ∧ Below W.heap.size W w'

/-- Block b holds n bytes. -/
def Brow (w : World) (b n : Nat) (F : Nat → Nat) : Prop := w.rowIs b 5 n (fun i => .int .u8 (F i))
theorem Brow.nums {w : World} {b n : Nat} {F : Nat → Nat} (h : Brow w b n F) : Nums w .u8 (some ⟨b, 0, none⟩) n (fun i => (F i : Int)) := fun hn =>
  ⟨b, 0, rfl, World.rowIs.lt h, fun i hi => by rw [Nat.zero_add]; exact World.rowIs.cell h hi⟩
theorem Brow.congr {w : World} {b n : Nat} {F G : Nat → Nat} (h : Brow w b n F) (e : ∀ i, i < n → F i = G i) : Brow w b n G := World.rowIs.congr h (fun i hi => by rw [e i hi])
theorem Brow.made (w : World) (n : Nat) : Brow (w.alloc (.cells (madeCells #[.int .u8 0] (n * 1)) 5)) w.heap.size n (fun _ => 0) := by
  rw [Nat.mul_one]
  exact World.rowIs_made w (.int .u8 0) n 5
theorem Brow.set {w : World} {b n : Nat} {F : Nat → Nat} (h : Brow w b n F) (i v : Nat) : Brow (w.setCell ⟨b, i, none⟩ (.int .u8 v)) b n (fun j => if j = i then v else F j) :=
  World.rowIs.congr (World.rowIs.set h i (.int .u8 v)) (fun j hj => by by_cases e : j = i <;> simp [e])
theorem Brow.alloc {w : World} {b n : Nat} {F : Nat → Nat} (h : Brow w b n F) (o : Obj) : Brow (w.alloc o) b n F := World.rowIs.alloc h o
theorem Brow.other {w : World} {b n : Nat} {F : Nat → Nat} (h : Brow w b n F) {a : Addr} (ha : b ≠ a.block) (v : Value) : Brow (w.setCell a v) b n F := World.rowIs.setOther h ha v

set_option maxHeartbeats 1000000 in
theorem lens_any (A : Option Addr) (n c : Nat) (f g : Nat → Nat) (W : World) (hn : n ≤ 400) (H : Cods W A n f g) :
    Calls Try.prog 16 #[.slice A n c] W (GotL W n g) := by
  have HH := Lib.hid H
  have hmk := fun w => madeByte w n hn
  clear H
  go_enter Try.func16, Try.ntmps16
  go_wp2_with fail
  clear hmk
  go_loopw [11] (fun i wr => ∃ k : Nat, k ≤ n ∧ i = .int .i64 k ∧ Brow wr W.heap.size n (fun j => if j < k then g j else 0) ∧ Below W.heap.size W wr) (fun i _ => n - (intOf i).toNat)
  case atStart =>
    refine ⟨0, Nat.zero_le _, rfl, ?_, (Below.refl _ _).alloc (Nat.le_refl _) _⟩
    have h := Brow.made W n
    rw [Nat.mul_one] at h
    first | exact h.congr (fun i hi => by simp) | (simp only [Nat.mul_one]; exact h.congr (fun i hi => by simp))
  case round =>
    obtain ⟨k, hkn, rfl, hr, hb⟩ := hrel
    by_cases hlt : k < n
    · obtain ⟨b, o, rfl, hbs, hc⟩ := HH.out (by omega)
      have hc1 : wr.cell? ⟨b, o + k * 2, none⟩ = some (.int .u32 (f k)) := (hb.cell hbs).trans (hc k hlt).1
      have hc2 : wr.cell? ⟨b, o + k * 2 + 1, none⟩ = some (.int .u8 (g k)) := (hb.cell hbs).trans (hc k hlt).2
      have hf := World.rowIs.frozen hr k
      have hr1 := World.rowIs.cell hr hlt
      have hk2 : (if k < k then g k else 0) = 0 := if_neg (Nat.lt_irrefl _)
      simp only [hk2] at hr1
      have hsz : W.heap.size < wr.heap.size := World.rowIs.lt hr
      have HR := Lib.hid hr
      have HB := Lib.hid hb
      clear hr hb hc hk2
      go_wp2_with fail
      go_roundw
      case rel =>
        refine ⟨k + 1, by omega, by go_num, ((HR.out.set k (g k)).alloc _).congr (fun i hi => ?_), (HB.out.setCell (by simp) _).alloc (by simp [World.setCell]; omega) _⟩
        by_cases e : i = k
        · rw [if_pos e, if_pos (by omega), e]
        · rw [if_neg e]
          by_cases e2 : i < k
          · rw [if_pos e2, if_pos (by omega)]
          · rw [if_neg e2, if_neg (by omega)]
      case measure => simp [intOf]; omega
    · obtain rfl : k = n := by omega
      have HR := Lib.hid (hr.congr (G := g) (fun i hi => by rw [if_pos hi]))
      have HB := Lib.hid hb
      clear hr hb
      go_wp2_with fail
      go_ret
      exact ⟨_, _, rfl, Nat.le_refl _, hn, HR.out.nums, HB.out⟩

/-- what the first k lengths weigh with their counts, as an int holds it -/
def wg (l : Nat → Nat) (z : Nat → Int) : Nat → Int
  | 0 => 0
  | k + 1 => if 0 < z k then wrap64 (wg l z k + wrap64 ((l k : Int) * z k)) else wg l z k
theorem wg_in (l : Nat → Nat) (z : Nat → Int) : ∀ k, -9223372036854775808 ≤ wg l z k ∧ wg l z k ≤ 9223372036854775807
  | 0 => by simp [wg]
  | k + 1 => by
    simp only [wg]
    split
    · unfold wrap64; omega
    · exact wg_in l z k

set_option maxHeartbeats 1000000 in
theorem weighs_less (A B : Option Addr) (n m c d : Nat) (l : Nat → Nat) (z : Nat → Int) (W : World) (hn : n ≤ maxLen) (hm : m ≤ maxLen) (H : Nums W .u8 A n (fun i => (l i : Int))) (HZ : Nums W .i64 B m z) (hl : ∀ i, l i ≤ 255) (hc : m < n) :
    Calls Try.prog 17 #[.slice A n c, .slice B m d] W fun e w' => e = .returned (.int .i64 (wg l z m)) ∧ Below W.heap.size W w' := by
  have hn' : n ≤ 9223372036854775807 := by unfold maxLen at hn; omega
  have hm' : m ≤ 9223372036854775807 := by unfold maxLen at hm; omega
  have HA := Lib.hid H
  have HH := Lib.hid HZ
  have HL := Lib.hid hl
  clear H HZ hn hm hl
  go_enter Try.func17, Try.ntmps17
  go_wp2_with fail
  go_loopw [5, 12] (fun x i wr => ∃ k : Nat, k ≤ m ∧ i = .int .i64 k ∧ x = .int .i64 (wg l z k) ∧ Below W.heap.size W wr) (fun _ i _ => m - (intOf i).toNat)
  case atStart => exact ⟨0, Nat.zero_le _, rfl, rfl, Below.refl _ _⟩
  case round =>
    obtain ⟨k, hkn, rfl, rfl, hb⟩ := hrel
    by_cases hlt : k < m
    · obtain ⟨b, o, rfl, hbs, hc1⟩ := HA.out (by omega)
      obtain ⟨b2, o2, rfl, hbs2, hc2⟩ := HH.out (by omega)
      have g1 : wr.cell? ⟨b, o + k, none⟩ = some (.int .u8 (l k)) := (hb.cell hbs).trans (hc1 k (by omega))
      have g2 : wr.cell? ⟨b2, o2 + k, none⟩ = some (.int .i64 (z k)) := (hb.cell hbs2).trans (hc2 k (by omega))
      have hstep := Lib.hid (show wg l z (k + 1) = if 0 < z k then wrap64 (wg l z k + wrap64 ((l k : Int) * z k)) else wg l z k from rfl)
      have hin := wg_in l z k
      have h255 := HL.out k
      obtain ⟨y, hy⟩ : ∃ y, z k = y := ⟨_, rfl⟩
      obtain ⟨v, hv⟩ : ∃ v, wg l z k = v := ⟨_, rfl⟩
      obtain ⟨x, hx⟩ : ∃ x, l k = x := ⟨_, rfl⟩
      rw [hy] at g2
      rw [hx] at g1 h255
      rw [hv] at hin ⊢
      have HY := Lib.hid hy
      have HV := Lib.hid hv
      have HX := Lib.hid hx
      have HB := Lib.hid hb
      have hkk : ((k : Int)).toNat = k := by omega
      have hxx : IntKind.i64.wrap (x : Int) = (x : Int) := IntWalk.i64_in _ (by omega)
      have hvv : wrap64 v = v := IntWalk.wrap64_in _ hin
      clear hc1 hc2 hy hv hx hb
      by_cases hpos : 0 < y
      · have hps : (if y < 0 then 0 else y) = y := if_neg (by omega)
        have hnn : ¬ y < 0 := by omega
        go_wp2_with fail
        go_region
        go_wp2_with fail
        go_roundw
        case rel => exact ⟨k + 1, by omega, by go_num, congrArg (Value.int .i64) (by rw [hstep.out, HY.out, HX.out, HV.out, if_pos hpos]), HB.out.drew⟩
        case measure => simp [intOf]; omega
      · have hnn : y ≤ 0 := by omega
        go_wp2_with fail
        go_region
        all_goals (
          go_wp2_with fail
          go_roundw
          case rel => exact ⟨k + 1, by omega, by go_num, congrArg (Value.int .i64) (by rw [hstep.out, HY.out, HX.out, HV.out, if_neg (show ¬ (0 < y) by omega)]), HB.out.drew⟩
          case measure => simp [intOf]; omega)
    · obtain rfl : k = m := by omega
      have HB := Lib.hid hb
      clear hb
      go_wp2_with fail
      go_ret
      exact ⟨rfl, HB.out⟩

set_option maxHeartbeats 1000000 in
theorem weighs_more (A B : Option Addr) (n m c d : Nat) (l : Nat → Nat) (z : Nat → Int) (W : World) (hn : n ≤ maxLen) (hm : m ≤ maxLen) (H : Nums W .u8 A n (fun i => (l i : Int))) (HZ : Nums W .i64 B m z) (hl : ∀ i, l i ≤ 255) (hc : n ≤ m) :
    Calls Try.prog 17 #[.slice A n c, .slice B m d] W fun e w' => e = .returned (.int .i64 (wg l z n)) ∧ Below W.heap.size W w' := by
  have hn' : n ≤ 9223372036854775807 := by unfold maxLen at hn; omega
  have hm' : m ≤ 9223372036854775807 := by unfold maxLen at hm; omega
  have HA := Lib.hid H
  have HH := Lib.hid HZ
  have HL := Lib.hid hl
  clear H HZ hn hm hl
  go_enter Try.func17, Try.ntmps17
  go_wp2_with fail
  go_loopw [5, 12] (fun x i wr => ∃ k : Nat, k ≤ n ∧ i = .int .i64 k ∧ x = .int .i64 (wg l z k) ∧ Below W.heap.size W wr) (fun _ i _ => n - (intOf i).toNat)
  case atStart => exact ⟨0, Nat.zero_le _, rfl, rfl, Below.refl _ _⟩
  case round =>
    obtain ⟨k, hkn, rfl, rfl, hb⟩ := hrel
    by_cases hlt : k < n
    · obtain ⟨b, o, rfl, hbs, hc1⟩ := HA.out (by omega)
      obtain ⟨b2, o2, rfl, hbs2, hc2⟩ := HH.out (by omega)
      have g1 : wr.cell? ⟨b, o + k, none⟩ = some (.int .u8 (l k)) := (hb.cell hbs).trans (hc1 k (by omega))
      have g2 : wr.cell? ⟨b2, o2 + k, none⟩ = some (.int .i64 (z k)) := (hb.cell hbs2).trans (hc2 k (by omega))
      have hstep := Lib.hid (show wg l z (k + 1) = if 0 < z k then wrap64 (wg l z k + wrap64 ((l k : Int) * z k)) else wg l z k from rfl)
      have hin := wg_in l z k
      have h255 := HL.out k
      obtain ⟨y, hy⟩ : ∃ y, z k = y := ⟨_, rfl⟩
      obtain ⟨v, hv⟩ : ∃ v, wg l z k = v := ⟨_, rfl⟩
      obtain ⟨x, hx⟩ : ∃ x, l k = x := ⟨_, rfl⟩
      rw [hy] at g2
      rw [hx] at g1 h255
      rw [hv] at hin ⊢
      have HY := Lib.hid hy
      have HV := Lib.hid hv
      have HX := Lib.hid hx
      have HB := Lib.hid hb
      have hkk : ((k : Int)).toNat = k := by omega
      have hxx : IntKind.i64.wrap (x : Int) = (x : Int) := IntWalk.i64_in _ (by omega)
      have hvv : wrap64 v = v := IntWalk.wrap64_in _ hin
      clear hc1 hc2 hy hv hx hb
      by_cases hpos : 0 < y
      · have hps : (if y < 0 then 0 else y) = y := if_neg (by omega)
        have hnn : ¬ y < 0 := by omega
        go_wp2_with fail
        go_region
        go_wp2_with fail
        go_roundw
        case rel => exact ⟨k + 1, by omega, by go_num, congrArg (Value.int .i64) (by rw [hstep.out, HY.out, HX.out, HV.out, if_pos hpos]), HB.out.drew⟩
        case measure => simp [intOf]; omega
      · have hnn : y ≤ 0 := by omega
        go_wp2_with fail
        go_region
        all_goals (
          go_wp2_with fail
          go_roundw
          case rel => exact ⟨k + 1, by omega, by go_num, congrArg (Value.int .i64) (by rw [hstep.out, HY.out, HX.out, HV.out, if_neg (show ¬ (0 < y) by omega)]), HB.out.drew⟩
          case measure => simp [intOf]; omega)
    · obtain rfl : k = n := by omega
      have HB := Lib.hid hb
      clear hb
      go_wp2_with fail
      go_ret
      exact ⟨rfl, HB.out⟩

theorem weighs_any (A B : Option Addr) (n m c d : Nat) (l : Nat → Nat) (z : Nat → Int) (W : World) (hn : n ≤ maxLen) (hm : m ≤ maxLen) (H : Nums W .u8 A n (fun i => (l i : Int))) (HZ : Nums W .i64 B m z) (hl : ∀ i, l i ≤ 255) :
    Calls Try.prog 17 #[.slice A n c, .slice B m d] W fun e w' => e = .returned (.int .i64 (wg l z (min n m))) ∧ Below W.heap.size W w' := by
  rcases Nat.lt_or_ge m n with h | h
  · rw [Nat.min_eq_right (by omega)]; exact weighs_less A B n m c d l z W hn hm H HZ hl h
  · rw [Nat.min_eq_left h]; exact weighs_more A B n m c d l z W hn hm H HZ hl h

set_option maxHeartbeats 1000000 in
theorem rweighs_any (A B : Option Addr) (n m c d : Nat) (l : Nat → Nat) (z : Nat → Int) (W : World) (hn : n ≤ maxLen) (hm : m ≤ maxLen) (H : Nums W .u8 A n (fun i => (l i : Int))) (HZ : Nums W .i64 B m z) (hl : ∀ i, l i ≤ 255) :
    Calls Try.prog 18 #[.slice A n c, .slice B m d] W fun e w' => e = .returned (.int .i64 (wg l z (min n m))) ∧ Below W.heap.size W w' := by
  have hn' : n ≤ 9223372036854775807 := by unfold maxLen at hn; omega
  have hm' : m ≤ 9223372036854775807 := by unfold maxLen at hm; omega
  have HA := Lib.hid H
  have HH := Lib.hid HZ
  have HL := Lib.hid hl
  clear H HZ hn hm hl
  obtain ⟨t, ht⟩ : ∃ t, min n m = t := ⟨_, rfl⟩
  rw [ht]
  have t1 : t ≤ n := by omega
  have t2 : t ≤ m := by omega
  have HT := Lib.hid ht
  clear ht
  go_enter Try.func18, Try.ntmps18
  go_wp2_with fail
  go_loopw [5, 6] (fun x i wr => ∃ k : Nat, k ≤ t ∧ i = .int .i64 k ∧ x = .int .i64 (wg l z k) ∧ Below W.heap.size W wr) (fun _ i _ => t - (intOf i).toNat)
  case atStart => exact ⟨0, Nat.zero_le _, rfl, rfl, Below.refl _ _⟩
  case round =>
    obtain ⟨k, hkn, rfl, rfl, hb⟩ := hrel
    by_cases hlt : k < t
    · obtain ⟨b, o, rfl, hbs, hc1⟩ := HA.out (by omega)
      obtain ⟨b2, o2, rfl, hbs2, hc2⟩ := HH.out (by omega)
      have g1 : wr.cell? ⟨b, o + k, none⟩ = some (.int .u8 (l k)) := (hb.cell hbs).trans (hc1 k (by omega))
      have g2 : wr.cell? ⟨b2, o2 + k, none⟩ = some (.int .i64 (z k)) := (hb.cell hbs2).trans (hc2 k (by omega))
      have hstep := Lib.hid (show wg l z (k + 1) = if 0 < z k then wrap64 (wg l z k + wrap64 ((l k : Int) * z k)) else wg l z k from rfl)
      have hin := wg_in l z k
      have h255 := HL.out k
      have l1 : k < n := by omega
      have l2 : k < m := by omega
      obtain ⟨y, hy⟩ : ∃ y, z k = y := ⟨_, rfl⟩
      obtain ⟨v, hv⟩ : ∃ v, wg l z k = v := ⟨_, rfl⟩
      obtain ⟨x, hx⟩ : ∃ x, l k = x := ⟨_, rfl⟩
      rw [hy] at g2
      rw [hx] at g1 h255
      rw [hv] at hin ⊢
      have HY := Lib.hid hy
      have HV := Lib.hid hv
      have HX := Lib.hid hx
      have HB := Lib.hid hb
      have hkk : ((k : Int)).toNat = k := by omega
      have hxx : IntKind.i64.wrap (x : Int) = (x : Int) := IntWalk.i64_in _ (by omega)
      have hvv : wrap64 v = v := IntWalk.wrap64_in _ hin
      clear hc1 hc2 hy hv hx hb
      by_cases hpos : 0 < y
      · have hd : decide (0 < y) = true := decide_eq_true hpos
        go_wp2_with fail
        go_region
        go_wp2_with fail
        go_roundw
        case rel => exact ⟨k + 1, by omega, by go_num, congrArg (Value.int .i64) (by rw [hstep.out, HY.out, HX.out, HV.out, if_pos hpos]), HB.out.drew⟩
        case measure => simp [intOf]; omega
      · have hd : decide (0 < y) = false := decide_eq_false hpos
        go_wp2_with fail
        go_roundw
        case rel => exact ⟨k + 1, by omega, by go_num, congrArg (Value.int .i64) (by rw [hstep.out, HY.out, HX.out, HV.out, if_neg (show ¬ (0 < y) by omega)]), HB.out⟩
        case measure => simp [intOf]; omega
    · obtain rfl : k = t := by omega
      have HB := Lib.hid hb
      clear hb
      have hT := HT.out
      by_cases h1 : k < n
      · have h2 : ¬ k < m := by omega
        clear hT
        go_wp2_with fail
        go_ret
        exact ⟨rfl, HB.out⟩
      · clear hT
        go_wp2_with fail
        go_ret
        exact ⟨rfl, HB.out⟩

set_option maxHeartbeats 1000000 in
theorem same_any (A B : Option Addr) (n c d : Nat) (f g f' g' : Nat → Nat) (W : World) (hn : n ≤ maxLen) (H : Cods W A n f g) (HZ : Cods W B n f' g') (e1 : ∀ i, i < n → f i = f' i) (e2 : ∀ i, i < n → g i = g' i) :
    Calls Try.prog 14 #[.slice A n c, .slice B n d] W fun e w' => e = .returned (.bool true) ∧ ∃ q, w' = W.drewN q := by
  have hn' : n ≤ 9223372036854775807 := by unfold maxLen at hn; omega
  have HA := Lib.hid H
  have HH := Lib.hid HZ
  have E1 := Lib.hid e1
  have E2 := Lib.hid e2
  clear H HZ hn e1 e2
  go_enter Try.func14, Try.ntmps14
  go_wp2_with fail
  go_loopw [5] (fun i wr => ∃ k : Nat, k ≤ n ∧ i = .int .i64 k ∧ ∃ q, wr = W.drewN q) (fun i _ => n - (intOf i).toNat)
  case atStart => exact ⟨0, Nat.zero_le _, rfl, 0, rfl⟩
  case round =>
    obtain ⟨k, hkn, rfl, q, rfl⟩ := hrel
    by_cases hlt : k < n
    · obtain ⟨b, o, rfl, hbs, hc1⟩ := HA.out (by omega)
      obtain ⟨b2, o2, rfl, hbs2, hc2⟩ := HH.out (by omega)
      obtain ⟨g1, g2⟩ := hc1 k hlt
      obtain ⟨g3, g4⟩ := hc2 k hlt
      rw [← E1.out k hlt] at g3
      rw [← E2.out k hlt] at g4
      have hkk : ((k : Int)).toNat = k := by omega
      clear hc1 hc2
      go_wp2_with fail
      go_quiet (fail)
      go_wp2_with fail
      go_roundw
      case rel => exact ⟨k + 1, by omega, by go_num, _, rfl⟩
      case measure => simp [intOf]; omega
    · obtain rfl : k = n := by omega
      go_wp2_with fail
      go_ret
      exact ⟨rfl, _, rfl⟩

set_option maxHeartbeats 1000000 in
theorem sameLens_any (A B : Option Addr) (n c d : Nat) (f g : Nat → Nat) (W : World) (hn : n ≤ maxLen) (H : Nums W .u8 A n (fun i => (f i : Int))) (HZ : Nums W .u8 B n (fun i => (g i : Int))) (e1 : ∀ i, i < n → f i = g i) :
    Calls Try.prog 15 #[.slice A n c, .slice B n d] W fun e w' => e = .returned (.bool true) ∧ ∃ q, w' = W.drewN q := by
  have hn' : n ≤ 9223372036854775807 := by unfold maxLen at hn; omega
  have HA := Lib.hid H
  have HH := Lib.hid HZ
  have E1 := Lib.hid e1
  clear H HZ hn e1
  go_enter Try.func15, Try.ntmps15
  go_wp2_with fail
  go_loopw [5] (fun i wr => ∃ k : Nat, k ≤ n ∧ i = .int .i64 k ∧ ∃ q, wr = W.drewN q) (fun i _ => n - (intOf i).toNat)
  case atStart => exact ⟨0, Nat.zero_le _, rfl, 0, rfl⟩
  case round =>
    obtain ⟨k, hkn, rfl, q, rfl⟩ := hrel
    by_cases hlt : k < n
    · obtain ⟨b, o, rfl, hbs, hc1⟩ := HA.out (by omega)
      obtain ⟨b2, o2, rfl, hbs2, hc2⟩ := HH.out (by omega)
      have g1 : W.cell? ⟨b, o + k, none⟩ = some (.int .u8 (f k)) := hc1 k hlt
      have g3 : W.cell? ⟨b2, o2 + k, none⟩ = some (.int .u8 (g k)) := hc2 k hlt
      rw [← E1.out k hlt] at g3
      have hkk : ((k : Int)).toNat = k := by omega
      clear hc1 hc2
      go_wp2_with fail
      go_quiet (fail)
      go_wp2_with fail
      go_roundw
      case rel => exact ⟨k + 1, by omega, by go_num, _, rfl⟩
      case measure => simp [intOf]; omega
    · obtain rfl : k = n := by omega
      go_wp2_with fail
      go_ret
      exact ⟨rfl, _, rfl⟩

/-- A bit of a code, from its first on. -/
theorem bit_any (x z k : Nat) (W : World) (hx : x < 4294967296) (hz : z ≤ 15) (hk : k < z) :
    Calls Try.prog 24 #[.agg #[.int .u32 x, .int .u8 z], .int .i64 k] W fun e w' => e = .returned (.int .u32 ((x / 2 ^ (z - 1 - k) % 2 : Nat) : Int)) ∧ Below W.heap.size W w' := by
  obtain ⟨d, hd⟩ : ∃ d, z - 1 - k = d := ⟨_, rfl⟩
  have h1 : (z : Int) - 1 - (k : Int) = (d : Int) := by omega
  have h2 : (0 : Int) ≤ (d : Int) := by omega
  have hd4 : d ≤ 14 := by omega
  have hx' : x ≤ 4294967295 := by omega
  rw [hd]
  clear hx hd
  have HV : Hid (((x : Int) / 2 ^ min d 32).tmod 2 = ((x / 2 ^ d % 2 : Nat) : Int)) := Lib.hid (by
    rw [Nat.min_eq_left (by omega)]
    have e : (x : Int) / 2 ^ d = ((x / 2 ^ d : Nat) : Int) := by push_cast; rfl
    rw [e, Int.tmod_eq_emod_of_nonneg (Int.natCast_nonneg _)]; rfl)
  go_enter Try.func24, Try.ntmps24
  go_wp2_with fail
  go_ret
  exact ⟨congrArg (fun q => Ending.returned (.int .u32 q)) (by first | exact HV.out | (rw [← HV.out, Nat.min_eq_left (by omega)])), (Below.refl _ _).alloc (Nat.le_refl _) _⟩

end Go.Proofs.Ytgcdmgilgknneaa
