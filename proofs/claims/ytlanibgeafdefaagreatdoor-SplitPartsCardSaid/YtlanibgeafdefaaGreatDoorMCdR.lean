/- Texts of one place, one behind the other: CdR, CdC, CdF, CdG. -/
import Derived.Test.YtlanibgeafdefaaGreatDoorMCnA
import Derived.Laws.MakeOwn
namespace Go.Proofs.YtlanibgeafdefaaGreatDoor.C
open Go.RowKit M
set_option linter.unusedVariables false
set_option maxRecDepth 1000000
def Crow (w : World) (b n : Nat) (F G : Nat → Nat) : Prop :=
  ∃ c : Array Value, w.heap[b]? = some (.cells c 108 (0, 0)) ∧ c.size = n * 2 ∧ ∀ i, i < n → c[i * 2]? = some (.int .u32 (F i)) ∧ c[i * 2 + 1]? = some (.int .u8 (G i))
section
variable {w w' : World} {b n : Nat} {F G F' G' : Nat → Nat}
theorem Crow.lt (h : Crow w b n F G) : b < w.heap.size := by
  obtain ⟨c, hb, _⟩ := h
  rcases Nat.lt_or_ge b w.heap.size with g | g
  · exact g
  · rw [Array.getElem?_eq_none g] at hb; cases hb
theorem Crow.cell1 (h : Crow w b n F G) {i : Nat} (hi : i < n) : w.cell? ⟨b, i * 2, none⟩ = some (.int .u32 (F i)) := by
  obtain ⟨c, hb, _, hc⟩ := h
  rw [cell_of_row w b _ c _ _ hb]; exact (hc i hi).1
theorem Crow.cell2 (h : Crow w b n F G) {i : Nat} (hi : i < n) : w.cell? ⟨b, i * 2 + 1, none⟩ = some (.int .u8 (G i)) := by
  obtain ⟨c, hb, _, hc⟩ := h
  rw [cell_of_row w b _ c _ _ hb]; exact (hc i hi).2
theorem Crow.frozen (h : Crow w b n F G) (i : Nat) : w.frozen? ⟨b, i, none⟩ = false := by
  obtain ⟨c, hb, _⟩ := h
  simp [World.frozen?, hb]
theorem Crow.congr (h : Crow w b n F G) (e1 : ∀ i, i < n → F i = F' i) (e2 : ∀ i, i < n → G i = G' i) : Crow w b n F' G' := by
  obtain ⟨c, hb, hs, hc⟩ := h
  exact ⟨c, hb, hs, fun i hi => by rw [(hc i hi).1, (hc i hi).2, e1 i hi, e2 i hi]; exact ⟨rfl, rfl⟩⟩
theorem Crow.other (h : Crow w b n F G) {a : Addr} (ha : b ≠ a.block) (v : Value) : Crow (w.setCell a v) b n F G := by
  obtain ⟨c, hb, hs, hc⟩ := h
  exact ⟨c, (Below.heap_setCell w a v b ha).trans hb, hs, hc⟩
theorem Crow.alloc (h : Crow w b n F G) (o : Obj) : Crow (w.alloc o) b n F G := by
  obtain ⟨c, hb, hs, hc⟩ := id h
  exact ⟨c, (Below.heap_alloc w o b h.lt).trans hb, hs, hc⟩
theorem Crow.drew (h : Crow w b n F G) : Crow w.drew b n F G := h
theorem Crow.below (h : Crow w b n F G) {B : Nat} (hb : Below B w w') (hB : b < B) : Crow w' b n F G := by
  obtain ⟨c, h1, hs, hc⟩ := h
  exact ⟨c, (hb.block b hB).trans h1, hs, hc⟩
theorem Crow.set (h : Crow w b n F G) (i x y : Nat) : Crow ((w.setCell ⟨b, i * 2, none⟩ (.int .u32 x)).setCell ⟨b, i * 2 + 1, none⟩ (.int .u8 y)) b n (fun j => if j = i then x else F j) (fun j => if j = i then y else G j) := by
  obtain ⟨c, hb, hs, hc⟩ := h
  refine ⟨(c.setIfInBounds (i * 2) (.int .u32 x)).setIfInBounds (i * 2 + 1) (.int .u8 y), ?_, by simp [hs], fun j hj => ?_⟩
  · simp [World.setCell, Array.getElem?_modify, hb]
  · obtain ⟨h1, h2⟩ := hc j hj
    by_cases e : j = i
    · subst e
      have l1 : j * 2 < c.size := by omega
      have l2 : j * 2 + 1 < c.size := by omega
      constructor
      · rw [Array.getElem?_setIfInBounds, if_neg (by omega), Array.getElem?_setIfInBounds, if_pos rfl, if_pos l1]; simp
      · rw [Array.getElem?_setIfInBounds, if_pos rfl, if_pos (by simpa using l2)]; simp
    · constructor
      · rw [Array.getElem?_setIfInBounds, if_neg (by omega), Array.getElem?_setIfInBounds, if_neg (by omega), h1]; simp [e]
      · rw [Array.getElem?_setIfInBounds, if_neg (by omega), Array.getElem?_setIfInBounds, if_neg (by omega), h2]; simp [e]
theorem Crow.cods (h : Crow w b n F G) : Cods w (some ⟨b, 0, none⟩) n F G := fun hn =>
  ⟨b, 0, rfl, h.lt, fun i hi => by rw [Nat.zero_add]; exact ⟨h.cell1 hi, h.cell2 hi⟩⟩
end
theorem codeInfo : (Tryz.prog.info? 108).map (fun i => (i.zero, i.size, i.bytes)) = some (some (.agg #[.int .u32 0, .int .u8 0]), 2, 8) := by kernel_rfl
theorem byteInfo : (Tryz.prog.info? 5).map (fun i => (i.zero, i.size, i.bytes)) = some (some (.int .u8 0), 1, 1) := by kernel_rfl
theorem intInfo : (Tryz.prog.info? 3).map (fun i => (i.zero, i.size, i.bytes)) = some (some (.int .i64 0), 1, 8) := by kernel_rfl
theorem run_make_known (w : World) {t e : TypeId} {z : Value} {size bytes : Nat} (ht : Tryz.prog.underlying t = some (.slice e)) (hi : (Tryz.prog.info? e).map (fun i => (i.zero, i.size, i.bytes)) = some (some z, size, bytes)) (hb : bytes ≤ 8) (n : Nat) (hn : n ≤ 400) :
    (Instr.makeSlice t (.int .i64 (n : Int)) (.int .i64 (n : Int))).run Tryz.prog w = .ok (.slice (some ⟨w.heap.size, 0, none⟩) n n) (w.alloc (.cells (madeCells z.cells (n * size)) e)) := by
  obtain ⟨i, h1, h2, h3, h4⟩ : ∃ i, Tryz.prog.info? e = some i ∧ i.zero = some z ∧ i.size = size ∧ i.bytes = bytes := by
    cases hq : Tryz.prog.info? e with
    | none => rw [hq] at hi; cases hi
    | some i => rw [hq] at hi; simp at hi; exact ⟨i, rfl, hi.1, hi.2.1, hi.2.2⟩
  subst h3 h4
  have hb' : (i.bytes : Int) * (n : Int) ≤ 281474976710656 := by
    have h : i.bytes * n ≤ 8 * 400 := Nat.mul_le_mul hb hn
    have h' : ((i.bytes * n : Nat) : Int) ≤ 281474976710656 := by omega
    rwa [Int.natCast_mul] at h'
  have hr := run_make (P := Tryz.prog) w t e i z ht h1 h2 .i64 .i64 n n (by omega) (Int.le_refl _) hb' (by omega)
  simp only [Int.toNat_natCast] at hr
  exact hr
theorem madeCode (w : World) (n : Nat) (hn : n ≤ 400) :
    (Instr.makeSlice 92 (.int .i64 (n : Int)) (.int .i64 (n : Int))).run Tryz.prog w = .ok (.slice (some ⟨w.heap.size, 0, none⟩) n n) (w.alloc (.cells (madeCells #[.int .u32 0, .int .u8 0] (n * 2)) 108)) :=
  run_make_known w Tryz.underlying92 codeInfo (by decide) n hn
theorem madeByte (w : World) (n : Nat) (hn : n ≤ 400) :
    (Instr.makeSlice 46 (.int .i64 (n : Int)) (.int .i64 (n : Int))).run Tryz.prog w = .ok (.slice (some ⟨w.heap.size, 0, none⟩) n n) (w.alloc (.cells (madeCells #[.int .u8 0] (n * 1)) 5)) :=
  run_make_known w Tryz.underlying46 byteInfo (by decide) n hn
theorem madeInt (w : World) (n : Nat) (hn : n ≤ 400) :
    (Instr.makeSlice 109 (.int .i64 (n : Int)) (.int .i64 (n : Int))).run Tryz.prog w = .ok (.slice (some ⟨w.heap.size, 0, none⟩) n n) (w.alloc (.cells (madeCells #[.int .i64 0] (n * 1)) 3)) :=
  run_make_known w Tryz.underlying109 intInfo (by decide) n hn
theorem Crow.made (w : World) (n : Nat) : Crow (w.alloc (.cells (madeCells #[.int .u32 0, .int .u8 0] (n * 2)) 108)) w.heap.size n (fun _ => 0) (fun _ => 0) := by
  refine ⟨_, heap_alloc_new w _, size_madeCells _ _, fun i hi => ?_⟩
  have h1 : i * 2 < n * 2 := by omega
  have h2 : i * 2 + 1 < n * 2 := by omega
  have m1 : i * 2 % 2 = 0 := by omega
  have m2 : (i * 2 + 1) % 2 = 1 := by omega
  constructor
  · simp [madeCells, h1, m1]
  · simp [madeCells, h2, m2]
end Go.Proofs.YtlanibgeafdefaaGreatDoor.C

namespace Go.Proofs.YtlanibgeafdefaaGreatDoor.C
open Go.RowKit M
set_option linter.unusedVariables false
set_option maxRecDepth 1000000
def GotC (W : World) (n : Nat) (f g : Nat → Nat) (err : Int) (e : Ending) (w' : World) : Prop :=
  ∃ A c, e = .returned (.tuple #[.slice A n c, .int .i64 err]) ∧ n ≤ c ∧ c ≤ 400 ∧ Cods w' A n f g ∧ Below W.heap.size W w' ∧ (0 < n → ∃ b, A = some ⟨b, 0, none⟩ ∧ W.heap.size ≤ b ∧ Crow w' b n f g)
theorem codes_bad_any (A : Option Addr) (n c : Nat) (l : Nat → Nat) (W : World) (hn : n ≤ maxLen) (hl : ∀ i, l i ≤ 255) (H : Nums W .u8 A n (fun i => (l i : Int))) (f g : Nat → Nat) (hk : kind l n = 5) :
    Calls Tryz.prog 101 #[.slice A n c] W (GotC W 0 f g 2) := by
  have hv := Lib.hid hk
  have HL := Lib.hid hl
  clear hk hl
  go_enter Tryz.func101, Tryz.ntmps101
  go_wp2_with fail
  refine (kind_any A n c l _ hn HL.out H).mono ?_; rintro e w1 ⟨rfl, b1⟩
  rw [hv.out]
  have B1 := Lib.hid b1
  clear b1
  go_wp2_with fail
  go_ret2
  exact ⟨none, 0, rfl, Nat.le_refl _, by omega, Cods.nil _ _ _ _, B1.out, fun h => absurd h (by omega)⟩
theorem codes_over_any (A : Option Addr) (n c : Nat) (l : Nat → Nat) (W : World) (hn : n ≤ maxLen) (hl : ∀ i, l i ≤ 255) (H : Nums W .u8 A n (fun i => (l i : Int))) (f g : Nat → Nat) (hk : kind l n = 4) :
    Calls Tryz.prog 101 #[.slice A n c] W (GotC W 0 f g 7) := by
  have hv := Lib.hid hk
  have HL := Lib.hid hl
  clear hk hl
  go_enter Tryz.func101, Tryz.ntmps101
  go_wp2_with fail
  refine (kind_any A n c l _ hn HL.out H).mono ?_; rintro e w1 ⟨rfl, b1⟩
  rw [hv.out]
  have B1 := Lib.hid b1
  clear b1
  go_wp2_with fail
  go_ret2
  exact ⟨none, 0, rfl, Nat.le_refl _, by omega, Cods.nil _ _ _ _, B1.out, fun h => absurd h (by omega)⟩
set_option maxRecDepth 1000000 in
set_option maxHeartbeats 1000000 in
theorem codes_ok_any (A : Option Addr) (n c : Nat) (l : Nat → Nat) (W : World) (hl : ∀ i, l i ≤ 255) (H : Nums W .u8 A n (fun i => (l i : Int))) (hm : May l n) (hw : weight l n ≤ 32768) (K : Nat) (hk : kind l n = K) (k5 : K ≠ 5) (k4 : K ≠ 4) :
    Calls Tryz.prog 101 #[.slice A n c] W (GotC W n (cod l n) l 0) := by
  have hz := arrZero
  have h320 := hm.1
  have hv := Lib.hid hk
  have HL := Lib.hid hl
  have HM := Lib.hid hm
  have HW := Lib.hid hw
  have HN := Lib.hid (show n ≤ maxLen by unfold maxLen; omega)
  have HC := Lib.hid (show ∀ s, s < 16 → c0 l n s ≤ 320 from fun s _ => Nat.le_trans (c0_le l n s) hm.1)
  have d5 : ((K : Int) == 5) = false := by rw [beq_eq_false_iff_ne]; omega
  have d4 : ((K : Int) == 4) = false := by rw [beq_eq_false_iff_ne]; omega
  have HH := Lib.hid H
  clear hk hl hm hw k5 k4 H
  go_enter Tryz.func101, Tryz.ntmps101
  go_wp2_with fail
  refine (kind_any A n c l _ HN.out HL.out HH.out).mono ?_; rintro e w1 ⟨rfl, b1⟩
  rw [hv.out]
  have B1 := Lib.hid b1
  have H1 := Lib.hid (HH.out.below b1)
  clear b1
  go_wp2_with fail
  refine (count_any A n c l _ HM.out H1.out).mono ?_; rintro e w2 ⟨rfl, b2⟩
  have B2 := Lib.hid (B1.out.trans (b2.mono B1.out.size))
  clear b2
  go_wp2_with fail
  refine (firsts_any (c0 l n) _ HC.out).mono ?_; rintro e w3 ⟨rfl, b3⟩
  have B3 := Lib.hid (B2.out.trans (b3.mono B2.out.size))
  clear b3
  have hmk := fun w => madeCode w n (by omega)
  go_wp2_with (refine step_store rfl _ _ rfl _ (fs (c0 l n)) rfl rfl ?_)
  clear hz hmk
  go_loopw [22] (fun i wr => ∃ k : Nat, k ≤ n ∧ i = .int .i64 k ∧ Tb wr w3.heap.size (fun s => fs (c0 l n) s + c0 l k s) ∧ Crow wr (w3.heap.size + 1) n (fun j => if j < k then cod l n j else 0) (fun j => if j < k then l j else 0) ∧ Below W.heap.size W wr) (fun i _ => n - (intOf i).toNat)
  case atStart =>
    refine ⟨0, Nat.zero_le _, rfl, ?_, ?_, (B3.out.alloc B3.out.size _).alloc (by have := B3.out.size; simp; omega) _⟩
    · exact ((Tb.made w3 (fs (c0 l n))).alloc _).congr (fun i hi => by unfold c0; simp [cnt])
    · have h := Crow.made (w3.alloc (.cells (TV (fs (c0 l n))) 197)) n
      rw [show (w3.alloc (.cells (TV (fs (c0 l n))) 197)).heap.size = w3.heap.size + 1 by simp] at h
      exact h.congr (fun i hi => by simp) (fun i hi => by simp)
  case round =>
    obtain ⟨k, hkn, rfl, ht, hr, hb⟩ := hrel
    by_cases hlt : k < n
    · obtain ⟨b, o, rfl, hbs, hc⟩ := HH.out (by omega)
      have h15 := HM.out.2 k hlt
      have hcell : wr.cell? ⟨b, o + k, none⟩ = some (.int .u8 (l k)) := (hb.cell hbs).trans (hc k hlt)
      have hf1 := hr.frozen (k * 2)
      have hf2 := hr.frozen (k * 2 + 1)
      have hr1 := hr.cell1 hlt
      have hr2 := hr.cell2 hlt
      have hfl := fs_le (c := c0 l n) h15 (by rw [aw_weight l n HM.out.2]; exact HW.out)
      have hcm := cnt_mono l (l k) (Nat.le_of_lt hlt)
      have hpw : 2 ^ l k ≤ 2 ^ 15 := Nat.pow_le_pow_right (by omega) h15
      by_cases h0 : l k = 0
      · have HT := Lib.hid ht
        have HR := Lib.hid hr
        have HB := Lib.hid hb
        have H0 := Lib.hid h0
        rw [h0] at hcell
        clear ht hr hb hc hfl hcm hpw h0 hr1 hr2 hf1 hf2
        go_wp2_with fail
        go_roundw
        case rel =>
          refine ⟨k + 1, by omega, by go_num, HT.out.congr (fun i hi => ?_), HR.out.congr (fun i hi => ?_) (fun i hi => ?_), HB.out⟩
          · unfold c0
            by_cases e : i = 0
            · rw [if_pos e, if_pos e]
            · rw [if_neg e, if_neg e]
              simp only [cnt]
              rw [if_neg (by rw [H0.out]; exact fun q => e q.symm)]; rfl
          · by_cases e : i < k
            · rw [if_pos e, if_pos (by omega)]
            · rw [if_neg e]
              by_cases e2 : i < k + 1
              · obtain rfl : i = k := by omega
                rw [if_pos e2]; unfold cod; rw [if_pos H0.out]
              · rw [if_neg e2]
          · by_cases e : i < k
            · rw [if_pos e, if_pos (by omega)]
            · rw [if_neg e]
              by_cases e2 : i < k + 1
              · obtain rfl : i = k := by omega
                rw [if_pos e2, H0.out]
              · rw [if_neg e2]
        case measure => simp [intOf]; omega
      · have hk1 : (if k < k then cod l n k else 0) = 0 := if_neg (Nat.lt_irrefl _)
        have hk2 : (if k < k then l k else 0) = 0 := if_neg (Nat.lt_irrefl _)
        rw [hk1] at hr1
        rw [hk2] at hr2
        have hfr := ht.frozen (l k)
        have hcl := ht.cell (show l k < 16 by omega)
        have hcode : cod l n k = fs (c0 l n) (l k) + c0 l k (l k) := by unfold cod c0; rw [if_neg h0, if_neg h0]
        have e1 : c0 l n (l k) = cnt l (l k) n := by unfold c0; rw [if_neg h0]
        have e2 : c0 l k (l k) = cnt l (l k) k := by unfold c0; rw [if_neg h0]
        rw [← hcode] at hcl
        have hcs : cod l n k ≤ 32768 := by omega
        obtain ⟨x, hx⟩ : ∃ x, l k = x := ⟨_, rfl⟩
        obtain ⟨y, hy⟩ : ∃ y, cod l n k = y := ⟨_, rfl⟩
        have h0' : ((x : Int) == 0) = false := by rw [beq_eq_false_iff_ne]; omega
        rw [hx] at hcell hcl hfr h15
        rw [hy] at hcs hcl
        have HT := Lib.hid ht
        have HR := Lib.hid hr
        have HB := Lib.hid hb
        have H0 := Lib.hid h0
        have HX := Lib.hid hx
        have HY := Lib.hid hy
        have HCD := Lib.hid hcode
        have hne : ¬ w3.heap.size = w3.heap.size + 1 := by omega
        clear ht hr hb hc hfl hcm hpw h0 hx hy hcode e1 e2 hk1 hk2
        go_wp2_with fail
        go_roundw
        case rel =>
          refine ⟨k + 1, by omega, by go_num, ?_, ?_, (((HB.out.setCell (by have := B3.out.size; simp; omega) _).setCell (by have := B3.out.size; simp; omega) _).setCell (by have := B3.out.size; simp; omega) _)⟩
          · refine ((((HT.out.other (by simp) _).other (by simp) _).set x (y + 1))).congr (fun i hi => ?_)
            have hck : ∀ j, c0 l (k + 1) j = c0 l k j + if j = x then 1 else 0 := fun j => by
              have hx := HX.out
              unfold c0
              by_cases e : j = 0
              · have e' : ¬ j = x := by have := H0.out; omega
                rw [if_pos e, if_pos e, if_neg e']
              · rw [if_neg e, if_neg e]
                simp only [cnt]
                rw [hx]
                by_cases e' : j = x
                · rw [if_pos e', if_pos e'.symm]
                · rw [if_neg e', if_neg (fun q => e' q.symm)]
            rw [hck]
            by_cases e : i = x
            · rw [if_pos e, if_pos e, e]
              have h1 := HCD.out
              rw [HX.out, HY.out] at h1
              omega
            · rw [if_neg e, if_neg e]; rfl
          · refine ((HR.out.set k y x).other (by simp) _).congr (fun i hi => ?_) (fun i hi => ?_)
            · by_cases e : i = k
              · rw [if_pos e, if_pos (by omega), e, HY.out]
              · rw [if_neg e]
                by_cases e2 : i < k
                · rw [if_pos e2, if_pos (by omega)]
                · rw [if_neg e2, if_neg (by omega)]
            · by_cases e : i = k
              · rw [if_pos e, if_pos (by omega), e, HX.out]
              · rw [if_neg e]
                by_cases e2 : i < k
                · rw [if_pos e2, if_pos (by omega)]
                · rw [if_neg e2, if_neg (by omega)]
        case measure => simp [intOf]; omega
    · obtain rfl : k = n := by omega
      have HR := Lib.hid (hr.congr (F' := cod l k) (G' := l) (fun i hi => by rw [if_pos hi]) (fun i hi => by rw [if_pos hi]))
      have HB := Lib.hid hb
      clear ht hr hb
      go_wp2_with fail
      go_ret2
      exact ⟨_, _, rfl, Nat.le_refl _, by omega, HR.out.cods, HB.out, fun _ => ⟨_, rfl, by have := B3.out.size; omega, HR.out⟩⟩
theorem erc_of {l : Nat → Nat} {n : Nat} : (kind l n = 5 ∧ erc l n = 2 ∧ outn l n = 0) ∨ (kind l n = 4 ∧ erc l n = 7 ∧ outn l n = 0) ∨ (kind l n ≠ 5 ∧ kind l n ≠ 4 ∧ erc l n = 0 ∧ outn l n = n) := by
  by_cases h5 : kind l n = 5
  · exact .inl ⟨h5, by unfold erc; rw [if_pos h5], by unfold outn erc; rw [if_pos h5]; rfl⟩
  · by_cases h4 : kind l n = 4
    · exact .inr (.inl ⟨h4, by unfold erc; rw [if_neg h5, if_pos h4], by unfold outn erc; rw [if_neg h5, if_pos h4]; rfl⟩)
    · exact .inr (.inr ⟨h5, h4, by unfold erc; rw [if_neg h5, if_neg h4], by unfold outn erc; rw [if_neg h5, if_neg h4]; rfl⟩)
theorem codes_any (A : Option Addr) (n c : Nat) (l : Nat → Nat) (W : World) (hn : n ≤ maxLen) (hl : ∀ i, l i ≤ 255) (H : Nums W .u8 A n (fun i => (l i : Int))) :
    Calls Tryz.prog 101 #[.slice A n c] W (GotC W (outn l n) (cod l n) l (erc l n : Nat)) := by
  rcases erc_of (l := l) (n := n) with ⟨h1, h2, h3⟩ | ⟨h1, h2, h3⟩ | ⟨h1, h1', h2, h3⟩
  · rw [h2, h3]; exact codes_bad_any A n c l W hn hl H _ _ h1
  · rw [h2, h3]; exact codes_over_any A n c l W hn hl H _ _ h1
  · rw [h2, h3]
    obtain ⟨hm, hw⟩ := kind_fits h1 h1'
    exact codes_ok_any A n c l W hl H hm hw _ rfl h1 h1'
end Go.Proofs.YtlanibgeafdefaaGreatDoor.C

namespace Go.Proofs.YtlanibgeafdefaaGreatDoor.C
open Go.RowKit M
set_option linter.unusedVariables false
set_option maxRecDepth 1000000
theorem pow_next (x j : Nat) (h : x ≤ j) : 2 ^ (j + 1 - x) = 2 * 2 ^ (j - x) := by rw [show j + 1 - x = (j - x) + 1 by omega, Nat.pow_succ]; omega
theorem rkind_end {l : Nat → Nat} {n : Nat} (hm : May l n) {g a z : Nat} (hg : weight l n = g) (ha : nz l n = a) (hz : lst l n = z) :
    kind l n = if a = 0 then 0 else if 32768 < g then 4 else if g = 32768 then 2 else if a = 1 ∧ z = 1 then 1 else 3 := by
  rw [kind_ref hm, hg, ha, hz]
set_option maxRecDepth 1000000 in
set_option maxHeartbeats 1000000 in
theorem rkind_any (A : Option Addr) (n c : Nat) (l : Nat → Nat) (W : World) (hn : n ≤ maxLen) (hl : ∀ i, l i ≤ 255) (H : Nums W .u8 A n (fun i => (l i : Int))) :
    Calls Tryz.prog 60 #[.slice A n c] W fun e w' => e = .returned (.int .u8 (kind l n)) ∧ W = w' := by
  have hn' : n ≤ 9223372036854775807 := by unfold maxLen at hn; omega
  have HL := Lib.hid hl
  have HH := Lib.hid H
  clear H hn hl
  by_cases h320 : n ≤ 320
  · go_enter Tryz.func60, Tryz.ntmps60
    go_wp2
    go_loop [3, 4, 5, 6] (fun g a z i => ∃ k : Nat, k ≤ n ∧ i = .int .i64 k ∧ g = .int .i64 (weight l k) ∧ a = .int .i64 (nz l k) ∧ z = .int .u8 (lst l k) ∧ Hid (∀ j, j < k → l j ≤ 15)) (fun _ _ _ i => n - (intOf i).toNat)
    case atStart => exact ⟨0, Nat.zero_le _, rfl, rfl, rfl, rfl, Lib.hid (fun j hj => by omega)⟩
    case round =>
      obtain ⟨k, hkn, rfl, rfl, rfl, rfl, hsm⟩ := hrel
      have w1 := weight_le l k
      have w2 := nz_le l k
      have w3 := lst_le k hsm.out
      obtain ⟨g, hg⟩ : ∃ g, weight l k = g := ⟨_, rfl⟩
      obtain ⟨a, ha⟩ : ∃ a, nz l k = a := ⟨_, rfl⟩
      obtain ⟨z, hz⟩ : ∃ z, lst l k = z := ⟨_, rfl⟩
      rw [hg] at w1 ⊢
      rw [ha] at w2 ⊢
      rw [hz] at w3 ⊢
      have HG := Lib.hid hg
      have HA := Lib.hid ha
      have HZ := Lib.hid hz
      clear hg ha hz
      by_cases hlt : k < n
      · obtain ⟨b, o, rfl, hb, hc⟩ := HH.out (by omega)
        have hcell : W.cell? ⟨b, o + k, none⟩ = some (.int .u8 (l k)) := hc k hlt
        have h255 := HL.out k
        obtain ⟨x, hx⟩ : ∃ x, l k = x := ⟨_, rfl⟩
        rw [hx] at hcell h255
        have HX := Lib.hid hx
        clear hc hx
        by_cases h15 : x ≤ 15
        · by_cases h0 : x = 0
          · have hx0 : ((x : Int) == 0) = true := by rw [beq_iff_eq]; omega
            have H0 := Lib.hid h0
            clear h0
            go_wp2
            go_round
            case rel =>
              have e0 : l k = 0 := HX.out.trans H0.out
              refine ⟨k + 1, by omega, by go_num, ?_, ?_, ?_, Lib.hid (fun j hj => ?_)⟩
              · simp only [weight]; rw [HG.out, e0]; rfl
              · simp only [nz]; rw [HA.out, if_pos e0]; rfl
              · simp only [lst]; rw [HZ.out, if_pos e0]
              · by_cases e : j = k
                · rw [e, e0]; omega
                · exact hsm.out j (by omega)
            case measure => simp [intOf]; omega
          · have hx0 : ((x : Int) == 0) = false := by rw [beq_eq_false_iff_ne]; omega
            have H0 := Lib.hid h0
            clear h0
            go_wp2
            go_loop [7, 8] (fun w j => ∃ m : Nat, x ≤ m ∧ m ≤ 15 ∧ j = .int .i64 m ∧ w = .int .i64 ((2 ^ (m - x) : Nat) : Int)) (fun _ j => 15 - (intOf j).toNat)
            case atStart => exact ⟨x, Nat.le_refl _, h15, rfl, by rw [Nat.sub_self]; rfl⟩
            case round =>
              obtain ⟨m, hxm, hm15, rfl, rfl⟩ := hrel
              have hpw : 2 ^ (m - x) ≤ 2 ^ 15 := Nat.pow_le_pow_right (by omega) (by omega)
              have hpn := Lib.hid (pow_next x m hxm)
              obtain ⟨v, hv⟩ : ∃ v, 2 ^ (m - x) = v := ⟨_, rfl⟩
              rw [hv] at hpw ⊢
              have HV := Lib.hid hv
              clear hv
              by_cases hlm : m < 15
              · go_wp2
                go_round
                case rel => exact ⟨m + 1, by omega, by omega, by go_num, congrArg (Value.int .i64) (by rw [hpn.out, HV.out]; omega)⟩
                case measure => simp [intOf]; omega
              · obtain rfl : m = 15 := by omega
                go_wp2
                go_round
                case rel =>
                  have e0 : ¬ l k = 0 := fun q => H0.out (HX.out ▸ q)
                  refine ⟨k + 1, by omega, by go_num, ?_, ?_, ?_, Lib.hid (fun j hj => ?_)⟩
                  · simp only [weight]; rw [HG.out]; unfold wt; rw [if_neg e0, HX.out, HV.out]; go_num
                  · simp only [nz]; rw [HA.out, if_neg e0]; go_num
                  · simp only [lst]; rw [if_neg e0, HX.out]
                  · by_cases e : j = k
                    · rw [e, HX.out]; exact h15
                    · exact hsm.out j (by omega)
                case measure => simp [intOf]; omega
        · have hv := Lib.hid (kind_bad (l := l) (n := n) (fun q => h15 (by rw [← HX.out]; exact q.2 k hlt)))
          go_wp2
          go_ret
          exact ⟨by rw [hv.out]; rfl, rfl⟩
      · obtain rfl : k = n := by omega
        have hk := rkind_end ⟨h320, hsm.out⟩ HG.out HA.out HZ.out
        by_cases e0 : a = 0
        · rw [if_pos e0] at hk
          have d0 : ((a : Int) == 0) = true := by rw [beq_iff_eq]; omega
          have HK := Lib.hid hk
          clear hk e0
          go_wp2
          go_ret
          exact ⟨by rw [HK.out]; rfl, rfl⟩
        rw [if_neg e0] at hk
        by_cases e1 : 32768 < g
        · rw [if_pos e1] at hk
          have d0 : ((a : Int) == 0) = false := by rw [beq_eq_false_iff_ne]; omega
          have d1 : decide (32768 < (g : Int)) = true := decide_eq_true (by omega)
          have HK := Lib.hid hk
          clear hk e0
          go_wp2
          go_ret
          exact ⟨by rw [HK.out]; rfl, rfl⟩
        rw [if_neg e1] at hk
        by_cases e2 : g = 32768
        · rw [if_pos e2] at hk
          have d0 : ((a : Int) == 0) = false := by rw [beq_eq_false_iff_ne]; omega
          have d1 : decide (32768 < (g : Int)) = false := decide_eq_false (by omega)
          have d2 : ((g : Int) == 32768) = true := by rw [beq_iff_eq]; omega
          have HK := Lib.hid hk
          clear hk e0 e2
          go_wp2
          go_ret
          exact ⟨by rw [HK.out]; rfl, rfl⟩
        rw [if_neg e2] at hk
        by_cases e3 : a = 1
        · by_cases e4 : z = 1
          · rw [if_pos ⟨e3, e4⟩] at hk
            have d0 : ((a : Int) == 0) = false := by rw [beq_eq_false_iff_ne]; omega
            have d1 : decide (32768 < (g : Int)) = false := decide_eq_false (by omega)
            have d2 : ((g : Int) == 32768) = false := by rw [beq_eq_false_iff_ne]; omega
            have d3 : ((a : Int) == 1) = true := by rw [beq_iff_eq]; omega
            have d4 : ((z : Int) == 1) = true := by rw [beq_iff_eq]; omega
            have HK := Lib.hid hk
            clear hk e0 e2 e3 e4
            go_wp2
            go_ret
            exact ⟨by rw [HK.out]; rfl, rfl⟩
          · rw [if_neg (fun q => e4 q.2)] at hk
            have d0 : ((a : Int) == 0) = false := by rw [beq_eq_false_iff_ne]; omega
            have d1 : decide (32768 < (g : Int)) = false := decide_eq_false (by omega)
            have d2 : ((g : Int) == 32768) = false := by rw [beq_eq_false_iff_ne]; omega
            have d3 : ((a : Int) == 1) = true := by rw [beq_iff_eq]; omega
            have d4 : ((z : Int) == 1) = false := by rw [beq_eq_false_iff_ne]; omega
            have HK := Lib.hid hk
            clear hk e0 e2 e3 e4
            go_wp2
            go_ret
            exact ⟨by rw [HK.out]; rfl, rfl⟩
        · rw [if_neg (fun q => e3 q.1)] at hk
          have d0 : ((a : Int) == 0) = false := by rw [beq_eq_false_iff_ne]; omega
          have d1 : decide (32768 < (g : Int)) = false := decide_eq_false (by omega)
          have d2 : ((g : Int) == 32768) = false := by rw [beq_eq_false_iff_ne]; omega
          have d3 : ((a : Int) == 1) = false := by rw [beq_eq_false_iff_ne]; omega
          have HK := Lib.hid hk
          clear hk e0 e2 e3
          go_wp2
          go_ret
          exact ⟨by rw [HK.out]; rfl, rfl⟩
  · have hv := Lib.hid (kind_bad (l := l) (n := n) (fun q => h320 q.1))
    go_enter Tryz.func60, Tryz.ntmps60
    go_wp2
    go_ret
    exact ⟨by rw [hv.out]; rfl, rfl⟩
end Go.Proofs.YtlanibgeafdefaaGreatDoor.C

namespace Go.Proofs.YtlanibgeafdefaaGreatDoor.C
open Go.RowKit M
set_option linter.unusedVariables false
set_option maxRecDepth 1000000
theorem rcodes_bad_any (A : Option Addr) (n c : Nat) (l : Nat → Nat) (W : World) (hn : n ≤ maxLen) (hl : ∀ i, l i ≤ 255) (H : Nums W .u8 A n (fun i => (l i : Int))) (f g : Nat → Nat) (hk : kind l n = 5) :
    Calls Tryz.prog 44 #[.slice A n c] W (GotC W 0 f g 2) := by
  have hv := Lib.hid hk
  have HL := Lib.hid hl
  clear hk hl
  go_enter Tryz.func44, Tryz.ntmps44
  go_wp2_with fail
  refine (rkind_any A n c l _ hn HL.out H).mono ?_; rintro e w1 ⟨rfl, rfl⟩
  rw [hv.out]
  go_wp2_with fail
  go_ret2
  exact ⟨none, 0, rfl, Nat.le_refl _, by omega, Cods.nil _ _ _ _, Below.refl _ _, fun h => absurd h (by omega)⟩
theorem rcodes_over_any (A : Option Addr) (n c : Nat) (l : Nat → Nat) (W : World) (hn : n ≤ maxLen) (hl : ∀ i, l i ≤ 255) (H : Nums W .u8 A n (fun i => (l i : Int))) (f g : Nat → Nat) (hk : kind l n = 4) :
    Calls Tryz.prog 44 #[.slice A n c] W (GotC W 0 f g 7) := by
  have hv := Lib.hid hk
  have HL := Lib.hid hl
  clear hk hl
  go_enter Tryz.func44, Tryz.ntmps44
  go_wp2_with fail
  refine (rkind_any A n c l _ hn HL.out H).mono ?_; rintro e w1 ⟨rfl, rfl⟩
  rw [hv.out]
  go_wp2_with fail
  go_ret2
  exact ⟨none, 0, rfl, Nat.le_refl _, by omega, Cods.nil _ _ _ _, Below.refl _ _, fun h => absurd h (by omega)⟩
def dn (l : Nat → Nat) (m k i : Nat) : Prop := l i ≠ 0 ∧ (l i < m ∨ l i = m ∧ i < k)
instance (l : Nat → Nat) (m k i : Nat) : Decidable (dn l m k i) := inferInstanceAs (Decidable (l i ≠ 0 ∧ (l i < m ∨ l i = m ∧ i < k)))
def Fd (l : Nat → Nat) (n m k i : Nat) : Nat := if dn l m k i then cod l n i else 0
def Gd (l : Nat → Nat) (m k i : Nat) : Nat := if dn l m k i then l i else 0
def RN (l : Nat → Nat) (n m k x sz : Nat) (b : Bool) : Prop :=
  ∃ nx, nx * 2 ^ (m - sz) = fs (c0 l n) m + cnt l m k ∧ sz ≤ m ∧ ((b = true ∧ x = nx ∧ nx = 0) ∨ (b = false ∧ nx = x + 1))
theorem RN.next {l : Nat → Nat} {n m x sz : Nat} {b : Bool} (h : RN l n m n x sz b) (h1 : 1 ≤ m) : RN l n (m + 1) 0 x sz b := by
  obtain ⟨nx, e, hs, hb⟩ := h
  refine ⟨nx, ?_, by omega, hb⟩
  rw [show m + 1 - sz = (m - sz) + 1 by omega, Nat.pow_succ, ← Nat.mul_assoc, e]
  have : c0 l n m = cnt l m n := by unfold c0; rw [if_neg (by omega)]
  simp only [fs, cnt]; rw [this]; omega
theorem RN.skip {l : Nat → Nat} {n m k x sz : Nat} {b : Bool} (h : RN l n m k x sz b) (hk : l k ≠ m) : RN l n m (k + 1) x sz b := by
  obtain ⟨nx, e, hs, hb⟩ := h
  refine ⟨nx, ?_, hs, hb⟩
  simp only [cnt]; rw [if_neg hk]; exact e
theorem RN.told {l : Nat → Nat} {n m k y : Nat} (hy : y = fs (c0 l n) m + cnt l m k) (hk : l k = m) : RN l n m (k + 1) y m false := by
  refine ⟨y + 1, ?_, Nat.le_refl _, .inr ⟨rfl, rfl⟩⟩
  simp only [cnt]; rw [if_pos hk, Nat.sub_self, Nat.pow_zero, Nat.mul_one, hy]; omega
theorem RN.start (l : Nat → Nat) (n : Nat) : RN l n 1 0 0 0 true := ⟨0, by simp [fs, c0, cnt], by omega, .inl ⟨rfl, rfl, rfl⟩⟩
theorem dn_next {l : Nat → Nat} {n m i : Nat} (hi : i < n) : dn l (m + 1) 0 i ↔ dn l m n i := by unfold dn; omega
theorem dn_skip {l : Nat → Nat} {m k i : Nat} (hk : l k ≠ m) : dn l m (k + 1) i ↔ dn l m k i := by
  unfold dn
  constructor
  · rintro ⟨a, b⟩
    refine ⟨a, ?_⟩
    rcases b with b | ⟨b, c⟩
    · exact .inl b
    · refine .inr ⟨b, ?_⟩
      by_cases e : i = k
      · subst e; exact absurd b hk
      · omega
  · rintro ⟨a, b⟩; exact ⟨a, by omega⟩
theorem dn_told {l : Nat → Nat} {m k i : Nat} (hk : l k = m) (h0 : m ≠ 0) : dn l m (k + 1) i ↔ (i = k ∨ dn l m k i) := by
  unfold dn
  constructor
  · rintro ⟨a, b⟩
    by_cases e : i = k
    · exact .inl e
    · exact .inr ⟨a, by omega⟩
  · rintro (rfl | ⟨a, b⟩)
    · exact ⟨by omega, .inr ⟨hk, by omega⟩⟩
    · exact ⟨a, by omega⟩
theorem dn_end {l : Nat → Nat} {i : Nat} (h : l i ≤ 15) : dn l 16 0 i ↔ l i ≠ 0 := by unfold dn; omega
theorem dn_start (l : Nat → Nat) (i : Nat) : ¬ dn l 1 0 i := by unfold dn; omega
set_option maxRecDepth 1000000 in
set_option maxHeartbeats 1000000 in
theorem rcodes_ok_any (A : Option Addr) (n c : Nat) (l : Nat → Nat) (W : World) (hl : ∀ i, l i ≤ 255) (H : Nums W .u8 A n (fun i => (l i : Int))) (hm : May l n) (hw : weight l n ≤ 32768) (K : Nat) (hk : kind l n = K) (k5 : K ≠ 5) (k4 : K ≠ 4) :
    Calls Tryz.prog 44 #[.slice A n c] W (GotC W n (cod l n) l 0) := by
  have h320 := hm.1
  have hv := Lib.hid hk
  have HL := Lib.hid hl
  have HM := Lib.hid hm
  have HW := Lib.hid hw
  have HN := Lib.hid (show n ≤ maxLen by unfold maxLen; omega)
  have d5 : ((K : Int) == 5) = false := by rw [beq_eq_false_iff_ne]; omega
  have d4 : ((K : Int) == 4) = false := by rw [beq_eq_false_iff_ne]; omega
  have HH := Lib.hid H
  clear hk hl hm hw k5 k4 H
  go_enter Tryz.func44, Tryz.ntmps44
  go_wp2_with fail
  refine (rkind_any A n c l _ HN.out HL.out HH.out).mono ?_; rintro e w1 ⟨rfl, rfl⟩
  rw [hv.out]
  have hmk := fun w => madeCode w n (by omega)
  go_wp2_with fail
  clear hmk
  go_loopw [5, 6, 7, 8] (fun x s b i wr => ∃ m X S : Nat, ∃ B : Bool, 1 ≤ m ∧ m ≤ 16 ∧ i = .int .i64 m ∧ x = .int .u32 X ∧ s = .int .i64 S ∧ b = .bool B ∧ RN l n m 0 X S B ∧ Crow wr W.heap.size n (Fd l n m 0) (Gd l m 0) ∧ Below W.heap.size W wr) (fun _ _ _ i _ => 16 - (intOf i).toNat)
  case atStart =>
    refine ⟨1, 0, 0, true, Nat.le_refl _, by omega, rfl, rfl, rfl, rfl, RN.start l n, ?_, (Below.refl _ _).alloc (Nat.le_refl _) _⟩
    exact (Crow.made W n).congr (fun i hi => by unfold Fd; rw [if_neg (dn_start l i)]) (fun i hi => by unfold Gd; rw [if_neg (dn_start l i)])
  case round =>
    obtain ⟨m, X, S, B, hm1, hm16, rfl, rfl, rfl, rfl, hrn, hr, hb⟩ := hrel
    have HR := Lib.hid hr
    have HB := Lib.hid hb
    have HRN := Lib.hid hrn
    clear hr hb hrn
    by_cases hm15 : m ≤ 15
    · go_wp2_with fail
      go_loopw [5, 6, 7, 9] (fun x s b i wr => ∃ k X S : Nat, ∃ B : Bool, k ≤ n ∧ i = .int .i64 k ∧ x = .int .u32 X ∧ s = .int .i64 S ∧ b = .bool B ∧ RN l n m k X S B ∧ Crow wr W.heap.size n (Fd l n m k) (Gd l m k) ∧ Below W.heap.size W wr) (fun _ _ _ i _ => n - (intOf i).toNat)
      case atStart => exact ⟨0, X, S, B, Nat.zero_le _, rfl, rfl, rfl, rfl, HRN.out, HR.out, HB.out⟩
      case round =>
        clear HR HB HRN
        obtain ⟨k, X, S, B, hkn, rfl, rfl, rfl, rfl, hrn, hr, hb⟩ := hrel
        by_cases hlt : k < n
        · obtain ⟨b, o, rfl, hbs, hc⟩ := HH.out (by omega)
          have hcell : wr.cell? ⟨b, o + k, none⟩ = some (.int .u8 (l k)) := (hb.cell hbs).trans (hc k hlt)
          have h15 := HM.out.2 k hlt
          obtain ⟨x, hx⟩ : ∃ x, l k = x := ⟨_, rfl⟩
          rw [hx] at hcell h15
          have HX := Lib.hid hx
          clear hc hx
          by_cases hxm : x = m
          · have hsm : ((x : Int) != (m : Int)) = false := by rw [bne_eq_false_iff_eq]; omega
            have hf1 := hr.frozen (k * 2)
            have hf2 := hr.frozen (k * 2 + 1)
            have hr1 := hr.cell1 hlt
            have hr2 := hr.cell2 hlt
            obtain ⟨q1, hq1⟩ : ∃ q, Fd l n m k k = q := ⟨_, rfl⟩
            obtain ⟨q2, hq2⟩ : ∃ q, Gd l m k k = q := ⟨_, rfl⟩
            rw [hq1] at hr1
            rw [hq2] at hr2
            have hrf := ref_next HM.out HW.out hm1 hm15 hkn
            have hpm : 2 ^ m ≤ 2 ^ 15 := Nat.pow_le_pow_right (by omega) hm15
            have hcd : cod l n k = fs (c0 l n) m + cnt l m k := by unfold cod; rw [HX.out, if_neg (by omega), hxm]
            obtain ⟨nx, e, hs, hbb⟩ := hrn
            obtain ⟨V, hV⟩ : ∃ V, fs (c0 l n) m + cnt l m k = V := ⟨_, rfl⟩
            rw [hV] at hrf hcd e
            have hle : nx ≤ V := by
              rw [← e]
              exact Nat.le_mul_of_pos_right _ (Nat.two_pow_pos _)
            have hV32 : V ≤ 32768 := by omega
            have HR := Lib.hid hr
            have HB := Lib.hid hb
            have HV := Lib.hid hV
            have HXM := Lib.hid hxm
            have HCD := Lib.hid hcd
            have HE := Lib.hid e
            clear hr hb hV hxm hcd e hrf hpm hq1 hq2
            rcases hbb with ⟨rfl, rfl, h0⟩ | ⟨rfl, rfl⟩
            case' inl => clear h0
            all_goals (
              go_wp2_with fail
              go_loop [5, 6] (fun y j => ∃ J Y : Nat, S ≤ J ∧ J ≤ m ∧ j = .int .i64 J ∧ y = .int .u32 Y ∧ Hid (Y * 2 ^ (m - J) = V)) (fun _ j => m - (intOf j).toNat)
              case atStart => exact ⟨S, _, Nat.le_refl _, hs, rfl, by first | rfl | go_num, HE⟩
              case round =>
                obtain ⟨J, Y, hSJ, hJm, rfl, rfl, hY⟩ := hrel
                have hYle : Y ≤ V := by
                  rw [← hY.out]
                  exact Nat.le_mul_of_pos_right _ (Nat.two_pow_pos _)
                by_cases hJ : J < m
                · have hnext : 2 * Y * 2 ^ (m - (J + 1)) = V := by
                    have := hY.out
                    rw [show m - J = (m - (J + 1)) + 1 by omega, Nat.pow_succ] at this
                    rw [← this, Nat.mul_comm 2 Y, Nat.mul_assoc, Nat.mul_comm 2]
                  have hY2 : 2 * Y ≤ V := by
                    rw [← hnext]
                    exact Nat.le_mul_of_pos_right _ (Nat.two_pow_pos _)
                  have HN2 := Lib.hid hnext
                  clear hnext
                  go_wp2_with fail
                  go_round
                  case rel => exact ⟨J + 1, 2 * Y, by omega, by omega, by go_num, by go_num, HN2⟩
                  case measure => simp [intOf]; omega
                · obtain rfl : J = m := by omega
                  have hYV : Y = V := by
                    have := hY.out
                    rwa [Nat.sub_self, Nat.pow_zero, Nat.mul_one] at this
                  subst hYV
                  go_wp2_with fail
                  go_roundw
                  case rel =>
                    refine ⟨k + 1, Y, J, false, by omega, by go_num, rfl, rfl, rfl, RN.told HV.out.symm (HX.out.trans HXM.out), ?_, (HB.out.setCell (by simp) _).setCell (by simp) _⟩
                    refine (HR.out.set k Y x).congr (fun i hi => ?_) (fun i hi => ?_)
                    · have hd := dn_told (i := i) (HX.out.trans HXM.out) (by omega)
                      unfold Fd
                      by_cases e : i = k
                      · rw [if_pos e, if_pos (hd.2 (.inl e)), e, HCD.out]
                      · rw [if_neg e]
                        by_cases e2 : dn l J k i
                        · rw [if_pos e2, if_pos (hd.2 (.inr e2))]
                        · rw [if_neg e2, if_neg (fun q => by rcases hd.1 q with q | q; exact e q; exact e2 q)]
                    · have hd := dn_told (i := i) (HX.out.trans HXM.out) (by omega)
                      unfold Gd
                      by_cases e : i = k
                      · rw [if_pos e, if_pos (hd.2 (.inl e)), e, HX.out]
                      · rw [if_neg e]
                        by_cases e2 : dn l J k i
                        · rw [if_pos e2, if_pos (hd.2 (.inr e2))]
                        · rw [if_neg e2, if_neg (fun q => by rcases hd.1 q with q | q; exact e q; exact e2 q)]
                  case measure => simp [intOf]; omega)
          · have hsm : ((x : Int) != (m : Int)) = true := by rw [bne_iff_ne]; omega
            have HR := Lib.hid hr
            have HB := Lib.hid hb
            have HRN := Lib.hid hrn
            have HXM := Lib.hid hxm
            clear hr hb hrn hxm
            go_wp2_with fail
            go_roundw
            case rel =>
              have hne : l k ≠ m := by rw [HX.out]; exact HXM.out
              refine ⟨k + 1, X, S, B, by omega, by go_num, rfl, rfl, rfl, HRN.out.skip hne, HR.out.congr (fun i hi => ?_) (fun i hi => ?_), HB.out⟩
              · unfold Fd; simp only [dn_skip hne]
              · unfold Gd; simp only [dn_skip hne]
            case measure => simp [intOf]; omega
        · obtain rfl : k = n := by omega
          have HR := Lib.hid hr
          have HB := Lib.hid hb
          have HRN := Lib.hid hrn
          clear hr hb hrn
          go_wp2_with fail
          go_roundw
          case rel =>
            refine ⟨m + 1, X, S, B, by omega, by omega, by go_num, rfl, rfl, rfl, HRN.out.next hm1, HR.out.congr (fun i hi => ?_) (fun i hi => ?_), HB.out⟩
            · unfold Fd; simp only [dn_next hi]
            · unfold Gd; simp only [dn_next hi]
          case measure => simp [intOf]; omega
    · obtain rfl : m = 16 := by omega
      have HR2 := Lib.hid (HR.out.congr (F' := cod l n) (G' := l) (fun i hi => by
        unfold Fd
        by_cases e : l i = 0
        · rw [if_neg (fun q => q.1 e)]; unfold cod; rw [if_pos e]
        · rw [if_pos ((dn_end (HM.out.2 i hi)).2 e)]) (fun i hi => by
        unfold Gd
        by_cases e : l i = 0
        · rw [if_neg (fun q => q.1 e), e]
        · rw [if_pos ((dn_end (HM.out.2 i hi)).2 e)]))
      go_wp2_with fail
      go_ret2
      exact ⟨_, _, rfl, Nat.le_refl _, by omega, HR2.out.cods, HB.out, fun _ => ⟨_, rfl, Nat.le_refl _, HR2.out⟩⟩
theorem rcodes_any (A : Option Addr) (n c : Nat) (l : Nat → Nat) (W : World) (hn : n ≤ maxLen) (hl : ∀ i, l i ≤ 255) (H : Nums W .u8 A n (fun i => (l i : Int))) :
    Calls Tryz.prog 44 #[.slice A n c] W (GotC W (outn l n) (cod l n) l (erc l n : Nat)) := by
  rcases erc_of (l := l) (n := n) with ⟨h1, h2, h3⟩ | ⟨h1, h2, h3⟩ | ⟨h1, h1', h2, h3⟩
  · rw [h2, h3]; exact rcodes_bad_any A n c l W hn hl H _ _ h1
  · rw [h2, h3]; exact rcodes_over_any A n c l W hn hl H _ _ h1
  · rw [h2, h3]
    obtain ⟨hm, hw⟩ := kind_fits h1 h1'
    exact rcodes_ok_any A n c l W hl H hm hw _ rfl h1 h1'
end Go.Proofs.YtlanibgeafdefaaGreatDoor.C
