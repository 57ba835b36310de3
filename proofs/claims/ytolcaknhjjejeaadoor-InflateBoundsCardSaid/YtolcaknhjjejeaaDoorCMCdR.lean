/- Texts of one place, one behind the other: CdR, CdC. -/
import Derived.Test.YtolcaknhjjejeaaDoorCMCnA
import Derived.Laws.MakeOwn
namespace Go.Proofs.YtolcaknhjjejeaaDoor.C
open Go.RowKit M
set_option linter.unusedVariables false
set_option maxRecDepth 1000000
def Crow (w : World) (b n : Nat) (F G : Nat → Nat) : Prop :=
  ∃ c : Array Value, w.heap[b]? = some (.cells c 120 (0, 0)) ∧ c.size = n * 2 ∧ ∀ i, i < n → c[i * 2]? = some (.int .u32 (F i)) ∧ c[i * 2 + 1]? = some (.int .u8 (G i))
section
variable {w w' : World} {b n : Nat} {F G F' G' : Nat → Nat}
theorem Crow.lt (h : Crow w b n F G) : b < w.heap.size := by
  obtain ⟨c, hb, _⟩ := h
  rcases Nat.lt_or_ge b w.heap.size with g | g
  · exact g
  · rw [Array.getElem?_eq_none g] at hb; cases hb
theorem Crow.cell1 (h : Crow w b n F G) {i : Nat} (hi : i < n) : w.cell? ⟨b, i * 2, none⟩ = some (.int .u32 (F i)) := by
  obtain ⟨c, hb, _, hc⟩ := h
  rw [cell_of_row w b _ c _ _ hb]; exact (hc i hi).1
theorem Crow.cell2 (h : Crow w b n F G) {i : Nat} (hi : i < n) : w.cell? ⟨b, i * 2 + 1, none⟩ = some (.int .u8 (G i)) := by
  obtain ⟨c, hb, _, hc⟩ := h
  rw [cell_of_row w b _ c _ _ hb]; exact (hc i hi).2
theorem Crow.frozen (h : Crow w b n F G) (i : Nat) : w.frozen? ⟨b, i, none⟩ = false := by
  obtain ⟨c, hb, _⟩ := h
  simp [World.frozen?, hb]
theorem Crow.congr (h : Crow w b n F G) (e1 : ∀ i, i < n → F i = F' i) (e2 : ∀ i, i < n → G i = G' i) : Crow w b n F' G' := by
  obtain ⟨c, hb, hs, hc⟩ := h
  exact ⟨c, hb, hs, fun i hi => by rw [(hc i hi).1, (hc i hi).2, e1 i hi, e2 i hi]; exact ⟨rfl, rfl⟩⟩
theorem Crow.other (h : Crow w b n F G) {a : Addr} (ha : b ≠ a.block) (v : Value) : Crow (w.setCell a v) b n F G := by
  obtain ⟨c, hb, hs, hc⟩ := h
  exact ⟨c, (Below.heap_setCell w a v b ha).trans hb, hs, hc⟩
theorem Crow.alloc (h : Crow w b n F G) (o : Obj) : Crow (w.alloc o) b n F G := by
  obtain ⟨c, hb, hs, hc⟩ := id h
  exact ⟨c, (Below.heap_alloc w o b h.lt).trans hb, hs, hc⟩
theorem Crow.set (h : Crow w b n F G) (i x y : Nat) : Crow ((w.setCell ⟨b, i * 2, none⟩ (.int .u32 x)).setCell ⟨b, i * 2 + 1, none⟩ (.int .u8 y)) b n (fun j => if j = i then x else F j) (fun j => if j = i then y else G j) := by
  obtain ⟨c, hb, hs, hc⟩ := h
  refine ⟨(c.setIfInBounds (i * 2) (.int .u32 x)).setIfInBounds (i * 2 + 1) (.int .u8 y), ?_, by simp [hs], fun j hj => ?_⟩
  · simp [World.setCell, Array.getElem?_modify, hb]
  · obtain ⟨h1, h2⟩ := hc j hj
    by_cases e : j = i
    · subst e
      have l1 : j * 2 < c.size := by omega
      have l2 : j * 2 + 1 < c.size := by omega
      constructor
      · rw [Array.getElem?_setIfInBounds, if_neg (by omega), Array.getElem?_setIfInBounds, if_pos rfl, if_pos l1]; simp
      · rw [Array.getElem?_setIfInBounds, if_pos rfl, if_pos (by simpa using l2)]; simp
    · constructor
      · rw [Array.getElem?_setIfInBounds, if_neg (by omega), Array.getElem?_setIfInBounds, if_neg (by omega), h1]; simp [e]
      · rw [Array.getElem?_setIfInBounds, if_neg (by omega), Array.getElem?_setIfInBounds, if_neg (by omega), h2]; simp [e]
theorem Crow.cods (h : Crow w b n F G) : Cods w (some ⟨b, 0, none⟩) n F G := fun hn =>
  ⟨b, 0, rfl, h.lt, fun i hi => by rw [Nat.zero_add]; exact ⟨h.cell1 hi, h.cell2 hi⟩⟩
end
theorem codeInfo : (Tryd.prog.info? 120).map (fun i => (i.zero, i.size, i.bytes)) = some (some (.agg #[.int .u32 0, .int .u8 0]), 2, 8) := by kernel_rfl
theorem run_make_known (w : World) {t e : TypeId} {z : Value} {size bytes : Nat} (ht : Tryd.prog.underlying t = some (.slice e)) (hi : (Tryd.prog.info? e).map (fun i => (i.zero, i.size, i.bytes)) = some (some z, size, bytes)) (hb : bytes ≤ 8) (n : Nat) (hn : n ≤ 400) :
    (Instr.makeSlice t (.int .i64 (n : Int)) (.int .i64 (n : Int))).run Tryd.prog w = .ok (.slice (some ⟨w.heap.size, 0, none⟩) n n) (w.alloc (.cells (madeCells z.cells (n * size)) e)) := by
  obtain ⟨i, h1, h2, h3, h4⟩ : ∃ i, Tryd.prog.info? e = some i ∧ i.zero = some z ∧ i.size = size ∧ i.bytes = bytes := by
    cases hq : Tryd.prog.info? e with
    | none => rw [hq] at hi; cases hi
    | some i => rw [hq] at hi; simp at hi; exact ⟨i, rfl, hi.1, hi.2.1, hi.2.2⟩
  subst h3 h4
  have hb' : (i.bytes : Int) * (n : Int) ≤ 281474976710656 := by
    have h : i.bytes * n ≤ 8 * 400 := Nat.mul_le_mul hb hn
    have h' : ((i.bytes * n : Nat) : Int) ≤ 281474976710656 := by omega
    rwa [Int.natCast_mul] at h'
  have hr := run_make (P := Tryd.prog) w t e i z ht h1 h2 .i64 .i64 n n (by omega) (Int.le_refl _) hb' (by omega)
  simp only [Int.toNat_natCast] at hr
  exact hr
theorem madeCode (w : World) (n : Nat) (hn : n ≤ 400) :
    (Instr.makeSlice 108 (.int .i64 (n : Int)) (.int .i64 (n : Int))).run Tryd.prog w = .ok (.slice (some ⟨w.heap.size, 0, none⟩) n n) (w.alloc (.cells (madeCells #[.int .u32 0, .int .u8 0] (n * 2)) 120)) :=
  run_make_known w Tryd.underlying108 codeInfo (by decide) n hn
theorem Crow.made (w : World) (n : Nat) : Crow (w.alloc (.cells (madeCells #[.int .u32 0, .int .u8 0] (n * 2)) 120)) w.heap.size n (fun _ => 0) (fun _ => 0) := by
  refine ⟨_, heap_alloc_new w _, size_madeCells _ _, fun i hi => ?_⟩
  have h1 : i * 2 < n * 2 := by omega
  have h2 : i * 2 + 1 < n * 2 := by omega
  have m1 : i * 2 % 2 = 0 := by omega
  have m2 : (i * 2 + 1) % 2 = 1 := by omega
  constructor
  · simp [madeCells, h1, m1]
  · simp [madeCells, h2, m2]
end Go.Proofs.YtolcaknhjjejeaaDoor.C

namespace Go.Proofs.YtolcaknhjjejeaaDoor.C
open Go.RowKit M
set_option linter.unusedVariables false
set_option maxRecDepth 1000000
def GotC (W : World) (n : Nat) (f g : Nat → Nat) (err : Int) (e : Ending) (w' : World) : Prop :=
  ∃ A c, e = .returned (.tuple #[.slice A n c, .int .i64 err]) ∧ n ≤ c ∧ c ≤ 400 ∧ Cods w' A n f g ∧ Below W.heap.size W w' ∧ (0 < n → ∃ b, A = some ⟨b, 0, none⟩ ∧ W.heap.size ≤ b ∧ Crow w' b n f g)
theorem codes_bad_any (A : Option Addr) (n c : Nat) (l : Nat → Nat) (W : World) (hn : n ≤ maxLen) (hl : ∀ i, l i ≤ 255) (H : Nums W .u8 A n (fun i => (l i : Int))) (f g : Nat → Nat) (hk : kind l n = 5) :
    Calls Tryd.prog 76 #[.slice A n c] W (GotC W 0 f g 2) := by
  have hv := Lib.hid hk
  have HL := Lib.hid hl
  clear hk hl
  go_enter Tryd.func76, Tryd.ntmps76
  go_wp2_with fail
  refine (kind_any A n c l _ hn HL.out H).mono ?_; rintro e w1 ⟨rfl, b1⟩
  rw [hv.out]
  have B1 := Lib.hid b1
  clear b1
  go_wp2_with fail
  go_ret2
  exact ⟨none, 0, rfl, Nat.le_refl _, by omega, Cods.nil _ _ _ _, B1.out, fun h => absurd h (by omega)⟩
theorem codes_over_any (A : Option Addr) (n c : Nat) (l : Nat → Nat) (W : World) (hn : n ≤ maxLen) (hl : ∀ i, l i ≤ 255) (H : Nums W .u8 A n (fun i => (l i : Int))) (f g : Nat → Nat) (hk : kind l n = 4) :
    Calls Tryd.prog 76 #[.slice A n c] W (GotC W 0 f g 7) := by
  have hv := Lib.hid hk
  have HL := Lib.hid hl
  clear hk hl
  go_enter Tryd.func76, Tryd.ntmps76
  go_wp2_with fail
  refine (kind_any A n c l _ hn HL.out H).mono ?_; rintro e w1 ⟨rfl, b1⟩
  rw [hv.out]
  have B1 := Lib.hid b1
  clear b1
  go_wp2_with fail
  go_ret2
  exact ⟨none, 0, rfl, Nat.le_refl _, by omega, Cods.nil _ _ _ _, B1.out, fun h => absurd h (by omega)⟩
set_option maxRecDepth 1000000 in
set_option maxHeartbeats 1000000 in
theorem codes_ok_any (A : Option Addr) (n c : Nat) (l : Nat → Nat) (W : World) (hl : ∀ i, l i ≤ 255) (H : Nums W .u8 A n (fun i => (l i : Int))) (hm : May l n) (hw : weight l n ≤ 32768) (K : Nat) (hk : kind l n = K) (k5 : K ≠ 5) (k4 : K ≠ 4) :
    Calls Tryd.prog 76 #[.slice A n c] W (GotC W n (cod l n) l 0) := by
  have hz := arrZero
  have h320 := hm.1
  have hv := Lib.hid hk
  have HL := Lib.hid hl
  have HM := Lib.hid hm
  have HW := Lib.hid hw
  have HN := Lib.hid (show n ≤ maxLen by unfold maxLen; omega)
  have HC := Lib.hid (show ∀ s, s < 16 → c0 l n s ≤ 320 from fun s _ => Nat.le_trans (c0_le l n s) hm.1)
  have d5 : ((K : Int) == 5) = false := by rw [beq_eq_false_iff_ne]; omega
  have d4 : ((K : Int) == 4) = false := by rw [beq_eq_false_iff_ne]; omega
  have HH := Lib.hid H
  clear hk hl hm hw k5 k4 H
  go_enter Tryd.func76, Tryd.ntmps76
  go_wp2_with fail
  refine (kind_any A n c l _ HN.out HL.out HH.out).mono ?_; rintro e w1 ⟨rfl, b1⟩
  rw [hv.out]
  have B1 := Lib.hid b1
  have H1 := Lib.hid (HH.out.below b1)
  clear b1
  go_wp2_with fail
  refine (count_any A n c l _ HM.out H1.out).mono ?_; rintro e w2 ⟨rfl, b2⟩
  have B2 := Lib.hid (B1.out.trans (b2.mono B1.out.size))
  clear b2
  go_wp2_with fail
  refine (firsts_any (c0 l n) _ HC.out).mono ?_; rintro e w3 ⟨rfl, b3⟩
  have B3 := Lib.hid (B2.out.trans (b3.mono B2.out.size))
  clear b3
  have hmk := fun w => madeCode w n (by omega)
  go_wp2_with (refine step_store rfl _ _ rfl _ (fs (c0 l n)) rfl rfl ?_)
  clear hz hmk
  go_loopw [22] (fun i wr => ∃ k : Nat, k ≤ n ∧ i = .int .i64 k ∧ Tb wr w3.heap.size (fun s => fs (c0 l n) s + c0 l k s) ∧ Crow wr (w3.heap.size + 1) n (fun j => if j < k then cod l n j else 0) (fun j => if j < k then l j else 0) ∧ Below W.heap.size W wr) (fun i _ => n - (intOf i).toNat)
  case atStart =>
    refine ⟨0, Nat.zero_le _, rfl, ?_, ?_, (B3.out.alloc B3.out.size _).alloc (by have := B3.out.size; simp; omega) _⟩
    · exact ((Tb.made w3 (fs (c0 l n))).alloc _).congr (fun i hi => by unfold c0; simp [cnt])
    · have h := Crow.made (w3.alloc (.cells (TV (fs (c0 l n))) 97)) n
      rw [show (w3.alloc (.cells (TV (fs (c0 l n))) 97)).heap.size = w3.heap.size + 1 by simp] at h
      exact h.congr (fun i hi => by simp) (fun i hi => by simp)
  case round =>
    obtain ⟨k, hkn, rfl, ht, hr, hb⟩ := hrel
    by_cases hlt : k < n
    · obtain ⟨b, o, rfl, hbs, hc⟩ := HH.out (by omega)
      have h15 := HM.out.2 k hlt
      have hcell : wr.cell? ⟨b, o + k, none⟩ = some (.int .u8 (l k)) := (hb.cell hbs).trans (hc k hlt)
      have hf1 := hr.frozen (k * 2)
      have hf2 := hr.frozen (k * 2 + 1)
      have hr1 := hr.cell1 hlt
      have hr2 := hr.cell2 hlt
      have hfl := fs_le (c := c0 l n) h15 (by rw [aw_weight l n HM.out.2]; exact HW.out)
      have hcm := cnt_mono l (l k) (Nat.le_of_lt hlt)
      have hpw : 2 ^ l k ≤ 2 ^ 15 := Nat.pow_le_pow_right (by omega) h15
      by_cases h0 : l k = 0
      · have HT := Lib.hid ht
        have HR := Lib.hid hr
        have HB := Lib.hid hb
        have H0 := Lib.hid h0
        rw [h0] at hcell
        clear ht hr hb hc hfl hcm hpw h0 hr1 hr2 hf1 hf2
        go_wp2_with fail
        go_roundw
        case rel =>
          refine ⟨k + 1, by omega, by go_num, HT.out.congr (fun i hi => ?_), HR.out.congr (fun i hi => ?_) (fun i hi => ?_), HB.out⟩
          · unfold c0
            by_cases e : i = 0
            · rw [if_pos e, if_pos e]
            · rw [if_neg e, if_neg e]
              simp only [cnt]
              rw [if_neg (by rw [H0.out]; exact fun q => e q.symm)]; rfl
          · by_cases e : i < k
            · rw [if_pos e, if_pos (by omega)]
            · rw [if_neg e]
              by_cases e2 : i < k + 1
              · obtain rfl : i = k := by omega
                rw [if_pos e2]; unfold cod; rw [if_pos H0.out]
              · rw [if_neg e2]
          · by_cases e : i < k
            · rw [if_pos e, if_pos (by omega)]
            · rw [if_neg e]
              by_cases e2 : i < k + 1
              · obtain rfl : i = k := by omega
                rw [if_pos e2, H0.out]
              · rw [if_neg e2]
        case measure => simp [intOf]; omega
      · have hk1 : (if k < k then cod l n k else 0) = 0 := if_neg (Nat.lt_irrefl _)
        have hk2 : (if k < k then l k else 0) = 0 := if_neg (Nat.lt_irrefl _)
        rw [hk1] at hr1
        rw [hk2] at hr2
        have hfr := ht.frozen (l k)
        have hcl := ht.cell (show l k < 16 by omega)
        have hcode : cod l n k = fs (c0 l n) (l k) + c0 l k (l k) := by unfold cod c0; rw [if_neg h0, if_neg h0]
        have e1 : c0 l n (l k) = cnt l (l k) n := by unfold c0; rw [if_neg h0]
        have e2 : c0 l k (l k) = cnt l (l k) k := by unfold c0; rw [if_neg h0]
        rw [← hcode] at hcl
        have hcs : cod l n k ≤ 32768 := by omega
        obtain ⟨x, hx⟩ : ∃ x, l k = x := ⟨_, rfl⟩
        obtain ⟨y, hy⟩ : ∃ y, cod l n k = y := ⟨_, rfl⟩
        have h0' : ((x : Int) == 0) = false := by rw [beq_eq_false_iff_ne]; omega
        rw [hx] at hcell hcl hfr h15
        rw [hy] at hcs hcl
        have HT := Lib.hid ht
        have HR := Lib.hid hr
        have HB := Lib.hid hb
        have H0 := Lib.hid h0
        have HX := Lib.hid hx
        have HY := Lib.hid hy
        have HCD := Lib.hid hcode
        have hne : ¬ w3.heap.size = w3.heap.size + 1 := by omega
        clear ht hr hb hc hfl hcm hpw h0 hx hy hcode e1 e2 hk1 hk2
        go_wp2_with fail
        go_roundw
        case rel =>
          refine ⟨k + 1, by omega, by go_num, ?_, ?_, (((HB.out.setCell (by have := B3.out.size; simp; omega) _).setCell (by have := B3.out.size; simp; omega) _).setCell (by have := B3.out.size; simp; omega) _)⟩
          · refine ((((HT.out.other (by simp) _).other (by simp) _).set x (y + 1))).congr (fun i hi => ?_)
            have hck : ∀ j, c0 l (k + 1) j = c0 l k j + if j = x then 1 else 0 := fun j => by
              have hx := HX.out
              unfold c0
              by_cases e : j = 0
              · have e' : ¬ j = x := by have := H0.out; omega
                rw [if_pos e, if_pos e, if_neg e']
              · rw [if_neg e, if_neg e]
                simp only [cnt]
                rw [hx]
                by_cases e' : j = x
                · rw [if_pos e', if_pos e'.symm]
                · rw [if_neg e', if_neg (fun q => e' q.symm)]
            rw [hck]
            by_cases e : i = x
            · rw [if_pos e, if_pos e, e]
              have h1 := HCD.out
              rw [HX.out, HY.out] at h1
              omega
            · rw [if_neg e, if_neg e]; rfl
          · refine ((HR.out.set k y x).other (by simp) _).congr (fun i hi => ?_) (fun i hi => ?_)
            · by_cases e : i = k
              · rw [if_pos e, if_pos (by omega), e, HY.out]
              · rw [if_neg e]
                by_cases e2 : i < k
                · rw [if_pos e2, if_pos (by omega)]
                · rw [if_neg e2, if_neg (by omega)]
            · by_cases e : i = k
              · rw [if_pos e, if_pos (by omega), e, HX.out]
              · rw [if_neg e]
                by_cases e2 : i < k
                · rw [if_pos e2, if_pos (by omega)]
                · rw [if_neg e2, if_neg (by omega)]
        case measure => simp [intOf]; omega
    · obtain rfl : k = n := by omega
      have HR := Lib.hid (hr.congr (F' := cod l k) (G' := l) (fun i hi => by rw [if_pos hi]) (fun i hi => by rw [if_pos hi]))
      have HB := Lib.hid hb
      clear ht hr hb
      go_wp2_with fail
      go_ret2
      exact ⟨_, _, rfl, Nat.le_refl _, by omega, HR.out.cods, HB.out, fun _ => ⟨_, rfl, by have := B3.out.size; omega, HR.out⟩⟩
theorem erc_of {l : Nat → Nat} {n : Nat} : (kind l n = 5 ∧ erc l n = 2 ∧ outn l n = 0) ∨ (kind l n = 4 ∧ erc l n = 7 ∧ outn l n = 0) ∨ (kind l n ≠ 5 ∧ kind l n ≠ 4 ∧ erc l n = 0 ∧ outn l n = n) := by
  by_cases h5 : kind l n = 5
  · exact .inl ⟨h5, by unfold erc; rw [if_pos h5], by unfold outn erc; rw [if_pos h5]; rfl⟩
  · by_cases h4 : kind l n = 4
    · exact .inr (.inl ⟨h4, by unfold erc; rw [if_neg h5, if_pos h4], by unfold outn erc; rw [if_neg h5, if_pos h4]; rfl⟩)
    · exact .inr (.inr ⟨h5, h4, by unfold erc; rw [if_neg h5, if_neg h4], by unfold outn erc; rw [if_neg h5, if_neg h4]; rfl⟩)
theorem codes_any (A : Option Addr) (n c : Nat) (l : Nat → Nat) (W : World) (hn : n ≤ maxLen) (hl : ∀ i, l i ≤ 255) (H : Nums W .u8 A n (fun i => (l i : Int))) :
    Calls Tryd.prog 76 #[.slice A n c] W (GotC W (outn l n) (cod l n) l (erc l n : Nat)) := by
  rcases erc_of (l := l) (n := n) with ⟨h1, h2, h3⟩ | ⟨h1, h2, h3⟩ | ⟨h1, h1', h2, h3⟩
  · rw [h2, h3]; exact codes_bad_any A n c l W hn hl H _ _ h1
  · rw [h2, h3]; exact codes_over_any A n c l W hn hl H _ _ h1
  · rw [h2, h3]
    obtain ⟨hm, hw⟩ := kind_fits h1 h1'
    exact codes_ok_any A n c l W hl H hm hw _ rfl h1 h1'
end Go.Proofs.YtolcaknhjjejeaaDoor.C
