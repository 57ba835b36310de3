/- What Text of the document's writer answers. Conditions: as each theorem names them. -/
import Derived.Test.YtilogllncjlkfaaRfC
import Derived.Test.YtilogllncjlkfaaMathT
import Derived.Laws.BytesString
import Derived.Laws.Cells
namespace Go.Proofs.Ytilogllncjlkfaa
open Go.RowKit M
set_option linter.unusedVariables false
variable {w w' : World} {B p k c V L : Nat} {ao : Option Addr} {most : Int} {S T : Nat → Prop}

/-- a row of bytes, as a string -/
theorem conv_bytes {w : World} {b n cp : Nat} {f : Nat → Int} (N : Nat) (h : w.rowIs b 5 n (fun j => .int .u8 (f j))) (hf : ∀ j, j < n → f j = ((N / 256 ^ j % 256 : Nat) : Int)) :
    (convert 34 9 (.slice (some ⟨b, 0, none⟩) n cp)).run Try.prog w = .ok (.string (bstr (le N n))) w := by
  rw [run_convert_bytes_string (P := Try.prog) w 34 9 5 _ _ _ Try.underlying34 Try.underlying5 Try.underlying9]
  have hl := run_loadCells (P := Try.prog) w ⟨b, 0, none⟩ n (fun j => .int .u8 (f j)) (fun j hj => by
    have := h.cell (i := j) hj
    by_cases e : j = 0
    · subst e; simpa [Addr.add] using this
    · simpa [Addr.add, e] using this)
  rw [run_bytesToString (P := Try.prog) w ⟨b, 0, none⟩ n cp ((List.range n).map f) (by rw [hl]; simp [List.map_map, Function.comp_def])]
  rw [str_le N n f hf]

theorem rtext_any (h : Rt w B p S most V L) (hL : L ≤ 900000000) :
    Calls Try.prog 15 #[.pointer (some ⟨p, 0, none⟩)] w fun e w' => e = .returned (.string (textR V L)) ∧ Kept NoB w w' := by
  obtain ⟨ao, c, h, hS⟩ := h
  have c0 := h.c0
  obtain ⟨n, hn⟩ : ∃ n, (L + 7) / 8 = n := ⟨_, rfl⟩
  have hn2 : ((L : Int) + 7) / 8 = (n : Int) := by omega
  have hmk := run_make_row' (P := Try.prog) 34 5 (.int .u8 0) 1 Try.underlying34 info_u8 rfl .i64 .i64 n (by omega) (by omega)
  have HH := Lib.hid h
  have HN := Lib.hid hn
  have hplt := h.lt
  clear h hS hn
  go_enter Try.func15, Try.ntmps15
  go_wp2_with fail
  go_loopw [4] (fun i wr => ∃ (k : Nat), k ≤ L ∧ i = .int .i64 k ∧ wr.rowIs w.heap.size 5 n (fun j => .int .u8 (byt V k j : Nat)) ∧ Kept NoB w wr) (fun i _ => L - (intOf i).toNat)
  case atStart =>
    refine ⟨0, Nat.zero_le _, rfl, ?_, (Kept.refl _ _).alloc _⟩
    exact (World.rowIs_made w (.int .u8 0) n 5).congr (fun i hi => by rw [byt_zero]; rfl)
  case round =>
    obtain ⟨k, hk, rfl, hr, hkp⟩ := hrel
    have HR := Lib.hid hr
    have HK := Lib.hid hkp
    have d0 := hkp.cell c0 (fun g => g)
    by_cases hlt : k < L
    · have hlt' : decide (k < L) = true := decide_eq_true hlt
      obtain ⟨g, cap, hv, _, _⟩ := HH.out.own.form (by omega)
      obtain ⟨rfl, rfl⟩ : ao = some ⟨g, 0, none⟩ ∧ c = cap := by
        injection hv with e1 e2 e3
        exact ⟨e1, e3⟩
      obtain ⟨b, hb⟩ : ∃ b, V / 2 ^ k % 2 = b := ⟨_, rfl⟩
      have hcell : wr.cell? ⟨g, k, none⟩ = some (.int .u8 (b : Int)) := by
        refine hkp.cell ?_ (fun g => g)
        rw [HH.out.own.cellAt k (by omega)]
        rw [List.getElem?_map, bts, List.getElem?_map, List.getElem?_range hlt, ← hb]
        rfl
      obtain ⟨q, hq⟩ : ∃ q, k / 8 = q := ⟨_, rfl⟩
      obtain ⟨r, hr8⟩ : ∃ r, k % 8 = r := ⟨_, rfl⟩
      have hkq : (k : Int) / 8 = (q : Int) := by omega
      have hkr : (k : Int) % 8 = (r : Int) := by omega
      have hqn : q < n := by have := HN.out; omega
      have hqc := hr.cell hqn
      have hqf := hr.frozen q
      obtain ⟨X, hX⟩ : ∃ X, byt V k q = X := ⟨_, rfl⟩
      have hqc2 : wr.cell? ⟨w.heap.size, q, none⟩ = some (.int .u8 (X : Int)) := by rw [← hX]; exact hqc
      have HB := Lib.hid hb
      have HQ := Lib.hid hq
      have HR8 := Lib.hid hr8
      have HX := Lib.hid hX
      have hr7 : r < 8 := by omega
      have hr0 : 0 ≤ (r : Int) := by omega
      have hrl : w.heap.size < wr.heap.size := hr.lt
      clear hr hkp hv hb hq hr8 hqc hX
      by_cases hb1 : b = 1
      · have hbt : ((b : Int) == 1) = true := by simp [hb1]
        have HB1 := Lib.hid hb1
        clear hb1
        go_wp2_with fail
        have hone : byt V (k + 1) q = X + 2 ^ r := by
          have g1 := byt_bit1 (V := V) (i := k) (by rw [HB.out, HB1.out])
          rw [HQ.out, HR8.out, HX.out] at g1
          exact g1
        have hlim := byt_lt V (k + 1) q
        have hval : ((X : Int) + 2 ^ r) % 256 = ((byt V (k + 1) q : Nat) : Int) := by
          rw [hone] at hlim ⊢
          rw [cast_pow2]
          omega
        go_roundw
        case rel =>
          refine ⟨k + 1, by omega, by go_num, (HR.out.set q _).congr (fun j hj => ?_), HK.out.setCell _ (.inr (Nat.le_refl _)) _⟩
          by_cases e : j = q
          · subst e
            rw [if_pos rfl, hval]
          · rw [if_neg e, byt_other (by rw [HQ.out]; exact e)]
        case measure => simp [intOf]; omega
      · have hbt : ((b : Int) == 1) = false := by rw [beq_eq_false_iff_ne]; omega
        have hb0 : b = 0 := by have := HB.out; omega
        have HB0 := Lib.hid hb0
        clear hb1 hb0
        go_wp2_with fail
        go_roundw
        case rel =>
          refine ⟨k + 1, by omega, by go_num, HR.out.congr (fun j hj => ?_), HK.out⟩
          rw [byt_bit0 (by rw [HB.out, HB0.out])]
        case measure => simp [intOf]; omega
    · obtain rfl : k = L := by omega
      have hlt' : decide (k < k) = false := decide_eq_false (by omega)
      have hconv := conv_bytes (cp := n) V hr (fun j hj => by rw [byt_all HH.out.val])
      clear hr hkp hlt
      go_wp2_with fail
      go_ret
      exact ⟨congrArg (fun s => Ending.returned (.string s)) (by unfold textR; rw [HN.out]), HK.out⟩
end Go.Proofs.Ytilogllncjlkfaa
