/- Texts of one place, one behind the other: T9Tok, T9TkB. -/
import Derived.Test.YtolcaknhjjejeaaGreatDoorKMMathT
import Derived.Test.YtolcaknhjjejeaaGreatDoorKMRns
import Derived.Test.YtolcaknhjjejeaaGreatDoorChecked
import Derived.KernelRfl
import Derived.Deep.OwnRows
import Derived.WalkKit
import Derived.Deep.Slices
import Derived.Deep.Fields
import Derived.SizedLaws
import Derived.Laws.IdiomStrings
import Derived.Lib.ConvBytes
import Derived.ArgAppend
import Derived.Laws.OwnMore
import Derived.Deep.AppendLies
import Derived.RangeFuncOwn
import Derived.Lib.Hide
import Derived.Outline
import Derived.Deep.RegionLaw
import Derived.RegionTactic
import Derived.BigRegion
import Derived.BigQuiet
import Derived.Deep.QuietTactic
import Derived.ChangeAlike
import Derived.Laws.Cells
import Derived.WalkSpells
import Derived.WalkMore
import Derived.IntWalk
namespace Go.Proofs.YtolcaknhjjejeaaGreatDoor.V.Tx
set_option maxRecDepth 1000000
open Go Go.RowKit M
open Go.ChangeShapes Go.WideShapes Go.Deep
set_option linter.unusedVariables false
section
variable {H : Type} {enc : TypeId × Value → H} {w : World} {spare : Nat → Bool} {held : Bool}
end
def three (a b c : Value) (i : Nat) : Value := if i = 0 then a else if i = 1 then b else c
def R3 (w : World) (T : TypeId) (g : Nat) (a b c : Value) : Prop := w.rowIs g T 3 (three a b c)
section
variable {w w' : World} {T : TypeId} {g : Nat} {a b c : Value}
theorem R3.new (w : World) (T : TypeId) (a b c : Value) : R3 (w.alloc (.cells #[a, b, c] T)) T w.heap.size a b c := ⟨#[a, b, c], heap_alloc_new _ _, rfl, fun i hi => by
  match i, hi with
  | 0, _ => rfl
  | 1, _ => rfl
  | 2, _ => rfl⟩
theorem R3.alloc (h : R3 w T g a b c) (o : Obj) : R3 (w.alloc o) T g a b c := World.rowIs.alloc h o
theorem R3.lt (h : R3 w T g a b c) : g < w.heap.size := World.rowIs.lt h
theorem R3.at0 (h : R3 w T g a b c) : w.cell? ⟨g, 0, none⟩ = some a := World.rowIs.cell h (i := 0) (by omega)
theorem R3.at1 (h : R3 w T g a b c) : w.cell? ⟨g, 1, none⟩ = some b := World.rowIs.cell h (i := 1) (by omega)
theorem R3.at2 (h : R3 w T g a b c) : w.cell? ⟨g, 2, none⟩ = some c := World.rowIs.cell h (i := 2) (by omega)
theorem R3.of_block (h : R3 w T g a b c) (e : w'.heap[g]? = w.heap[g]?) : R3 w' T g a b c := World.rowIs.of_block h e
theorem R3.below (h : R3 w T g a b c) {B : Nat} (hb : Below B w w') (hB : g < B) : R3 w' T g a b c := World.rowIs.of_block h (hb.block g hB)
end
structure Rb (w : World) (g cp : Nat) (bs : List UInt8) : Prop where
  lt : g < w.heap.size
  nc : bs.length ≤ cp
  room : ∀ j, j < cp → (w.cell? ⟨g, j, none⟩).isSome = true
  free : ∀ j, j < cp → w.frozen? ⟨g, j, none⟩ = false
  byte : ∀ j u, bs[j]? = some u → w.cell? ⟨g, j, none⟩ = some (.int .u8 (u.toNat : Int))
  obj : ∀ o : Obj, w.heap[g]? = some o → o.isCells = true
section
variable {w w' : World} {g cp : Nat} {bs : List UInt8}
theorem Rb.of_block (h : Rb w g cp bs) (e : w'.heap[g]? = w.heap[g]?) : Rb w' g cp bs := by
  have hc : ∀ j, w'.cell? ⟨g, j, none⟩ = w.cell? ⟨g, j, none⟩ := fun j => World.cell?_of_block (a := ⟨g, j, none⟩) e
  have hf : ∀ j, w'.frozen? ⟨g, j, none⟩ = w.frozen? ⟨g, j, none⟩ := fun j => World.frozen?_of_block (a := ⟨g, j, none⟩) e
  have hl : g < w'.heap.size := by
    rcases Nat.lt_or_ge g w'.heap.size with q | q
    · exact q
    · rw [Array.getElem?_eq_none q, Array.getElem?_eq_getElem h.lt] at e; cases e
  exact ⟨hl, h.nc, fun j hj => by rw [hc]; exact h.room j hj, fun j hj => by rw [hf]; exact h.free j hj, fun j u hu => by rw [hc]; exact h.byte j u hu, fun o ho => h.obj o (by rw [← e]; exact ho)⟩
theorem Rb.alloc (h : Rb w g cp bs) (o : Obj) : Rb (w.alloc o) g cp bs := h.of_block (Below.heap_alloc _ _ _ h.lt)
end
theorem byteInfo : (Tryz.prog.info? 5).map (fun i => (i.zero, i.size, i.bytes)) = some (some (.int .u8 0), 1, 1) := by kernel_rfl
theorem info_of {e : TypeId} {z : Value} {size bytes : Nat} (hi : (Tryz.prog.info? e).map (fun i => (i.zero, i.size, i.bytes)) = some (some z, size, bytes)) : ∃ i, Tryz.prog.info? e = some i ∧ i.zero = some z ∧ i.size = size ∧ i.bytes = bytes := by
  cases hq : Tryz.prog.info? e with
  | none => rw [hq] at hi; cases hi
  | some i => rw [hq] at hi; simp at hi; exact ⟨i, rfl, hi.1, hi.2.1, hi.2.2⟩
theorem Rb.of_own {w : World} {B n : Nat} {v : Value} {bs : List UInt8} (h : w.ownsRow B 5 1 v n (bs.map fun u => Value.int .u8 (u.toNat : Int))) (hn : 0 < n) : ∃ g cp, v = .slice (some ⟨g, 0, none⟩) n cp ∧ bs.length = n ∧ B ≤ g ∧ Rb w g cp bs := by
  obtain ⟨h1, h2⟩ := h
  rw [List.length_map, Nat.mul_one] at h1
  rcases h2 with ⟨_, h2⟩ | ⟨g, cp, cur, rfl, hg, hh, hnc, hcm, hs, ht⟩
  · omega
  · rw [Nat.mul_one] at hs ht
    refine ⟨g, cp, rfl, h1, hg, (Array.getElem?_eq_some_iff.1 hh).1, by omega, fun j hj => ?_, fun j hj => ?_, fun j u hu => ?_, fun o ho => by rw [hh] at ho; cases ho; rfl⟩
    · rw [cell_of_row _ _ _ _ _ _ hh, Array.getElem?_eq_getElem (by omega)]; rfl
    · simp [World.frozen?, hh]
    · rw [cell_of_row _ _ _ _ _ _ hh]
      have hj : j < n := by have := (List.getElem?_eq_some_iff.1 hu).1; omega
      have e : (cur.toList.take n)[j]? = some (Value.int .u8 (u.toNat : Int)) := by rw [ht, List.getElem?_map, hu]; rfl
      rw [List.getElem?_take, if_pos hj, Array.getElem?_toList] at e
      exact e
theorem run_app1 (w : World) (ty : TypeId) (g n cp : Nat) (bs : List UInt8) (h : Rb w g cp bs) (hn : bs.length = n) (ad : Addr) (c : Nat) (x : Int) (hx : w.cell? ad = some (.int .u8 x)) (hx0 : 0 ≤ x ∧ x ≤ 255) (hm : n ≤ 100000000) :
    ∃ g' cp' w', (Builtin.append_ #[23, 23] ty #[.slice (some ⟨g, 0, none⟩) n cp, .slice (some ad) 1 c]).run Tryz.prog w = .ok (.slice (some ⟨g', 0, none⟩) (n + 1) cp') w' ∧ Rb w' g' cp' (bs ++ [UInt8.ofNat x.toNat]) ∧ w.grownBy w' (some g) ∧ (g' = g ∨ w.heap.size ≤ g') := by
  obtain ⟨i, h1, h2, h3, h4⟩ := info_of byteInfo
  have hxn : ((UInt8.ofNat x.toNat).toNat : Int) = x := by rw [UInt8.toNat_ofNat']; omega
  have hnews : ∀ j u, [Value.int .u8 x][j]? = some u → w.cell? (ad.add j) = some u := by
    intro j u hu
    match j, hu with
    | 0, hu => simp at hu; subst hu; simpa [Addr.add] using hx
  have h1c : ∀ u ∈ [Value.int .u8 x], u.oneCell' = true := by intro u hu; simp at hu; subst hu; rfl
  by_cases hr : n + 1 ≤ cp
  · have hrun := run_append_room_cells (P := Tryz.prog) w 23 ty 5 i Tryz.underlying23 h1 g 0 n cp ad 1 c [.int .u8 x] (by rw [h3]; rfl) hnews h1c hr
      (fun j hj => by simp at hj; subst hj; exact h.room _ (by rw [h3]; omega)) (fun j hj => by simp at hj; subst hj; exact h.free _ (by rw [h3]; omega))
    refine ⟨g, cp, _, hrun, ?_, ?_, .inl rfl⟩
    · rw [h3, Nat.zero_add, Nat.mul_one]
      show Rb (w.setCell ⟨g, n + 0, none⟩ (.int .u8 x)) g cp _
      rw [Nat.add_zero]
      have hcn : (w.cell? ⟨g, n, none⟩).isSome = true := h.room n (by omega)
      refine ⟨by simp [World.setCell]; exact h.lt, by simp; omega, fun j hj => ?_, fun j hj => ?_, fun j u hu => ?_, fun o ho => ?_⟩
      · by_cases e : j = n
        · subst e; rw [World.cell?_setCell_same' _ _ _ hcn]; simp
        · rw [World.cell?_setCell_other _ _ _ _ (fun q => e (by injection q with _ q; exact q.symm))]; exact h.room j hj
      · rw [World.frozen?_setCell]; exact h.free j hj
      · by_cases e : j = n
        · subst e
          rw [List.getElem?_append_right (by omega), hn, Nat.sub_self] at hu
          simp at hu
          subst hu
          rw [World.cell?_setCell_same' _ _ _ hcn]
          rw [hxn]
        · rw [World.cell?_setCell_other _ _ _ _ (fun q => e (by injection q with _ q; exact q.symm))]
          have hj : j < bs.length + 1 := by have := (List.getElem?_eq_some_iff.1 hu).1; simpa using this
          rw [List.getElem?_append_left (by omega)] at hu
          exact h.byte j u hu
      · obtain ⟨o', ho'⟩ : ∃ o', w.heap[g]? = some o' := ⟨_, Array.getElem?_eq_getElem h.lt⟩
        have hc := h.obj o' ho'
        cases o' with
        | cells cur t fz =>
          rw [setCell_eq_setRow w g n cur t fz _ ho'] at ho
          rw [setRow_heap w g cur _ t fz ho'] at ho
          cases ho; rfl
        | _ => cases hc
    · rw [h3, Nat.zero_add, Nat.mul_one]
      show w.grownBy (w.setCell ⟨g, n + 0, none⟩ (.int .u8 x)) (some g)
      exact ⟨rfl, rfl, rfl, by simp [World.setCell], fun k hk hne => Below.heap_setCell _ _ _ _ (fun e => hne (by rw [e]))⟩
  · obtain ⟨v', w', hrun, r1, r2⟩ := run_append_arg_grows (P := Tryz.prog) w 23 ty 5 i (.int .u8 0) 1 1 Tryz.underlying23 h1 h2 h3 h4 rfl (by decide) ⟨g, 0, none⟩ n cp (bs.map fun u => Value.int .u8 (u.toNat : Int)) (by simp [hn]) (fun j u hu => by
      rw [cadd_at, Nat.zero_add]
      rw [List.getElem?_map] at hu
      cases q : bs[j]? with
      | none => rw [q] at hu; cases hu
      | some y => rw [q] at hu; simp at hu; subst hu; exact h.byte j y q) ad 1 c [.int .u8 x] rfl hnews (by omega) (by unfold maxLen; omega) (by omega)
    have e : (bs.map fun u => Value.int .u8 (u.toNat : Int)) ++ [.int .u8 x] = (bs ++ [UInt8.ofNat x.toNat]).map fun u => Value.int .u8 (u.toNat : Int) := by
      rw [List.map_append]; simp only [List.map_cons, List.map_nil]; rw [hxn]
    rw [e] at r1
    obtain ⟨g', cp', rfl, _, hg, hR⟩ := Rb.of_own r1 (by omega)
    exact ⟨g', cp', w', hrun, hR, ⟨r2.os, r2.tape, r2.output, r2.size, fun k hk _ => r2.block k hk (by simp)⟩, .inr hg⟩
theorem run_bytes (w : World) (s : ByteArray) (hs : s.size ≤ 100000000) : ∃ cp W', (convert 9 23 (.string s)).run Tryz.prog w = .ok (.slice (some ⟨w.heap.size, 0, none⟩) s.size cp) W' ∧ Rb W' w.heap.size cp s.data.toList ∧ Below w.heap.size w W' ∧ W'.heap.size = w.heap.size + 1 := by
  refine ⟨_, _, Lib.run_convert_string_bytes (P := Tryz.prog) w 9 23 5 s Tryz.underlying9 Tryz.underlying23 Tryz.underlying5, ?_, ?_, Lib.bytesWorld_size w _ s⟩
  · have hge := grownCap_ge w s.size 0 5
    have hz : (Lib.bytesCells w 5 s).size = grownCap w s.size 0 5 := by
      unfold Lib.bytesCells
      have : s.data.size = s.size := rfl
      simp
      omega
    have hat := Lib.bytesWorld_at_new w 5 s
    refine ⟨by rw [Lib.bytesWorld_size]; omega, by have : s.data.toList.length = s.size := Array.length_toList; omega, fun j hj => ?_, fun j hj => ?_, fun j u hu => ?_, fun o ho => by rw [hat] at ho; cases ho; rfl⟩
    · rw [cell_of_row _ _ _ _ _ _ hat, Array.getElem?_eq_getElem (by omega)]; rfl
    · simp only [World.frozen?, hat, Bool.and_eq_false_iff, decide_eq_false_iff_not]; left; omega
    · have hj : j < s.size := by have := (List.getElem?_eq_some_iff.1 hu).1; rwa [Array.length_toList] at this
      rw [Lib.bytesWorld_cell w _ s j hj, List.getD, hu]; rfl
  · exact ⟨rfl, rfl, rfl, by rw [Lib.bytesWorld_size]; omega, fun k hk => Lib.bytesWorld_at_old w _ s k hk⟩
theorem conv_rb {w : World} {g cp c : Nat} {bs : List UInt8} (h : Rb w g cp bs) (o n : Nat) (hn : bs.length = n) (ho : o ≤ n) (ad : Addr) (ha : o < n → ad = ⟨g, o, none⟩) :
    (convert 23 9 (.slice (some ad) (n - o) c)).run Tryz.prog w = .ok (.string ⟨(bs.drop o).toArray⟩) w := by
  have hl : (bs.drop o).length = n - o := by rw [List.length_drop, hn]
  have := run_convert_bytes_back (P := Tryz.prog) w 23 9 5 ad c (bs.drop o) Tryz.underlying23 Tryz.underlying5 Tryz.underlying9 (fun i hi => by
    rw [hl] at hi
    rw [ha (by omega), cadd_at]
    exact h.byte (o + i) _ (by rw [← List.getElem?_drop]; exact List.getElem?_eq_getElem _))
  rw [hl] at this
  exact this
end Go.Proofs.YtolcaknhjjejeaaGreatDoor.V.Tx

namespace Go.Proofs.YtolcaknhjjejeaaGreatDoor.V.Tx
set_option maxRecDepth 1000000
open Go Go.RowKit M
open Go.ChangeShapes (lits)
set_option linter.unusedVariables false
set_option linter.unusedSimpArgs false
theorem szs_take (L : List Tk) (i : Nat) (hi : i < L.length) : szs (L.take (i + 1)) = szs (L.take i) + szo (L.getD i default) := by
  rw [getD_take_succ L i hi, szs_append]; simp [szs]
set_option maxRecDepth 1000000 in
set_option maxHeartbeats 1000000 in
theorem rsize_any (A : Option Addr) (n c : Nat) (L : List Tk) (w : World) (h : IsTks w A n L) (hn : n ≤ 1000000) :
    Calls Tryz.prog 14 #[.slice A n c] w fun e w' => e = .returned (.int .i64 (szs L : Nat)) ∧ Below w.heap.size w w' := by
  have HH := Lib.hid h
  have hl := h.leng
  clear h
  go_enter Tryz.func14, Tryz.ntmps14
  go_wp2_with fail
  go_loopw [3, 4] (fun s i wr => ∃ k : Nat, k ≤ n ∧ i = .int .i64 k ∧ s = .int .i64 (szs (L.take k) : Nat) ∧ Below w.heap.size w wr) (fun s i _ => n - (intOf i).toNat)
  case atStart => exact ⟨0, Nat.zero_le _, rfl, rfl, Below.refl _ _⟩
  case round =>
    obtain ⟨k, hk, rfl, rfl, hb⟩ := hrel
    by_cases hlt : k < n
    · obtain ⟨b, o, rfl, hbl, hc⟩ := (HH.out.below hb).at (by omega)
      obtain ⟨c0, c1, c2⟩ := hc k hlt
      have hs := szs_take L k (by omega)
      have hle := szs_le (L.take k)
      rw [List.length_take] at hle
      obtain ⟨t, ht⟩ : ∃ t, L.getD k default = t := ⟨_, rfl⟩
      rw [ht] at c0 c1 c2 hs
      obtain ⟨tl, tn, td⟩ := t
      simp only at c0 c1 c2
      have hM := rmay_any tl tn td
      obtain ⟨S, hS⟩ : ∃ S, szs (L.take k) = S := ⟨_, rfl⟩
      rw [hS] at hs hle ⊢
      have hk2 : k < 9223372036854775807 := by omega
      have hS2 : S ≤ 258 * 1000000 := by omega
      by_cases q : may ⟨tl, tn, td⟩ = true
      · rw [q] at hM
        have HM := Lib.hid hM
        have hsz := szo_le ⟨tl, tn, td⟩
        obtain ⟨m, hm, hm2⟩ : ∃ m : Nat, (if tn < 1 then (1 : Int) else tn) = (m : Int) ∧ szo ⟨tl, tn, td⟩ = m := by
          refine ⟨szo ⟨tl, tn, td⟩, ?_, rfl⟩
          unfold may at q
          rw [Bool.or_eq_true] at q
          rcases q with q | q
          · rw [szo_byte q]; have := isB_iff.1 q; simp only at this; rw [if_pos (by omega)]; rfl
          · rw [szo_match q]; have := isM_iff.1 q; simp only at this; rw [if_neg (by omega)]; simp only; omega
        rw [hm2] at hs hsz
        have HS := Lib.hid hs
        have HB := Lib.hid hb
        clear hM q hs hb hc ht hS hm2 hle hl
        go_wp2_with (go_at_call 22; refine (HM.out _).mono ?_; rintro e w1 ⟨rfl, b1⟩; have k1 := (b1.cell (p := ⟨b, o + k * 3 + 1, none⟩) hbl).trans c1; have B1 := Lib.hid (HB.out.trans (b1.mono HB.out.size)); clear b1)
        go_roundw
        case rel => exact ⟨k + 1, by omega, by go_num, by rw [HS.out]; go_num, B1.out⟩
        case measure => simp [intOf]; omega
      · have q' : may ⟨tl, tn, td⟩ = false := by simpa using q
        rw [q'] at hM
        have HM := Lib.hid hM
        have hz : szo ⟨tl, tn, td⟩ = 0 := by
          unfold may at q'
          rw [Bool.or_eq_false_iff] at q'
          unfold szo; rw [q'.1, q'.2]; rfl
        rw [hz, Nat.add_zero] at hs
        have HS := Lib.hid hs
        have HB := Lib.hid hb
        clear hM q q' hz hs hb hc ht hS hle hl
        go_wp2_with (go_at_call 22; refine (HM.out _).mono ?_; rintro e w1 ⟨rfl, b1⟩; have B1 := Lib.hid (HB.out.trans (b1.mono HB.out.size)); clear b1)
        go_roundw
        case rel => exact ⟨k + 1, by omega, by go_num, by rw [HS.out, Nat.add_zero], B1.out⟩
        case measure => simp [intOf]; omega
    · obtain rfl : k = n := by omega
      have hS : szs (L.take k) = szs L := by rw [List.take_of_length_le (by omega)]
      rw [hS]
      have HB := Lib.hid hb
      clear hS hb hl
      go_wp2_with fail
      go_ret
      exact ⟨rfl, HB.out⟩
end Go.Proofs.YtolcaknhjjejeaaGreatDoor.V.Tx
