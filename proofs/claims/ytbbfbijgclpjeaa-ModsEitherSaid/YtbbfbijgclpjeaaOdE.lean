/- What record and Encode of package mods, and the document's Encode of layer 18, answer. Conditions: as each theorem names them. -/
import Derived.Test.YtbbfbijgclpjeaaOdC
import Derived.Test.YtbbfbijgclpjeaaOdD
import Derived.Test.YtbbfbijgclpjeaaOdW
import Derived.Laws.BytesString
namespace Go.Proofs.Ytbbfbijgclpjeaa.O
open Go Go.RowKit M
set_option linter.unusedVariables false
set_option linter.unusedSimpArgs false

theorem bstr_append (a b : List UInt8) : bstr a ++ bstr b = bstr (a ++ b) := by
  apply ByteArray.ext
  simp [bstr, ByteArray.data_append]
theorem bstr_data (s : ByteArray) : bstr s.data.toList = s := by
  apply ByteArray.ext
  simp [bstr]
theorem bstr_size (l : List UInt8) : (bstr l).size = l.length := by show l.toArray.size = _; rw [List.size_toArray]
theorem rec_eq (p : Nat) (s : ByteArray) : bstr (le p 2) ++ bstr (le s.size 2) ++ s = bstr (rec ⟨(p : Int), s⟩) := by
  have e : s = bstr s.data.toList := (bstr_data s).symm
  rw [bstr_append]
  conv => lhs; rhs; rw [e]
  rw [bstr_append]
  rfl
set_option maxHeartbeats 1000000 in
theorem record_any (p : Nat) (s : ByteArray) (W : World) (hp : p < 65536) (hs : s.size < 65536) :
    Calls Try.prog 34 #[.agg #[.int .i64 p, .string s]] W fun e w' => e = .returned (.string (bstr (rec ⟨(p : Int), s⟩))) ∧ Below W.heap.size W w' := by
  rw [← rec_eq]
  have H1 := Lib.hid (show ∀ w, Calls Try.prog 40 #[.int .u64 p, .int .i64 2] w fun e w' => e = .returned (.tuple #[.string (bstr (le p 2)), .bool true]) ∧ Below w.heap.size w w' from fun w => put_yes p 2 w (by omega) (by omega) (by omega))
  have H2 := Lib.hid (show ∀ w, Calls Try.prog 40 #[.int .u64 s.size, .int .i64 2] w fun e w' => e = .returned (.tuple #[.string (bstr (le s.size 2)), .bool true]) ∧ Below w.heap.size w w' from fun w => put_yes s.size 2 w (by omega) (by omega) (by omega))
  obtain ⟨X, hX⟩ : ∃ X, bstr (le p 2) = X := ⟨_, rfl⟩
  obtain ⟨Y, hY⟩ : ∃ Y, bstr (le s.size 2) = Y := ⟨_, rfl⟩
  have x2 : X.size = 2 := by rw [← hX, bstr_size, le_length]
  have y2 : Y.size = 2 := by rw [← hY, bstr_size, le_length]
  have xy : (X ++ Y).size = 4 := by rw [ByteArray.size_append, x2, y2]
  rw [hX] at H1 ⊢
  rw [hY] at H2 ⊢
  have a1 : X.size + Y.size ≤ 9223372036854775807 := by omega
  have a2 : (X ++ Y).size + s.size ≤ 9223372036854775807 := by omega
  have g0 : (W.alloc (.cells #[.int .i64 p, .string s] 34)).cell? ⟨W.heap.size, 1, none⟩ = some (.string s) := by simp
  have HB0 := Lib.hid ((Below.refl W.heap.size W).alloc (Nat.le_refl _) (.cells #[.int .i64 p, .string s] 34))
  have HX := Lib.hid (show ∀ w', Below (W.alloc (.cells #[.int .i64 p, .string s] 34)).heap.size (W.alloc (.cells #[.int .i64 p, .string s] 34)) w' → w'.cell? ⟨W.heap.size, 1, none⟩ = some (.string s) from fun w' hb => (hb.cell (p := ⟨W.heap.size, 1, none⟩) (by simp)).trans g0)
  clear hX hY x2 y2 xy g0
  go_enter Try.func34, Try.ntmps34
  go_wp2_with (go_at_call 40; (with_reducible refine (H1.out _).mono ?_); rintro e w1 ⟨rfl, b1⟩; have c1 := HX.out _ b1; have B1 := Lib.hid b1; clear b1)
  go_wp2_with (go_at_call 40; (with_reducible refine (H2.out _).mono ?_); rintro e w2 ⟨rfl, b2⟩; have c2 := HX.out _ (B1.out.trans (b2.mono B1.out.size)); have B2 := Lib.hid (HB0.out.trans ((B1.out.trans (b2.mono B1.out.size)).mono HB0.out.size)); clear b2)
  go_ret
  exact ⟨rfl, B2.out⟩

theorem rec_snoc {L : List Md} {k : Nat} (h : k < L.length) : enc (L.take (k + 1)) = enc (L.take k) ++ rec (L.getD k default) := by
  rw [List.take_succ_eq_append_getElem h, enc_append, List.getD, List.getElem?_eq_getElem h]
  simp only [enc, Option.getD_some, List.append_nil]
theorem bstring_nil (B b : Nat) (p : Value) (w : World) (hbk : w.heap[b]? = some (.cells #[p, .slice none 0 0] 63 (0, 0))) :
    Calls Try.prog 35 #[.pointer (some ⟨b, 0, none⟩)] w fun e w' => e = .returned (.string ⟨#[]⟩) ∧ Below B w w' := by
  have hUS : ∀ W : World, (Builtin.unsafeString_ #[79, 3] 9 #[.pointer none, .int .i64 0]).run Try.prog W = .ok (.string .empty) W := fun W => Lib.run_unsafeString_none W _ _ _ none
  have c1 : w.drew.cell? ⟨b, 1, none⟩ = some (.slice none 0 0) := by
    have : w.drew.heap[b]? = some (.cells #[p, .slice none 0 0] 63 (0, 0)) := hbk
    rw [Lib.cell_of_heap this]; rfl
  have hSD : (Builtin.unsafeSliceData_ #[61] 79 #[.slice none 0 0]).run Try.prog w.drew = .ok (.pointer none) w.drew := rfl
  go_enter Try.func35, Try.ntmps35
  go_wp2
  go_region
  all_goals (go_wp2; go_ret; exact ⟨rfl, Below.drew (Below.refl B w)⟩)
set_option maxHeartbeats 1000000 in
theorem bgrow_zero (b : Nat) (w : World) (hbk : w.heap[b]? = some (.cells #[.pointer none, .slice none 0 0] 63 (0, 0))) :
    Calls Try.prog 32 #[.pointer (some ⟨b, 0, none⟩), .int .i64 0] w fun e w' => e = .returned (.tuple #[]) ∧ w'.heap[b]? = some (.cells #[.pointer (some ⟨b, 0, none⟩), .slice none 0 0] 63 (0, 0)) ∧ Below b w w' := by
  have hbk1 : (w.setCell ⟨b, 0, none⟩ (.pointer (some ⟨b, 0, none⟩))).heap[b]? = some (.cells #[.pointer (some ⟨b, 0, none⟩), .slice none 0 0] 63 (0, 0)) := by
    simp [World.setCell, Array.getElem?_modify, hbk]
  have c1 : (w.setCell ⟨b, 0, none⟩ (.pointer (some ⟨b, 0, none⟩))).cell? ⟨b, 1, none⟩ = some (.slice none 0 0) := by rw [Lib.cell_of_heap hbk1]; rfl
  have c1' : (w.setCell ⟨b, 0, none⟩ (.pointer (some ⟨b, 0, none⟩))).drew.cell? ⟨b, 1, none⟩ = some (.slice none 0 0) := c1
  have hb1 : Below b w (w.setCell ⟨b, 0, none⟩ (.pointer (some ⟨b, 0, none⟩))) := (Below.refl b w).setCell (p := ⟨b, 0, none⟩) (Nat.le_refl _) _
  go_enter Try.func32, Try.ntmps32
  go_wp2_with (go_at_call 38; refine (check_fresh b w (by rw [Lib.cell_of_heap hbk]; rfl) (by simp [World.shape?, hbk]) (Lib.frozen_of_heap hbk 0)).mono ?_; rintro e w' ⟨rfl, rfl⟩)
  go_region
  all_goals (go_wp2; go_end0; exact ⟨rfl, hbk1, hb1.drew⟩)
theorem new_at (w : World) (o : Obj) : (w.alloc o).heap[w.heap.size]? = some o := heap_alloc_new w o
theorem old_at {w : World} {i : Nat} {x : Obj} (o : Obj) (h : w.heap[i]? = some x) : (w.alloc o).heap[i]? = some x := (Below.heap_alloc w o i (Array.getElem?_eq_some_iff.1 h).1).trans h

set_option maxHeartbeats 1000000 in
theorem encode_nil (N : Int) (A : Option Addr) (c : Nat) (W : World) :
    Calls Try.prog 12 #[.int .i64 N, .slice A 0 c] W fun e w' => e = .returned (.tuple #[.string ⟨#[]⟩, .int .i64 0]) ∧ Below W.heap.size W w' := by
  have hA := mayAll_any N A 0 c [] W (IsMds.nil W A)
  rw [show oks N [] = true from rfl] at hA
  have HA := Lib.hid hA
  have HS := Lib.hid (show ∀ w, Calls Try.prog 20 #[.slice A 0 c] w fun e w' => e = .returned (.int .i64 0) ∧ Below w.heap.size w w' from fun w => size_any A 0 c [] w (IsMds.nil w A) (by decide))
  have HG := Lib.hid (fun b w h => bgrow_zero b w h)
  have HT := Lib.hid (fun b p w h => bstring_nil W.heap.size b p w h)
  clear hA
  go_enter Try.func12, Try.ntmps12
  go_wp2_with (go_at_call 31; (with_reducible refine HA.out.mono ?_); rintro e w1 ⟨rfl, b1⟩; have B1 := Lib.hid b1; clear b1)
  have K1 := Lib.hid (new_at w1 (.cells #[.pointer none, .slice none 0 0] 63))
  go_wp2_with (first
    | (go_at_call 20; (with_reducible refine (HS.out _).mono ?_); rintro e w2 ⟨rfl, b2⟩; have K2 := Lib.hid ((b2.block w1.heap.size (by simp)).trans K1.out); have B2 := Lib.hid ((B1.out.alloc B1.out.size _).trans (b2.mono (by have := B1.out.size; simp; omega))); clear b2)
    | (go_at_call 32; (with_reducible refine (HG.out _ _ K2.out).mono ?_); rintro e w3 ⟨rfl, k3, b3⟩; have K3 := Lib.hid k3; have B3 := Lib.hid (B2.out.trans (b3.mono B1.out.size)); clear b3 k3)
    | fail)
  go_loopw [18] (fun i wr => i = .int .i64 0 ∧ w3 = wr) (fun i _ => 0)
  case atStart => exact ⟨rfl, rfl⟩
  case round =>
    obtain ⟨rfl, rfl⟩ := hrel
    go_wp2_with (go_at_call 35; (with_reducible refine (HT.out _ _ _ K3.out).mono ?_); rintro e w4 ⟨rfl, b4⟩; have B4 := Lib.hid (B3.out.trans b4); clear b4)
    go_ret2
    exact ⟨rfl, B4.out⟩
theorem enc_ne {L : List Md} (h : 0 < L.length) : enc L ≠ [] := fun e => by
  have := congrArg List.length e
  rw [enc_length, szs_tsm] at this
  simp only [List.length_nil] at this
  omega
set_option maxHeartbeats 1000000 in
theorem encode_any (N : Int) (A : Option Addr) (n c : Nat) (L : List Md) (W : World) (h : IsMds W A n L) (hz : szs L ≤ 10000000) :
    Calls Try.prog 12 #[.int .i64 N, .slice A n c] W fun e w' => e = .returned (.tuple #[.string (bstr (encl N L).1), .int .i64 (encl N L).2]) ∧ Below W.heap.size W w' := by
  have hl := h.leng
  by_cases h0 : n = 0
  · subst h0
    obtain rfl := List.eq_nil_of_length_eq_zero hl
    exact encode_nil N A c W
  have hA := mayAll_any N A n c L W h
  unfold encl
  cases hq : oks N L with
  | false =>
    rw [hq] at hA
    have HA := Lib.hid hA
    clear hA h hl hq
    show Calls _ _ _ _ fun e w' => e = .returned (.tuple #[.string ⟨#[]⟩, .int .i64 2]) ∧ _
    go_enter Try.func12, Try.ntmps12
    go_wp2_with (go_at_call 31; (with_reducible refine HA.out.mono ?_); rintro e w1 ⟨rfl, b1⟩; have B1 := Lib.hid b1; clear b1)
    go_ret2
    exact ⟨rfl, B1.out⟩
  | true =>
    rw [hq] at hA
    have HA := Lib.hid hA
    show Calls _ _ _ _ fun e w' => e = .returned (.tuple #[.string (bstr (enc L)), .int .i64 0]) ∧ _
    have HH := Lib.hid h
    have HL := Lib.hid hl
    have HQ := Lib.hid hq
    have hm := h.most
    unfold maxLen at hm
    have HS := Lib.hid (fun w (hi : IsMds w A n L) => size_any A n c L w hi (by omega))
    have HG := Lib.hid (fun b w hB h hBw => bgrow_any W.heap.size b (szs L) w hB h hBw (by omega))
    have HT := Lib.hid (fun b w h => bstring_some W.heap.size b (enc L) w h (enc_ne (by omega)))
    obtain ⟨Z, hZ⟩ : ∃ Z, szs L = Z := ⟨_, rfl⟩
    have HZ := Lib.hid hZ
    rw [hZ] at HS HG hz
    clear hA h hl hq hZ
    go_enter Try.func12, Try.ntmps12
    go_wp2_with (go_at_call 31; (with_reducible refine HA.out.mono ?_); rintro e w1 ⟨rfl, b1⟩; have B1 := Lib.hid b1; clear b1)
    have K1 := Lib.hid (new_at w1 (.cells #[.pointer none, .slice none 0 0] 63))
    have M1 := Lib.hid (B1.out.alloc B1.out.size (.cells #[.pointer none, .slice none 0 0] 63))
    go_wp2_with (first
      | (go_at_call 20; (with_reducible refine (HS.out _ (HH.out.below M1.out)).mono ?_); rintro e w2 ⟨rfl, b2⟩; have K2 := Lib.hid ((b2.block w1.heap.size (by simp)).trans K1.out); have B2 := Lib.hid (M1.out.trans (b2.mono M1.out.size)); clear b2)
      | (go_at_call 32; (with_reducible refine (HG.out _ _ B1.out.size K2.out B2.out.size).mono ?_); rintro e w3 ⟨rfl, k3, b3⟩; have K3 := Lib.hid k3; have B3 := Lib.hid (B2.out.trans b3); clear b3 k3))
    go_loopw [18] (fun i wr => ∃ k : Nat, k ≤ n ∧ i = .int .i64 k ∧ Bld W.heap.size w1.heap.size (enc (L.take k)) wr ∧ Below W.heap.size W wr) (fun i _ => n - (intOf i).toNat)
    case atStart => exact ⟨0, Nat.zero_le _, rfl, K3.out, B3.out⟩
    case round =>
      obtain ⟨k, hk, rfl, hd, hb⟩ := hrel
      by_cases hlt : k < n
      · have hmy := oks_iff.1 HQ.out (L.getD k default) (by rw [List.getD, List.getElem?_eq_getElem (by rw [HL.out]; exact hlt)]; exact List.getElem_mem _)
        obtain ⟨b, o, rfl, hbl, hc⟩ := (HH.out.below hb).at (by omega)
        obtain ⟨c0, c1⟩ := hc k hlt
        have hg := rec_snoc (L := L) (k := k) (by rw [HL.out]; exact hlt)
        have hlen : (enc (L.take k)).length ≤ 10000000 := by
          rw [enc_length]
          have := szs_take L k
          have := HZ.out
          omega
        obtain ⟨m, hm'⟩ : ∃ m, L.getD k default = m := ⟨_, rfl⟩
        rw [hm'] at c0 c1 hg hmy
        obtain ⟨p, s⟩ := m
        obtain ⟨y1, y2, y3, y4⟩ := may_iff.1 hmy
        have y5 := pg_le y1
        simp only at c0 c1 y2 y3 y4
        obtain ⟨P, rfl⟩ := Int.eq_ofNat_of_zero_le y2
        obtain ⟨E, hE⟩ : ∃ E, enc (L.take k) = E := ⟨_, rfl⟩
        rw [hE] at hg hd hlen
        obtain ⟨R, hR⟩ : ∃ R, rec ⟨(P : Int), s⟩ = R := ⟨_, rfl⟩
        have hRl : R.length = 4 + s.size := by rw [← hR, rec_length]
        have hRs : (bstr R).size = 4 + s.size := by rw [bstr_size, hRl]
        rw [hR] at hg
        have HG2 := Lib.hid hg
        have HR := Lib.hid (fun w => record_any P s w (by omega) (by omega))
        rw [hR] at HR
        have HW := Lib.hid (fun w h hB => bwrite_any W.heap.size w1.heap.size E (bstr R) w h (by rw [hRs]; omega) hB)
        have HD := Lib.hid hd
        have HB := Lib.hid hb
        have hlt2 : wr.heap.size < wr.heap.size + 1 := by omega
        have M2 := Lib.hid (show Below wr.heap.size wr (wr.alloc (.cells #[.int .i64 (P : Int), .string s] 34)) from (Below.refl _ _).alloc (Nat.le_refl _) _)
        have d1 : decide ((k : Int) < (n : Int)) = true := decide_eq_true (by omega)
        have d1' : decide (k < n) = true := decide_eq_true hlt
        clear hc hm' hb hd hg hbl hmy y1 y2 y3 y4 y5 hE hR hRl hRs hlen hlt2
        go_wp2_with (first
          | (go_at_call 34; (with_reducible refine (HR.out _).mono ?_); rintro e w4 ⟨rfl, b4⟩; have B4 := Lib.hid (M2.out.trans (b4.mono M2.out.size)); have D4 := Lib.hid (HD.out.below B4.out); have C4 := Lib.hid (HB.out.trans (B4.out.mono HB.out.size)); clear b4)
          | (go_at_call 33; (with_reducible refine (HW.out _ D4.out C4.out.size).mono ?_); rintro e w5 ⟨rfl, d5, b5⟩; have D5 := Lib.hid d5; have B5 := Lib.hid (C4.out.trans b5); clear b5 d5))
        go_roundw
        case rel => exact ⟨k + 1, by omega, by go_num, by rw [HG2.out]; exact D5.out, B5.out⟩
        case measure => simp [intOf]; omega
      · obtain rfl : k = n := by omega
        have e : L.take k = L := List.take_of_length_le (by rw [HL.out]; exact Nat.le_refl _)
        rw [e] at hd
        have HD := Lib.hid hd
        have HB := Lib.hid hb
        clear e hb hd
        go_wp2_with (go_at_call 35; (with_reducible refine (HT.out _ _ HD.out).mono ?_); rintro e w6 ⟨rfl, b6⟩; have B6 := Lib.hid (HB.out.trans b6); clear b6)
        go_ret2
        exact ⟨rfl, B6.out⟩

/-! the document's -/
/-- v is a slice of bytes in a row of its own -/
def Owb (B : Nat) (w : World) (v : Value) (l : List UInt8) : Prop := w.ownsRow B 5 1 v l.length (Lib.byteCells l)
section
variable {B : Nat} {w w' : World} {v : Value} {l : List UInt8}
theorem Owb.nil (B : Nat) (w : World) : Owb B w (.slice none 0 0) [] := World.ownsRow_nil w B _ 1
theorem Owb.alloc (h : Owb B w v l) (o : Obj) : Owb B (w.alloc o) v l := World.ownsRow.alloc h o
theorem Owb.lt (h : Owb B w v l) : ∀ g, v.ownBlock = some g → B ≤ g ∧ g < w.heap.size := World.ownsRow.lt h
theorem Owb.below (h : Owb B w v l) (hb : Below w.heap.size w w') : Owb B w' v l := ownsRow_at h fun g hg => hb.block g (h.lt g hg).2
end
theorem conv_own {w : World} {B : Nat} {v : Value} {l : List UInt8} (h : Owb B w v l) : (convert 61 9 v).run Try.prog w = .ok (.string (bstr l)) w := by
  rcases h.2 with ⟨rfl, hn⟩ | ⟨g, cap, cur, rfl, r⟩
  · obtain rfl := List.eq_nil_of_length_eq_zero hn
    rw [run_convert_bytes_string (P := Try.prog) w 61 9 5 _ _ _ Try.underlying61 Try.underlying5 Try.underlying9]
    rfl
  · have hc := fun j u hu => h.cells (g := g) rfl j u hu
    exact run_convert_bytes_back (P := Try.prog) w 61 9 5 ⟨g, 0, none⟩ cap l Try.underlying61 Try.underlying5 Try.underlying9 (fun i hi => hc i _ (by simp [Lib.byteCells, hi]))
/-- append of bytes that lie somewhere -/
theorem wpList_bytes {ops : Array Oper} {rest : List Oper} {o : Oper} {a : Act} {w : World} {Q : Exit → Act → World → Prop} (hgd : o.guard = none) (s x : Operand)
    (ho : o.op = .call { callee := .builtin .append, args := #[s, x], argTypes := #[61, 61] }) (B : Nat) (v : Value) (l : List UInt8) (hs : a.eval s = v) (h : Owb B w v l) (b n c : Nat) (r : List UInt8)
    (hx : a.eval x = .slice (some ⟨b, 0, none⟩) n c) (hn : r.length = n) (hc : ∀ j u, r[j]? = some u → w.cell? ⟨b, j, none⟩ = some (.int .u8 (u.toNat : Int))) (hL : l.length + n ≤ 100000000) (hB : B ≤ w.heap.size)
    (hK : ∀ v' w', Owb B w' v' (l ++ r) → Below B w w' → w.grownBy w' v.ownBlock → wpList Try.prog ops Q rest (a.put o.dst v') w') : wpList Try.prog ops Q (o :: rest) a w :=
  wpList_plain hgd fun K hK' => by
    obtain ⟨i, h1, h2, h3, h4⟩ := info_of byteInfo
    obtain ⟨v', w', r1, r2, r3, _⟩ := run_append_own (P := Try.prog) w B 61 o.type 5 i _ 1 1 Try.underlying61 h1 h2 h3 h4 rfl (by decide) v l.length (Lib.byteCells l) h ⟨b, 0, none⟩ n c (Lib.byteCells r) (by rw [Lib.byteCells_length, hn, Nat.mul_one])
      (fun j u hu => by
        rw [madd_at, Nat.zero_add]
        unfold Lib.byteCells at hu
        rw [List.getElem?_map] at hu
        cases q : r[j]? with
        | none => rw [q] at hu; cases hu
        | some y => rw [q] at hu; cases hu; exact hc j y q) (by intro u hu; simp [Lib.byteCells] at hu; obtain ⟨y, _, rfl⟩ := hu; rfl) (by unfold maxLen; omega) (by omega) hB
    unfold Oper.wp execOp
    simp only [ho, resolve, invoke, builtin, Sem.run_bind, Sem.run_pure, Result.andThen_ok, List.map_toArray, List.map_cons, List.map_nil, hs, hx, r1]
    refine hK' _ _ (hK v' w' ?_ ((Below.refl _ w).grown r3 hB (fun k hk => (World.ownsRow.lt h k hk).1)) r3)
    unfold Owb
    rw [List.length_append, hn]
    have : Lib.byteCells (l ++ r) = Lib.byteCells l ++ Lib.byteCells r := by unfold Lib.byteCells; rw [List.map_append]
    rw [this]; exact r2
/-- append of a string -/
theorem wpList_text {ops : Array Oper} {rest : List Oper} {o : Oper} {a : Act} {w : World} {Q : Exit → Act → World → Prop} (hgd : o.guard = none) (s x : Operand)
    (ho : o.op = .call { callee := .builtin .append, args := #[s, x], argTypes := #[61, 9] }) (B : Nat) (v : Value) (l : List UInt8) (hs : a.eval s = v) (h : Owb B w v l) (t : ByteArray)
    (hx : a.eval x = .string t) (hL : l.length + t.size ≤ 100000000) (hB : B ≤ w.heap.size)
    (hK : ∀ v' w', Owb B w' v' (l ++ t.data.toList) → Below B w w' → w.grownBy w' v.ownBlock → wpList Try.prog ops Q rest (a.put o.dst v') w') : wpList Try.prog ops Q (o :: rest) a w := by
  obtain ⟨i, h1, h2, h3, h4⟩ := info_of byteInfo
  refine Lib.wpList_append_own_string _ hgd s x 61 9 ho B 5 i Try.underlying61 Try.underlying9 h1 h2 h3 h4 v l.length (Lib.byteCells l) hs h t hx (by unfold maxLen; omega) (by omega) hB ?_
  intro v' w' r2 r3 _
  refine hK v' w' ?_ ((Below.refl _ w).grown r3 hB (fun k hk => (World.ownsRow.lt h k hk).1)) r3
  unfold Owb
  have : Lib.byteCells (l ++ t.data.toList) = Lib.byteCells l ++ Lib.strCells t := by rw [cells_str]; unfold Lib.byteCells; rw [List.map_append]
  rw [this, List.length_append, size_list]; exact r2
end Go.Proofs.Ytbbfbijgclpjeaa.O
