/- The closure that puts a text together: what one token more leaves. Conditions: as each theorem names them. -/
import Derived.Test.YtglakcdkpeabmaaTkE
import Derived.Deep.RegionHeld3
namespace Go.Proofs.Ytglakcdkpeabmaa
open Go Go.RowKit M
open Go.ChangeShapes (lits)
set_option linter.unusedVariables false
set_option linter.unusedSimpArgs false

/-- append of a byte, as an operation of a region -/
theorem step_app1 {ops : Array Oper} {o : Oper} {a : Act} {w : World} {K : Act → World → Prop} {Q : Exit → Act → World → Prop} {E : Prop} (hgd : o.guard = none) (s x : Operand)
    (ho : o.op = .call { callee := .builtin .append, args := #[s, x], argTypes := #[37, 37] }) (g n cp : Nat) (bs : List UInt8) (hs : a.eval s = .slice (some ⟨g, 0, none⟩) n cp) (h : Rb w g cp bs) (hn : bs.length = n)
    (ad : Addr) (c : Nat) (xv : Int) (hx : a.eval x = .slice (some ad) 1 c) (hc : w.cell? ad = some (.int .u8 xv)) (h0 : 0 ≤ xv ∧ xv ≤ 255) (hm : n ≤ 100000000)
    (hK : ∀ g' cp' w', Rb w' g' cp' (bs ++ [UInt8.ofNat xv.toNat]) → w.grownBy w' (some g) → (g' = g ∨ w.heap.size ≤ g') → K (a.put o.dst (.slice (some ⟨g', 0, none⟩) (n + 1) cp')) w') :
    if Region.wanted o (yielded ops a.tmps) = true then Oper.wp Try.prog o a w K Q else E := by
  have hw : Region.wanted o (yielded ops a.tmps) = true := by simp [Region.wanted, hgd]
  rw [if_pos hw]
  obtain ⟨g', cp', w', r1, r2, r3, r4⟩ := run_app1 w o.type g n cp bs h hn ad c xv hc h0 hm
  unfold Oper.wp execOp
  simp only [ho, resolve, invoke, builtin, Sem.run_bind, Sem.run_pure, Result.andThen_ok, List.map_toArray, List.map_cons, List.map_nil, hs, hx, r1]
  exact hK g' cp' w' r2 r3 r4
theorem wpList_app1 {ops : Array Oper} {rest : List Oper} {o : Oper} {a : Act} {w : World} {Q : Exit → Act → World → Prop} (hgd : o.guard = none) (s x : Operand)
    (ho : o.op = .call { callee := .builtin .append, args := #[s, x], argTypes := #[37, 37] }) (g n cp : Nat) (bs : List UInt8) (hs : a.eval s = .slice (some ⟨g, 0, none⟩) n cp) (h : Rb w g cp bs) (hn : bs.length = n)
    (ad : Addr) (c : Nat) (xv : Int) (hx : a.eval x = .slice (some ad) 1 c) (hc : w.cell? ad = some (.int .u8 xv)) (h0 : 0 ≤ xv ∧ xv ≤ 255) (hm : n ≤ 100000000)
    (hK : ∀ g' cp' w', Rb w' g' cp' (bs ++ [UInt8.ofNat xv.toNat]) → w.grownBy w' (some g) → (g' = g ∨ w.heap.size ≤ g') → wpList Try.prog ops Q rest (a.put o.dst (.slice (some ⟨g', 0, none⟩) (n + 1) cp')) w') : wpList Try.prog ops Q (o :: rest) a w :=
  wpList_plain hgd fun K hK' => by
    obtain ⟨g', cp', w', r1, r2, r3, r4⟩ := run_app1 w o.type g n cp bs h hn ad c xv hc h0 hm
    unfold Oper.wp execOp
    simp only [ho, resolve, invoke, builtin, Sem.run_bind, Sem.run_pure, Result.andThen_ok, List.map_toArray, List.map_cons, List.map_nil, hs, hx, r1]
    exact hK' _ _ (hK g' cp' w' r2 r3 r4)

/-- the text under way: its box, its row -/
def St (W : World) (Ba R n₁ : Nat) (b : List UInt8) : Prop :=
  ∃ g cp, W.heap[Ba]? = some (.cells #[.slice (some ⟨g, 0, none⟩) b.length cp] 37 (0, 0)) ∧ Rb W g cp b ∧ (g = R ∨ n₁ ≤ g)
theorem St.kept {W W' : World} {Ba R n₁ : Nat} {b : List UInt8} (h : St W Ba R n₁ b) (hb : Below W.heap.size W W') : St W' Ba R n₁ b := by
  obtain ⟨g, cp, h1, h2, h3⟩ := h
  exact ⟨g, cp, (hb.block Ba (Array.getElem?_eq_some_iff.1 h1).1).trans h1, h2.of_block (hb.block g h2.lt), h3⟩
def Put (W W' : World) (Ba R n₁ : Nat) (b : List UInt8) : Prop := KeepsOthers W W' ∧ Kept (Sx R Ba n₁) W W' ∧ St W' Ba R n₁ b

/-- what a round of the closure reads: the token's block, the text's box and row, the box of what lies ahead -/
structure PF (W : World) (P Ba Bh g cp : Nat) (l n d : Int) (b : List UInt8) (ah : ByteArray) : Prop where
  tk : R3 W 27 P (.int .u8 l) (.int .i64 n) (.int .i64 d)
  bx : W.heap[Ba]? = some (.cells #[.slice (some ⟨g, 0, none⟩) b.length cp] 37 (0, 0))
  hd : W.heap[Bh]? = some (.cells #[.string ah] 9 (0, 0))
  rb : Rb W g cp b
theorem PF.below {W W' : World} {P Ba Bh g cp : Nat} {l n d : Int} {b : List UInt8} {ah : ByteArray} (h : PF W P Ba Bh g cp l n d b ah) (hb : Below W.heap.size W W') : PF W' P Ba Bh g cp l n d b ah :=
  ⟨h.tk.of_block (hb.block P h.tk.lt), (hb.block Ba (Array.getElem?_eq_some_iff.1 h.bx).1).trans h.bx, (hb.block Bh (Array.getElem?_eq_some_iff.1 h.hd).1).trans h.hd, h.rb.of_block (hb.block g h.rb.lt)⟩
theorem PF.drew {W : World} {P Ba Bh g cp : Nat} {l n d : Int} {b : List UInt8} {ah : ByteArray} (h : PF W P Ba Bh g cp l n d b ah) : PF W.drew P Ba Bh g cp l n d b ah := ⟨h.tk, h.bx, h.hd, h.rb.drew⟩

set_option maxRecDepth 1000000 in
set_option maxHeartbeats 2000000 in
theorem put_arg (l n d : Int) (b : List UInt8) (ah : ByteArray) (Ba Bh R n₁ : Nat) (W : World) (hl : 0 ≤ l ∧ l ≤ 255) (hn : -9223372036854775808 ≤ n ∧ n ≤ 9223372036854775807) (hd : -9223372036854775808 ≤ d ∧ d ≤ 9223372036854775807)
    (hb : b.length ≤ 2000000) (hah : ah.size ≤ b.length) (hBa : Ba < n₁) (hR : R < n₁) (hRB : R ≠ Ba) (hn1 : n₁ ≤ W.heap.size) (hBh : Bh < n₁) (hBh2 : Bh ≠ R) (hBh3 : Bh ≠ Ba)
    (hh : W.heap[Bh]? = some (.cells #[.string ah] 9 (0, 0))) (hst : St W Ba R n₁ b) (q : may ⟨l, n, d⟩ = false) :
    Calls Try.prog 18 #[.agg #[.int .u8 l, .int .i64 n, .int .i64 d], .pointer (some ⟨Ba, 0, none⟩), .pointer (some ⟨Bh, 0, none⟩)] W fun e W' => e = .returned (.int .i64 2) ∧ Put W W' Ba R n₁ b := by
  obtain ⟨g, cp, hs1, hs2, hs3⟩ := hst
  have hbl0 : Below W.heap.size W (W.alloc (.cells #[.int .u8 l, .int .i64 n, .int .i64 d] 27)) := (Below.refl _ _).alloc (Nat.le_refl _) _
  have hpf : PF (W.alloc (.cells #[.int .u8 l, .int .i64 n, .int .i64 d] 27)) W.heap.size Ba Bh g cp l n d b ah := ⟨R3.new _ _ _ _ _, old_at _ hs1, old_at _ hh, hs2.alloc _⟩
  have hgP : g ≠ W.heap.size := Nat.ne_of_lt hs2.lt
  have HS3 := Lib.hid hs3
  have HB0 := Lib.hid hbl0
  have HPF := Lib.hid hpf
  obtain ⟨m, hm⟩ : ∃ m, b.length = m := ⟨_, rfl⟩
  have c0 := hpf.tk.at0
  have c1 := hpf.tk.at1
  have c2 := hpf.tk.at2
  have hM := may_any l n d

  rw [q] at hM
  have HM := Lib.hid hM
  clear hM hs1 hs2 hh hpf hbl0 hs3 q
  go_enter Try.func18, Try.ntmps18
  go_wp2_with (go_at_call 8; (with_reducible refine (HM.out _).mono ?_); rintro e w1 ⟨rfl, b1⟩; have w1p := HPF.out.below (b1); have w10 := w1p.tk.at0; have w11 := w1p.tk.at1; have w12 := w1p.tk.at2; have w1a := one_cell w1p.bx; rw [hm] at w1a; have w1af := one_free w1p.bx; have w1h := one_cell w1p.hd; have HPF1 := Lib.hid w1p; have HB1 := Lib.hid (HB0.out.trans (b1.mono HB0.out.size)); clear b1 w1p)
  go_ret
  exact ⟨rfl, keeps_below HB1.out, (Kept.of_below HB1.out).none _, g, cp, HPF1.out.bx, HPF1.out.rb, HS3.out⟩


set_option maxRecDepth 1000000 in
set_option maxHeartbeats 2000000 in
theorem put_far (l n d : Int) (b : List UInt8) (ah : ByteArray) (Ba Bh R n₁ : Nat) (W : World) (hl : 0 ≤ l ∧ l ≤ 255) (hn : -9223372036854775808 ≤ n ∧ n ≤ 9223372036854775807) (hd : -9223372036854775808 ≤ d ∧ d ≤ 9223372036854775807)
    (hb : b.length ≤ 2000000) (hah : ah.size ≤ b.length) (hBa : Ba < n₁) (hR : R < n₁) (hRB : R ≠ Ba) (hn1 : n₁ ≤ W.heap.size) (hBh : Bh < n₁) (hBh2 : Bh ≠ R) (hBh3 : Bh ≠ Ba)
    (hh : W.heap[Bh]? = some (.cells #[.string ah] 9 (0, 0))) (hst : St W Ba R n₁ b) (q : may ⟨l, n, d⟩ = true) (q2 : (b.length : Int) < d) :
    Calls Try.prog 18 #[.agg #[.int .u8 l, .int .i64 n, .int .i64 d], .pointer (some ⟨Ba, 0, none⟩), .pointer (some ⟨Bh, 0, none⟩)] W fun e W' => e = .returned (.int .i64 7) ∧ Put W W' Ba R n₁ b := by
  obtain ⟨g, cp, hs1, hs2, hs3⟩ := hst
  have hbl0 : Below W.heap.size W (W.alloc (.cells #[.int .u8 l, .int .i64 n, .int .i64 d] 27)) := (Below.refl _ _).alloc (Nat.le_refl _) _
  have hpf : PF (W.alloc (.cells #[.int .u8 l, .int .i64 n, .int .i64 d] 27)) W.heap.size Ba Bh g cp l n d b ah := ⟨R3.new _ _ _ _ _, old_at _ hs1, old_at _ hh, hs2.alloc _⟩
  have hgP : g ≠ W.heap.size := Nat.ne_of_lt hs2.lt
  have HS3 := Lib.hid hs3
  have HB0 := Lib.hid hbl0
  have HPF := Lib.hid hpf
  obtain ⟨m, hm⟩ : ∃ m, b.length = m := ⟨_, rfl⟩
  have c0 := hpf.tk.at0
  have c1 := hpf.tk.at1
  have c2 := hpf.tk.at2
  have hM := may_any l n d

  rw [q] at hM
  have HM := Lib.hid hM
  rw [hm] at q2
  have e2 : decide ((m : Int) < d) = true := decide_eq_true q2
  clear hM hs1 hs2 hh hpf hbl0 hs3 q q2
  go_enter Try.func18, Try.ntmps18
  go_wp2_with (go_at_call 8; (with_reducible refine (HM.out _).mono ?_); rintro e w1 ⟨rfl, b1⟩; have w1p := HPF.out.below (b1); have w10 := w1p.tk.at0; have w11 := w1p.tk.at1; have w12 := w1p.tk.at2; have w1a := one_cell w1p.bx; rw [hm] at w1a; have w1af := one_free w1p.bx; have w1h := one_cell w1p.hd; have HPF1 := Lib.hid w1p; have HB1 := Lib.hid (HB0.out.trans (b1.mono HB0.out.size)); clear b1 w1p)
  go_ret
  exact ⟨rfl, keeps_below HB1.out, (Kept.of_below HB1.out).none _, g, cp, HPF1.out.bx, HPF1.out.rb, HS3.out⟩


set_option maxRecDepth 1000000 in
set_option maxHeartbeats 2000000 in
theorem put_long (l n d : Int) (b : List UInt8) (ah : ByteArray) (Ba Bh R n₁ : Nat) (W : World) (hl : 0 ≤ l ∧ l ≤ 255) (hn : -9223372036854775808 ≤ n ∧ n ≤ 9223372036854775807) (hd : -9223372036854775808 ≤ d ∧ d ≤ 9223372036854775807)
    (hb : b.length ≤ 2000000) (hah : ah.size ≤ b.length) (hBa : Ba < n₁) (hR : R < n₁) (hRB : R ≠ Ba) (hn1 : n₁ ≤ W.heap.size) (hBh : Bh < n₁) (hBh2 : Bh ≠ R) (hBh3 : Bh ≠ Ba)
    (hh : W.heap[Bh]? = some (.cells #[.string ah] 9 (0, 0))) (hst : St W Ba R n₁ b) (q : may ⟨l, n, d⟩ = true) (q2 : ¬ (b.length : Int) < d) (q3 : 1048576 < b.length - ah.size + szo ⟨l, n, d⟩) :
    Calls Try.prog 18 #[.agg #[.int .u8 l, .int .i64 n, .int .i64 d], .pointer (some ⟨Ba, 0, none⟩), .pointer (some ⟨Bh, 0, none⟩)] W fun e W' => e = .returned (.int .i64 5) ∧ Put W W' Ba R n₁ b := by
  obtain ⟨g, cp, hs1, hs2, hs3⟩ := hst
  have hbl0 : Below W.heap.size W (W.alloc (.cells #[.int .u8 l, .int .i64 n, .int .i64 d] 27)) := (Below.refl _ _).alloc (Nat.le_refl _) _
  have hpf : PF (W.alloc (.cells #[.int .u8 l, .int .i64 n, .int .i64 d] 27)) W.heap.size Ba Bh g cp l n d b ah := ⟨R3.new _ _ _ _ _, old_at _ hs1, old_at _ hh, hs2.alloc _⟩
  have hgP : g ≠ W.heap.size := Nat.ne_of_lt hs2.lt
  have HS3 := Lib.hid hs3
  have HB0 := Lib.hid hbl0
  have HPF := Lib.hid hpf
  obtain ⟨m, hm⟩ : ∃ m, b.length = m := ⟨_, rfl⟩
  have c0 := hpf.tk.at0
  have c1 := hpf.tk.at1
  have c2 := hpf.tk.at2
  have hM := may_any l n d

  rw [q] at hM
  rw [hm] at q2 hah hb
  obtain ⟨z, hz⟩ : ∃ z, szo ⟨l, n, d⟩ = z := ⟨_, rfl⟩
  have hz258 := szo_le ⟨l, n, d⟩
  have hZ := sizeOf_any l n d
  rw [hz] at hz258 hZ
  have e2 : decide ((m : Int) < d) = false := decide_eq_false q2
  obtain ⟨k, hk⟩ : ∃ k, ah.size = k := ⟨_, rfl⟩
  rw [hk] at hah
  obtain ⟨v, hv⟩ : ∃ v, m - k = v := ⟨_, rfl⟩
  obtain ⟨y, hy⟩ : ∃ y, v + z = y := ⟨_, rfl⟩
  have x1 : IntKind.i64.wrap ((m : Int) - (k : Int)) = (v : Int) := by rw [IntWalk.i64_in _ ⟨by omega, by omega⟩]; omega
  have x2 : IntKind.i64.wrap ((v : Int) + (z : Int)) = (y : Int) := by rw [IntWalk.i64_in _ ⟨by omega, by omega⟩]; omega
  have x3 : IntKind.i64.wrap (v : Int) = (v : Int) := by rw [IntWalk.i64_in _ ⟨by omega, by omega⟩]
  have x4 : IntKind.i64.wrap (y : Int) = (y : Int) := by rw [IntWalk.i64_in _ ⟨by omega, by omega⟩]
  have x5 : ((m : Int) - (k : Int)) = (v : Int) := by omega
  have hk1 : (ah.size : Int) = (k : Int) := by rw [hk]
  have e3 : decide (1048576 < (y : Int)) = true := decide_eq_true (by rw [hm, hk, hv, hz, hy] at q3; omega)
  have e4 : decide (1048576 < y) = true := decide_eq_true (by rw [hm, hk, hv, hz, hy] at q3; exact q3)
  have HM := Lib.hid hM
  have HZ := Lib.hid hZ
  have HKs := Lib.hid hk
  clear hM hZ hs1 hs2 hh hpf hbl0 hs3 q q2 q3 hv hy hz hz258 hk x5
  go_enter Try.func18, Try.ntmps18
  go_wp2_with (go_at_call 8; (with_reducible refine (HM.out _).mono ?_); rintro e w1 ⟨rfl, b1⟩; have w1p := HPF.out.below (b1); have w10 := w1p.tk.at0; have w11 := w1p.tk.at1; have w12 := w1p.tk.at2; have w1a := one_cell w1p.bx; rw [hm] at w1a; have w1af := one_free w1p.bx; have w1h := one_cell w1p.hd; have HPF1 := Lib.hid w1p; have HB1 := Lib.hid (HB0.out.trans (b1.mono HB0.out.size)); clear b1 w1p)
  go_region_held3 (fun w' => w'.cell? ⟨Ba, 0, none⟩ = some (.slice (some ⟨g, 0, none⟩) m cp) ∧ w'.cell? ⟨Bh, 0, none⟩ = some (.string ah) ∧ w'.cell? ⟨W.heap.size, 0, none⟩ = some (.int .u8 l) ∧ w'.cell? ⟨W.heap.size, 1, none⟩ = some (.int .i64 n) ∧ w'.cell? ⟨W.heap.size, 2, none⟩ = some (.int .i64 d)) (first | exact ⟨w2a, w2h, w20, w21, w22⟩ | exact ⟨w1a, w1h, w10, w11, w12⟩) (first
    | (go_at_call 19; (with_reducible refine (HZ.out _).mono ?_); rintro e w2 ⟨rfl, b2⟩; have w2p := HPF1.out.drew.below b2; have w20 := w2p.tk.at0; have w21 := w2p.tk.at1; have w22 := w2p.tk.at2; have w2a := one_cell w2p.bx; rw [hm] at w2a; have w2af := one_free w2p.bx; have w2h := one_cell w2p.hd; have HPF2 := Lib.hid w2p; have HB2 := Lib.hid (HB1.out.drew.trans (b2.mono HB1.out.drew.size)); clear b2 w2p))

  go_wp2_with fail
  go_ret
  exact ⟨rfl, keeps_below HB2.out, (Kept.of_below HB2.out).none _, g, cp, HPF2.out.bx, HPF2.out.rb, HS3.out⟩


end Go.Proofs.Ytglakcdkpeabmaa
