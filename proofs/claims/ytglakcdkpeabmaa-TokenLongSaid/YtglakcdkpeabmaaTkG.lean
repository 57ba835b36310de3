/- The closure that puts a text together: a byte, a match. Conditions: as each theorem names them. -/
import Derived.Test.YtglakcdkpeabmaaTkF
namespace Go.Proofs.Ytglakcdkpeabmaa
open Go Go.RowKit M
open Go.ChangeShapes (lits)
set_option linter.unusedVariables false
set_option linter.unusedSimpArgs false

/-- what the closure's loop holds: the token's block P, the text's box Ba and row -/
structure Lp (W wr : World) (Ba R n₁ : Nat) (l n d : Int) (b : List UInt8) (g cp : Nat) : Prop where
  tk : R3 wr 27 W.heap.size (.int .u8 l) (.int .i64 n) (.int .i64 d)
  bx : wr.heap[Ba]? = some (.cells #[.slice (some ⟨g, 0, none⟩) b.length cp] 37 (0, 0))
  rb : Rb wr g cp b
  hg : g = R ∨ n₁ ≤ g
  gP : g ≠ W.heap.size
  kp : Kept (Sx R Ba n₁) W wr
  ko : KeepsOthers W wr
/-- the row appended to, the box written -/
theorem Lp.next {W wr w3 w4 : World} {Ba R n₁ : Nat} {l n d : Int} {b b' : List UInt8} {g cp g' cp' : Nat} (h : Lp W wr Ba R n₁ l n d b g cp) (hn1 : n₁ ≤ W.heap.size) (hBa : Ba < n₁) (hRB : R ≠ Ba) (h3 : Kept NoB wr w3) (k3 : KeepsOthers wr w3) (gr : w3.grownBy w4 (some g)) (r2 : Rb w4 g' cp' b') (o4 : g' = g ∨ w3.heap.size ≤ g') :
    Lp W (w4.setCell ⟨Ba, 0, none⟩ (.slice (some ⟨g', 0, none⟩) b'.length cp')) Ba R n₁ l n d b' g' cp' := by
  have k4 : Kept (fun j => j = g) wr w4 := ((h3.none _).grown gr (fun k e => by cases e; exact .inl rfl))
  have hgB : g ≠ Ba := by rcases h.hg with e | e <;> omega
  have hP := h.tk.lt
  have hPs := h.kp.size
  have h3s := h3.size
  have hbx4 := (k4.block Ba (Array.getElem?_eq_some_iff.1 h.bx).1 (fun e => hgB e.symm)).trans h.bx
  have hg' : g' = R ∨ n₁ ≤ g' := by rcases o4 with e | e; exact e ▸ h.hg; exact .inr (by omega)
  have hgB' : g' ≠ Ba := by rcases hg' with e | e <;> omega
  refine ⟨(h.tk.kept k4 (fun e => h.gP e.symm)).other (by show W.heap.size ≠ Ba; omega) _, one_set hbx4 _, r2.other (by show g' ≠ Ba; exact hgB') _, hg', ?_, ?_, ?_⟩
  · rcases o4 with e | e
    · rw [e]; exact h.gP
    · omega
  · refine (h.kp.trans k4 (fun j hj => ?_)).setCell ⟨Ba, 0, none⟩ (.inl (.inr (.inl rfl))) _
    rw [hj]
    rcases h.hg with e | e
    · exact .inl (.inl e)
    · exact .inl (.inr (.inr e))
  · refine (h.ko.trans k3).trans ((KeepsOthers.of_grownBy gr (fun k o e ho => ?_)).trans (KeepsOthers.setCell _ _ _))
    cases e
    exact (h.rb.of_block (h3.block g h.rb.lt (fun q => q))).obj o ho
theorem Lp.put {W wr : World} {Ba R n₁ : Nat} {l n d : Int} {b : List UInt8} {g cp : Nat} (h : Lp W wr Ba R n₁ l n d b g cp) : Put W wr Ba R n₁ b := ⟨h.ko, h.kp, g, cp, h.bx, h.rb, h.hg⟩
theorem byte_back (x : UInt8) : UInt8.ofNat ((x.toNat : Nat) : Int).toNat = x := by simp

set_option maxRecDepth 1000000 in
set_option maxHeartbeats 2000000 in
theorem put_byte (l n d : Int) (b : List UInt8) (ah : ByteArray) (Ba Bh R n₁ : Nat) (W : World) (hl : 0 ≤ l ∧ l ≤ 255) (hn : -9223372036854775808 ≤ n ∧ n ≤ 9223372036854775807) (hd : -9223372036854775808 ≤ d ∧ d ≤ 9223372036854775807)
    (hb : b.length ≤ 2000000) (hah : ah.size ≤ b.length) (hBa : Ba < n₁) (hR : R < n₁) (hRB : R ≠ Ba) (hn1 : n₁ ≤ W.heap.size) (hBh : Bh < n₁) (hBh2 : Bh ≠ R) (hBh3 : Bh ≠ Ba)
    (hh : W.heap[Bh]? = some (.cells #[.string ah] 9 (0, 0))) (hst : St W Ba R n₁ b) (qb : isB ⟨l, n, d⟩ = true) (q2 : ¬ (b.length : Int) < d) (q3 : ¬ 1048576 < b.length - ah.size + szo ⟨l, n, d⟩)  :
    Calls Try.prog 18 #[.agg #[.int .u8 l, .int .i64 n, .int .i64 d], .pointer (some ⟨Ba, 0, none⟩), .pointer (some ⟨Bh, 0, none⟩)] W fun e W' => e = .returned (.int .i64 0) ∧ Put W W' Ba R n₁ (b ++ [UInt8.ofNat l.toNat]) := by
  obtain ⟨g, cp, hs1, hs2, hs3⟩ := hst
  have hbl0 : Below W.heap.size W (W.alloc (.cells #[.int .u8 l, .int .i64 n, .int .i64 d] 27)) := (Below.refl _ _).alloc (Nat.le_refl _) _
  have hpf : PF (W.alloc (.cells #[.int .u8 l, .int .i64 n, .int .i64 d] 27)) W.heap.size Ba Bh g cp l n d b ah := ⟨R3.new _ _ _ _ _, old_at _ hs1, old_at _ hh, hs2.alloc _⟩
  have hgP : g ≠ W.heap.size := Nat.ne_of_lt hs2.lt
  have HS3 := Lib.hid hs3
  have HB0 := Lib.hid hbl0
  have HPF := Lib.hid hpf
  obtain ⟨m, hm⟩ : ∃ m, b.length = m := ⟨_, rfl⟩
  have c0 := hpf.tk.at0
  have c1 := hpf.tk.at1
  have c2 := hpf.tk.at2
  have hM := may_any l n d

  have q : may ⟨l, n, d⟩ = true := by unfold may; rw [qb]; rfl
  have hn0 : n = 0 := (isB_iff.1 qb).1
  have hm8 : m ≤ 100000000 := by omega
  rw [q] at hM
  rw [hm] at q2 hah hb
  obtain ⟨z, hz⟩ : ∃ z, szo ⟨l, n, d⟩ = z := ⟨_, rfl⟩
  have hz258 := szo_le ⟨l, n, d⟩
  have hZ := sizeOf_any l n d
  rw [hz] at hz258 hZ
  have e2 : decide ((m : Int) < d) = false := decide_eq_false q2
  obtain ⟨k, hk⟩ : ∃ k, ah.size = k := ⟨_, rfl⟩
  rw [hk] at hah
  obtain ⟨v, hv⟩ : ∃ v, m - k = v := ⟨_, rfl⟩
  obtain ⟨y, hy⟩ : ∃ y, v + z = y := ⟨_, rfl⟩
  have x1 : IntKind.i64.wrap ((m : Int) - (k : Int)) = (v : Int) := by rw [IntWalk.i64_in _ ⟨by omega, by omega⟩]; omega
  have x2 : IntKind.i64.wrap ((v : Int) + (z : Int)) = (y : Int) := by rw [IntWalk.i64_in _ ⟨by omega, by omega⟩]; omega
  have x3 : IntKind.i64.wrap (v : Int) = (v : Int) := by rw [IntWalk.i64_in _ ⟨by omega, by omega⟩]
  have x4 : IntKind.i64.wrap (y : Int) = (y : Int) := by rw [IntWalk.i64_in _ ⟨by omega, by omega⟩]
  have x5 : ((m : Int) - (k : Int)) = (v : Int) := by omega
  have hk1 : (ah.size : Int) = (k : Int) := by rw [hk]
  have e3 : decide (1048576 < (y : Int)) = false := decide_eq_false (by rw [hm, hk, hv, hz, hy] at q3; omega)
  have e4 : decide (1048576 < y) = false := decide_eq_false (by rw [hm, hk, hv, hz, hy] at q3; exact q3)
  have hI := isByte_any l n d
  rw [qb] at hI
  have HM := Lib.hid hM
  have HZ := Lib.hid hZ
  have HI := Lib.hid hI
  have HKs := Lib.hid hk
  have HPFs := Lib.hid hs3
  have hWn : W.heap.size ≠ Ba := by omega
  have hWn' : Ba ≠ W.heap.size := by omega
  clear hM hZ hI hs1 hs2 hh hpf hbl0 hs3 q q2 q3 hv hy hz hz258 hk x5 qb
  subst hn0
  go_enter Try.func18, Try.ntmps18
  go_wp2_with (go_at_call 8; (with_reducible refine (HM.out _).mono ?_); rintro e w1 ⟨rfl, b1⟩; have w1p := HPF.out.below (b1); have w10 := w1p.tk.at0; have w11 := w1p.tk.at1; have w12 := w1p.tk.at2; have w1a := one_cell w1p.bx; rw [hm] at w1a; have w1af := one_free w1p.bx; have w1h := one_cell w1p.hd; have HPF1 := Lib.hid w1p; have HB1 := Lib.hid (HB0.out.trans (b1.mono HB0.out.size)); clear b1 w1p)
  go_region_held3 (fun w' => w'.cell? ⟨Ba, 0, none⟩ = some (.slice (some ⟨g, 0, none⟩) m cp) ∧ w'.cell? ⟨Bh, 0, none⟩ = some (.string ah) ∧ w'.cell? ⟨W.heap.size, 0, none⟩ = some (.int .u8 l) ∧ w'.cell? ⟨W.heap.size, 1, none⟩ = some (.int .i64 0) ∧ w'.cell? ⟨W.heap.size, 2, none⟩ = some (.int .i64 d)) (first | exact ⟨w2a, w2h, w20, w21, w22⟩ | exact ⟨w1a, w1h, w10, w11, w12⟩) (first
    | (go_at_call 19; (with_reducible refine (HZ.out _).mono ?_); rintro e w2 ⟨rfl, b2⟩; have w2p := HPF1.out.drew.below b2; have w20 := w2p.tk.at0; have w21 := w2p.tk.at1; have w22 := w2p.tk.at2; have w2a := one_cell w2p.bx; rw [hm] at w2a; have w2af := one_free w2p.bx; have w2h := one_cell w2p.hd; have HPF2 := Lib.hid w2p; have HB2 := Lib.hid (HB1.out.drew.trans (b2.mono HB1.out.drew.size)); clear b2 w2p))

  clear w10 w11 w12 w1a w1h w1af c0 c1 c2
  clear w20 w21 w22 w2a w2h w2af
  have hbl : (b ++ [UInt8.ofNat l.toNat]).length = m + 1 := by rw [List.length_append, hm]; rfl
  have HBL := Lib.hid hbl
  clear hbl
  go_wp2_with (first | (go_at_call 16; (with_reducible refine (HI.out _).mono ?_); rintro e w3 ⟨rfl, b3⟩; have w3p := HPF2.out.below b3; have w30 := w3p.tk.at0; have w31 := w3p.tk.at1; have w32 := w3p.tk.at2; have w3a := one_cell w3p.bx; rw [hm] at w3a; have w3af := one_free w3p.bx; have HPF3 := Lib.hid w3p; have HB3 := Lib.hid (HB2.out.trans (b3.mono HB2.out.size)); clear b3 w3p) | (at_builtin; refine wpList_app1 rfl (.tmp 28) (.tmp 31) rfl g m cp b rfl (HPF3.out.rb.alloc _) hm ⟨w3.heap.size, 0, none⟩ 1 l rfl (by simp) hl hm8 ?_; intro g' cp' w4 r2 gr o4; have HL3 := Lib.hid (Lp.mk (W := W) (R := R) (n₁ := n₁) HPF3.out.tk HPF3.out.bx HPF3.out.rb HS3.out hgP ((Kept.of_below HB3.out).none _) (keeps_below HB3.out)); have HL4 := Lib.hid (HL3.out.next hn1 hBa hRB ((Kept.refl NoB w3).alloc _) (KeepsOthers.alloc _ _) gr r2 o4); have w4b := (gr.block Ba (by have := (Array.getElem?_eq_some_iff.1 (old_at (.cells #[.int .u8 l] 5) HPF3.out.bx)).1; exact this) (by intro e; injection e with e; rcases HS3.out with e' | e' <;> omega)).trans (old_at (.cells #[.int .u8 l] 5) HPF3.out.bx); have w4t := (HL3.out.tk.of_block (gr.block W.heap.size (Nat.lt_of_lt_of_le HPF3.out.tk.lt (by simp)) (by intro e; injection e with e; exact hgP e.symm)  |>.trans (Below.heap_alloc _ _ _ HPF3.out.tk.lt))).at1; have w4a := one_cell w4b; have w4af := one_free w4b; have HW4 := Lib.hid (And.intro w4b r2); clear w4b r2 gr o4))
  have HL5 : Hid (Lp W (w4.setCell ⟨Ba, 0, none⟩ (.slice (some ⟨g', 0, none⟩) (m + 1) cp')) Ba R n₁ l 0 d (b ++ [UInt8.ofNat l.toNat]) g' cp') := Lib.hid (by have := HL4.out; rw [HBL.out] at this; exact this)
  clear HL4
  go_loopw [35] (fun i wr => i = .int .i64 0 ∧ Lp W wr Ba R n₁ l 0 d (b ++ [UInt8.ofNat l.toNat]) g' cp') (fun i _ => 0)
  case atStart => exact ⟨rfl, HL5.out⟩
  case round =>
    obtain ⟨rfl, hL⟩ := hrel
    have HL := Lib.hid hL
    clear hL
    go_wp2_with fail
    go_ret
    exact ⟨rfl, HL.out.put⟩

set_option maxRecDepth 1000000 in
set_option maxHeartbeats 2000000 in
theorem put_match (l n d : Int) (b : List UInt8) (ah : ByteArray) (Ba Bh R n₁ : Nat) (W : World) (hl : 0 ≤ l ∧ l ≤ 255) (hn : -9223372036854775808 ≤ n ∧ n ≤ 9223372036854775807) (hd : -9223372036854775808 ≤ d ∧ d ≤ 9223372036854775807)
    (hb : b.length ≤ 2000000) (hah : ah.size ≤ b.length) (hBa : Ba < n₁) (hR : R < n₁) (hRB : R ≠ Ba) (hn1 : n₁ ≤ W.heap.size) (hBh : Bh < n₁) (hBh2 : Bh ≠ R) (hBh3 : Bh ≠ Ba)
    (hh : W.heap[Bh]? = some (.cells #[.string ah] 9 (0, 0))) (hst : St W Ba R n₁ b) (qb : isM ⟨l, n, d⟩ = true) (q2 : ¬ (b.length : Int) < d) (q3 : ¬ 1048576 < b.length - ah.size + szo ⟨l, n, d⟩)  :
    Calls Try.prog 18 #[.agg #[.int .u8 l, .int .i64 n, .int .i64 d], .pointer (some ⟨Ba, 0, none⟩), .pointer (some ⟨Bh, 0, none⟩)] W fun e W' => e = .returned (.int .i64 0) ∧ Put W W' Ba R n₁ (grow b d.toNat n.toNat) := by
  obtain ⟨g, cp, hs1, hs2, hs3⟩ := hst
  have hbl0 : Below W.heap.size W (W.alloc (.cells #[.int .u8 l, .int .i64 n, .int .i64 d] 27)) := (Below.refl _ _).alloc (Nat.le_refl _) _
  have hpf : PF (W.alloc (.cells #[.int .u8 l, .int .i64 n, .int .i64 d] 27)) W.heap.size Ba Bh g cp l n d b ah := ⟨R3.new _ _ _ _ _, old_at _ hs1, old_at _ hh, hs2.alloc _⟩
  have hgP : g ≠ W.heap.size := Nat.ne_of_lt hs2.lt
  have HS3 := Lib.hid hs3
  have HB0 := Lib.hid hbl0
  have HPF := Lib.hid hpf
  obtain ⟨m, hm⟩ : ∃ m, b.length = m := ⟨_, rfl⟩
  have c0 := hpf.tk.at0
  have c1 := hpf.tk.at1
  have c2 := hpf.tk.at2
  have hM := may_any l n d

  have q : may ⟨l, n, d⟩ = true := by unfold may; rw [qb, Bool.or_true]
  have hiff := isM_iff.1 qb
  simp only at hiff
  obtain ⟨hf1, hf2, hf3, hf4, hf5⟩ := hiff
  obtain ⟨N, hN⟩ : ∃ N : Nat, n.toNat = N := ⟨_, rfl⟩
  obtain ⟨D, hD⟩ : ∃ D : Nat, d.toNat = D := ⟨_, rfl⟩
  rw [hN, hD]
  have hnN : n = (N : Int) := by omega
  have hdD : d = (D : Int) := by omega
  have hN2 : N ≤ 258 := by omega
  have hD1 : 1 ≤ D := by omega
  have hD2 : D ≤ m := by omega
  have e2' : decide (m < D) = false := decide_eq_false (by omega)
  replace qb := isB_no qb
  clear hN hD hf1 hf2 hf3 hf4 hf5
  rw [q] at hM
  rw [hm] at q2 hah hb
  obtain ⟨z, hz⟩ : ∃ z, szo ⟨l, n, d⟩ = z := ⟨_, rfl⟩
  have hz258 := szo_le ⟨l, n, d⟩
  have hZ := sizeOf_any l n d
  rw [hz] at hz258 hZ
  have e2 : decide ((m : Int) < d) = false := decide_eq_false q2
  obtain ⟨k, hk⟩ : ∃ k, ah.size = k := ⟨_, rfl⟩
  rw [hk] at hah
  obtain ⟨v, hv⟩ : ∃ v, m - k = v := ⟨_, rfl⟩
  obtain ⟨y, hy⟩ : ∃ y, v + z = y := ⟨_, rfl⟩
  have x1 : IntKind.i64.wrap ((m : Int) - (k : Int)) = (v : Int) := by rw [IntWalk.i64_in _ ⟨by omega, by omega⟩]; omega
  have x2 : IntKind.i64.wrap ((v : Int) + (z : Int)) = (y : Int) := by rw [IntWalk.i64_in _ ⟨by omega, by omega⟩]; omega
  have x3 : IntKind.i64.wrap (v : Int) = (v : Int) := by rw [IntWalk.i64_in _ ⟨by omega, by omega⟩]
  have x4 : IntKind.i64.wrap (y : Int) = (y : Int) := by rw [IntWalk.i64_in _ ⟨by omega, by omega⟩]
  have x5 : ((m : Int) - (k : Int)) = (v : Int) := by omega
  have hk1 : (ah.size : Int) = (k : Int) := by rw [hk]
  have e3 : decide (1048576 < (y : Int)) = false := decide_eq_false (by rw [hm, hk, hv, hz, hy] at q3; omega)
  have e4 : decide (1048576 < y) = false := decide_eq_false (by rw [hm, hk, hv, hz, hy] at q3; exact q3)
  have hI := isByte_any l n d
  rw [qb] at hI
  have HM := Lib.hid hM
  have HZ := Lib.hid hZ
  have HI := Lib.hid hI
  have HKs := Lib.hid hk
  have HPFs := Lib.hid hs3
  have hWn : W.heap.size ≠ Ba := by omega
  have hWn' : Ba ≠ W.heap.size := by omega
  subst hnN hdD
  clear hM hZ hI hs1 hs2 hh hpf hbl0 hs3 q q2 q3 hv hy hz hz258 hk x5 qb
  have hm8 : m ≤ 100000000 := by omega
  go_enter Try.func18, Try.ntmps18
  go_wp2_with (go_at_call 8; (with_reducible refine (HM.out _).mono ?_); rintro e w1 ⟨rfl, b1⟩; have w1p := HPF.out.below (b1); have w10 := w1p.tk.at0; have w11 := w1p.tk.at1; have w12 := w1p.tk.at2; have w1a := one_cell w1p.bx; rw [hm] at w1a; have w1af := one_free w1p.bx; have w1h := one_cell w1p.hd; have HPF1 := Lib.hid w1p; have HB1 := Lib.hid (HB0.out.trans (b1.mono HB0.out.size)); clear b1 w1p)
  go_region_held3 (fun w' => w'.cell? ⟨Ba, 0, none⟩ = some (.slice (some ⟨g, 0, none⟩) m cp) ∧ w'.cell? ⟨Bh, 0, none⟩ = some (.string ah) ∧ w'.cell? ⟨W.heap.size, 0, none⟩ = some (.int .u8 l) ∧ w'.cell? ⟨W.heap.size, 1, none⟩ = some (.int .i64 (N : Int)) ∧ w'.cell? ⟨W.heap.size, 2, none⟩ = some (.int .i64 (D : Int))) (first | exact ⟨w2a, w2h, w20, w21, w22⟩ | exact ⟨w1a, w1h, w10, w11, w12⟩) (first
    | (go_at_call 19; (with_reducible refine (HZ.out _).mono ?_); rintro e w2 ⟨rfl, b2⟩; have w2p := HPF1.out.drew.below b2; have w20 := w2p.tk.at0; have w21 := w2p.tk.at1; have w22 := w2p.tk.at2; have w2a := one_cell w2p.bx; rw [hm] at w2a; have w2af := one_free w2p.bx; have w2h := one_cell w2p.hd; have HPF2 := Lib.hid w2p; have HB2 := Lib.hid (HB1.out.drew.trans (b2.mono HB1.out.drew.size)); clear b2 w2p))

  clear w10 w11 w12 w1a w1h w1af c0 c1 c2
  clear w20 w21 w22 w2a w2h w2af
  go_wp2_with (go_at_call 16; (with_reducible refine (HI.out _).mono ?_); rintro e w3 ⟨rfl, b3⟩; have w3p := HPF2.out.below b3; have w30 := w3p.tk.at0; have w31 := w3p.tk.at1; have w32 := w3p.tk.at2; have w3a := one_cell w3p.bx; rw [hm] at w3a; have w3af := one_free w3p.bx; have HPF3 := Lib.hid w3p; have HB3 := Lib.hid (HB2.out.trans (b3.mono HB2.out.size)); clear b3 w3p)
  have HL3 := Lib.hid (Lp.mk (W := W) (R := R) (n₁ := n₁) HPF3.out.tk HPF3.out.bx HPF3.out.rb HS3.out hgP ((Kept.of_below HB3.out).none _) (keeps_below HB3.out))
  go_loopw [35] (fun i wr => ∃ j : Nat, j ≤ N ∧ i = .int .i64 j ∧ ∃ g cp, Lp W wr Ba R n₁ l (N : Int) (D : Int) (grow b D j) g cp) (fun i _ => N - (intOf i).toNat)
  case atStart => exact ⟨0, Nat.zero_le _, rfl, g, cp, HL3.out⟩
  case round =>
    clear w30 w31 w32 w3a w3af HB0 HPF HM HZ HI HB1 HPF1 HB2 HPF2 HB3 HPF3 HL3 HKs HPFs HS3 x1 x2 x3 x4 hk1 e3 e4 e2 e2' hn hd hah hBh hBh2 hBh3
    obtain ⟨j, hj, rfl, g1, cp1, hL⟩ := hrel
    have hgl := grow_length b D j
    rw [hm] at hgl
    obtain ⟨M, hM⟩ : ∃ M, m + j = M := ⟨_, rfl⟩
    rw [hM] at hgl
    have wa := one_cell hL.bx
    have waf := one_free hL.bx
    rw [hgl] at wa
    have wd := hL.tk.at2
    have wn := hL.tk.at1
    by_cases hlt : j < N
    · obtain ⟨u, hu⟩ : ∃ u, M - D = u := ⟨_, rfl⟩
      have hM8 : M ≤ 100000000 := by omega
      have y1 : IntKind.i64.wrap ((M : Int) - (D : Int)) = (u : Int) := by rw [IntWalk.i64_in _ ⟨by omega, by omega⟩]; omega
      have y2 : IntKind.i64.wrap (u : Int) = (u : Int) := by rw [IntWalk.i64_in _ ⟨by omega, by omega⟩]
      have hu2 : u < M := by omega
      have hgx : (grow b D j)[u]? = some ((grow b D j).getD u 0) := by rw [List.getD, List.getElem?_eq_getElem (by omega)]; rfl
      have hstep : grow b D (j + 1) = grow b D j ++ [(grow b D j).getD u 0] := by
        show grow b D j ++ [(grow b D j).getD ((grow b D j).length - D) 0] = _
        rw [hgl, hu]
      have wx := hL.rb.byte u _ hgx
      obtain ⟨x, hx⟩ : ∃ x, (grow b D j).getD u 0 = x := ⟨_, rfl⟩
      rw [hx] at wx hstep
      obtain ⟨xv, hxv⟩ : ∃ xv : Int, ((x.toNat : Nat) : Int) = xv := ⟨_, rfl⟩
      rw [hxv] at wx
      have hxb : 0 ≤ xv ∧ xv ≤ 255 := by have := x.toNat_lt; omega
      have hback : UInt8.ofNat xv.toNat = x := by rw [← hxv]; exact byte_back x
      have wab : ∀ o : Obj, (wr.alloc o).cell? ⟨Ba, 0, none⟩ = some (.slice (some ⟨g1, 0, none⟩) M cp1) := fun o => by have := one_cell (old_at o hL.bx); rw [hgl] at this; exact this
      have HL := Lib.hid hL
      have HX := Lib.hid hback
      have HG := Lib.hid hgl
      have HST := Lib.hid hstep
      clear hL hback hgl hstep hx hxv hgx hM hu
      go_wp2_with fail
      go_region_law (refine step_app1 rfl (.tmp 37) (.tmp 46) rfl g1 M cp1 (grow b D j) (by simp [Act.eval]) (HL.out.rb.drew.alloc _) HG.out ⟨wr.heap.size, 0, none⟩ 1 xv (by simp [Act.eval]) (by simp) hxb hM8 ?_; intro g' cp' w4 r2 gr o4; have HL4 := Lib.hid (HL.out.next hn1 hBa hRB (((Kept.refl NoB wr).drew).alloc _) ((KeepsOthers.drew wr).trans (KeepsOthers.alloc _ _)) gr r2 o4); have w4b := (gr.block Ba (by have hx9 := (Array.getElem?_eq_some_iff.1 HL.out.bx).1; simp; omega) (by intro e; injection e with e; rcases HL.out.hg with e' | e' <;> omega)).trans ((Below.heap_alloc _ _ _ (Array.getElem?_eq_some_iff.1 HL.out.bx).1).trans HL.out.bx); have w4a := one_cell w4b; have w4af := one_free w4b; clear w4b r2 gr o4)
      all_goals
        clear wab wx
        have HL5 : Hid (Lp W (w4.setCell ⟨Ba, 0, none⟩ (.slice (some ⟨g', 0, none⟩) (M + 1) cp')) Ba R n₁ l (N : Int) (D : Int) (grow b D (j + 1)) g' cp') := Lib.hid (by
          have := HL4.out
          rw [List.length_append, HG.out, HX.out] at this
          rw [HST.out]
          exact this)
        clear HL4
        go_wp2_with fail
        go_roundw
        case rel => exact ⟨j + 1, by omega, by go_num, g', cp', HL5.out⟩
        case measure => simp [intOf]; omega
    · obtain rfl : j = N := by omega
      have HL := Lib.hid hL
      clear hL hgl hM
      go_wp2_with fail
      go_ret
      exact ⟨rfl, HL.out.put⟩

end Go.Proofs.Ytglakcdkpeabmaa
