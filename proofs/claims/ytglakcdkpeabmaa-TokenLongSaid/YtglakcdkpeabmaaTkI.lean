/- What Text of package token answers. Conditions: as each theorem names them. -/
import Derived.Test.YtglakcdkpeabmaaTkH
import Derived.Test.YtglakcdkpeabmaaTkJ
import Derived.Laws.EntriesVeiled
namespace Go.Proofs.Ytglakcdkpeabmaa
open Go Go.RowKit M
set_option linter.unusedVariables false
set_option linter.unusedSimpArgs false
attribute [local go_sem] Oper.semAt_some

/-- where the text under way stands, behind the tokens that have come -/
structure Uq (q : Nat) (D : List UInt8) (pre : List Tk) (b : List UInt8) : Prop where
  all : ∀ rest, run q D (pre ++ rest) = run q b rest
  lo : q ≤ b.length
  hi : b.length - q ≤ 1048576
theorem Uq.next {q : Nat} {D : List UInt8} {pre : List Tk} {b : List UInt8} {t : Tk} (h : Uq q D pre b) (hs : (M.step q b t).1 = 0) : Uq q D (pre ++ [t]) (M.step q b t).2 := by
  obtain ⟨h1, h2⟩ := step_len hs
  have hlo := h.lo
  refine ⟨fun rest => ?_, by omega, by omega⟩
  rw [List.append_assoc, h.all]
  exact run_go hs
/-- .. where it has ended -/
def Us (q : Nat) (D : List UInt8) (pre : List Tk) (e : Int) : Prop := e ≠ 0 ∧ ∀ rest, run q D (pre ++ rest) = (e, [])
theorem Uq.stop {q : Nat} {D : List UInt8} {pre : List Tk} {b : List UInt8} {t : Tk} (h : Uq q D pre b) (hs : (M.step q b t).1 ≠ 0) : Us q D (pre ++ [t]) (M.step q b t).1 :=
  ⟨hs, fun rest => by rw [List.append_assoc, h.all]; exact run_no hs⟩
theorem Uq.txt {q : Nat} {D : List UInt8} {L : List Tk} {b : List UInt8} (h : Uq q D L b) (hq : q = D.length) : txt D L = (b.drop q, 0) := by
  have h1 := h.all []
  rw [List.append_nil] at h1
  have h2 : run q b [] = (0, b) := rfl
  rw [h2] at h1
  rw [txt_ok (by rw [← hq, h1]), ← hq, h1]
theorem Us.txt {q : Nat} {D : List UInt8} {L : List Tk} {e : Int} {j : Nat} (h : Us q D (L.take j) e) (hq : q = D.length) : txt D L = ([], e) := by
  have h1 := h.2 (L.drop j)
  rw [List.take_append_drop] at h1
  rw [txt_no (by rw [← hq, h1]; exact h.1), ← hq, h1]

/-- what Text's loop holds between two rounds -/
def MidT (w8 : World) (B R n₁ q : Nat) (D : List UInt8) (T : Nat → Tk) (n : Nat) (pre : List (Ix n)) (W : World) : Prop :=
  (∃ b, St W B R n₁ b ∧ Uq q D (toks T pre) b) ∧ Kept (Sx R B n₁) w8 W
/-- .. where it has been left -/
def OutT (w : World) (n₁ q : Nat) (D : List UInt8) (T : Nat → Tk) (n : Nat) (c : Code) (pre : List (Ix n)) (W : World) : Prop :=
  c = .ret ∧ ∃ e, Us q D (toks T pre) e ∧ W.heap[w.heap.size]? = some (.cells #[.string ⟨#[]⟩] 9 (0, 0)) ∧ W.heap[w.heap.size + 1]? = some (.cells #[.int .i64 e] 28 (0, 0)) ∧ Below w.heap.size w W
theorem cells_apart {W W' : World} {row : Option Nat} {n₁ g : Nat} (hg : W.grownBy W' row) (hr : ∀ r, row = some r → n₁ ≤ r ∧ ∃ o : Obj, W.heap[r]? = some o ∧ o.isCells = false) (hl : g < W.heap.size) (hc : ∀ o : Obj, W.heap[g]? = some o → o.isCells = true) : W'.heap[g]? = W.heap[g]? :=
  hg.block g hl fun e => by
    obtain ⟨_, o, ho, hf⟩ := hr g e.symm
    have := hc o ho
    rw [hf] at this; cases this
theorem cells_of {W : World} {g : Nat} {cs : Array Value} {t : TypeId} {fz : Nat × Nat} (h : W.heap[g]? = some (.cells cs t fz)) : g < W.heap.size ∧ ∀ o : Obj, W.heap[g]? = some o → o.isCells = true :=
  ⟨(Array.getElem?_eq_some_iff.1 h).1, fun o ho => by rw [h] at ho; cases ho; rfl⟩
theorem MidT.own {w8 : World} {B R n₁ q : Nat} {D : List UInt8} {T : Nat → Tk} {n : Nat} : OwnFrom n₁ (MidT w8 B R n₁ q D T n) := fun pre W W' row hs hg hr => by
  obtain ⟨⟨b, ⟨g, cp, h1, h2, h3⟩, h4⟩, h5⟩ := hs
  have e1 := cells_apart hg hr (cells_of h1).1 (cells_of h1).2
  have e2 := cells_apart hg hr h2.lt h2.obj
  exact ⟨⟨b, ⟨g, cp, e1.trans h1, h2.of_block e2, h3⟩, h4⟩, h5.grown hg (fun r e => .inl (.inr (.inr (hr r e).1)))⟩
theorem OutT.own {w : World} {n₁ q : Nat} {D : List UInt8} {T : Nat → Tk} {n : Nat} (h0 : w.heap.size ≤ n₁) (c : Code) : OwnFrom n₁ (OutT w n₁ q D T n c) := fun pre W W' row hs hg hr => by
  obtain ⟨h1, e, h2, h3, h4, h5⟩ := hs
  exact ⟨h1, e, h2, (cells_apart hg hr (cells_of h3).1 (cells_of h3).2).trans h3, (cells_apart hg hr (cells_of h4).1 (cells_of h4).2).trans h4, h5.grown hg h5.size (fun r e => by have := (hr r e).1; omega)⟩

set_option maxRecDepth 1000000 in
set_option maxHeartbeats 2000000 in
theorem text_any (s : ByteArray) (A : Option Addr) (n c : Nat) (L : List Tk) (w : World) (h : IsTks w A n L) (hn : n ≤ 1000000) (hs : s.size ≤ 100000000) :
    Calls Try.prog 10 #[.string s, .slice A n c] w fun e w' => e = .returned (.tuple #[.string ⟨(txt s.data.toList L).1.toArray⟩, .int .i64 (txt s.data.toList L).2]) ∧ Below w.heap.size w w' := by
  have hl := h.leng
  obtain ⟨X, Y, hXY⟩ : ∃ X Y, txt s.data.toList L = (X, Y) := ⟨_, _, rfl⟩
  have HXY := Lib.hid hXY
  rw [hXY]
  clear hXY
  obtain ⟨q, hq⟩ : ∃ q, s.size = q := ⟨_, rfl⟩
  have hq1 : (s.size : Int) = (q : Int) := by rw [hq]
  obtain ⟨k, hk⟩ : ∃ k, q - 32768 = k := ⟨_, rfl⟩
  obtain ⟨z, hz⟩ : ∃ z : Int, (q : Int) - 32768 = z := ⟨_, rfl⟩
  have x1 : (if (0 : Int) < z then z else 0) = (k : Int) := by
    split <;> omega
  have hkq : k ≤ q := by omega
  rw [hq] at hs
  have HQ := Lib.hid hq
  have HK := Lib.hid hk
  clear hq hk
  refine (callsIn_wide (n := 6)).1 ?_
  refine callsIn_of_wp_marks Try.func10 rfl trivial ?_ rfl
  simp only [Try.ntmps10, List.size_toArray, List.length_cons, List.length_nil, Nat.reduceAdd, Nat.reduceSub, Array.replicate_succ, Array.replicate_zero, List.push_toArray, List.append_toArray, List.nil_append, List.cons_append]
  obtain ⟨ah, hah⟩ : ∃ ah, s.extract k s.size = ah := ⟨_, rfl⟩
  have HAH := Lib.hid hah
  gi_wp2
  have hz3 : (((w.alloc (.cells #[.string ⟨#[]⟩] 9)).alloc (.cells #[.int .i64 0] 28)).alloc (.cells #[.string ah] 9)).heap.size = w.heap.size + 3 := by simp
  have hb3 : Below w.heap.size w (((w.alloc (.cells #[.string ⟨#[]⟩] 9)).alloc (.cells #[.int .i64 0] 28)).alloc (.cells #[.string ah] 9)) := (((Below.refl _ w).alloc (Nat.le_refl _) _).alloc (by simp) _).alloc (by simp; omega) _
  have k0 : (((w.alloc (.cells #[.string ⟨#[]⟩] 9)).alloc (.cells #[.int .i64 0] 28)).alloc (.cells #[.string ah] 9)).heap[w.heap.size]? = some (.cells #[.string ⟨#[]⟩] 9 (0, 0)) := old_at _ (old_at _ (new_at _ _))
  have k1 : (((w.alloc (.cells #[.string ⟨#[]⟩] 9)).alloc (.cells #[.int .i64 0] 28)).alloc (.cells #[.string ah] 9)).heap[w.heap.size + 1]? = some (.cells #[.int .i64 0] 28 (0, 0)) := by
    have := new_at (w.alloc (.cells #[.string ⟨#[]⟩] 9)) (.cells #[.int .i64 0] 28)
    rw [World.size_alloc] at this
    exact old_at _ this
  have k2 : (((w.alloc (.cells #[.string ⟨#[]⟩] 9)).alloc (.cells #[.int .i64 0] 28)).alloc (.cells #[.string ah] 9)).heap[w.heap.size + 1 + 1]? = some (.cells #[.string ah] 9 (0, 0)) := by
    have := new_at ((w.alloc (.cells #[.string ⟨#[]⟩] 9)).alloc (.cells #[.int .i64 0] 28)) (.cells #[.string ah] 9)
    rw [World.size_alloc, World.size_alloc] at this
    exact this
  obtain ⟨W3, hW3⟩ : ∃ W3, ((w.alloc (.cells #[.string ⟨#[]⟩] 9)).alloc (.cells #[.int .i64 0] 28)).alloc (.cells #[.string ah] 9) = W3 := ⟨_, rfl⟩
  rw [hW3] at hz3 hb3 k0 k1 k2 ⊢
  have hahs : ah.size = q - k := by rw [← hah, ByteArray.size_extract, HQ.out]; omega
  obtain ⟨cp, W4, hconv, hrb, hbl4, hz4⟩ := run_bytes W3 ah (by omega)
  rw [hconv]
  obtain ⟨m0, hm0⟩ : ∃ m0, q - k = m0 := ⟨_, rfl⟩
  have hm32 : m0 ≤ 32768 := by have := HK.out; omega
  rw [hm0] at hahs
  rw [hahs]
  clear hconv hW3 hah
  gi_wp2_with (refine ⟨trivial, ?_⟩; gi_at_call 20; refine (callsIn_wide.2 (vals_any _ _ _ _)).mono ?_; rintro e w' ⟨rfl, rfl⟩)
  have hn5 : W4.heap.size = w.heap.size + 3 + 1 := by omega
  obtain ⟨w8, hw8⟩ : ∃ w8, ((W4.alloc (.cells #[.slice (some ⟨w.heap.size + 3, 0, none⟩) m0 cp] 37)).alloc (.cells #[.func (.func 18) #[] #[.pointer (some ⟨w.heap.size + 3 + 1, 0, none⟩), .pointer (some ⟨w.heap.size + 1 + 1, 0, none⟩)]] 39)).alloc (.cells #[.slice A n c] 22) = w8 := ⟨_, rfl⟩
  have hz8 : w8.heap.size = w.heap.size + 3 + 1 + 1 + 1 + 1 := by rw [← hw8]; simp; omega
  have hb48 : Below W4.heap.size W4 w8 := by
    rw [← hw8]
    exact (((Below.refl _ W4).alloc (Nat.le_refl _) _).alloc (by simp) _).alloc (by simp; omega) _
  have hb38 : Below W3.heap.size W3 w8 := hbl4.trans (hb48.mono hbl4.size)
  have j0 := (hb38.block w.heap.size (by omega)).trans k0
  have j1 := (hb38.block (w.heap.size + 1) (by omega)).trans k1
  have j2 := (hb38.block (w.heap.size + 1 + 1) (by omega)).trans k2
  have jB : w8.heap[w.heap.size + 3 + 1]? = some (.cells #[.slice (some ⟨w.heap.size + 3, 0, none⟩) m0 cp] 37 (0, 0)) := by
    rw [← hw8, ← hn5]
    exact old_at _ (old_at _ (new_at _ _))
  have jP : w8.heap[w.heap.size + 3 + 1 + 1]? = some (.cells #[.func (.func 18) #[] #[.pointer (some ⟨w.heap.size + 3 + 1, 0, none⟩), .pointer (some ⟨w.heap.size + 1 + 1, 0, none⟩)]] 39 (0, 0)) := by
    rw [← hw8]
    have := new_at (W4.alloc (.cells #[.slice (some ⟨w.heap.size + 3, 0, none⟩) m0 cp] 37)) (.cells #[.func (.func 18) #[] #[.pointer (some ⟨w.heap.size + 3 + 1, 0, none⟩), .pointer (some ⟨w.heap.size + 1 + 1, 0, none⟩)]] 39)
    rw [World.size_alloc, hn5] at this
    exact old_at _ this
  have jV : w8.heap[w.heap.size + 3 + 1 + 1 + 1]? = some (.cells #[.slice A n c] 22 (0, 0)) := by
    rw [← hw8]
    have := new_at ((W4.alloc (.cells #[.slice (some ⟨w.heap.size + 3, 0, none⟩) m0 cp] 37)).alloc (.cells #[.func (.func 18) #[] #[.pointer (some ⟨w.heap.size + 3 + 1, 0, none⟩), .pointer (some ⟨w.heap.size + 1 + 1, 0, none⟩)]] 39)) (.cells #[.slice A n c] 22)
    rw [World.size_alloc, World.size_alloc, hn5] at this
    exact this
  rw [hz3] at hrb
  have hrb8 : Rb w8 (w.heap.size + 3) cp ah.data.toList := hrb.of_block (hb48.block _ (by omega))
  have hb8 : Below w.heap.size w w8 := hb3.trans (hb38.mono hb3.size)
  rw [hw8]
  obtain ⟨T, hT⟩ : ∃ T : Nat → Tk, (fun i => L.getD i default) = T := ⟨_, rfl⟩
  have hTk := fun (j : Nat) (pre : List (Ix n)) (hj : j ≤ n) (hp : pre.map (·.1) = List.range j) => toks_take hl hj hp
  rw [hT] at hTk
  have HTk := Lib.hid hTk
  have HLn := Lib.hid (show L.take n = L from List.take_of_length_le (by omega))
  have HGd := Lib.hid (show ∀ x : Ix n, (T x.1).ok from fun x => by
    rw [← hT]
    exact h.good _ (by
      show L.getD x.1 default ∈ L
      rw [List.getD, List.getElem?_eq_getElem (by rw [hl]; exact x.2)]; exact List.getElem_mem _))
  have hA : 0 < n → ∃ b o, A = some ⟨b, o, none⟩ ∧ b < w8.heap.size ∧ b ≠ w.heap.size + 3 ∧ b ≠ w.heap.size + 3 + 1 ∧ ∀ i, i < n → w8.cell? ⟨b, o + i * 3, none⟩ = some (.int .u8 (T i).l) ∧ w8.cell? ⟨b, o + i * 3 + 1, none⟩ = some (.int .i64 (T i).n) ∧ w8.cell? ⟨b, o + i * 3 + 2, none⟩ = some (.int .i64 (T i).d) := fun hp => by
    obtain ⟨b, o, e1, e2, e3⟩ := h.at hp
    refine ⟨b, o, e1, by omega, by omega, by omega, fun i hi => ?_⟩
    rw [← hT]
    exact ⟨(hb8.cell (p := ⟨b, o + i * 3, none⟩) e2).trans (e3 i hi).1, (hb8.cell (p := ⟨b, o + i * 3 + 1, none⟩) e2).trans (e3 i hi).2.1, (hb8.cell (p := ⟨b, o + i * 3 + 2, none⟩) e2).trans (e3 i hi).2.2⟩
  have HD := Lib.hid (show txt s.data.toList L = txt ah.data.toList L from by
    have e : ah.data.toList = s.data.toList.drop k := by
      rw [← HAH.out, HQ.out]
      rw [ByteArray.data_extract, Array.toList_extract, List.extract_eq_take_drop, List.take_of_length_le (by rw [List.length_drop, Array.length_toList]; have := HQ.out; have h9 : s.data.size = s.size := rfl; omega)]
    rw [e]
    exact (txt_cut _ L k (by rw [Array.length_toList]; have := HQ.out; have h9 : s.data.size = s.size := rfl; have := HK.out; omega)).symm)
  have hal : ah.data.toList.length = m0 := by rw [Array.length_toList]; exact hahs
  have HQ0 := Lib.hid (show m0 = ah.data.toList.length from hal.symm)
  have hst0 : St w8 (w.heap.size + 3 + 1) (w.heap.size + 3) w8.heap.size ah.data.toList := ⟨_, cp, by rw [hal]; exact jB, hrb8, .inl rfl⟩
  have HB8 := Lib.hid hb8
  have HZ8 := Lib.hid hz8
  have hlt8 : w.heap.size + 3 + 1 + 1 + 1 < w8.heap.size := by omega
  have HFd := Lib.hid (show ∀ W, Kept (Sx (w.heap.size + 3) (w.heap.size + 3 + 1) w8.heap.size) w8 W → Below w.heap.size w W from fun W hk =>
    HB8.out.trans (hk.below (by omega) (fun j hj => by rcases hj with hj | hj | hj <;> omega)))
  have HNS := Lib.hid (show ∀ j, j < w8.heap.size → j ≠ w.heap.size + 3 → j ≠ w.heap.size + 3 + 1 → ¬ Sx (w.heap.size + 3) (w.heap.size + 3 + 1) w8.heap.size j from fun j h1 h2 h3 => sx_no h1 h2 h3)
  have J0 := Lib.hid j0
  have J1 := Lib.hid j1
  have J2 := Lib.hid j2
  have JP := Lib.hid jP
  have hvb := one_cell jV
  have HAs := Lib.hid hahs
  have HXD := Lib.hid (show txt ah.data.toList L = (X, Y) from by rw [← HD.out]; exact HXY.out)
  clear HXY
  clear hz8 hb48 hb38 hb8 hrb8 hrb hz3 hz4 hn5 hw8 hT hTk h hl hb3 k0 k1 k2 j0 j1 j2 jB jP jV hbl4 x1 hz hq1 hkq hm0 hs hal
  refine wpIn_rangeFunc_ownH rfl (by omega) (gf := 22) (lb := #[.pointer (some ⟨w.heap.size + 3 + 1 + 1 + 1, 0, none⟩)]) rfl trivial (enters_of Try.func22 (by kernel_rfl) rfl)
    (vals_stops 5 (w.heap.size + 3 + 1 + 1 + 1) (w.heap.size + 3) (w.heap.size + 3 + 1) w8.heap.size n c A T (by omega) (by omega) w8 (Nat.le_refl _) (by omega) (by omega) (by omega) hvb hA)
    (fun h k => keptSx_t h k) (fun W l o o' hl h _ _ => keptSx_b W l o o' hl h) (Below.refl _ _) (fun _ => rfl)
    (MidT w8 (w.heap.size + 3 + 1) (w.heap.size + 3) w8.heap.size m0 ah.data.toList T n) (OutT w w8.heap.size m0 ah.data.toList T n) MidT.own (OutT.own (by omega))
    ⟨⟨_, hst0, fun rest => rfl, by rw [← HQ0.out]; exact Nat.le_refl _, by rw [← HQ0.out]; omega⟩, Kept.refl _ _⟩
    (AxS w8.heap.size T (fun x Bx => { tmps := #[.string s, .slice A n c, undef, undef, .pointer (some ⟨w.heap.size, 0, none⟩), .pointer (some ⟨w.heap.size + 1, 0, none⟩), .pointer (some ⟨w.heap.size + 1 + 1, 0, none⟩), .pointer (some ⟨w.heap.size + 3 + 1, 0, none⟩), .pointer (some ⟨w.heap.size + 3 + 1 + 1, 0, none⟩), .pointer (some ⟨Bx, 0, none⟩), undef, .string s, .string s, .int .i64 q, .int .i64 z, .int .i64 k, .string ah, .string ah, .slice (some ⟨w.heap.size + 3, 0, none⟩) m0 cp, .func (.func 18) #[] #[.pointer (some ⟨w.heap.size + 3 + 1, 0, none⟩), .pointer (some ⟨w.heap.size + 1 + 1, 0, none⟩)], .slice A n c, .func (.func 22) #[] #[.pointer (some ⟨w.heap.size + 3 + 1 + 1 + 1, 0, none⟩)], .agg #[.int .u8 (T x.1).l, .int .i64 (T x.1).n, .int .i64 (T x.1).d], undef, undef, undef, undef, undef, undef, undef, undef, undef, undef, undef], defers := [] }))
    (fun x a' => AxS.own)
    ?assign ?body ?done ?stop
  case assign =>
    rintro l pre x W K ⟨hm1, hm2⟩ hK
    unfold enc1
    have HKK := Lib.hid hK
    clear hK hA
    obtain ⟨t, ht⟩ : ∃ t, T x.1 = t := ⟨_, rfl⟩
    have HT := Lib.hid ht
    rw [ht]
    clear ht
    obtain ⟨tl, tn, td⟩ := t
    have H1 := Lib.hid hm1
    have H2 := Lib.hid hm2
    clear hm1 hm2 hst0 hvb
    gi_wp2
    exact HKK.out _ _ ((KeepsOthers.alloc _ _).from _) ((Kept.refl _ _).alloc _) ⟨H1.out.imp fun b hb => ⟨hb.1.kept ((Below.refl _ _).alloc (Nat.le_refl _) _), hb.2⟩, H2.out.alloc _⟩ ⟨W.heap.size, H2.out.size, by rw [HT.out]; exact R3.new _ _ _ _ _, by dsimp only; rw [HT.out]⟩
  case body =>
    rintro l' pre x a' W hl' ⟨r, hr⟩ ⟨⟨b, hst, hU⟩, hk⟩ ⟨Bx, hBx, hR, rfl⟩ hlt
    have hok := HGd.out x
    have hsn := toks_snoc T pre x
    obtain ⟨t, ht⟩ : ∃ t, T x.1 = t := ⟨_, rfl⟩
    dsimp only
    rw [ht] at hR hok hsn ⊢
    have hhi := hU.hi
    have hlo := hU.lo
    have hP := put_any t.l t.n t.d b ah (w.heap.size + 3 + 1) (w.heap.size + 1 + 1) (w.heap.size + 3) w8.heap.size W hok.l hok.n hok.d (by omega) (by rw [HAs.out]; exact hlo) (by omega) (by omega) (by omega) hk.size (by omega) (by omega) (by omega) ((hk.block (w.heap.size + 1 + 1) (by omega) (HNS.out _ (by omega) (by omega) (by omega))).trans J2.out) hst
    rw [HAs.out] at hP
    have hUn := hU.next (t := t)
    have hUs := hU.stop (t := t)
    rw [← hsn] at hUn hUs
    obtain ⟨e, he⟩ : ∃ e, (M.step m0 b t).1 = e := ⟨_, rfl⟩
    obtain ⟨b', hb'⟩ : ∃ b', (M.step m0 b t).2 = b' := ⟨_, rfl⟩
    rw [he] at hP hUn hUs
    rw [hb'] at hP hUn
    obtain ⟨tl, tn, td⟩ := t
    simp only at hR hP ⊢
    have c0 := hR.at0
    have c1 := hR.at1
    have c2 := hR.at2
    have p0 := one_cell ((hk.block (w.heap.size + 3 + 1 + 1) (by omega) (HNS.out _ (by omega) (by omega) (by omega))).trans JP.out)
    have HP := Lib.hid hP
    have HK2 := Lib.hid hk
    have HUn := Lib.hid hUn
    have HUs := Lib.hid hUs
    have HX := Lib.hid (show ∀ W', Kept (Sx (w.heap.size + 3) (w.heap.size + 3 + 1) w8.heap.size) W W' → W'.heap[w.heap.size]? = some (.cells #[.string ⟨#[]⟩] 9 (0, 0)) ∧ W'.heap[w.heap.size + 1]? = some (.cells #[.int .i64 0] 28 (0, 0)) from fun W' h1 => by
      have h2 := keptSx_t hk h1
      exact ⟨(h2.block (w.heap.size) (by omega) (HNS.out _ (by omega) (by omega) (by omega))).trans J0.out, (h2.block (w.heap.size + 1) (by omega) (HNS.out _ (by omega) (by omega) (by omega))).trans J1.out⟩)
    clear hst hU hk hR hP hUn hUs he hb' hsn hok hst0 hvb hA hr ht
    by_cases hez : e = 0
    · have hb0 : (e != 0) = false := by rw [bne_eq_false_iff_eq]; exact hez
      have HE := Lib.hid hez
      clear hez
      gi_wp2_with (refine ⟨trivial, ?_⟩; gi_at_call 18; refine (CallsIn.inRound l' (callsIn_wide.2 HP.out)).mono ?_; rintro e' w' ⟨rfl, hko, hkp, hst'⟩)
      exact ⟨hko.from _, hkp, ⟨⟨b', hst', HUn.out HE.out⟩, keptSx_t HK2.out hkp⟩⟩
    · have hb0 : (e != 0) = true := by rw [bne_iff_ne]; exact hez
      have HE := Lib.hid hez
      clear hez
      gi_wp2_with (refine ⟨trivial, ?_⟩; gi_at_call 18; refine (CallsIn.inRound l' (callsIn_wide.2 HP.out)).mono ?_; rintro e' w' ⟨rfl, hko, hkp, hst'⟩; have hx := HX.out w' hkp; have r0 := one_cell hx.1; have r0f := one_free hx.1; have r1 := one_cell hx.2; have r1f := one_free hx.2; have HXX := Lib.hid hx; have HKO := Lib.hid hko; have HKP := Lib.hid hkp; clear hx hko hkp hst')
      exact ⟨((HKO.out.trans (KeepsOthers.setCell _ _ _)).trans (KeepsOthers.setCell _ _ _)).from _, rfl, e, HUs.out HE.out, (Below.heap_setCell _ _ _ _ (by show w.heap.size ≠ w.heap.size + 1; omega)).trans (one_set HXX.out.1 _), one_set ((Below.heap_setCell _ _ _ _ (by show w.heap.size + 1 ≠ w.heap.size; omega)).trans HXX.out.2) _, ((HFd.out _ (keptSx_t HK2.out HKP.out)).setCell (p := ⟨w.heap.size, 0, none⟩) (Nat.le_refl _) _).setCell (p := ⟨w.heap.size + 1, 0, none⟩) (by simp) _⟩
  case done =>
    rintro D ys W hD hS ⟨⟨b, ⟨g, cp', h1, h2, h3⟩, hU⟩, hk⟩ hK
    have hys : toks T ys = L := by rw [HTk.out n ys (Nat.le_refl _) hS, HLn.out]
    rw [hys] at hU
    have ht := hU.txt HQ0.out
    rw [HXD.out] at ht
    obtain ⟨rfl, rfl⟩ : X = b.drop m0 ∧ Y = 0 := by injection ht with a b; exact ⟨a, b⟩
    obtain ⟨m, hm⟩ : ∃ m, b.length = m := ⟨_, rfl⟩
    rw [hm] at h1
    have hlo := hU.lo
    rw [hm] at hlo
    have hnc := h2.nc
    rw [hm] at hnc
    have ba := one_cell h1
    have bh := one_cell ((hk.block (w.heap.size + 1 + 1) (by omega) (HNS.out _ (by omega) (by omega) (by omega))).trans J2.out)
    have i0 := (hk.block w.heap.size (by omega) (HNS.out _ (by omega) (by omega) (by omega))).trans J0.out
    have i1 := (hk.block (w.heap.size + 1) (by omega) (HNS.out _ (by omega) (by omega) (by omega))).trans J1.out
    have r0 := one_cell i0
    have r0f := one_free i0
    have r1 := one_cell i1
    have r1f := one_free i1
    have hk1 : (ah.size : Int) = (m0 : Int) := by rw [HAs.out]
    have HHK := Lib.hid hK
    have HI0 := Lib.hid i0
    have HI1 := Lib.hid i1
    have HB := Lib.hid (HFd.out W hk)
    have hfin : ∀ v, (convert 37 9 v).run Try.prog W = .ok (.string ⟨(b.drop m0).toArray⟩) W → True := fun _ _ => trivial
    clear hfin hst0 hA hvb ht hU hys hS hK i0 i1
    by_cases hcq : cp' = m0
    · obtain rfl : m = m0 := by omega
      obtain rfl : m = cp' := hcq.symm
      have hc := conv_rb h2 m m hm (Nat.le_refl _) ⟨g, 0, none⟩ (c := 0) (fun e => absurd e (by omega))
      rw [Nat.sub_self] at hc
      clear h1 h2 h3 hk hnc hlo hcq
      gi_wp2
      have hK' := (((KeepsOthers.setCell W ⟨w.heap.size, 0, none⟩ (.string ⟨(b.drop m).toArray⟩)).trans (KeepsOthers.setCell _ ⟨w.heap.size + 1, 0, none⟩ (.int .i64 0)))).same D _ HHK.out rfl
      refine ⟨by simp, .inl ⟨_, _, rfl, run_takeDeferred hK', ?_⟩⟩
      have g0 := (Below.heap_setCell (W.setCell ⟨w.heap.size, 0, none⟩ (.string ⟨(b.drop m).toArray⟩)) ⟨w.heap.size + 1, 0, none⟩ (.int .i64 0) w.heap.size (by show w.heap.size ≠ w.heap.size + 1; omega)).trans (one_set HI0.out (.string ⟨(b.drop m).toArray⟩))
      have g1 := one_set ((Below.heap_setCell W ⟨w.heap.size, 0, none⟩ (.string ⟨(b.drop m).toArray⟩) (w.heap.size + 1) (by show w.heap.size + 1 ≠ w.heap.size; omega)).trans HI1.out) (.int .i64 0)
      have hc5 := cell_kept (one_cell g0) (grownBy_putObj' _ D (.deferred none)) (fun r e => by cases e; exact ⟨_, hK', rfl⟩)
      have hc6 := cell_kept (one_cell g1) (grownBy_putObj' _ D (.deferred none)) (fun r e => by cases e; exact ⟨_, hK', rfl⟩)
      refine ⟨.tuple #[.string ⟨(b.drop m).toArray⟩, .int .i64 0], ?_, rfl, ((HB.out.setCell (p := ⟨w.heap.size, 0, none⟩) (Nat.le_refl _) _).setCell (p := ⟨w.heap.size + 1, 0, none⟩) (by simp) _).trans (belowK_b (w := w) (Nat.le_refl _) _ D _ _ (by omega) hK' rfl rfl)⟩
      simp [results, Try.f10, go_sem, hc5, hc6]
    · have hc := conv_rb h2 m0 m hm hlo ⟨g, m0, none⟩ (c := cp' - m0) (fun e => rfl)
      have hcq' : ¬ m0 = cp' := fun e => hcq e.symm
      clear h1 h2 h3 hk
      gi_wp2
      have hK' := (((KeepsOthers.setCell W ⟨w.heap.size, 0, none⟩ (.string ⟨(b.drop m0).toArray⟩)).trans (KeepsOthers.setCell _ ⟨w.heap.size + 1, 0, none⟩ (.int .i64 0)))).same D _ HHK.out rfl
      refine ⟨by simp, .inl ⟨_, _, rfl, run_takeDeferred hK', ?_⟩⟩
      have g0 := (Below.heap_setCell (W.setCell ⟨w.heap.size, 0, none⟩ (.string ⟨(b.drop m0).toArray⟩)) ⟨w.heap.size + 1, 0, none⟩ (.int .i64 0) w.heap.size (by show w.heap.size ≠ w.heap.size + 1; omega)).trans (one_set HI0.out (.string ⟨(b.drop m0).toArray⟩))
      have g1 := one_set ((Below.heap_setCell W ⟨w.heap.size, 0, none⟩ (.string ⟨(b.drop m0).toArray⟩) (w.heap.size + 1) (by show w.heap.size + 1 ≠ w.heap.size; omega)).trans HI1.out) (.int .i64 0)
      have hc5 := cell_kept (one_cell g0) (grownBy_putObj' _ D (.deferred none)) (fun r e => by cases e; exact ⟨_, hK', rfl⟩)
      have hc6 := cell_kept (one_cell g1) (grownBy_putObj' _ D (.deferred none)) (fun r e => by cases e; exact ⟨_, hK', rfl⟩)
      refine ⟨.tuple #[.string ⟨(b.drop m0).toArray⟩, .int .i64 0], ?_, rfl, ((HB.out.setCell (p := ⟨w.heap.size, 0, none⟩) (Nat.le_refl _) _).setCell (p := ⟨w.heap.size + 1, 0, none⟩) (by simp) _).trans (belowK_b (w := w) (Nat.le_refl _) _ D _ _ (by omega) hK' rfl rfl)⟩
      simp [results, Try.f10, go_sem, hc5, hc6]
  case stop =>
    rintro D c pre W hD ⟨j, hj, hS⟩ ⟨rfl, e, hUs, h0, h1, hb⟩ hK
    rw [HTk.out j pre hj hS] at hUs
    have ht := hUs.txt HQ0.out
    rw [HXD.out] at ht
    obtain ⟨rfl, rfl⟩ : X = [] ∧ Y = e := by injection ht with a b; exact ⟨a, b⟩
    have hc5 := cell_kept (one_cell h0) (grownBy_putObj' _ D (.deferred none)) (fun r e => by cases e; exact ⟨_, hK, rfl⟩)
    have hc6 := cell_kept (one_cell h1) (grownBy_putObj' _ D (.deferred none)) (fun r e => by cases e; exact ⟨_, hK, rfl⟩)
    have HHK := Lib.hid hK
    have HB := Lib.hid hb
    clear hst0 hA hvb ht hUs hS hK hb
    gi_wp2
    have hK' := HHK.out
    refine ⟨by simp, .inl ⟨_, _, rfl, run_takeDeferred hK', ?_⟩⟩
    refine ⟨.tuple #[.string ⟨#[]⟩, .int .i64 Y], ?_, rfl, HB.out.trans (belowK_b (w := w) (Nat.le_refl _) _ D _ _ (by omega) hK' rfl rfl)⟩
    simp [results, Try.f10, go_sem, hc5, hc6]
end Go.Proofs.Ytglakcdkpeabmaa
