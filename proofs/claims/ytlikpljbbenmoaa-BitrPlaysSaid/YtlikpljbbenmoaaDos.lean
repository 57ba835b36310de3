/- What does of the statements of layer 3 answers: both readers answer alike, and stand behind as many bits. Conditions: as each theorem names them. -/
import Derived.Test.YtlikpljbbenmoaaRfS
import Derived.Deep.RegionHeldLaw
import Derived.Deep.RegionHeld3
namespace Go.Proofs.Ytlikpljbbenmoaa
open Go.RowKit M
set_option linter.unusedVariables false
variable {w w' : World} {B pa px a b : Nat} {s : ByteArray}

/-- A reader at pa and the document's at px. -/
structure Bo (w : World) (B pa px : Nat) (s : ByteArray) (a b : Nat) : Prop where
  l : Rd w B pa s a
  r : Xd w B px s b
  ne : pa ≠ px

theorem Bo.same (h : Bo w B pa px s a b) (hk : Kept NoB w w') : Bo w' B pa px s a b := ⟨h.l.same hk, h.r.same hk, h.ne⟩
theorem Bo.got {v : Value} {r : Nat} {e : Ending} (h : Bo w B pa px s a b) (g : Got w B pa s v r e w') : Bo w' B pa px s r b := ⟨g.2.1, h.r.keep g.2.2 (fun e => h.ne e.symm), h.ne⟩
theorem Bo.xot {v : Value} {r : Nat} {e : Ending} (h : Bo w B pa px s a b) (g : Xot w B px s v r e w') : Bo w' B pa px s a r := ⟨h.l.keep g.2.2 h.ne, g.2.1, h.ne⟩
theorem Bo.box (h : Bo w B pa px s a b) (o : Obj) : Bo (w.alloc o) B pa px s a b := h.same ((Kept.refl NoB w).alloc o)
theorem Bo.qa (h : Bo w B pa px s a b) : w.heap.size ≠ pa := by have := h.l.lt; omega
theorem Bo.qx (h : Bo w B pa px s a b) : w.heap.size ≠ px := by have := h.r.lt; omega
theorem Bo.size (h : Bo w B pa px s a b) : B ≤ w.heap.size := by have := h.l.lt; have := h.l.base; omega
theorem Got.cell {v u : Value} {r p q i : Nat} {e : Ending} (g : Got w B p s v r e w') (hq : q ≠ p) (hc : w.cell? ⟨q, i, none⟩ = some u) : w'.cell? ⟨q, i, none⟩ = some u := g.2.2.cell hc hq
theorem Xot.cell {v u : Value} {r p q i : Nat} {e : Ending} (g : Xot w B p s v r e w') (hq : q ≠ p) (hc : w.cell? ⟨q, i, none⟩ = some u) : w'.cell? ⟨q, i, none⟩ = some u := g.2.2.cell hc hq
theorem Got.below {v : Value} {r p : Nat} {e : Ending} (g : Got w B p s v r e w') (hB : B ≤ w.heap.size) (hp : B ≤ p) : Below B w w' := g.2.2.below hB (fun j hj => by subst hj; exact hp)
theorem Xot.below {v : Value} {r p : Nat} {e : Ending} (g : Xot w B p s v r e w') (hB : B ≤ w.heap.size) (hp : B ≤ p) : Below B w w' := g.2.2.below hB (fun j hj => by subst hj; exact hp)

theorem does_3 (w : World) (d n : Int) (h : Bo w B pa px s a a) (hs : s.size ≤ 100000000) (hd : 0 ≤ d ∧ d ≤ 255) (hn : -9223372036854775808 ≤ n ∧ n ≤ 9223372036854775807) (h3 : d % 8 = 3) :
    Calls Try.prog 10 #[.pointer (some ⟨pa, 0, none⟩), .pointer (some ⟨px, 0, none⟩), .agg #[.int .u8 d, .int .i64 n]] w fun e w' => e = .returned (.bool true) ∧ Bo w' B pa px s a a ∧ Below B w w' := by
  have HH := Lib.hid h
  have hqa := h.qa
  have hqx := h.qx
  have d0 := hd.1
  have d1 := hd.2
  have n0 := hn.1
  have n1 := hn.2
  have s3 : (d % 8 == 3) = true := by simp [h3]
  obtain ⟨X, Y, hXY⟩ : ∃ X Y, gpeek s a n = (X, Y) := ⟨_, _, rfl⟩
  have HX := Lib.hid hXY
  clear h hd hn h3 hXY
  go_enter Try.func10, Try.ntmps10
  go_wp2_with fail
  refine (rpeek_any (HH.out.box _).l hs n).mono ?_; intro e w2 g
  rw [HX.out] at g
  have B2 := Lib.hid ((((Kept.refl NoB w).alloc _).below HH.out.size (fun _ g => g.elim)).trans (g.below (by have := HH.out.size; simp; omega) HH.out.l.base))
  have H2 := Lib.hid ((HH.out.box _).got g)
  have e1 := g.cell (q := w.heap.size) (i := 1) hqa (u := .int .i64 n) (by simp)
  obtain ⟨rfl, _, _⟩ := g
  go_wp2_with fail
  refine (xpeek_any H2.out.r hs n).mono ?_; intro e w3 g
  rw [HX.out] at g
  have B3 := Lib.hid (B2.out.trans (g.below H2.out.size HH.out.r.base))
  have H3 := Lib.hid (H2.out.xot g)
  obtain ⟨rfl, _, _⟩ := g
  go_wp2_with fail
  go_ret
  exact ⟨rfl, H3.out, B3.out⟩

theorem does_6 (w : World) (d n : Int) (h : Bo w B pa px s a a) (hs : s.size ≤ 100000000) (hd : 0 ≤ d ∧ d ≤ 255) (hn : -9223372036854775808 ≤ n ∧ n ≤ 9223372036854775807) (h6 : d % 8 = 6) :
    Calls Try.prog 10 #[.pointer (some ⟨pa, 0, none⟩), .pointer (some ⟨px, 0, none⟩), .agg #[.int .u8 d, .int .i64 n]] w fun e w' => e = .returned (.bool true) ∧ Bo w' B pa px s ((gbytes s a n).2.2) ((gbytes s a n).2.2) ∧ Below B w w' := by
  have HH := Lib.hid h
  have hqa := h.qa
  have hqx := h.qx
  have d0 := hd.1
  have d1 := hd.2
  have n0 := hn.1
  have n1 := hn.2
  have s3 : (d % 8 == 3) = false := by simp [h6]
  have s4 : (d % 8 == 4) = false := by simp [h6]
  have s5 : (d % 8 == 5) = false := by simp [h6]
  have s6 : (d % 8 == 6) = true := by simp [h6]
  clear h6
  obtain ⟨X, Y, Z, hXY⟩ : ∃ X Y Z, gbytes s a n = (X, Y, Z) := ⟨_, _, _, rfl⟩
  have HX := Lib.hid hXY
  have HR : Hid (((gbytes s a n).2.2) = Z) := Lib.hid (by rw [hXY])
  clear h hd hn hXY
  go_enter Try.func10, Try.ntmps10
  go_wp2_with fail
  refine (rbytes_any' (HH.out.box _).l hs n).mono ?_; intro e w2 g
  rw [HX.out] at g
  have B2 := Lib.hid ((((Kept.refl NoB w).alloc _).below HH.out.size (fun _ g => g.elim)).trans (g.below (by have := HH.out.size; simp; omega) HH.out.l.base))
  have H2 := Lib.hid ((HH.out.box _).got g)
  have e1 := g.cell (q := w.heap.size) (i := 1) hqa (u := .int .i64 n) (by simp)
  obtain ⟨rfl, _, _⟩ := g
  go_wp2_with fail
  refine (xbytes_any H2.out.r hs n).mono ?_; intro e w3 g
  rw [HX.out] at g
  have B3 := Lib.hid (B2.out.trans (g.below H2.out.size HH.out.r.base))
  have H3 := Lib.hid (H2.out.xot g)
  obtain ⟨rfl, _, _⟩ := g
  go_wp2_with fail
  go_ret
  exact ⟨rfl, by rw [HR.out]; exact H3.out, B3.out⟩

theorem does_7 (w : World) (d n : Int) (h : Bo w B pa px s a a) (hs : s.size ≤ 100000000) (hd : 0 ≤ d ∧ d ≤ 255) (hn : -9223372036854775808 ≤ n ∧ n ≤ 9223372036854775807) (h7 : d % 8 = 7) :
    Calls Try.prog 10 #[.pointer (some ⟨pa, 0, none⟩), .pointer (some ⟨px, 0, none⟩), .agg #[.int .u8 d, .int .i64 n]] w fun e w' => e = .returned (.bool true) ∧ Bo w' B pa px s ((gbytes s a n).2.2) ((gbytes s a n).2.2) ∧ Below B w w' := by
  have HH := Lib.hid h
  have hqa := h.qa
  have hqx := h.qx
  have d0 := hd.1
  have d1 := hd.2
  have n0 := hn.1
  have n1 := hn.2
  have s3 : (d % 8 == 3) = false := by simp [h7]
  have s4 : (d % 8 == 4) = false := by simp [h7]
  have s5 : (d % 8 == 5) = false := by simp [h7]
  have s6 : (d % 8 == 6) = false := by simp [h7]
  have s7 : (d % 8 == 7) = true := by simp [h7]
  clear h7
  obtain ⟨X, Y, Z, hXY⟩ : ∃ X Y Z, gbytes s a n = (X, Y, Z) := ⟨_, _, _, rfl⟩
  have HX := Lib.hid hXY
  have HR : Hid (((gbytes s a n).2.2) = Z) := Lib.hid (by rw [hXY])
  clear h hd hn hXY
  go_enter Try.func10, Try.ntmps10
  go_wp2_with fail
  refine (rbytes_any' (HH.out.box _).l hs n).mono ?_; intro e w2 g
  rw [HX.out] at g
  have B2 := Lib.hid ((((Kept.refl NoB w).alloc _).below HH.out.size (fun _ g => g.elim)).trans (g.below (by have := HH.out.size; simp; omega) HH.out.l.base))
  have H2 := Lib.hid ((HH.out.box _).got g)
  have e1 := g.cell (q := w.heap.size) (i := 1) hqa (u := .int .i64 n) (by simp)
  obtain ⟨rfl, _, _⟩ := g
  go_wp2_with fail
  refine (xbytes_any H2.out.r hs n).mono ?_; intro e w3 g
  rw [HX.out] at g
  have B3 := Lib.hid (B2.out.trans (g.below H2.out.size HH.out.r.base))
  have H3 := Lib.hid (H2.out.xot g)
  obtain ⟨rfl, _, _⟩ := g
  go_wp2_with fail
  go_ret
  exact ⟨rfl, by rw [HR.out]; exact H3.out, B3.out⟩

theorem does_0 (w : World) (d n : Int) (h : Bo w B pa px s a a) (hs : s.size ≤ 100000000) (hd : 0 ≤ d ∧ d ≤ 255) (hn : -9223372036854775808 ≤ n ∧ n ≤ 9223372036854775807) (h3 : d % 8 ≠ 3) (h4 : d % 8 ≠ 4) (h5 : d % 8 ≠ 5) (h6 : d % 8 ≠ 6) (h7 : d % 8 ≠ 7) :
    Calls Try.prog 10 #[.pointer (some ⟨pa, 0, none⟩), .pointer (some ⟨px, 0, none⟩), .agg #[.int .u8 d, .int .i64 n]] w fun e w' => e = .returned (.bool true) ∧ Bo w' B pa px s ((gbits s a n).2.2) ((gbits s a n).2.2) ∧ Below B w w' := by
  have HH := Lib.hid h
  have hqa := h.qa
  have hqx := h.qx
  have d0 := hd.1
  have d1 := hd.2
  have n0 := hn.1
  have n1 := hn.2
  have s3 : (d % 8 == 3) = false := by simp [h3]
  have s4 : (d % 8 == 4) = false := by simp [h4]
  have s5 : (d % 8 == 5) = false := by simp [h5]
  have s6 : (d % 8 == 6) = false := by simp [h6]
  have s7 : (d % 8 == 7) = false := by simp [h7]
  clear h3 h4 h5 h6 h7
  obtain ⟨X, Y, Z, hXY⟩ : ∃ X Y Z, gbits s a n = (X, Y, Z) := ⟨_, _, _, rfl⟩
  have HX := Lib.hid hXY
  have HR : Hid (((gbits s a n).2.2) = Z) := Lib.hid (by rw [hXY])
  clear h hd hn hXY
  go_enter Try.func10, Try.ntmps10
  go_wp2_with fail
  refine (rbits_any (HH.out.box _).l hs n).mono ?_; intro e w2 g
  rw [HX.out] at g
  have B2 := Lib.hid ((((Kept.refl NoB w).alloc _).below HH.out.size (fun _ g => g.elim)).trans (g.below (by have := HH.out.size; simp; omega) HH.out.l.base))
  have H2 := Lib.hid ((HH.out.box _).got g)
  have e1 := g.cell (q := w.heap.size) (i := 1) hqa (u := .int .i64 n) (by simp)
  obtain ⟨rfl, _, _⟩ := g
  go_wp2_with fail
  refine (xbits_any H2.out.r hs n).mono ?_; intro e w3 g
  rw [HX.out] at g
  have B3 := Lib.hid (B2.out.trans (g.below H2.out.size HH.out.r.base))
  have H3 := Lib.hid (H2.out.xot g)
  obtain ⟨rfl, _, _⟩ := g
  go_wp2_with fail
  go_ret
  exact ⟨rfl, by rw [HR.out]; exact H3.out, B3.out⟩

theorem does_5 (w : World) (d n : Int) (h : Bo w B pa px s a a) (hs : s.size ≤ 100000000) (hd : 0 ≤ d ∧ d ≤ 255) (h5 : d % 8 = 5) :
    Calls Try.prog 10 #[.pointer (some ⟨pa, 0, none⟩), .pointer (some ⟨px, 0, none⟩), .agg #[.int .u8 d, .int .i64 n]] w fun e w' => e = .returned (.bool true) ∧ Bo w' B pa px s (galign a) (galign a) ∧ Below B w w' := by
  have HH := Lib.hid h
  have d0 := hd.1
  have d1 := hd.2
  have s3 : (d % 8 == 3) = false := by simp [h5]
  have s4 : (d % 8 == 4) = false := by simp [h5]
  have s5 : (d % 8 == 5) = true := by simp [h5]
  clear h hd h5
  go_enter Try.func10, Try.ntmps10
  go_wp2_with fail
  refine (ralign_any' (HH.out.box _).l hs).mono ?_; intro e w2 g
  have B2 := Lib.hid ((((Kept.refl NoB w).alloc _).below HH.out.size (fun _ g => g.elim)).trans (g.below (by have := HH.out.size; simp; omega) HH.out.l.base))
  have H2 := Lib.hid ((HH.out.box _).got g)
  obtain ⟨rfl, _, _⟩ := g
  go_wp2_with fail
  refine (xalign_any H2.out.r hs).mono ?_; intro e w3 g
  have B3 := Lib.hid (B2.out.trans (g.below H2.out.size HH.out.r.base))
  have H3 := Lib.hid (H2.out.xot g)
  obtain ⟨rfl, _, _⟩ := g
  go_wp2_with fail
  go_ret
  exact ⟨rfl, H3.out, B3.out⟩

theorem does_4 (w : World) (d n : Int) (h : Bo w B pa px s a a) (hs : s.size ≤ 100000000) (hd : 0 ≤ d ∧ d ≤ 255) (hn : -9223372036854775808 ≤ n ∧ n ≤ 9223372036854775807) (h4 : d % 8 = 4) :
    Calls Try.prog 10 #[.pointer (some ⟨pa, 0, none⟩), .pointer (some ⟨px, 0, none⟩), .agg #[.int .u8 d, .int .i64 n]] w fun e w' => e = .returned (.bool true) ∧ Bo w' B pa px s (gskip s a n).2 (gskip s a n).2 ∧ Below B w w' := by
  have HH := Lib.hid h
  have hqa := h.qa
  have hqx := h.qx
  have d0 := hd.1
  have d1 := hd.2
  have n0 := hn.1
  have n1 := hn.2
  have s3 : (d % 8 == 3) = false := by simp [h4]
  have s4 : (d % 8 == 4) = true := by simp [h4]
  obtain ⟨X, Y, hXY⟩ : ∃ X Y, gskip s a n = (X, Y) := ⟨_, _, rfl⟩
  rw [hXY]
  have HX := Lib.hid hXY
  have p1 : (w.alloc (.cells #[.int .u8 d, .int .i64 n] 31)).drew.cell? ⟨w.heap.size, 1, none⟩ = some (.int .i64 n) := by simp
  have P1 := Lib.hid p1
  have K1 := Lib.hid (((Kept.refl NoB w).alloc (.cells #[.int .u8 d, .int .i64 n] 31)).drew)
  have H1 := Lib.hid (HH.out.same K1.out)
  have B1 := Lib.hid (K1.out.below HH.out.size (fun _ g => g.elim))
  clear h hd hn h4 hXY p1
  go_enter Try.func10, Try.ntmps10
  go_wp2_with fail
  go_region_held3 (fun w' => w'.cell? ⟨w.heap.size, 1, none⟩ = some (.int .i64 n)) (first | exact g1 | exact e1 | exact P1.out) (first
    | (go_at_call 23; refine (rskip_any H1.out.l hs n).mono ?_; intro e w3 g; rw [HX.out] at g; have B3 := Lib.hid (B1.out.trans (g.below H1.out.size HH.out.l.base)); have H3 := Lib.hid (H1.out.got g); have e1 := g.cell (q := w.heap.size) (i := 1) hqa P1.out; obtain ⟨rfl, _, _⟩ := g)
    | (go_at_call 26; refine (xskip_any H3.out.r hs n).mono ?_; intro e w4 g; rw [HX.out] at g; have B4 := Lib.hid (B3.out.trans (g.below H3.out.size HH.out.r.base)); have H4 := Lib.hid (H3.out.xot g); have g1 := g.cell (q := w.heap.size) (i := 1) hqx e1; obtain ⟨rfl, _, _⟩ := g))
  go_wp2_with fail
  go_ret
  exact ⟨rfl, H4.out, B4.out⟩

/-- Where a call leaves both readers. -/
def goes (s : ByteArray) (a : Nat) (d n : Int) : Nat :=
  if d % 8 = 3 then a else if d % 8 = 4 then (gskip s a n).2 else if d % 8 = 5 then galign a else if d % 8 = 6 ∨ d % 8 = 7 then (gbytes s a n).2.2 else (gbits s a n).2.2
theorem does_any (w : World) (d n : Int) (h : Bo w B pa px s a a) (hs : s.size ≤ 100000000) (hd : 0 ≤ d ∧ d ≤ 255) (hn : -9223372036854775808 ≤ n ∧ n ≤ 9223372036854775807) (r : Nat) (hr : goes s a d n = r) :
    Calls Try.prog 10 #[.pointer (some ⟨pa, 0, none⟩), .pointer (some ⟨px, 0, none⟩), .agg #[.int .u8 d, .int .i64 n]] w fun e w' => e = .returned (.bool true) ∧ Bo w' B pa px s r r ∧ Below B w w' := by
  subst hr
  unfold goes
  by_cases h3 : d % 8 = 3
  · rw [if_pos h3]; exact does_3 w d n h hs hd hn h3
  by_cases h4 : d % 8 = 4
  · rw [if_neg h3, if_pos h4]; exact does_4 w d n h hs hd hn h4
  by_cases h5 : d % 8 = 5
  · rw [if_neg h3, if_neg h4, if_pos h5]; exact does_5 w d n h hs hd h5
  by_cases h6 : d % 8 = 6
  · rw [if_neg h3, if_neg h4, if_neg h5, if_pos (.inl h6)]; exact does_6 w d n h hs hd hn h6
  by_cases h7 : d % 8 = 7
  · rw [if_neg h3, if_neg h4, if_neg h5, if_pos (.inr h7)]; exact does_7 w d n h hs hd hn h7
  · rw [if_neg h3, if_neg h4, if_neg h5, if_neg (by omega)]; exact does_0 w d n h hs hd hn h3 h4 h5 h6 h7
end Go.Proofs.Ytlikpljbbenmoaa
