import Derived.Test.YtlanibgeafdefaaGreatDoorMThg
import Derived.Laws.EntriesVeiled
namespace Go.Proofs.YtlanibgeafdefaaGreatDoor
open Go.RowKit M
set_option linter.unusedVariables false
def Br (w : World) (g n : Nat) (f : Nat → Nat) : Prop := w.rowIs g 5 n (fun i => .int .u8 (f i))
section
variable {w w' : World} {g n : Nat} {f f' : Nat → Nat}
theorem Br.lt (h : Br w g n f) : g < w.heap.size := World.rowIs.lt h
theorem Br.at' (h : Br w g n f) (q : w'.heap[g]? = w.heap[g]?) : Br w' g n f := World.rowIs.of_block h q
theorem Br.alloc (h : Br w g n f) (o : Obj) : Br (w.alloc o) g n f := World.rowIs.alloc h o
theorem Br.drew (h : Br w g n f) : Br w.drew g n f := h
theorem Br.other (h : Br w g n f) {a : Addr} (ha : g ≠ a.block) (v : Value) : Br (w.setCell a v) g n f := World.rowIs.setOther h ha v
theorem Br.below (h : Br w g n f) {B : Nat} (hb : Below B w w') (hB : g < B) : Br w' g n f := h.at' (hb.block g hB)
theorem Br.congr (h : Br w g n f) (e : ∀ i, i < n → f i = f' i) : Br w g n f' := World.rowIs.congr h (fun i hi => by rw [e i hi])
theorem Br.cell (h : Br w g n f) {i : Nat} (hi : i < n) : w.cell? ⟨g, i, none⟩ = some (.int .u8 (f i)) := World.rowIs.cell h hi
theorem Br.frozen (h : Br w g n f) (i : Nat) : w.frozen? ⟨g, i, none⟩ = false := World.rowIs.frozen h i
theorem Br.set (h : Br w g n f) (i x : Nat) : Br (w.setCell ⟨g, i, none⟩ (.int .u8 x)) g n (fun j => if j = i then x else f j) :=
  World.rowIs.congr (World.rowIs.set h i (.int .u8 x)) (fun j hj => by by_cases e : j = i <;> simp [e])
theorem Br.made (w : World) (n : Nat) : Br (w.alloc (.cells (madeCells #[.int .u8 0] (n * 1)) 5)) w.heap.size n (fun _ => 0) := by
  rw [Nat.mul_one]
  exact World.rowIs_made w (.int .u8 0) n 5
theorem Br.made' (w : World) (n : Nat) : Br (w.alloc (.cells (madeCells #[.int .u8 0] n) 5)) w.heap.size n (fun _ => 0) := World.rowIs_made w (.int .u8 0) n 5
theorem Br.nums (h : Br w g n f) : Nums w .u8 (some ⟨g, 0, none⟩) n (fun i => (f i : Int)) := fun hn =>
  ⟨g, 0, rfl, h.lt, fun i hi => by rw [Nat.zero_add]; exact h.cell hi⟩
end
def SyLt (n : Nat) : Th → Prop
  | .lf _ s => s < n
  | .pk x y => SyLt n x ∧ SyLt n y
theorem Hung.write {w w' : World} {base g : Nat} {t : Th} {p : Option Addr} (h : Hung w base t p) (hk : Kept (One g) w w') (hg : g < base) : Hung w' base t p :=
  h.kept (fun k hb hl => hk.block k hl (fun e => by have : k = g := e; omega)) hk.size
def plus (f : Nat → Nat) (t : Th) (s : Nat) : Nat := (f s + t.cn s) % 256
def At3 (i : Value) (p q r : Prop) : Prop := (i = .int .i64 0 ∧ p) ∨ (i = .int .i64 1 ∧ q) ∨ (i = .int .i64 2 ∧ r)
set_option maxHeartbeats 4000000 in
theorem add_any (bl ba g n base : Nat) (hn : n ≤ 400) (hgb : g < base) (h1 : bl ≠ g) (h2 : ba ≠ g) : ∀ (t : Th) (p : Option Addr) (f : Nat → Nat) (W : World), Hung W base t p → SyLt n t → t.wt < 18446744073709551616 → (∀ i, f i < 256) → Br W g n f →
    W.cell? ⟨bl, 0, none⟩ = some (.slice (some ⟨g, 0, none⟩) n n) → W.cell? ⟨ba, 0, none⟩ = some (.func (.func 110) #[] #[.pointer (some ⟨bl, 0, none⟩), .pointer (some ⟨ba, 0, none⟩)]) →
    Calls Tryz.prog 110 #[.agg #[.int .u64 t.wt, .int .i64 t.sy, .pointer p], .pointer (some ⟨bl, 0, none⟩), .pointer (some ⟨ba, 0, none⟩)] W fun x w' => x = .returned (.tuple #[]) ∧ Br w' g n (plus f t) ∧ Kept (One g) W w'
  | .lf a s, p, f, W, hu, hs, hw, hf, hb, c1, c2 => by
    have hp : p = none := hu
    subst hp
    have hsn : s < n := hs
    have hc := hb.cell hsn
    have hfr := hb.frozen s
    have hlt := hb.lt
    have hfs := hf s
    have bl1 := World.block_lt_of_cell? _ _ c1
    have e : ∀ y : Nat, (((y + 1) % 256 : Nat) : Int) = ((y : Int) + 1) % 256 := fun y => by omega
    have HB := Lib.hid (((hb.set s ((f s + 1) % 256)).alloc (.cells #[.int .u64 a, .int .i64 s, .pointer none] 170)).congr (f' := plus f (.lf a s)) (fun i _ => by
      unfold plus
      simp only [Th.cn]
      by_cases e : i = s
      · rw [if_pos e, if_pos e.symm, e]
      · rw [if_neg e, if_neg (fun q => e q.symm), Nat.add_zero, Nat.mod_eq_of_lt (hf i)]))
    have HK := Lib.hid (((Kept.refl (One g) W).setCell ⟨g, s, none⟩ (.inl rfl) (.int .u8 (((f s + 1) % 256 : Nat) : Int))).alloc (.cells #[.int .u64 a, .int .i64 s, .pointer none] 170))
    obtain ⟨x, hx⟩ : ∃ x, f s = x := ⟨_, rfl⟩
    rw [hx] at hc hfs HB HK
    rw [e x] at HB HK
    clear hx hb hf hu hs e
    go_enter Tryz.func110, Tryz.ntmps110
    simp only [Th.wt, Th.sy]
    go_wp2_with fail
    refine bodyPost_ret (results_none rfl _ _ _) rfl ?_
    exact ⟨rfl, HB.out, HK.out⟩
  | .pk x y, p, f, W, hu, hs, hw, hf, hb, c1, c2 => by
    obtain ⟨gp, o, px, py, rfl, b1, b2, ⟨x1, x2, x3⟩, ⟨y1, y2, y3⟩, hx, hy⟩ := hu
    have IX := Lib.hid (fun f W => add_any bl ba g n base hn hgb h1 h2 x px f W)
    have IY := Lib.hid (fun f W => add_any bl ba g n base hn hgb h1 h2 y py f W)
    have HSY := Lib.hid (show SyLt n x ∧ SyLt n y from hs)
    have HWT := Lib.hid (show x.wt < 18446744073709551616 ∧ y.wt < 18446744073709551616 by simp only [Th.wt] at hw; omega)
    obtain ⟨q, hq⟩ : ∃ q, (x.pk y).wt = q := ⟨_, rfl⟩
    have HEND := Lib.hid (show ∀ s, plus (plus f x) y s = plus f (x.pk y) s from fun s => by
      unfold plus
      simp only [Th.cn]
      rw [Nat.mod_add_mod, Nat.add_assoc])
    have H0 := Lib.hid (hb.alloc (.cells #[.int .u64 q, .int .i64 0, .pointer (some ⟨gp, o, none⟩)] 170))
    clear hs hw hb
    go_enter Tryz.func110, Tryz.ntmps110
    rw [hq, show (((Th.pk x y).sy : Nat) : Int) = 0 from rfl]
    clear hq
    go_wp2_with fail
    go_loopw [19] (fun i wr => At3 i (Br wr g n f) (Br wr g n (plus f x)) (Br wr g n (plus (plus f x) y)) ∧ Kept (One g) W wr) (fun i _ => 2 - (intOf i).toNat)
    case atStart => exact ⟨.inl ⟨rfl, H0.out⟩, (Kept.refl _ _).alloc _⟩
    case round =>
      obtain ⟨hl, hk⟩ := hrel
      rcases hl with ⟨rfl, hl⟩ | ⟨rfl, hl⟩ | ⟨rfl, hl⟩
      · have HL := Lib.hid hl
        have HK := Lib.hid hk
        have ng : ¬ One g gp := fun e => by have : gp = g := e; omega
        have z1 := hk.cell x1 ng
        have z2 := hk.cell x2 ng
        have z3 := hk.cell x3 ng
        have d1 := hk.cell c1 h1
        have d2 := hk.cell c2 h2
        have HU := Lib.hid ((hx.write hk hgb).below ((Below.refl wr.heap.size wr).alloc (Nat.le_refl _) (.cells #[.int .u64 x.wt, .int .i64 x.sy, .pointer px] 170)))
        have D1 := Lib.hid ((((Below.refl wr.heap.size wr).alloc (Nat.le_refl _) (.cells #[.int .u64 x.wt, .int .i64 x.sy, .pointer px] 170)).cell (World.block_lt_of_cell? _ _ d1)).trans d1)
        have D2 := Lib.hid ((((Below.refl wr.heap.size wr).alloc (Nat.le_refl _) (.cells #[.int .u64 x.wt, .int .i64 x.sy, .pointer px] 170)).cell (World.block_lt_of_cell? _ _ d2)).trans d2)
        have L1 := Lib.hid (hl.alloc (.cells #[.int .u64 x.wt, .int .i64 x.sy, .pointer px] 170))
        have d1l := World.block_lt_of_cell? _ _ d1
        have d2l := World.block_lt_of_cell? _ _ d2
        have HF := Lib.hid (hf)
        clear hl hk ng
        go_wp2_with fail
        refine (IX.out f _ HU.out HSY.out.1 HWT.out.1 HF.out L1.out D1.out D2.out).mono ?_; rintro e w1 ⟨rfl, l1, k1⟩
        have R1 := Lib.hid l1
        have K1 := Lib.hid (((HK.out.alloc _).trans k1 (fun _ h => .inl h)))
        clear l1 k1
        go_wp2_with fail
        go_roundw
        case rel => exact ⟨.inr (.inl ⟨rfl, R1.out⟩), K1.out⟩
        case measure => simp [intOf]
      · have HL := Lib.hid hl
        have HK := Lib.hid hk
        have ng : ¬ One g gp := fun e => by have : gp = g := e; omega
        have z1 := hk.cell y1 ng
        have z2 := hk.cell y2 ng
        have z3 := hk.cell y3 ng
        have d1 := hk.cell c1 h1
        have d2 := hk.cell c2 h2
        have HU := Lib.hid ((hy.write hk hgb).below ((Below.refl wr.heap.size wr).alloc (Nat.le_refl _) (.cells #[.int .u64 y.wt, .int .i64 y.sy, .pointer py] 170)))
        have D1 := Lib.hid ((((Below.refl wr.heap.size wr).alloc (Nat.le_refl _) (.cells #[.int .u64 y.wt, .int .i64 y.sy, .pointer py] 170)).cell (World.block_lt_of_cell? _ _ d1)).trans d1)
        have D2 := Lib.hid ((((Below.refl wr.heap.size wr).alloc (Nat.le_refl _) (.cells #[.int .u64 y.wt, .int .i64 y.sy, .pointer py] 170)).cell (World.block_lt_of_cell? _ _ d2)).trans d2)
        have L1 := Lib.hid (hl.alloc (.cells #[.int .u64 y.wt, .int .i64 y.sy, .pointer py] 170))
        have d1l := World.block_lt_of_cell? _ _ d1
        have d2l := World.block_lt_of_cell? _ _ d2
        have HF := Lib.hid (show ∀ i, plus f x i < 256 from fun i => Nat.mod_lt _ (by omega))
        clear hl hk ng
        go_wp2_with fail
        refine (IY.out (plus f x) _ HU.out HSY.out.2 HWT.out.2 HF.out L1.out D1.out D2.out).mono ?_; rintro e w1 ⟨rfl, l1, k1⟩
        have R1 := Lib.hid l1
        have K1 := Lib.hid (((HK.out.alloc _).trans k1 (fun _ h => .inl h)))
        clear l1 k1
        go_wp2_with fail
        go_roundw
        case rel => exact ⟨.inr (.inr ⟨rfl, R1.out⟩), K1.out⟩
        case measure => simp [intOf]
      · have HL := Lib.hid hl
        have HK := Lib.hid hk
        clear hl hk
        go_wp2_with fail
        go_end0
        exact ⟨rfl, HL.out.congr (fun i _ => HEND.out i), HK.out⟩
def plusL (f : Nat → Nat) (X : List Tp) (s : Nat) : Nat := (f s + ct s (X.map (·.1))) % 256
theorem plusL_more {f : Nat → Nat} {X : List Tp} {i : Nat} {x : Tp} (h : X[i]? = some x) (s : Nat) : plus (plusL f (X.take i)) x.1 s = plusL f (X.take (i + 1)) s := by
  unfold plus plusL
  rw [List.take_add_one, h, Nat.mod_add_mod, List.map_append, ct_append]
  simp only [Option.toList_some, List.map_cons, List.map_nil, ct]
  rw [Nat.add_zero, Nat.add_assoc]
set_option maxHeartbeats 4000000 in
theorem addLeaves_any (g n base q c : Nat) (A : Option Addr) (X : List Tp) (f : Nat → Nat) (W : World) (hn : n ≤ 400) (hgb : g < base) (hq : X.length = q) (hq2 : q ≤ 1000) (hx : ∀ b o, A = some ⟨b, o, none⟩ → b ≠ g) (hs : ∀ x ∈ X, SyLt n x.1) (hw : ∀ x ∈ X, x.1.wt < 18446744073709551616) (hf : ∀ i, f i < 256) (HX : Things W base A X) (hb : Br W g n f) :
    Calls Tryz.prog 94 #[.slice (some ⟨g, 0, none⟩) n n, .slice A q c] W fun x w' => x = .returned (.tuple #[]) ∧ Br w' g n (plusL f X) ∧ Kept (One g) W w' := by
  have HQ := Lib.hid hq
  have HH := Lib.hid HX
  have HS := Lib.hid hs
  have HW := Lib.hid hw
  have HF := Lib.hid hf
  have HA := Lib.hid hx
  have HB := Lib.hid hb
  have glt := hb.lt
  clear hq HX hs hw hf hx hb
  go_enter Tryz.func94, Tryz.ntmps94
  go_wp2_with fail
  go_loopw [10] (fun i wr => ∃ k : Nat, k ≤ q ∧ i = .int .i64 k ∧ wr.cell? ⟨W.heap.size, 0, none⟩ = some (.slice (some ⟨g, 0, none⟩) n n) ∧ wr.cell? ⟨W.heap.size + 1, 0, none⟩ = some (.func (.func 110) #[] #[.pointer (some ⟨W.heap.size, 0, none⟩), .pointer (some ⟨W.heap.size + 1, 0, none⟩)]) ∧ Hid (Br wr g n (plusL f (X.take k)) ∧ Kept (One g) W wr)) (fun i _ => q - (intOf i).toNat)
  case atStart =>
    refine ⟨0, Nat.zero_le _, rfl, by simp, by simp, Lib.hid ⟨((HB.out.alloc _).alloc _).congr (fun i _ => ?_), ((Kept.refl _ _).alloc _).alloc _⟩⟩
    unfold plusL
    simp only [List.take_zero, List.map_nil, ct, Nat.add_zero]
    rw [Nat.mod_eq_of_lt (HF.out i)]
  case round =>
    obtain ⟨k, hk, rfl, c1, c2, HI⟩ := hrel
    by_cases hlt : k < q
    · have hxq := HQ.out
      obtain ⟨b, o, rfl, hbs, ht⟩ := HH.out.1 (by omega)
      obtain ⟨x, hx⟩ : ∃ x, X[k]? = some x := ⟨_, List.getElem?_eq_getElem (show k < X.length by omega)⟩
      obtain ⟨x1, x2, x3⟩ := ht.one hx
      have ng : ¬ One g b := fun e => HA.out b o rfl e
      have x1 := HI.out.2.cell x1 ng
      have x2 := HI.out.2.cell x2 ng
      have x3 := HI.out.2.cell x3 ng
      have hm := List.mem_of_getElem? hx
      have d1l := World.block_lt_of_cell? _ _ c1
      have d2l := World.block_lt_of_cell? _ _ c2
      have hne1 : W.heap.size ≠ g := by omega
      have hne2 : W.heap.size + 1 ≠ g := by omega
      have ba := (Below.refl wr.heap.size wr).alloc (Nat.le_refl _) (.cells #[.int .u64 x.1.wt, .int .i64 x.1.sy, .pointer x.2] 170)
      have HU := Lib.hid (((HH.out.2 x hm).write HI.out.2 hgb).below ba)
      have D1 := Lib.hid ((ba.cell d1l).trans c1)
      have D2 := Lib.hid ((ba.cell d2l).trans c2)
      have L1 := Lib.hid (HI.out.1.alloc (.cells #[.int .u64 x.1.wt, .int .i64 x.1.sy, .pointer x.2] 170))
      have HFF := Lib.hid (show ∀ i, plusL f (X.take k) i < 256 from fun i => Nat.mod_lt _ (by omega))
      have SX := Lib.hid (HS.out x hm)
      have WX := Lib.hid (HW.out x hm)
      have XX := Lib.hid hx
      clear ht hx hm ba ng hxq
      go_wp2_with fail
      refine (add_any W.heap.size (W.heap.size + 1) g n base hn hgb hne1 hne2 x.1 x.2 _ _ HU.out SX.out WX.out HFF.out L1.out D1.out D2.out).mono ?_; rintro e w1 ⟨rfl, l1, k1⟩
      have g1 := k1.cell D1.out hne1
      have g2 := k1.cell D2.out hne2
      have R1 := Lib.hid (l1.congr (fun i _ => plusL_more XX.out i))
      have K1 := Lib.hid (((HI.out.2.alloc _).trans k1 (fun _ h => .inl h)))
      clear l1 k1 c1 c2
      go_wp2_with fail
      go_roundw
      case rel => exact ⟨k + 1, by omega, by go_num, g1, g2, Lib.hid ⟨R1.out, K1.out⟩⟩
      case measure => simp [intOf]; omega
    · obtain rfl : k = q := by omega
      have HE := Lib.hid (show ∀ s, plusL f (X.take k) s = plusL f X s from fun s => by rw [List.take_of_length_le (by rw [HQ.out]; exact Nat.le_refl _)])
      go_wp2_with fail
      go_end0
      exact ⟨rfl, HI.out.1.congr (fun i _ => HE.out i), HI.out.2⟩
end Go.Proofs.YtlanibgeafdefaaGreatDoor
