/- Texts of one place, one behind the other: PkE, PkF, PkG, CnA, CnB, PkM, CdR, CdC. -/
import Derived.Test.YtldiojnkoobbmaaGreatDoorCMThg
import Derived.Laws.EntriesVeiled
import Derived.Test.YtldiojnkoobbmaaGreatDoorProg
import Derived.Test.YtldiojnkoobbmaaGreatDoorCMMathT
import Derived.WalkKit
import Derived.Lib.Hide
import Derived.IntWalk
import Derived.Lib.Strings
import Derived.Lib.Walk
import Derived.Lib.BitFns
import Derived.RegionTactic
import Derived.BigRegion
import Derived.Deep.QuietTactic
import Derived.BigQuiet
import Derived.Laws.MakeOwn
namespace Go.Proofs.YtldiojnkoobbmaaGreatDoor
open Go.RowKit M
set_option linter.unusedVariables false
def Br (w : World) (g n : Nat) (f : Nat → Nat) : Prop := w.rowIs g 5 n (fun i => .int .u8 (f i))
section
variable {w w' : World} {g n : Nat} {f f' : Nat → Nat}
theorem Br.lt (h : Br w g n f) : g < w.heap.size := World.rowIs.lt h
theorem Br.at' (h : Br w g n f) (q : w'.heap[g]? = w.heap[g]?) : Br w' g n f := World.rowIs.of_block h q
theorem Br.alloc (h : Br w g n f) (o : Obj) : Br (w.alloc o) g n f := World.rowIs.alloc h o
theorem Br.other (h : Br w g n f) {a : Addr} (ha : g ≠ a.block) (v : Value) : Br (w.setCell a v) g n f := World.rowIs.setOther h ha v
theorem Br.below (h : Br w g n f) {B : Nat} (hb : Below B w w') (hB : g < B) : Br w' g n f := h.at' (hb.block g hB)
theorem Br.congr (h : Br w g n f) (e : ∀ i, i < n → f i = f' i) : Br w g n f' := World.rowIs.congr h (fun i hi => by rw [e i hi])
theorem Br.cell (h : Br w g n f) {i : Nat} (hi : i < n) : w.cell? ⟨g, i, none⟩ = some (.int .u8 (f i)) := World.rowIs.cell h hi
theorem Br.frozen (h : Br w g n f) (i : Nat) : w.frozen? ⟨g, i, none⟩ = false := World.rowIs.frozen h i
theorem Br.set (h : Br w g n f) (i x : Nat) : Br (w.setCell ⟨g, i, none⟩ (.int .u8 x)) g n (fun j => if j = i then x else f j) :=
  World.rowIs.congr (World.rowIs.set h i (.int .u8 x)) (fun j hj => by by_cases e : j = i <;> simp [e])
theorem Br.made' (w : World) (n : Nat) : Br (w.alloc (.cells (madeCells #[.int .u8 0] n) 5)) w.heap.size n (fun _ => 0) := World.rowIs_made w (.int .u8 0) n 5
end
def SyLt (n : Nat) : Th → Prop
  | .lf _ s => s < n
  | .pk x y => SyLt n x ∧ SyLt n y
theorem Hung.write {w w' : World} {base g : Nat} {t : Th} {p : Option Addr} (h : Hung w base t p) (hk : Kept (One g) w w') (hg : g < base) : Hung w' base t p :=
  h.kept (fun k hb hl => hk.block k hl (fun e => by have : k = g := e; omega)) hk.size
def plus (f : Nat → Nat) (t : Th) (s : Nat) : Nat := (f s + t.cn s) % 256
def At3 (i : Value) (p q r : Prop) : Prop := (i = .int .i64 0 ∧ p) ∨ (i = .int .i64 1 ∧ q) ∨ (i = .int .i64 2 ∧ r)
set_option maxHeartbeats 4000000 in
theorem add_any (bl ba g n base : Nat) (hn : n ≤ 400) (hgb : g < base) (h1 : bl ≠ g) (h2 : ba ≠ g) : ∀ (t : Th) (p : Option Addr) (f : Nat → Nat) (W : World), Hung W base t p → SyLt n t → t.wt < 18446744073709551616 → (∀ i, f i < 256) → Br W g n f →
    W.cell? ⟨bl, 0, none⟩ = some (.slice (some ⟨g, 0, none⟩) n n) → W.cell? ⟨ba, 0, none⟩ = some (.func (.func 168) #[] #[.pointer (some ⟨bl, 0, none⟩), .pointer (some ⟨ba, 0, none⟩)]) →
    Calls Tryz.prog 168 #[.agg #[.int .u64 t.wt, .int .i64 t.sy, .pointer p], .pointer (some ⟨bl, 0, none⟩), .pointer (some ⟨ba, 0, none⟩)] W fun x w' => x = .returned (.tuple #[]) ∧ Br w' g n (plus f t) ∧ Kept (One g) W w'
  | .lf a s, p, f, W, hu, hs, hw, hf, hb, c1, c2 => by
    have hp : p = none := hu
    subst hp
    have hsn : s < n := hs
    have hc := hb.cell hsn
    have hfr := hb.frozen s
    have hlt := hb.lt
    have hfs := hf s
    have bl1 := World.block_lt_of_cell? _ _ c1
    have e : ∀ y : Nat, (((y + 1) % 256 : Nat) : Int) = ((y : Int) + 1) % 256 := fun y => by omega
    have HB := Lib.hid (((hb.set s ((f s + 1) % 256)).alloc (.cells #[.int .u64 a, .int .i64 s, .pointer none] 240)).congr (f' := plus f (.lf a s)) (fun i _ => by
      unfold plus
      simp only [Th.cn]
      by_cases e : i = s
      · rw [if_pos e, if_pos e.symm, e]
      · rw [if_neg e, if_neg (fun q => e q.symm), Nat.add_zero, Nat.mod_eq_of_lt (hf i)]))
    have HK := Lib.hid (((Kept.refl (One g) W).setCell ⟨g, s, none⟩ (.inl rfl) (.int .u8 (((f s + 1) % 256 : Nat) : Int))).alloc (.cells #[.int .u64 a, .int .i64 s, .pointer none] 240))
    obtain ⟨x, hx⟩ : ∃ x, f s = x := ⟨_, rfl⟩
    rw [hx] at hc hfs HB HK
    rw [e x] at HB HK
    clear hx hb hf hu hs e
    go_enter Tryz.func168, Tryz.ntmps168
    simp only [Th.wt, Th.sy]
    go_wp2_with fail
    refine bodyPost_ret (results_none rfl _ _ _) rfl ?_
    exact ⟨rfl, HB.out, HK.out⟩
  | .pk x y, p, f, W, hu, hs, hw, hf, hb, c1, c2 => by
    obtain ⟨gp, o, px, py, rfl, b1, b2, ⟨x1, x2, x3⟩, ⟨y1, y2, y3⟩, hx, hy⟩ := hu
    have IX := Lib.hid (fun f W => add_any bl ba g n base hn hgb h1 h2 x px f W)
    have IY := Lib.hid (fun f W => add_any bl ba g n base hn hgb h1 h2 y py f W)
    have HSY := Lib.hid (show SyLt n x ∧ SyLt n y from hs)
    have HWT := Lib.hid (show x.wt < 18446744073709551616 ∧ y.wt < 18446744073709551616 by simp only [Th.wt] at hw; omega)
    obtain ⟨q, hq⟩ : ∃ q, (x.pk y).wt = q := ⟨_, rfl⟩
    have HEND := Lib.hid (show ∀ s, plus (plus f x) y s = plus f (x.pk y) s from fun s => by
      unfold plus
      simp only [Th.cn]
      rw [Nat.mod_add_mod, Nat.add_assoc])
    have H0 := Lib.hid (hb.alloc (.cells #[.int .u64 q, .int .i64 0, .pointer (some ⟨gp, o, none⟩)] 240))
    clear hs hw hb
    go_enter Tryz.func168, Tryz.ntmps168
    rw [hq, show (((Th.pk x y).sy : Nat) : Int) = 0 from rfl]
    clear hq
    go_wp2_with fail
    go_loopw [19] (fun i wr => At3 i (Br wr g n f) (Br wr g n (plus f x)) (Br wr g n (plus (plus f x) y)) ∧ Kept (One g) W wr) (fun i _ => 2 - (intOf i).toNat)
    case atStart => exact ⟨.inl ⟨rfl, H0.out⟩, (Kept.refl _ _).alloc _⟩
    case round =>
      obtain ⟨hl, hk⟩ := hrel
      rcases hl with ⟨rfl, hl⟩ | ⟨rfl, hl⟩ | ⟨rfl, hl⟩
      · have HL := Lib.hid hl
        have HK := Lib.hid hk
        have ng : ¬ One g gp := fun e => by have : gp = g := e; omega
        have z1 := hk.cell x1 ng
        have z2 := hk.cell x2 ng
        have z3 := hk.cell x3 ng
        have d1 := hk.cell c1 h1
        have d2 := hk.cell c2 h2
        have HU := Lib.hid ((hx.write hk hgb).below ((Below.refl wr.heap.size wr).alloc (Nat.le_refl _) (.cells #[.int .u64 x.wt, .int .i64 x.sy, .pointer px] 240)))
        have D1 := Lib.hid ((((Below.refl wr.heap.size wr).alloc (Nat.le_refl _) (.cells #[.int .u64 x.wt, .int .i64 x.sy, .pointer px] 240)).cell (World.block_lt_of_cell? _ _ d1)).trans d1)
        have D2 := Lib.hid ((((Below.refl wr.heap.size wr).alloc (Nat.le_refl _) (.cells #[.int .u64 x.wt, .int .i64 x.sy, .pointer px] 240)).cell (World.block_lt_of_cell? _ _ d2)).trans d2)
        have L1 := Lib.hid (hl.alloc (.cells #[.int .u64 x.wt, .int .i64 x.sy, .pointer px] 240))
        have d1l := World.block_lt_of_cell? _ _ d1
        have d2l := World.block_lt_of_cell? _ _ d2
        have HF := Lib.hid (hf)
        clear hl hk ng
        go_wp2_with fail
        refine (IX.out f _ HU.out HSY.out.1 HWT.out.1 HF.out L1.out D1.out D2.out).mono ?_; rintro e w1 ⟨rfl, l1, k1⟩
        have R1 := Lib.hid l1
        have K1 := Lib.hid (((HK.out.alloc _).trans k1 (fun _ h => .inl h)))
        clear l1 k1
        go_wp2_with fail
        go_roundw
        case rel => exact ⟨.inr (.inl ⟨rfl, R1.out⟩), K1.out⟩
        case measure => simp [intOf]
      · have HL := Lib.hid hl
        have HK := Lib.hid hk
        have ng : ¬ One g gp := fun e => by have : gp = g := e; omega
        have z1 := hk.cell y1 ng
        have z2 := hk.cell y2 ng
        have z3 := hk.cell y3 ng
        have d1 := hk.cell c1 h1
        have d2 := hk.cell c2 h2
        have HU := Lib.hid ((hy.write hk hgb).below ((Below.refl wr.heap.size wr).alloc (Nat.le_refl _) (.cells #[.int .u64 y.wt, .int .i64 y.sy, .pointer py] 240)))
        have D1 := Lib.hid ((((Below.refl wr.heap.size wr).alloc (Nat.le_refl _) (.cells #[.int .u64 y.wt, .int .i64 y.sy, .pointer py] 240)).cell (World.block_lt_of_cell? _ _ d1)).trans d1)
        have D2 := Lib.hid ((((Below.refl wr.heap.size wr).alloc (Nat.le_refl _) (.cells #[.int .u64 y.wt, .int .i64 y.sy, .pointer py] 240)).cell (World.block_lt_of_cell? _ _ d2)).trans d2)
        have L1 := Lib.hid (hl.alloc (.cells #[.int .u64 y.wt, .int .i64 y.sy, .pointer py] 240))
        have d1l := World.block_lt_of_cell? _ _ d1
        have d2l := World.block_lt_of_cell? _ _ d2
        have HF := Lib.hid (show ∀ i, plus f x i < 256 from fun i => Nat.mod_lt _ (by omega))
        clear hl hk ng
        go_wp2_with fail
        refine (IY.out (plus f x) _ HU.out HSY.out.2 HWT.out.2 HF.out L1.out D1.out D2.out).mono ?_; rintro e w1 ⟨rfl, l1, k1⟩
        have R1 := Lib.hid l1
        have K1 := Lib.hid (((HK.out.alloc _).trans k1 (fun _ h => .inl h)))
        clear l1 k1
        go_wp2_with fail
        go_roundw
        case rel => exact ⟨.inr (.inr ⟨rfl, R1.out⟩), K1.out⟩
        case measure => simp [intOf]
      · have HL := Lib.hid hl
        have HK := Lib.hid hk
        clear hl hk
        go_wp2_with fail
        go_end0
        exact ⟨rfl, HL.out.congr (fun i _ => HEND.out i), HK.out⟩
def plusL (f : Nat → Nat) (X : List Tp) (s : Nat) : Nat := (f s + ct s (X.map (·.1))) % 256
theorem plusL_more {f : Nat → Nat} {X : List Tp} {i : Nat} {x : Tp} (h : X[i]? = some x) (s : Nat) : plus (plusL f (X.take i)) x.1 s = plusL f (X.take (i + 1)) s := by
  unfold plus plusL
  rw [List.take_add_one, h, Nat.mod_add_mod, List.map_append, ct_append]
  simp only [Option.toList_some, List.map_cons, List.map_nil, ct]
  rw [Nat.add_zero, Nat.add_assoc]
set_option maxHeartbeats 4000000 in
theorem addLeaves_any (g n base q c : Nat) (A : Option Addr) (X : List Tp) (f : Nat → Nat) (W : World) (hn : n ≤ 400) (hgb : g < base) (hq : X.length = q) (hq2 : q ≤ 1000) (hx : ∀ b o, A = some ⟨b, o, none⟩ → b ≠ g) (hs : ∀ x ∈ X, SyLt n x.1) (hw : ∀ x ∈ X, x.1.wt < 18446744073709551616) (hf : ∀ i, f i < 256) (HX : Things W base A X) (hb : Br W g n f) :
    Calls Tryz.prog 149 #[.slice (some ⟨g, 0, none⟩) n n, .slice A q c] W fun x w' => x = .returned (.tuple #[]) ∧ Br w' g n (plusL f X) ∧ Kept (One g) W w' := by
  have HQ := Lib.hid hq
  have HH := Lib.hid HX
  have HS := Lib.hid hs
  have HW := Lib.hid hw
  have HF := Lib.hid hf
  have HA := Lib.hid hx
  have HB := Lib.hid hb
  have glt := hb.lt
  clear hq HX hs hw hf hx hb
  go_enter Tryz.func149, Tryz.ntmps149
  go_wp2_with fail
  go_loopw [10] (fun i wr => ∃ k : Nat, k ≤ q ∧ i = .int .i64 k ∧ wr.cell? ⟨W.heap.size, 0, none⟩ = some (.slice (some ⟨g, 0, none⟩) n n) ∧ wr.cell? ⟨W.heap.size + 1, 0, none⟩ = some (.func (.func 168) #[] #[.pointer (some ⟨W.heap.size, 0, none⟩), .pointer (some ⟨W.heap.size + 1, 0, none⟩)]) ∧ Hid (Br wr g n (plusL f (X.take k)) ∧ Kept (One g) W wr)) (fun i _ => q - (intOf i).toNat)
  case atStart =>
    refine ⟨0, Nat.zero_le _, rfl, by simp, by simp, Lib.hid ⟨((HB.out.alloc _).alloc _).congr (fun i _ => ?_), ((Kept.refl _ _).alloc _).alloc _⟩⟩
    unfold plusL
    simp only [List.take_zero, List.map_nil, ct, Nat.add_zero]
    rw [Nat.mod_eq_of_lt (HF.out i)]
  case round =>
    obtain ⟨k, hk, rfl, c1, c2, HI⟩ := hrel
    by_cases hlt : k < q
    · have hxq := HQ.out
      obtain ⟨b, o, rfl, hbs, ht⟩ := HH.out.1 (by omega)
      obtain ⟨x, hx⟩ : ∃ x, X[k]? = some x := ⟨_, List.getElem?_eq_getElem (show k < X.length by omega)⟩
      obtain ⟨x1, x2, x3⟩ := ht.one hx
      have ng : ¬ One g b := fun e => HA.out b o rfl e
      have x1 := HI.out.2.cell x1 ng
      have x2 := HI.out.2.cell x2 ng
      have x3 := HI.out.2.cell x3 ng
      have hm := List.mem_of_getElem? hx
      have d1l := World.block_lt_of_cell? _ _ c1
      have d2l := World.block_lt_of_cell? _ _ c2
      have hne1 : W.heap.size ≠ g := by omega
      have hne2 : W.heap.size + 1 ≠ g := by omega
      have ba := (Below.refl wr.heap.size wr).alloc (Nat.le_refl _) (.cells #[.int .u64 x.1.wt, .int .i64 x.1.sy, .pointer x.2] 240)
      have HU := Lib.hid (((HH.out.2 x hm).write HI.out.2 hgb).below ba)
      have D1 := Lib.hid ((ba.cell d1l).trans c1)
      have D2 := Lib.hid ((ba.cell d2l).trans c2)
      have L1 := Lib.hid (HI.out.1.alloc (.cells #[.int .u64 x.1.wt, .int .i64 x.1.sy, .pointer x.2] 240))
      have HFF := Lib.hid (show ∀ i, plusL f (X.take k) i < 256 from fun i => Nat.mod_lt _ (by omega))
      have SX := Lib.hid (HS.out x hm)
      have WX := Lib.hid (HW.out x hm)
      have XX := Lib.hid hx
      clear ht hx hm ba ng hxq
      go_wp2_with fail
      refine (add_any W.heap.size (W.heap.size + 1) g n base hn hgb hne1 hne2 x.1 x.2 _ _ HU.out SX.out WX.out HFF.out L1.out D1.out D2.out).mono ?_; rintro e w1 ⟨rfl, l1, k1⟩
      have g1 := k1.cell D1.out hne1
      have g2 := k1.cell D2.out hne2
      have R1 := Lib.hid (l1.congr (fun i _ => plusL_more XX.out i))
      have K1 := Lib.hid (((HI.out.2.alloc _).trans k1 (fun _ h => .inl h)))
      clear l1 k1 c1 c2
      go_wp2_with fail
      go_roundw
      case rel => exact ⟨k + 1, by omega, by go_num, g1, g2, Lib.hid ⟨R1.out, K1.out⟩⟩
      case measure => simp [intOf]; omega
    · obtain rfl : k = q := by omega
      have HE := Lib.hid (show ∀ s, plusL f (X.take k) s = plusL f X s from fun s => by rw [List.take_of_length_le (by rw [HQ.out]; exact Nat.le_refl _)])
      go_wp2_with fail
      go_end0
      exact ⟨rfl, HI.out.1.congr (fun i _ => HE.out i), HI.out.2⟩
end Go.Proofs.YtldiojnkoobbmaaGreatDoor

namespace Go.Proofs.YtldiojnkoobbmaaGreatDoor
open Go.RowKit M
set_option linter.unusedVariables false
def bl (x : Nat) : Nat := if x = 0 then 0 else Nat.log2 x + 1
theorem bl_le {x k : Nat} : bl x ≤ k ↔ x < 2 ^ k := by
  unfold bl
  by_cases h : x = 0
  · rw [if_pos h, h]; exact ⟨fun _ => Nat.two_pow_pos _, fun _ => Nat.zero_le _⟩
  · rw [if_neg h]
    exact Nat.log2_lt h
def nds (n : Nat) : Nat := if n = 0 then 0 else max 1 (bl (n - 1))
theorem nds_le {n k : Nat} (h0 : 1 ≤ k) : nds n ≤ k ↔ n ≤ 2 ^ k := by
  unfold nds
  by_cases h : n = 0
  · rw [if_pos h, h]; exact ⟨fun _ => Nat.zero_le _, fun _ => Nat.zero_le _⟩
  · rw [if_neg h]
    have := @bl_le (n - 1) k
    constructor
    · intro g; have := this.1 (by omega); omega
    · intro g; have := this.2 (by omega); omega
theorem tab_get (y : Int) (h0 : 0 ≤ y) (h1 : y ≤ 255) {hh : y.toNat < Lib.len8tab.size} : ((Lib.len8tab[y.toNat]'hh).toNat : Int) = (Lib.bitLen y.toNat : Int) := by
  rw [← Lib.len8_of y h0 h1]
  unfold Lib.len8
  rw [ByteArray.getElem?_lt' _ _ hh, Option.getD_some]
theorem tab_end (k : Nat) (x y : Int) (hk : k ≤ 56) (h0 : 0 ≤ y) (h1 : y ≤ 255) (hb : Lib.bitLen x.toNat = k + Lib.bitLen y.toNat) : wrap64 ((k : Int) + wrap64 (Lib.bitLen y.toNat : Int)) = (Lib.bitLen x.toNat : Int) := by
  have l := Lib.bitLen_le8' y h0 h1
  rw [IntWalk.wrap64_in (Lib.bitLen y.toNat : Int) (by omega), IntWalk.wrap64_in _ (by omega), hb]
  omega
set_option maxHeartbeats 4000000 in
set_option maxRecDepth 100000 in
theorem len64_int (x : Int) (w : World) (h0 : 0 ≤ x) (h1 : x ≤ 1099511627776) : Calls Tryz.prog 184 #[.int .u64 x] w fun e w' => e = .returned (.int .i64 (Lib.bitLen x.toNat)) ∧ w' = w := by
  go_enter Tryz.func184, Tryz.ntmps184
  go_wp2
  all_goals first
    | (go_ret
       refine ⟨congrArg (fun q => Ending.returned (.int .i64 q)) ?_, rfl⟩
       first
         | (rw [tab_get (x / 4294967296 / 65536 / 256) (by omega) (by omega)]
            exact tab_end 56 x _ (by omega) (by omega) (by omega) ((Lib.bitLen_shift56 x.toNat (by omega) (by omega)).trans (by congr 2; omega)))
         | (rw [tab_get (x / 4294967296 / 65536) (by omega) (by omega)]
            exact tab_end 48 x _ (by omega) (by omega) (by omega) ((Lib.bitLen_shift48 x.toNat (by omega) (by omega)).trans (by congr 2; omega)))
         | (rw [tab_get (x / 4294967296 / 256) (by omega) (by omega)]
            exact tab_end 40 x _ (by omega) (by omega) (by omega) ((Lib.bitLen_shift40 x.toNat (by omega) (by omega)).trans (by congr 2; omega)))
         | (rw [tab_get (x / 4294967296) (by omega) (by omega)]
            exact tab_end 32 x _ (by omega) (by omega) (by omega) ((Lib.bitLen_shift32 x.toNat (by omega) (by omega)).trans (by congr 2; omega)))
         | (rw [tab_get (x / 65536 / 256) (by omega) (by omega)]
            exact tab_end 24 x _ (by omega) (by omega) (by omega) ((Lib.bitLen_shift24 x.toNat (by omega) (by omega)).trans (by congr 2; omega)))
         | (rw [tab_get (x / 65536) (by omega) (by omega)]
            exact tab_end 16 x _ (by omega) (by omega) (by omega) ((Lib.bitLen_shift16 x.toNat (by omega) (by omega)).trans (by congr 2; omega)))
         | (rw [tab_get (x / 256) (by omega) (by omega)]
            exact tab_end 8 x _ (by omega) (by omega) (by omega) ((Lib.bitLen_shift8 x.toNat (by omega) (by omega)).trans (by congr 2; omega)))
         | (rw [tab_get x (by omega) (by omega)]
            have l := Lib.bitLen_le8' x (by omega) (by omega)
            simp only [wrap64]
            omega))
    | (exfalso
       have hs := Lib.len8tab_size
       omega)
theorem bitLen_bl (x : Nat) (h : x < 2 ^ 64) : Lib.bitLen x = bl x := by
  apply Nat.le_antisymm
  · exact Lib.bitLen_le x (bl x) (bl_le.2 h) (bl_le.1 (Nat.le_refl _))
  · refine bl_le.2 (Nat.lt_of_not_le fun g => ?_)
    have h1 := Lib.bitLen_shift (Lib.bitLen x) x g h
    have h2 : 1 ≤ x / 2 ^ Lib.bitLen x := (Nat.one_le_div_iff (Nat.two_pow_pos _)).2 g
    have h3 := Lib.bitLen_half (x / 2 ^ Lib.bitLen x) (by omega) (Nat.lt_of_le_of_lt (Nat.div_le_self _ _) h)
    omega
theorem len_any (x : Int) (w : World) (h0 : 0 ≤ x) (h1 : x ≤ 1099511627776) : Calls Tryz.prog 167 #[.int .u64 x] w fun e w' => e = .returned (.int .i64 (bl x.toNat)) ∧ w' = w := by
  have hb := Lib.hid (bitLen_bl x.toNat (by have : (2 : Nat) ^ 64 = 18446744073709551616 := rfl; omega))
  go_enter Tryz.func167, Tryz.ntmps167
  go_wp2_with fail
  refine (len64_int x _ h0 h1).mono ?_; rintro e w' ⟨rfl, rfl⟩
  rw [hb.out]
  go_wp2_with fail
  go_ret
  exact ⟨rfl, rfl⟩
theorem nds_zero {n : Int} (h : n < 1) : nds n.toNat = 0 := by
  have : n.toNat = 0 := by omega
  rw [this]; rfl
theorem needs_any (n : Int) (w : World) (h0 : -9223372036854775808 ≤ n) (h1 : n ≤ 1099511627776) : Calls Tryz.prog 148 #[.int .i64 n] w fun e w' => e = .returned (.int .i64 (nds n.toNat)) ∧ w = w' := by
  by_cases h : n < 1
  · have hv := Lib.hid (nds_zero h)
    go_enter Tryz.func148, Tryz.ntmps148
    go_wp2_with fail
    go_ret
    exact ⟨by rw [hv.out]; rfl, rfl⟩
  · obtain ⟨b, hb⟩ : ∃ b, bl (n - 1).toNat = b := ⟨_, rfl⟩
    have hle : b ≤ 41 := by rw [← hb]; exact bl_le.2 (by have : (2 : Nat) ^ 41 = 2199023255552 := rfl; omega)
    have hv := Lib.hid (show nds n.toNat = max 1 b by
      unfold nds
      rw [if_neg (by omega), ← hb]
      congr 2; omega)
    have HC := Lib.hid (len_any (n - 1) w (by omega) (by omega))
    rw [hb] at HC
    clear hb
    go_enter Tryz.func148, Tryz.ntmps148
    go_wp2_with fail
    refine HC.out.mono ?_; rintro e w' ⟨rfl, rfl⟩
    go_wp2_with fail
    go_ret
    exact ⟨congrArg (fun q => Ending.returned (.int .i64 q)) (by rw [hv.out]; omega), rfl⟩
end Go.Proofs.YtldiojnkoobbmaaGreatDoor

namespace Go.Proofs.YtldiojnkoobbmaaGreatDoor
open Go.RowKit M
set_option linter.unusedVariables false
theorem first_of (P : Nat → Prop) (m : Nat) : ∀ k, k ≤ m → (∀ t, k ≤ t → t < m → P t) → ∃ i, i ≤ k ∧ (∀ t, i ≤ t → t < m → P t) ∧ (i = 0 ∨ ¬ P (i - 1))
  | 0, _, h => ⟨0, Nat.le_refl _, h, .inl rfl⟩
  | k + 1, hk, h => by
    by_cases q : P k
    · obtain ⟨i, h1, h2, h3⟩ := first_of P m k (by omega) (fun t g1 g2 => by
        by_cases e : t = k
        · rw [e]; exact q
        · exact h t (by omega) g2)
      exact ⟨i, by omega, h2, h3⟩
    · exact ⟨k + 1, Nat.le_refl _, h, .inr (by rw [Nat.add_sub_cancel]; exact q)⟩
theorem lv_ex (c : Nat → Nat) : ∀ n, ∃ m e, IsLv c n m e
  | 0 => ⟨0, fun _ => (0, 0), fun i j h1 h2 h3 => by omega, fun i h => by omega, fun s h => by omega, Nat.le_refl _⟩
  | n + 1 => by
    obtain ⟨m, e, h⟩ := lv_ex c n
    by_cases h0 : c n = 0
    · exact ⟨m, e, h.ord, fun i hi => by have := h.is_ i hi; exact ⟨by omega, this.2⟩, fun s hs hc => by
        by_cases q : s = n
        · subst q; omega
        · exact h.all s (by omega) hc, by have := h.le; omega⟩
    · let e1 : Nat → Nat × Nat := fun i => if i = m then (c n, n) else e i
      have he : ∀ i, i < m → e1 i = e i := fun i hi => if_neg (by omega)
      have hm : e1 m = (c n, n) := if_pos rfl
      have ho : Ord e1 0 m := h.ord.congr (fun i _ hi => he i hi)
      obtain ⟨i, i1, i2, i3⟩ := first_of (fun t => (e1 m).1 < (e1 t).1) m m (Nat.le_refl _) (fun t g1 g2 => by omega)
      have hs : Same e1 (mvd e1 i m) 0 (m + 1) := mvd_same e1 (Nat.zero_le _) i1 (by omega)
      refine ⟨m + 1, mvd e1 i m, mvd_ord ho (fun t _ g2 _ => ?_) (Nat.zero_le _) i1 i2 (by omega), fun j hj => ?_, fun s hs' hc => ?_, by have := h.le; omega⟩
      · rw [he t g2, hm]; exact (h.is_ t g2).1
      · obtain ⟨k, _, k2, q⟩ := hs.fro j (Nat.zero_le _) hj
        rw [q]
        by_cases r : k = m
        · rw [r, hm]; exact ⟨Nat.lt_succ_self _, Nat.pos_of_ne_zero h0, rfl⟩
        · rw [he k (by omega)]; have := h.is_ k (by omega); exact ⟨by omega, this.2⟩
      · by_cases r : s = n
        · obtain ⟨k, _, k2, q⟩ := hs.to m (Nat.zero_le _) (by omega)
          exact ⟨k, k2, by rw [← q, hm]; exact r.symm⟩
        · obtain ⟨j, j1, j2⟩ := h.all s (by omega) hc
          obtain ⟨k, _, k2, q⟩ := hs.to j (Nat.zero_le _) (by omega)
          exact ⟨k, k2, by rw [← q, he j j1]; exact j2⟩
theorem lv_one {c : Nat → Nat} {n m m' : Nat} {e e' : Nat → Nat × Nat} (h : IsLv c n m e) (h' : IsLv c n m' e') : m = m' ∧ ∀ i, i < m → e i = e' i := by
  have key : ∀ {m m' : Nat} {e e' : Nat → Nat × Nat}, IsLv c n m e → IsLv c n m' e' → ∀ i, i < m → ∃ j, j < m' ∧ e i = e' j := by
    intro m m' e e' h h' i hi
    obtain ⟨a1, a2, a3⟩ := h.is_ i hi
    obtain ⟨j, j1, j2⟩ := h'.all _ a1 a2
    have := (h'.is_ j j1).2.2
    exact ⟨j, j1, Prod.ext (by rw [a3, this, j2]) j2.symm⟩
  exact ord_one h.ord h'.ord (key h h') (key h' h)
def lw (e : Nat → Nat × Nat) (i : Nat) : Nat := (e i).1
def ly (e : Nat → Nat × Nat) (i : Nat) : Nat := (e i).2
def pl (m : Nat) (e : Nat → Nat × Nat) (L s : Nat) : Nat :=
  if m = 0 then 0 else if m = 1 then (if s = ly e 0 then 1 else 0) else ct s ((row (lvs (lw e) (ly e) m) L).take (2 * m - 2))
theorem lv_rise {c : Nat → Nat} {n m : Nat} {e : Nat → Nat × Nat} (h : IsLv c n m e) : Rise (lw e) m := fun i j h1 h2 => by
  rcases h.ord.le (Nat.zero_le _) h1 h2 with q | q
  · unfold lw; rw [q]; exact Nat.le_refl _
  · unfold lx at q; unfold lw; omega
theorem lv_inj {c : Nat → Nat} {n m : Nat} {e : Nat → Nat × Nat} (h : IsLv c n m e) : ∀ i j, i < m → j < m → ly e i = ly e j → i = j := fun i j hi hj q => by
  unfold ly at q
  have h1 := (h.is_ i hi).2.2
  have h2 := (h.is_ j hj).2.2
  have he : e i = e j := Prod.ext (by rw [h1, h2, q]) q
  rcases Nat.lt_trichotomy i j with g | g | g
  · have := h.ord i j (Nat.zero_le _) g hj
    rw [he] at this; exact this.irr.elim
  · exact g
  · have := h.ord j i (Nat.zero_le _) g hi
    rw [he] at this; exact this.irr.elim
theorem pl_leaf {c : Nat → Nat} {n m L : Nat} {e : Nat → Nat × Nat} (h : IsLv c n m e) (h2 : 2 ≤ m) (hL : nds m ≤ L) (h1 : 1 ≤ L) {i : Nat} (hi : i < m) : pl m e L (ly e i) = ln (lvs (lw e) (ly e) m) L (2 * m - 2) i := by
  unfold pl
  rw [if_neg (by omega), if_neg (by omega)]
  have := row_enough (lvs (lw e) (ly e) m) L (by rw [lvs_length]; exact (nds_le h1).1 hL)
  rw [lvs_length] at this
  exact ct_row (lv_inj h) hi L _ this
theorem pl_none {c : Nat → Nat} {n m L s : Nat} {e : Nat → Nat × Nat} (h : IsLv c n m e) (hL : nds m ≤ L) (h1 : 1 ≤ L) (hs : ∀ i, i < m → ly e i ≠ s) : pl m e L s = 0 := by
  unfold pl
  by_cases h0 : m = 0
  · rw [if_pos h0]
  rw [if_neg h0]
  by_cases h2 : m = 1
  · rw [if_pos h2, if_neg (fun q => hs 0 (by omega) q.symm)]
  rw [if_neg h2]
  have := row_enough (lvs (lw e) (ly e) m) L (by rw [lvs_length]; exact (nds_le h1).1 hL)
  rw [lvs_length] at this
  exact ct_row0 hs L _ this
theorem pl_le {c : Nat → Nat} {n m L : Nat} {e : Nat → Nat × Nat} (h : IsLv c n m e) (hL : nds m ≤ L) (h1 : 1 ≤ L) (s : Nat) : pl m e L s ≤ L := by
  by_cases q : ∃ i, i < m ∧ ly e i = s
  · obtain ⟨i, hi, rfl⟩ := q
    by_cases h2 : 2 ≤ m
    · rw [pl_leaf h h2 hL h1 hi]; exact ln_le _ _ _ _
    · unfold pl
      rw [if_neg (by omega), if_pos (by omega)]; split <;> omega
  · rw [pl_none h hL h1 (fun i hi e => q ⟨i, hi, e⟩)]; omega
theorem pl_congr {m L : Nat} {e e' : Nat → Nat × Nat} (h : ∀ i, i < m → e i = e' i) (s : Nat) : pl m e L s = pl m e' L s := by
  unfold pl
  by_cases h0 : m = 0
  · rw [if_pos h0, if_pos h0]
  rw [if_neg h0, if_neg h0]
  have hl : lvs (lw e) (ly e) m = lvs (lw e') (ly e') m := by
    unfold lvs
    apply List.map_congr_left
    intro i hi
    unfold lw ly; rw [h i (List.mem_range.1 hi)]
  rw [hl]
  unfold ly; rw [h 0 (by omega)]
def lvt (m : Nat) (e : Nat → Nat × Nat) : List Tp := (List.range m).map fun i => (.lf (lw e i) (ly e i), none)
theorem lvt_length (m : Nat) (e : Nat → Nat × Nat) : (lvt m e).length = m := by unfold lvt; simp
theorem lvt_fst (m : Nat) (e : Nat → Nat × Nat) : (lvt m e).map (·.1) = lvs (lw e) (ly e) m := by unfold lvt lvs; rw [List.map_map]; rfl
theorem lvt_at (m : Nat) (e : Nat → Nat × Nat) {i : Nat} {x : Tp} (h : (lvt m e)[i]? = some x) : i < m ∧ x = (.lf (lw e i) (ly e i), none) := by
  have hi := (List.getElem?_eq_some_iff.1 h).1
  rw [lvt_length] at hi
  refine ⟨hi, ?_⟩
  unfold lvt at h
  rw [List.getElem?_map, List.getElem?_range hi] at h
  exact (Option.some.inj h).symm
theorem Things.leaves {w : World} {base m : Nat} {A : Option Addr} {e : Nat → Nat × Nat} (h : 0 < m → ∃ b, A = some ⟨b, 0, none⟩ ∧ Lfs w b m e) : Things w base A (lvt m e) := by
  refine ⟨fun hn => ?_, fun x hx => ?_⟩
  · rw [lvt_length] at hn
    obtain ⟨b, rfl, hl⟩ := h hn
    refine ⟨b, 0, rfl, hl.lt, fun i t hi => ?_⟩
    rw [List.getElem?_map] at hi
    cases hq : (lvt m e)[i]? with
    | none => rw [hq] at hi; cases hi
    | some x =>
      rw [hq] at hi
      obtain rfl : tr x = t := by simpa using hi
      obtain ⟨h1, rfl⟩ := lvt_at m e hq
      rw [Nat.zero_add]; exact hl.cells h1
  · obtain ⟨i, hi, rfl⟩ := List.getElem_of_mem hx
    obtain ⟨_, q⟩ := lvt_at m e (List.getElem?_eq_getElem hi)
    rw [q]; exact rfl
theorem Things.take {w : World} {base : Nat} {A : Option Addr} {X : List Tp} (h : Things w base A X) (q : Nat) : Things w base A (X.take q) := by
  refine ⟨fun hn => ?_, fun x hx => h.2 x (List.mem_of_mem_take hx)⟩
  obtain ⟨b, o, e, hl, ht⟩ := h.1 (by rw [List.length_take] at hn; omega)
  refine ⟨b, o, e, hl, fun i t hi => ht i t ?_⟩
  rw [List.map_take, List.getElem?_take] at hi
  split at hi
  · exact hi
  · cases hi
theorem sylt_lvs {c : Nat → Nat} {n m : Nat} {e : Nat → Nat × Nat} (h : IsLv c n m e) : ∀ t ∈ lvs (lw e) (ly e) m, SyLt n t := by
  intro t ht
  unfold lvs at ht
  obtain ⟨i, hi, rfl⟩ := List.mem_map.1 ht
  exact (h.is_ i (List.mem_range.1 hi)).1
theorem sylt_row {L : List Th} {n : Nat} (h : ∀ t ∈ L, SyLt n t) : ∀ k, ∀ t ∈ row L k, SyLt n t
  | 0, t, ht => by cases ht
  | k + 1, t, ht => by
    rcases (mrg_mem t _ _).1 ht with g | g
    · exact h t g
    · have key : ∀ (R : List Th), (∀ u ∈ R, SyLt n u) → ∀ u ∈ pks R, SyLt n u := by
        intro R
        induction R using pks.induct with
        | case1 c d r ih2 =>
          intro hr u hu
          rcases List.mem_cons.1 hu with rfl | hu
          · exact ⟨hr c (by simp), hr d (by simp)⟩
          · exact ih2 (fun t ht => hr t (by simp [ht])) u hu
        | case2 r hr => intro _ u hu; unfold pks at hu; split at hu; exact absurd rfl (hr _ _ _); cases hu
      exact key _ (sylt_row h k) t g
theorem madeByte (w : World) (n : Nat) (hn : n ≤ 400) :
    (Instr.makeSlice 43 (.int .i64 (n : Int)) (.int .i64 (n : Int))).run Tryz.prog w = .ok (.slice (some ⟨w.heap.size, 0, none⟩) n n) (w.alloc (.cells (madeCells #[.int .u8 0] (n * 1)) 5)) :=
  run_made w Tryz.underlying43 byteInfo (by decide) n n (Nat.le_refl _) (by omega)
theorem mayC_nat {c : Nat → Nat} {n : Nat} (hn : n ≤ 320) (hc : ∀ i, c i ≤ 1073741824) : MayC (fun i => (c i : Int)) n := ⟨hn, fun i _ => ⟨Int.natCast_nonneg _, Int.ofNat_le.2 (hc i)⟩⟩
theorem Br.made1 (w : World) (n s : Nat) (hs : s < n) : Br (w.alloc (.cells ((madeCells #[.int .u8 0] n).setIfInBounds s (.int .u8 1)) 5)) w.heap.size n (fun i => if i = s then 1 else 0) := by
  have h := World.rowIs_alloc w ((madeCells #[.int .u8 0] n).setIfInBounds s (.int .u8 1)) 5 (fun i => .int .u8 ((if i = s then 1 else 0 : Nat) : Int)) (fun i hi => by
    have hi' : i < n := by simpa [size_madeCells] using hi
    rw [Array.getElem?_setIfInBounds]
    by_cases q : i = s
    · subst q; simp [size_madeCells, hi']
    · rw [if_neg (fun r => q r.symm)]
      simp [madeCells, hi', q, Nat.mod_one])
  rw [Array.size_setIfInBounds, size_madeCells] at h
  exact h
def GotLens (W : World) (n m L : Nat) (e : Nat → Nat × Nat) (x : Ending) (w' : World) : Prop :=
  ∃ g, x = .returned (.tuple #[.slice (some ⟨g, 0, none⟩) n n, .int .i64 0]) ∧ W.heap.size ≤ g ∧ Br w' g n (pl m e L) ∧ Below W.heap.size W w'
set_option maxHeartbeats 8000000 in
set_option maxRecDepth 1000000 in
theorem lens_ok (A : Option Addr) (n c' L m : Nat) (c : Nat → Nat) (e : Nat → Nat × Nat) (W : World) (hn : n ≤ 320) (hc : ∀ i, c i ≤ 1073741824) (H : Nums W .i64 A n (fun i => (c i : Int))) (h1 : 1 ≤ L) (h2 : L ≤ 15) (hl : IsLv c n m e) (hb : nds m ≤ L) :
    Calls Tryz.prog 131 #[.slice A n c', .int .i64 L] W (GotLens W n m L e) := by
  have hv := Lib.hid (mayC_true (mayC_nat hn hc))
  have HN := Lib.hid (show n ≤ maxLen by unfold maxLen; omega)
  have HA := Lib.hid H
  have HC := Lib.hid hc
  have HL := Lib.hid hl
  have HB := Lib.hid hb
  obtain ⟨q, hq⟩ : ∃ q, nds m = q := ⟨_, rfl⟩
  rw [hq] at hb
  have HQ := Lib.hid hq
  have hmk := fun w => madeByte w n (by omega)
  have d0 : decide ((L : Int) < (q : Int)) = false := decide_eq_false (by omega)
  clear H hc hl hq
  go_enter Tryz.func131, Tryz.ntmps131
  go_wp2_with fail
  refine (pmay_any A n c' _ _ HN.out HA.out).mono ?_; rintro e0 w' ⟨rfl, rfl⟩
  rw [hv.out]
  go_wp2_with fail
  refine (leaves_any A n c' c _ hn HC.out HA.out).mono ?_; rintro x w1 ⟨A1, cap1, m1, e1, rfl, hmc, l1, f1, b1⟩
  obtain ⟨rfl, he⟩ := lv_one HL.out l1
  have B1 := Lib.hid b1
  have HE := Lib.hid he
  have HL1 := Lib.hid l1
  have HF := Lib.hid f1
  have hm := l1.le
  clear l1 f1 b1 he
  have NC := Lib.hid (fun w => needs_any (m : Int) w (by omega) (by omega))
  go_wp2_with fail
  refine (NC.out _).mono ?_; rintro e0 w' ⟨rfl, rfl⟩
  rw [show ((m : Int)).toNat = m by omega, HQ.out]
  clear NC
  by_cases c0 : m = 0
  · subst c0
    go_wp2_with fail
    go_ret2
    refine ⟨_, rfl, B1.out.size, (Br.made' w1 n).congr (f' := pl 0 e L) (fun i _ => by unfold pl; rw [if_pos rfl]), B1.out.alloc B1.out.size _⟩
  by_cases c1 : m = 1
  · subst c1
    obtain ⟨b, rfl, hlf⟩ := HF.out (by omega)
    obtain ⟨y1, y2, y3⟩ := hlf.cells (show 0 < 1 by omega)
    obtain ⟨s, hs⟩ : ∃ s, (e1 0).2 = s := ⟨_, rfl⟩
    have hsn := (HL1.out.is_ 0 (by omega)).1
    rw [hs] at y2 hsn
    have HS := Lib.hid (show s = ly e 0 by unfold ly; rw [HE.out 0 (by omega)]; exact hs.symm)
    have hbl := hlf.lt
    have hsz := B1.out.size
    have hbr := Br.made' w1 n
    have hcl := hbr.cell hsn
    have hfr := hbr.frozen s
    have HBR := Lib.hid ((Br.made1 w1 n s hsn).congr (f' := pl 1 e L) (fun i _ => by
      unfold pl
      rw [if_neg (show ¬ (1 = 0) by omega), if_pos (rfl : 1 = 1), ← HS.out]))
    clear hs hlf hbr c0
    go_wp2_with fail
    go_ret2
    exact ⟨_, rfl, hsz, HBR.out, B1.out.alloc hsz _⟩
  · have c2 : 2 ≤ m := by omega
    have n1 : ((m : Int) == 0) = false := by rw [beq_eq_false_iff_ne]; omega
    have n2 : ((m : Int) == 1) = false := by rw [beq_eq_false_iff_ne]; omega
    obtain ⟨r, hr⟩ : ∃ r, 2 * m - 2 = r := ⟨_, rfl⟩
    have v1 : 2 * (m : Int) - 2 = (r : Int) := by omega
    have hlen : 2 * m - 2 ≤ (row (lvs (lw e1) (ly e1) m) L).length := by
      have := row_enough (lvs (lw e1) (ly e1) m) L (by rw [lvs_length]; exact (nds_le h1).1 HB.out)
      rwa [lvs_length] at this
    have HLEN := Lib.hid hlen
    have HR := Lib.hid hr
    have T0 := Lib.hid (fun (B : Nat) => Things.leaves (w := w1) (base := B) HF.out)
    clear hlen hr c0 c1
    go_wp2_with fail
    have HT := Lib.hid ((T0.out (w1.alloc (.cells (madeCells #[.int .u8 0] n) 5)).heap.size).below ((Below.refl w1.heap.size w1).alloc (Nat.le_refl _) (.cells (madeCells #[.int .u8 0] n) 5)))
    have HWL := Lib.hid (show ∀ x ∈ lvt m e1, x.1.wt ≤ 1073741824 from fun x hx => by
      obtain ⟨i, hi, rfl⟩ := List.getElem_of_mem hx
      obtain ⟨g1, g2⟩ := lvt_at m e1 (List.getElem?_eq_getElem hi)
      rw [g2]
      show (e1 i).1 ≤ _
      rw [(HL1.out.is_ i g1).2.2]; exact HC.out _)
    refine (rowOf_any A1 m cap1 L (lvt m e1) _ (lvt_length m e1) (by omega) hmc h1 h2 HT.out HWL.out).mono ?_; rintro x w3 ⟨A3, n3, cap3, X, rfl, x1, x2, x3, x4, x5, x6⟩
    rw [lvt_fst] at x3
    have hrn : r ≤ n3 := by
      have h3 := HLEN.out
      rw [← x3, List.length_map, x1, HR.out] at h3; exact h3
    have hrc : r ≤ cap3 := by omega
    have BR3 := Lib.hid ((Br.made' w1 n).below x6 (by simp))
    have TX := Lib.hid (x4.take r)
    have X1 := Lib.hid (show (X.take r).length = r by rw [List.length_take, x1]; omega)
    have X3 := Lib.hid x3
    have X6 := Lib.hid x6
    have XF := Lib.hid (show ∀ b o, A3 = some ⟨b, o, none⟩ → b ≠ w1.heap.size from fun b o h => by
      rcases x5 with g | g
      · rw [h] at g
        obtain ⟨b0, q1, q2⟩ := HF.out (by omega)
        rw [q1] at g
        have := q2.lt
        simp at g; omega
      · have := g b o h
        simp at this; omega)
    have XS := Lib.hid (show ∀ x ∈ X.take r, SyLt n x.1 from fun x hx => by
      have h3 : x.1 ∈ row (lvs (lw e1) (ly e1) m) L := by rw [← x3]; exact List.mem_map_of_mem (List.mem_of_mem_take hx)
      exact sylt_row (sylt_lvs HL1.out) L _ h3)
    have XW := Lib.hid (show ∀ x ∈ X.take r, x.1.wt < 18446744073709551616 from fun x hx => by
      obtain ⟨z, rfl⟩ : ∃ z, L = z + 1 := ⟨L - 1, by omega⟩
      have h3 : x.1 ∈ row (lvs (lw e1) (ly e1) m) (z + 1) := by rw [← x3]; exact List.mem_map_of_mem (List.mem_of_mem_take hx)
      have h4 := row_wt (M := 1073741824) (fun t ht => by
        unfold lvs at ht
        obtain ⟨i, hi, rfl⟩ := List.mem_map.1 ht
        show (e1 i).1 ≤ _
        rw [(HL1.out.is_ i (List.mem_range.1 hi)).2.2]; exact HC.out _) z _ h3
      have h5 : 1073741824 * 2 ^ z ≤ 1073741824 * 2 ^ 14 := Nat.mul_le_mul_left _ (Nat.pow_le_pow_right (by omega) (by omega))
      have h6 : (2 : Nat) ^ 14 = 16384 := rfl
      omega)
    have hgb : w1.heap.size < (w1.alloc (.cells (madeCells #[.int .u8 0] n) 5)).heap.size := by simp
    have HGB := Lib.hid hgb
    have hr1000 : r ≤ 1000 := by omega
    clear x1 x3 x4 x5 x6 hrn hgb
    go_wp2_with fail
    refine (addLeaves_any w1.heap.size n (w1.alloc (.cells (madeCells #[.int .u8 0] n) 5)).heap.size r cap3 A3 (X.take r) (fun _ => 0) _ (by omega) HGB.out X1.out hr1000 XF.out XS.out XW.out (fun i => by omega) TX.out BR3.out).mono ?_; rintro x w4 ⟨rfl, x7, x8⟩
    have F7 := Lib.hid (x7.congr (f' := pl m e L) (fun i _ => by
      rw [pl_congr HE.out i]
      have hle := pl_le HL1.out HB.out h1 i
      unfold plusL
      rw [List.map_take, X3.out]
      unfold pl at hle ⊢
      rw [if_neg (by omega), if_neg (by omega), HR.out] at hle ⊢
      rw [Nat.zero_add, Nat.mod_eq_of_lt (by omega)]))
    have F8 := Lib.hid (x8.below (B := W.heap.size) (by have := X6.out.size; have := B1.out.size; simp at *; omega) (fun j hj => by have : j = w1.heap.size := hj; have := B1.out.size; omega))
    clear x7 x8
    go_wp2_with fail
    go_ret2
    exact ⟨_, rfl, B1.out.size, F7.out, ((B1.out.alloc B1.out.size _).trans (X6.out.mono (by have := B1.out.size; simp; omega))).trans F8.out⟩
end Go.Proofs.YtldiojnkoobbmaaGreatDoor

namespace Go.Proofs.YtldiojnkoobbmaaGreatDoor
open Go.RowKit M
set_option linter.unusedVariables false
def mayB (l : Nat → Nat) (n : Nat) : Bool := decide (May l n)
theorem mayB_true {l : Nat → Nat} {n : Nat} (h : May l n) : mayB l n = true := decide_eq_true h
theorem mayB_false {l : Nat → Nat} {n : Nat} (h : ¬ May l n) : mayB l n = false := decide_eq_false h
theorem may_any (A : Option Addr) (n c : Nat) (l : Nat → Nat) (w : World) (hn : n ≤ maxLen) (hl : ∀ i, l i ≤ 255) (H : Nums w .u8 A n (fun i => (l i : Int))) :
    Calls Tryz.prog 175 #[.slice A n c] w fun e w' => e = .returned (.bool (mayB l n)) ∧ w = w' := by
  have hn' : n ≤ 9223372036854775807 := by unfold maxLen at hn; omega
  clear hn
  have HL := Lib.hid hl
  clear hl
  by_cases h3 : n ≤ 320
  · go_enter Tryz.func175, Tryz.ntmps175
    go_wp2
    go_loop [10] (fun i => ∃ k : Nat, k ≤ n ∧ i = .int .i64 k ∧ Hid (∀ j, j < k → l j ≤ 15)) (fun i => n - (intOf i).toNat)
    case atStart => exact ⟨0, Nat.zero_le _, rfl, Lib.hid (fun j hj => by omega)⟩
    case round =>
      obtain ⟨k, hk, rfl, hsm⟩ := hrel
      by_cases hlt : k < n
      · obtain ⟨b, o, rfl, hb, hc⟩ := H (by omega)
        have hcell := hc k hlt
        have h255 := HL.out k
        have HH := Lib.hid hc
        clear hc
        by_cases h15 : l k ≤ 15
        · go_wp2
          go_round
          case rel => exact ⟨k + 1, by omega, by go_num, Lib.hid (fun j hj => by
            by_cases e : j = k
            · rw [e]; exact h15
            · exact hsm.out j (by omega))⟩
          case measure => simp [intOf]; omega
        · have hv := Lib.hid (mayB_false (l := l) (n := n) (fun g => h15 (g.2 k hlt)))
          go_wp2
          go_ret
          exact ⟨by rw [hv.out]; rfl, rfl⟩
      · obtain rfl : k = n := by omega
        have hv := Lib.hid (mayB_true (l := l) (n := k) ⟨h3, hsm.out⟩)
        go_wp2
        go_ret
        exact ⟨by rw [hv.out]; rfl, rfl⟩
  · have hv := Lib.hid (mayB_false (l := l) (n := n) (fun g => h3 g.1))
    go_enter Tryz.func175, Tryz.ntmps175
    go_wp2
    go_ret
    exact ⟨by rw [hv.out]; rfl, rfl⟩
set_option maxHeartbeats 1000000 in
theorem count_any (A : Option Addr) (n c : Nat) (l : Nat → Nat) (W : World) (hm : May l n) (H : Nums W .u8 A n (fun i => (l i : Int))) :
    Calls Tryz.prog 158 #[.slice A n c] W fun e w' => e = .returned (.agg (TV (c0 l n))) ∧ Below W.heap.size W w' := by
  have hz := arrZero
  have hn' : n ≤ 320 := hm.1
  have HL := Lib.hid hm.2
  clear hm
  go_enter Tryz.func158, Tryz.ntmps158
  go_wp2_with fail
  clear hz
  go_loopw [8] (fun i wr => ∃ k : Nat, k ≤ n ∧ i = .int .i64 k ∧ Tb wr W.heap.size (fun _ => 0) ∧ Tb wr (W.heap.size + 1) (fun s => cnt l s k) ∧ Below W.heap.size W wr) (fun i _ => n - (intOf i).toNat)
  case atStart =>
    refine ⟨0, Nat.zero_le _, rfl, (Tb.made W _).alloc _, ?_, ((Below.refl _ _).alloc (Nat.le_refl _) _).alloc (by simp) _⟩
    have h := Tb.made (W.alloc (.cells (TV fun x => 0) 252)) (fun x => 0)
    rw [show (W.alloc (.cells (TV fun x => 0) 252)).heap.size = W.heap.size + 1 by simp] at h
    exact h.congr (fun i hi => rfl)
  case round =>
    obtain ⟨k, hk, rfl, ht0, ht1, hb⟩ := hrel
    by_cases hlt : k < n
    · obtain ⟨b, o, rfl, hbs, hc⟩ := H (by omega)
      have h15 := HL.out k hlt
      have hcell : wr.cell? ⟨b, o + k, none⟩ = some (.int .u8 (l k)) := (hb.cell hbs).trans (hc k hlt)
      obtain ⟨x, hx⟩ : ∃ x, l k = x := ⟨_, rfl⟩
      rw [hx] at h15 hcell
      have hcx := ht1.cell (show x < 16 by omega)
      have hf := ht1.frozen x
      have hle := cnt_le l x k
      have HX := Lib.hid hx
      have HT0 := Lib.hid ht0
      have HT1 := Lib.hid ht1
      have HB := Lib.hid hb
      have HC := Lib.hid hc
      clear ht0 ht1 hb hx hc
      go_wp2_with fail
      go_roundw
      case rel =>
        refine ⟨k + 1, by omega, by go_num, HT0.out.other (by simp) _, (HT1.out.set x (cnt l x k + 1)).congr ?_, HB.out.setCell (by simp) _⟩
        intro i hi
        simp only [cnt, HX.out]
        by_cases e : i = x
        · subst e; simp
        · rw [if_neg e, if_neg (fun g => e g.symm)]; rfl
      case measure => simp [intOf]; omega
    · obtain rfl : k = n := by omega
      have hcx := ht1.cell (show 0 < 16 by omega)
      have hf := ht1.frozen 0
      have ht2 := (ht1.set 0 0).congr (g := c0 l k) (fun i hi => by unfold c0; rfl)
      have ht3 := ht0.other (a := ⟨W.heap.size + 1, 0, none⟩) (by simp) (.int .u32 (0 : Nat))
      have hb2 := hb.setCell (p := ⟨W.heap.size + 1, 0, none⟩) (by simp) (.int .u32 (0 : Nat))
      have HT1 := Lib.hid ht2
      have HT0 := Lib.hid ht3
      have HB := Lib.hid hb2
      clear ht0 ht1 ht2 ht3 hb hb2
      go_wp2_with (first | (refine step_load _ rfl rfl _ rfl (c0 l k) HT1.out ?_) | (refine step_store_row rfl _ _ rfl _ _ (c0 l k) rfl rfl HT0.out ?_))
      have hr := HT0.out.setRow (c0 l k)
      refine bodyPost_ret (v := .agg (TV (c0 l k))) (results_cell_row rfl _ _ _ _ _ _ _ rfl hr.row Tryz.underlying252 rfl (arrSizeV (c0 l k))) rfl ⟨rfl, below_setRow HB.out _ _ (Nat.le_refl _)⟩
set_option maxHeartbeats 1000000 in
theorem weigh_any (c : Nat → Nat) (W : World) (hc : ∀ s, s < 16 → c s ≤ 320) :
    Calls Tryz.prog 176 #[.agg (TV c)] W fun e w' => e = .returned (.int .u32 (aw c 16)) ∧ Below W.heap.size W w' := by
  have HM := Lib.hid (Tb.made W c)
  have HB := Lib.hid ((Below.refl W.heap.size W).alloc (Nat.le_refl _) (.cells (TV c) 252))
  have HC := Lib.hid hc
  clear hc
  go_enter Tryz.func176, Tryz.ntmps176
  go_wp2_with (refine step_load _ rfl rfl _ rfl c HM.out ?_)
  go_loop [3, 7] (fun x i => ∃ k : Nat, k ≤ 16 ∧ i = .int .i64 k ∧ x = .int .u32 (aw c k)) (fun _ i => 16 - (intOf i).toNat)
  case atStart => exact ⟨0, Nat.zero_le _, rfl, rfl⟩
  case round =>
    obtain ⟨k, hk, rfl, rfl⟩ := hrel
    by_cases hlt : k < 16
    · have h320 := HC.out k hlt
      have hs := aw_small HC.out k hk
      have hv := Lib.hid (show aw c (k + 1) = aw c k + c k * 2 ^ (15 - k) from rfl)
      have hd : decide ((k : Int) < 16) = true := by simp; omega
      have hidx := fun w => idxA w c k hlt
      have hq : c k * 2 ^ (15 - k) ≤ 320 * 2 ^ 15 := Nat.mul_le_mul h320 (Nat.pow_le_pow_right (by omega) (by omega))
      obtain ⟨d, hdd⟩ : ∃ d, 15 - k = d := ⟨_, rfl⟩
      rw [hdd] at hq hv
      have HQ : Hid ((((aw c k : Nat) : Int) + (c k : Int) * 2 ^ d % 4294967296) % 4294967296 = ((aw c (k + 1) : Nat) : Int)) := Lib.hid (by
        rw [hv.out]
        have e : (c k : Int) * 2 ^ d = ((c k * 2 ^ d : Nat) : Int) := by push_cast; rfl
        rw [e]; omega)
      clear hq
      go_wp2_with fail
      go_round
      case rel => exact ⟨k + 1, by omega, by go_num, congrArg (Value.int .u32) HQ.out⟩
      case measure => simp [intOf]; omega
    · obtain rfl : k = 16 := by omega
      have hd : decide ((16 : Int) < 16) = false := by decide
      go_wp2_with fail
      go_ret
      exact ⟨rfl, HB.out⟩
set_option maxHeartbeats 1000000 in
theorem firsts_any (c : Nat → Nat) (W : World) (hc : ∀ s, s < 16 → c s ≤ 320) :
    Calls Tryz.prog 157 #[.agg (TV c)] W fun e w' => e = .returned (.agg (TV (fs c))) ∧ Below W.heap.size W w' := by
  have hz := arrZero
  have HC := Lib.hid hc
  clear hc
  go_enter Tryz.func157, Tryz.ntmps157
  go_wp2_with fail
  clear hz
  go_loopw [4] (fun i wr => ∃ k : Nat, k ≤ 15 ∧ i = .int .i64 ((k : Int) + 1) ∧ Tb wr W.heap.size c ∧ Tb wr (W.heap.size + 1) (fun _ => 0) ∧ Tb wr (W.heap.size + 2) (fun s => if s ≤ k then fs c s else 0) ∧ Below W.heap.size W wr) (fun i _ => 16 - (intOf i).toNat)
  case atStart =>
    refine ⟨0, Nat.zero_le _, rfl, ((Tb.made W _).alloc _).alloc _, ?_, ?_, (((Below.refl _ _).alloc (Nat.le_refl _) _).alloc (by simp) _).alloc (by simp; omega) _⟩
    · have h := Tb.made (W.alloc (.cells (TV c) 252)) (fun x => 0)
      rw [show (W.alloc (.cells (TV c) 252)).heap.size = W.heap.size + 1 by simp] at h
      exact h.alloc _
    · have h := Tb.made ((W.alloc (.cells (TV c) 252)).alloc (.cells (TV fun x => 0) 252)) (fun x => 0)
      rw [show ((W.alloc (.cells (TV c) 252)).alloc (.cells (TV fun x => 0) 252)).heap.size = W.heap.size + 2 by simp] at h
      refine h.congr (fun i hi => ?_)
      split
      · obtain rfl : i = 0 := by omega
        rfl
      · rfl
  case round =>
    obtain ⟨k, hk, rfl, ht0, ht1, ht2, hb⟩ := hrel
    by_cases hlt : k < 15
    · have g1 := ht0.cell (show k < 16 by omega)
      have g2 := ht2.cell (show k < 16 by omega)
      simp only [if_pos (Nat.le_refl k)] at g2
      have g3 := ht2.frozen (k + 1)
      have g4 := ht2.cell (show k + 1 < 16 by omega)
      have q1 := HC.out k (by omega)
      have q2 := fs_small HC.out k (by omega)
      have q3 : 2 ^ k ≤ 2 ^ 15 := Nat.pow_le_pow_right (by omega) (by omega)
      obtain ⟨x, hx⟩ : ∃ x, fs c k = x := ⟨_, rfl⟩
      obtain ⟨y, hy⟩ : ∃ y, c k = y := ⟨_, rfl⟩
      obtain ⟨z, hz⟩ : ∃ z, (if k + 1 ≤ k then fs c (k + 1) else 0) = z := ⟨_, rfl⟩
      rw [hx] at g2 q2
      rw [hy] at g1 q1
      rw [hz] at g4
      have w1 : IntKind.i64.wrap ((k : Int) + 1 - 1) = (k : Int) := by rw [IntWalk.i64_in _ (by omega)]; omega
      have w2 : IntKind.u32.wrap ((x : Int) + (y : Int)) = ((x + y : Nat) : Int) := by rw [IntKind.wrap_u32]; omega
      have w3 : IntKind.u32.wrap (((x + y : Nat) : Int) * 2 ^ 1) = (((x + y) * 2 : Nat) : Int) := by rw [IntKind.wrap_u32]; omega
      have w4 : ((k : Int)).toNat = k := by omega
      have w5 : ((k : Int) + 1).toNat = k + 1 := by omega
      have HT0 := Lib.hid ht0
      have HT1 := Lib.hid ht1
      have HT2 := Lib.hid ht2
      have HB := Lib.hid hb
      have HX := Lib.hid hx
      have HY := Lib.hid hy
      have HV : Hid (((x : Int) + (y : Int)) * 2 % 4294967296 = ((fs c (k + 1) : Nat) : Int)) := Lib.hid (by
        simp only [fs]; rw [hx, hy]; omega)
      clear ht0 ht1 ht2 hb hx hy hz q2 q3
      go_wp2_with fail
      go_region
      go_wp2_with fail
      go_roundw
      case rel =>
        refine ⟨k + 1, by omega, by go_num, (HT0.out.other (by simp <;> omega) _), (HT1.out.other (by simp <;> omega) _), ?_, (HB.out.setCell (by simp; omega) _).drew⟩
        have h := (HT2.out.set (k + 1) (fs c (k + 1))).congr (g := fun s => if s ≤ k + 1 then fs c s else 0) (fun i hi => by
          by_cases e : i = k + 1
          · subst e; simp
          · rw [if_neg e]
            by_cases e2 : i ≤ k
            · rw [if_pos e2, if_pos (by omega)]
            · rw [if_neg e2, if_neg (by omega)])
        rw [HV.out]
        exact h
      case measure => simp [intOf]; omega
    · obtain rfl : k = 15 := by omega
      have ht : Tb wr (W.heap.size + 2) (fs c) := ht2.congr (fun i hi => by rw [if_pos (by omega)])
      have HT1 := Lib.hid ht1
      have HT := Lib.hid ht
      have HB := Lib.hid hb
      clear ht0 ht1 ht2 ht hb
      go_wp2_with (first | (refine step_load _ rfl rfl _ rfl (fs c) HT.out ?_) | (refine step_store_row rfl _ _ rfl _ _ (fs c) rfl rfl HT1.out ?_))
      have hr := HT1.out.setRow (fs c)
      refine bodyPost_ret (v := .agg (TV (fs c))) (results_cell_row rfl _ _ _ _ _ _ _ rfl hr.row Tryz.underlying252 rfl (arrSizeV (fs c))) rfl ⟨rfl, below_setRow HB.out _ _ (by omega)⟩
end Go.Proofs.YtldiojnkoobbmaaGreatDoor

namespace Go.Proofs.YtldiojnkoobbmaaGreatDoor
open Go.RowKit M
set_option linter.unusedVariables false
set_option maxRecDepth 1000000
theorem kind_bad_any (A : Option Addr) (n c : Nat) (l : Nat → Nat) (W : World) (hn : n ≤ maxLen) (hl : ∀ i, l i ≤ 255) (H : Nums W .u8 A n (fun i => (l i : Int))) (hm : ¬ May l n) :
    Calls Tryz.prog 156 #[.slice A n c] W fun e w' => e = .returned (.int .u8 (kind l n)) ∧ Below W.heap.size W w' := by
  have hv := Lib.hid (kind_bad hm)
  have hb := Lib.hid (mayB_false hm)
  have HL := Lib.hid hl
  clear hm hl
  go_enter Tryz.func156, Tryz.ntmps156
  go_wp2_with fail
  refine (may_any A n c l _ hn HL.out H).mono ?_; rintro e w' ⟨rfl, rfl⟩
  rw [hb.out]
  go_wp2_with fail
  go_ret
  exact ⟨by rw [hv.out]; rfl, Below.refl _ _⟩
set_option maxHeartbeats 1000000 in
theorem kind_none_any (A : Option Addr) (n c : Nat) (l : Nat → Nat) (W : World) (hl : ∀ i, l i ≤ 255) (H : Nums W .u8 A n (fun i => (l i : Int))) (hm : May l n) (g x : Nat) (hg : g = weight l n) (hx : x = c0 l n 1) (e0 : g = 0) :
    Calls Tryz.prog 156 #[.slice A n c] W fun e w' => e = .returned (.int .u8 0) ∧ Below W.heap.size W w' := by
  have hz := arrZero
  have HL := Lib.hid hl
  have HM := Lib.hid hm
  have HN := Lib.hid (show n ≤ maxLen by have := hm.1; unfold maxLen; omega)
  have HX := Lib.hid hx
  have HG := Lib.hid (show aw (c0 l n) 16 = g by rw [hg]; exact aw_weight l n hm.2)
  have HC := Lib.hid (show ∀ s, s < 16 → c0 l n s ≤ 320 from fun s _ => Nat.le_trans (c0_le l n s) hm.1)
  have hb := Lib.hid (mayB_true hm)
  have d0 : ((g : Int) == 0) = true := by rw [beq_iff_eq]; omega
  clear hm hl hx hg e0
  go_enter Tryz.func156, Tryz.ntmps156
  go_wp2_with fail
  refine (may_any A n c l _ HN.out HL.out H).mono ?_; rintro e w' ⟨rfl, rfl⟩
  rw [hb.out]
  go_wp2_with fail
  refine (count_any A n c l _ HM.out H).mono ?_; rintro e w1 ⟨rfl, b1⟩
  have B1 := Lib.hid b1
  clear b1
  have T1 := Lib.hid (Tb.made w1 (c0 l n))
  go_wp2_with (first | (refine step_store rfl _ _ rfl _ (c0 l n) rfl rfl ?_) | (refine step_load _ rfl rfl _ rfl (c0 l n) T1.out ?_))
  clear hz
  refine (weigh_any (c0 l n) _ HC.out).mono ?_; rintro e w2 ⟨rfl, b2⟩
  rw [HG.out]
  have B2 := Lib.hid b2
  have T2 := Lib.hid (T1.out.below b2 (by simp))
  have hc1 := T2.out.cell (show 1 < 16 by decide)
  rw [← HX.out] at hc1
  clear b2
  go_wp2_with fail
  go_ret
  exact ⟨rfl, (B1.out.alloc B1.out.size _).trans (B2.out.mono (Nat.le_trans B1.out.size (by simp)))⟩
set_option maxHeartbeats 1000000 in
theorem kind_over_any (A : Option Addr) (n c : Nat) (l : Nat → Nat) (W : World) (hl : ∀ i, l i ≤ 255) (H : Nums W .u8 A n (fun i => (l i : Int))) (hm : May l n) (g x : Nat) (hg : g = weight l n) (hx : x = c0 l n 1) (e1 : 32768 < g) :
    Calls Tryz.prog 156 #[.slice A n c] W fun e w' => e = .returned (.int .u8 4) ∧ Below W.heap.size W w' := by
  have hz := arrZero
  have HL := Lib.hid hl
  have HM := Lib.hid hm
  have HN := Lib.hid (show n ≤ maxLen by have := hm.1; unfold maxLen; omega)
  have HX := Lib.hid hx
  have HG := Lib.hid (show aw (c0 l n) 16 = g by rw [hg]; exact aw_weight l n hm.2)
  have HC := Lib.hid (show ∀ s, s < 16 → c0 l n s ≤ 320 from fun s _ => Nat.le_trans (c0_le l n s) hm.1)
  have hb := Lib.hid (mayB_true hm)
  have d0 : ((g : Int) == 0) = false := by rw [beq_eq_false_iff_ne]; omega
  clear hm hl hx hg
  go_enter Tryz.func156, Tryz.ntmps156
  go_wp2_with fail
  refine (may_any A n c l _ HN.out HL.out H).mono ?_; rintro e w' ⟨rfl, rfl⟩
  rw [hb.out]
  go_wp2_with fail
  refine (count_any A n c l _ HM.out H).mono ?_; rintro e w1 ⟨rfl, b1⟩
  have B1 := Lib.hid b1
  clear b1
  have T1 := Lib.hid (Tb.made w1 (c0 l n))
  go_wp2_with (first | (refine step_store rfl _ _ rfl _ (c0 l n) rfl rfl ?_) | (refine step_load _ rfl rfl _ rfl (c0 l n) T1.out ?_))
  clear hz
  refine (weigh_any (c0 l n) _ HC.out).mono ?_; rintro e w2 ⟨rfl, b2⟩
  rw [HG.out]
  have B2 := Lib.hid b2
  have T2 := Lib.hid (T1.out.below b2 (by simp))
  have hc1 := T2.out.cell (show 1 < 16 by decide)
  rw [← HX.out] at hc1
  clear b2
  go_wp2_with fail
  go_ret
  exact ⟨rfl, (B1.out.alloc B1.out.size _).trans (B2.out.mono (Nat.le_trans B1.out.size (by simp)))⟩
set_option maxHeartbeats 1000000 in
theorem kind_whole_any (A : Option Addr) (n c : Nat) (l : Nat → Nat) (W : World) (hl : ∀ i, l i ≤ 255) (H : Nums W .u8 A n (fun i => (l i : Int))) (hm : May l n) (g x : Nat) (hg : g = weight l n) (hx : x = c0 l n 1) (e2 : g = 32768) :
    Calls Tryz.prog 156 #[.slice A n c] W fun e w' => e = .returned (.int .u8 2) ∧ Below W.heap.size W w' := by
  have hz := arrZero
  have HL := Lib.hid hl
  have HM := Lib.hid hm
  have HN := Lib.hid (show n ≤ maxLen by have := hm.1; unfold maxLen; omega)
  have HX := Lib.hid hx
  have HG := Lib.hid (show aw (c0 l n) 16 = g by rw [hg]; exact aw_weight l n hm.2)
  have HC := Lib.hid (show ∀ s, s < 16 → c0 l n s ≤ 320 from fun s _ => Nat.le_trans (c0_le l n s) hm.1)
  have hb := Lib.hid (mayB_true hm)
  have d0 : ((g : Int) == 0) = false := by rw [beq_eq_false_iff_ne]; omega
  have d1 : decide (32768 < (g : Int)) = false := decide_eq_false (by omega)
  have d2 : ((g : Int) == 32768) = true := by rw [beq_iff_eq]; omega
  clear hm hl hx hg e2
  go_enter Tryz.func156, Tryz.ntmps156
  go_wp2_with fail
  refine (may_any A n c l _ HN.out HL.out H).mono ?_; rintro e w' ⟨rfl, rfl⟩
  rw [hb.out]
  go_wp2_with fail
  refine (count_any A n c l _ HM.out H).mono ?_; rintro e w1 ⟨rfl, b1⟩
  have B1 := Lib.hid b1
  clear b1
  have T1 := Lib.hid (Tb.made w1 (c0 l n))
  go_wp2_with (first | (refine step_store rfl _ _ rfl _ (c0 l n) rfl rfl ?_) | (refine step_load _ rfl rfl _ rfl (c0 l n) T1.out ?_))
  clear hz
  refine (weigh_any (c0 l n) _ HC.out).mono ?_; rintro e w2 ⟨rfl, b2⟩
  rw [HG.out]
  have B2 := Lib.hid b2
  have T2 := Lib.hid (T1.out.below b2 (by simp))
  have hc1 := T2.out.cell (show 1 < 16 by decide)
  rw [← HX.out] at hc1
  clear b2
  go_wp2_with fail
  go_ret
  exact ⟨rfl, (B1.out.alloc B1.out.size _).trans (B2.out.mono (Nat.le_trans B1.out.size (by simp)))⟩
set_option maxHeartbeats 1000000 in
theorem kind_one_any (A : Option Addr) (n c : Nat) (l : Nat → Nat) (W : World) (hl : ∀ i, l i ≤ 255) (H : Nums W .u8 A n (fun i => (l i : Int))) (hm : May l n) (g x : Nat) (hg : g = weight l n) (hx : x = c0 l n 1) (e3 : g = 16384) (e4 : x = 1) :
    Calls Tryz.prog 156 #[.slice A n c] W fun e w' => e = .returned (.int .u8 1) ∧ Below W.heap.size W w' := by
  have hz := arrZero
  have HL := Lib.hid hl
  have HM := Lib.hid hm
  have HN := Lib.hid (show n ≤ maxLen by have := hm.1; unfold maxLen; omega)
  have HX := Lib.hid hx
  have HG := Lib.hid (show aw (c0 l n) 16 = g by rw [hg]; exact aw_weight l n hm.2)
  have HC := Lib.hid (show ∀ s, s < 16 → c0 l n s ≤ 320 from fun s _ => Nat.le_trans (c0_le l n s) hm.1)
  have hb := Lib.hid (mayB_true hm)
  have d0 : ((g : Int) == 0) = false := by rw [beq_eq_false_iff_ne]; omega
  have d1 : decide (32768 < (g : Int)) = false := decide_eq_false (by omega)
  have d2 : ((g : Int) == 32768) = false := by rw [beq_eq_false_iff_ne]; omega
  have d3 : ((x : Int) == 1) = true := by rw [beq_iff_eq]; omega
  have d4 : ((g : Int) == 16384) = true := by rw [beq_iff_eq]; omega
  clear hm hl hx hg e3 e4
  go_enter Tryz.func156, Tryz.ntmps156
  go_wp2_with fail
  refine (may_any A n c l _ HN.out HL.out H).mono ?_; rintro e w' ⟨rfl, rfl⟩
  rw [hb.out]
  go_wp2_with fail
  refine (count_any A n c l _ HM.out H).mono ?_; rintro e w1 ⟨rfl, b1⟩
  have B1 := Lib.hid b1
  clear b1
  have T1 := Lib.hid (Tb.made w1 (c0 l n))
  go_wp2_with (first | (refine step_store rfl _ _ rfl _ (c0 l n) rfl rfl ?_) | (refine step_load _ rfl rfl _ rfl (c0 l n) T1.out ?_))
  clear hz
  refine (weigh_any (c0 l n) _ HC.out).mono ?_; rintro e w2 ⟨rfl, b2⟩
  rw [HG.out]
  have B2 := Lib.hid b2
  have T2 := Lib.hid (T1.out.below b2 (by simp))
  have hc1 := T2.out.cell (show 1 < 16 by decide)
  rw [← HX.out] at hc1
  clear b2
  go_wp2_with fail
  go_ret
  exact ⟨rfl, (B1.out.alloc B1.out.size _).trans (B2.out.mono (Nat.le_trans B1.out.size (by simp)))⟩
set_option maxHeartbeats 1000000 in
theorem kind_less1_any (A : Option Addr) (n c : Nat) (l : Nat → Nat) (W : World) (hl : ∀ i, l i ≤ 255) (H : Nums W .u8 A n (fun i => (l i : Int))) (hm : May l n) (g x : Nat) (hg : g = weight l n) (hx : x = c0 l n 1) (e5 : g ≠ 0) (e6 : g < 32768) (e4 : x ≠ 1) :
    Calls Tryz.prog 156 #[.slice A n c] W fun e w' => e = .returned (.int .u8 3) ∧ Below W.heap.size W w' := by
  have hz := arrZero
  have HL := Lib.hid hl
  have HM := Lib.hid hm
  have HN := Lib.hid (show n ≤ maxLen by have := hm.1; unfold maxLen; omega)
  have HX := Lib.hid hx
  have HG := Lib.hid (show aw (c0 l n) 16 = g by rw [hg]; exact aw_weight l n hm.2)
  have HC := Lib.hid (show ∀ s, s < 16 → c0 l n s ≤ 320 from fun s _ => Nat.le_trans (c0_le l n s) hm.1)
  have hb := Lib.hid (mayB_true hm)
  have d0 : ((g : Int) == 0) = false := by rw [beq_eq_false_iff_ne]; omega
  have d1 : decide (32768 < (g : Int)) = false := decide_eq_false (by omega)
  have d2 : ((g : Int) == 32768) = false := by rw [beq_eq_false_iff_ne]; omega
  have d3 : ((x : Int) == 1) = false := by rw [beq_eq_false_iff_ne]; omega
  clear hm hl hx hg e5 e4
  go_enter Tryz.func156, Tryz.ntmps156
  go_wp2_with fail
  refine (may_any A n c l _ HN.out HL.out H).mono ?_; rintro e w' ⟨rfl, rfl⟩
  rw [hb.out]
  go_wp2_with fail
  refine (count_any A n c l _ HM.out H).mono ?_; rintro e w1 ⟨rfl, b1⟩
  have B1 := Lib.hid b1
  clear b1
  have T1 := Lib.hid (Tb.made w1 (c0 l n))
  go_wp2_with (first | (refine step_store rfl _ _ rfl _ (c0 l n) rfl rfl ?_) | (refine step_load _ rfl rfl _ rfl (c0 l n) T1.out ?_))
  clear hz
  refine (weigh_any (c0 l n) _ HC.out).mono ?_; rintro e w2 ⟨rfl, b2⟩
  rw [HG.out]
  have B2 := Lib.hid b2
  have T2 := Lib.hid (T1.out.below b2 (by simp))
  have hc1 := T2.out.cell (show 1 < 16 by decide)
  rw [← HX.out] at hc1
  clear b2
  go_wp2_with fail
  go_ret
  exact ⟨rfl, (B1.out.alloc B1.out.size _).trans (B2.out.mono (Nat.le_trans B1.out.size (by simp)))⟩
set_option maxHeartbeats 1000000 in
theorem kind_less2_any (A : Option Addr) (n c : Nat) (l : Nat → Nat) (W : World) (hl : ∀ i, l i ≤ 255) (H : Nums W .u8 A n (fun i => (l i : Int))) (hm : May l n) (g x : Nat) (hg : g = weight l n) (hx : x = c0 l n 1) (e5 : g ≠ 0) (e6 : g < 32768) (e4 : x = 1) (e3 : g ≠ 16384) :
    Calls Tryz.prog 156 #[.slice A n c] W fun e w' => e = .returned (.int .u8 3) ∧ Below W.heap.size W w' := by
  have hz := arrZero
  have HL := Lib.hid hl
  have HM := Lib.hid hm
  have HN := Lib.hid (show n ≤ maxLen by have := hm.1; unfold maxLen; omega)
  have HX := Lib.hid hx
  have HG := Lib.hid (show aw (c0 l n) 16 = g by rw [hg]; exact aw_weight l n hm.2)
  have HC := Lib.hid (show ∀ s, s < 16 → c0 l n s ≤ 320 from fun s _ => Nat.le_trans (c0_le l n s) hm.1)
  have hb := Lib.hid (mayB_true hm)
  have d0 : ((g : Int) == 0) = false := by rw [beq_eq_false_iff_ne]; omega
  have d1 : decide (32768 < (g : Int)) = false := decide_eq_false (by omega)
  have d2 : ((g : Int) == 32768) = false := by rw [beq_eq_false_iff_ne]; omega
  have d3 : ((x : Int) == 1) = true := by rw [beq_iff_eq]; omega
  have d4 : ((g : Int) == 16384) = false := by rw [beq_eq_false_iff_ne]; omega
  clear hm hl hx hg e5 e4 e3
  go_enter Tryz.func156, Tryz.ntmps156
  go_wp2_with fail
  refine (may_any A n c l _ HN.out HL.out H).mono ?_; rintro e w' ⟨rfl, rfl⟩
  rw [hb.out]
  go_wp2_with fail
  refine (count_any A n c l _ HM.out H).mono ?_; rintro e w1 ⟨rfl, b1⟩
  have B1 := Lib.hid b1
  clear b1
  have T1 := Lib.hid (Tb.made w1 (c0 l n))
  go_wp2_with (first | (refine step_store rfl _ _ rfl _ (c0 l n) rfl rfl ?_) | (refine step_load _ rfl rfl _ rfl (c0 l n) T1.out ?_))
  clear hz
  refine (weigh_any (c0 l n) _ HC.out).mono ?_; rintro e w2 ⟨rfl, b2⟩
  rw [HG.out]
  have B2 := Lib.hid b2
  have T2 := Lib.hid (T1.out.below b2 (by simp))
  have hc1 := T2.out.cell (show 1 < 16 by decide)
  rw [← HX.out] at hc1
  clear b2
  go_wp2_with fail
  go_ret
  exact ⟨rfl, (B1.out.alloc B1.out.size _).trans (B2.out.mono (Nat.le_trans B1.out.size (by simp)))⟩
theorem kind_any (A : Option Addr) (n c : Nat) (l : Nat → Nat) (W : World) (hn : n ≤ maxLen) (hl : ∀ i, l i ≤ 255) (H : Nums W .u8 A n (fun i => (l i : Int))) :
    Calls Tryz.prog 156 #[.slice A n c] W fun e w' => e = .returned (.int .u8 (kind l n)) ∧ Below W.heap.size W w' := by
  by_cases hm : May l n
  · have hk := kind_of hm
    obtain ⟨g, hg⟩ : ∃ g, g = weight l n := ⟨_, rfl⟩
    obtain ⟨x, hx⟩ : ∃ x, x = c0 l n 1 := ⟨_, rfl⟩
    rw [← hg, ← hx] at hk
    by_cases e0 : g = 0
    · rw [hk, if_pos e0]; exact kind_none_any A n c l W hl H hm g x hg hx e0
    rw [if_neg e0] at hk
    by_cases e1 : 32768 < g
    · rw [hk, if_pos e1]; exact kind_over_any A n c l W hl H hm g x hg hx e1
    rw [if_neg e1] at hk
    by_cases e2 : g = 32768
    · rw [hk, if_pos e2]; exact kind_whole_any A n c l W hl H hm g x hg hx e2
    rw [if_neg e2] at hk
    by_cases e4 : x = 1
    · by_cases e3 : g = 16384
      · rw [hk, if_pos ⟨e4, e3⟩]; exact kind_one_any A n c l W hl H hm g x hg hx e3 e4
      · rw [hk, if_neg (fun q => e3 q.2)]; exact kind_less2_any A n c l W hl H hm g x hg hx e0 (by omega) e4 e3
    · rw [hk, if_neg (fun q => e4 q.1)]; exact kind_less1_any A n c l W hl H hm g x hg hx e0 (by omega) e4
  · exact kind_bad_any A n c l W hn hl H hm
end Go.Proofs.YtldiojnkoobbmaaGreatDoor

namespace Go.Proofs.YtldiojnkoobbmaaGreatDoor
open Go.RowKit M
set_option linter.unusedVariables false
theorem sm_pick {m i0 x : Nat} (P : Nat → Prop) [DecidablePred P] (h0 : i0 < m) (hp : P i0) (hu : ∀ i, i < m → P i → i = i0) : sm (fun i => if P i then x else 0) m = x := by
  induction m with
  | zero => omega
  | succ m ih =>
    simp only [sm]
    by_cases q : i0 = m
    · subst q
      rw [if_pos hp, sm_congr i0 (g := fun _ => 0) (fun i hi => if_neg (fun g => by have := hu i (by omega) g; omega)), sm_zero]; omega
    · rw [ih (by omega) (fun i hi g => hu i (by omega) g), if_neg (fun g => q (hu m (by omega) g).symm)]; omega
theorem sm_at (F : Nat → Nat) {n a : Nat} (h : a < n) : sm (fun s => if a = s then F s else 0) n = F a := by
  rw [sm_congr n (g := fun s => if a = s then F a else 0) (fun s _ => by by_cases q : a = s <;> simp [q])]
  exact sm_pick (fun s => a = s) h rfl (fun i _ g => g.symm)
section
variable {c : Nat → Nat} {n m L K : Nat} {e : Nat → Nat × Nat}
theorem reidx (h : IsLv c n m e) (F : Nat → Nat) (hF : ∀ s, s < n → c s = 0 → F s = 0) : sm F n = sm (fun i => F (ly e i)) m := by
  have h1 : ∀ s, s < n → sm (fun i => if ly e i = s then F s else 0) m = F s := by
    intro s hs
    by_cases q : c s = 0
    · rw [hF s hs q]
      rw [sm_congr m (g := fun _ => 0) (fun i _ => by split <;> rfl), sm_zero]
    · obtain ⟨i, hi, r⟩ := h.all s hs (Nat.pos_of_ne_zero q)
      exact sm_pick (fun i => ly e i = s) hi r (fun j hj g => lv_inj h j i hj hi (g.trans r.symm))
  rw [← sm_congr n h1, sm_swap]
  exact sm_congr m (fun i hi => sm_at F (h.is_ i hi).1)
theorem pl_zero (h : IsLv c n m e) (hL : nds m ≤ L) (h1 : 1 ≤ L) {s : Nat} (hs : s < n) : pl m e L s = 0 ↔ c s = 0 := by
  constructor
  · intro g
    apply Classical.byContradiction
    intro q
    obtain ⟨i, hi, rfl⟩ := h.all s hs (Nat.pos_of_ne_zero q)
    by_cases h2 : 2 ≤ m
    · have hp := ln_pos (lvs_up (g := ly e) (lv_rise h)) (by rw [lvs_length]; exact h2) (k := L) (i := i) (row_enough _ L (by rw [lvs_length]; exact (nds_le h1).1 hL)) (by rw [lvs_length]; exact hi)
      rw [lvs_length] at hp
      have := pl_leaf h h2 hL h1 hi
      unfold ly at this
      rw [g] at this
      unfold ly at hp
      omega
    · unfold pl at g
      rw [if_neg (by omega), if_pos (by omega), if_pos (by unfold ly; rw [show i = 0 by omega])] at g
      omega
  · intro g
    refine pl_none h hL h1 (fun i hi q => ?_)
    have := (h.is_ i hi).2.1
    unfold ly at q
    rw [q] at this; omega
theorem pl_kraft (h : IsLv c n m e) (h2 : 2 ≤ m) (hL : nds m ≤ L) (h1 : 1 ≤ L) : sm (fun i => 2 ^ (L - pl m e L (ly e i))) m = 2 ^ L := by
  have hk := kraft (lvs_up (g := ly e) (lv_rise h)) L (by rw [lvs_length]; omega) (row_enough _ L (by rw [lvs_length]; exact (nds_le h1).1 hL))
  rw [lvs_length] at hk
  rw [← hk]
  exact sm_congr m (fun i hi => by rw [pl_leaf h h2 hL h1 hi])
theorem pow_shift {L K x : Nat} (hx : x ≤ L) (hK : L ≤ K) : 2 ^ (K - x) = 2 ^ (L - x) * 2 ^ (K - L) := by
  rw [← Nat.pow_add]; congr 1; omega
end
theorem weight_sm (l : Nat → Nat) : ∀ n, weight l n = sm (fun s => wt (l s)) n
  | 0 => rfl
  | n + 1 => by simp only [weight, sm]; rw [weight_sm l n]
theorem cnt_sm (l : Nat → Nat) (x : Nat) : ∀ n, cnt l x n = sm (fun s => if l s = x then 1 else 0) n
  | 0 => rfl
  | n + 1 => by
    have : cnt l x (n + 1) = cnt l x n + if l n = x then 1 else 0 := rfl
    rw [this, cnt_sm l x n]; rfl
theorem pl_may {c : Nat → Nat} {n m L : Nat} {e : Nat → Nat × Nat} (h : IsLv c n m e) (hn : n ≤ 320) (hL : nds m ≤ L) (h1 : 1 ≤ L) (h15 : L ≤ 15) : May (pl m e L) n := ⟨hn, fun i _ => Nat.le_trans (pl_le h hL h1 i) h15⟩
theorem pl_kind {c : Nat → Nat} {n m L : Nat} {e : Nat → Nat × Nat} (h : IsLv c n m e) (hn : n ≤ 320) (hL : nds m ≤ L) (h1 : 1 ≤ L) (h15 : L ≤ 15) : kind (pl m e L) n = if m = 0 then 0 else if m = 1 then 1 else 2 := by
  have hw : weight (pl m e L) n = sm (fun i => wt (pl m e L (ly e i))) m := by
    rw [weight_sm, reidx h _ (fun s hs g => by rw [(pl_zero h hL h1 hs).2 g]; rfl)]
  rw [kind_of (pl_may h hn hL h1 h15)]
  by_cases m0 : m = 0
  · subst m0
    rw [if_pos rfl, hw]; rfl
  rw [if_neg m0]
  by_cases m1 : m = 1
  · subst m1
    have hp : pl 1 e L (ly e 0) = 1 := by unfold pl; rw [if_neg m0, if_pos rfl, if_pos rfl]
    have w1 : weight (pl 1 e L) n = 16384 := by rw [hw]; simp only [sm]; rw [hp]; rfl
    have c1 : c0 (pl 1 e L) n 1 = 1 := by
      unfold c0
      rw [if_neg (by omega), cnt_sm, reidx h _ (fun s hs g => by rw [(pl_zero h hL h1 hs).2 g, if_neg (by omega)])]
      simp only [sm]; rw [hp]; rfl
    rw [if_pos rfl, w1, c1]; rfl
  · rw [if_neg m1]
    have h2 : 2 ≤ m := by omega
    have w2 : weight (pl m e L) n = 32768 := by
      have kr := pl_kraft h h2 hL h1
      rw [hw]
      have e1 : sm (fun i => wt (pl m e L (ly e i))) m = sm (fun i => 2 ^ (L - pl m e L (ly e i))) m * 2 ^ (15 - L) := by
        rw [← sm_mul]
        refine sm_congr m (fun i hi => ?_)
        have hne : pl m e L (ly e i) ≠ 0 := fun g => by
          have := (pl_zero h hL h1 (h.is_ i hi).1).1 g
          have := (h.is_ i hi).2.1
          omega
        unfold M.wt
        rw [if_neg hne]
        exact pow_shift (pl_le h hL h1 _) h15
      rw [e1, kr, ← Nat.pow_add, show L + (15 - L) = 15 by omega]
    rw [w2]; rfl
end Go.Proofs.YtldiojnkoobbmaaGreatDoor

namespace Go.Proofs.YtldiojnkoobbmaaGreatDoor.C
open Go.RowKit M
set_option linter.unusedVariables false
set_option maxRecDepth 1000000
def Crow (w : World) (b n : Nat) (F G : Nat → Nat) : Prop :=
  ∃ c : Array Value, w.heap[b]? = some (.cells c 131 (0, 0)) ∧ c.size = n * 2 ∧ ∀ i, i < n → c[i * 2]? = some (.int .u32 (F i)) ∧ c[i * 2 + 1]? = some (.int .u8 (G i))
section
variable {w w' : World} {b n : Nat} {F G F' G' : Nat → Nat}
theorem Crow.lt (h : Crow w b n F G) : b < w.heap.size := by
  obtain ⟨c, hb, _⟩ := h
  rcases Nat.lt_or_ge b w.heap.size with g | g
  · exact g
  · rw [Array.getElem?_eq_none g] at hb; cases hb
theorem Crow.cell1 (h : Crow w b n F G) {i : Nat} (hi : i < n) : w.cell? ⟨b, i * 2, none⟩ = some (.int .u32 (F i)) := by
  obtain ⟨c, hb, _, hc⟩ := h
  rw [cell_of_row w b _ c _ _ hb]; exact (hc i hi).1
theorem Crow.cell2 (h : Crow w b n F G) {i : Nat} (hi : i < n) : w.cell? ⟨b, i * 2 + 1, none⟩ = some (.int .u8 (G i)) := by
  obtain ⟨c, hb, _, hc⟩ := h
  rw [cell_of_row w b _ c _ _ hb]; exact (hc i hi).2
theorem Crow.frozen (h : Crow w b n F G) (i : Nat) : w.frozen? ⟨b, i, none⟩ = false := by
  obtain ⟨c, hb, _⟩ := h
  simp [World.frozen?, hb]
theorem Crow.congr (h : Crow w b n F G) (e1 : ∀ i, i < n → F i = F' i) (e2 : ∀ i, i < n → G i = G' i) : Crow w b n F' G' := by
  obtain ⟨c, hb, hs, hc⟩ := h
  exact ⟨c, hb, hs, fun i hi => by rw [(hc i hi).1, (hc i hi).2, e1 i hi, e2 i hi]; exact ⟨rfl, rfl⟩⟩
theorem Crow.other (h : Crow w b n F G) {a : Addr} (ha : b ≠ a.block) (v : Value) : Crow (w.setCell a v) b n F G := by
  obtain ⟨c, hb, hs, hc⟩ := h
  exact ⟨c, (Below.heap_setCell w a v b ha).trans hb, hs, hc⟩
theorem Crow.alloc (h : Crow w b n F G) (o : Obj) : Crow (w.alloc o) b n F G := by
  obtain ⟨c, hb, hs, hc⟩ := id h
  exact ⟨c, (Below.heap_alloc w o b h.lt).trans hb, hs, hc⟩
theorem Crow.set (h : Crow w b n F G) (i x y : Nat) : Crow ((w.setCell ⟨b, i * 2, none⟩ (.int .u32 x)).setCell ⟨b, i * 2 + 1, none⟩ (.int .u8 y)) b n (fun j => if j = i then x else F j) (fun j => if j = i then y else G j) := by
  obtain ⟨c, hb, hs, hc⟩ := h
  refine ⟨(c.setIfInBounds (i * 2) (.int .u32 x)).setIfInBounds (i * 2 + 1) (.int .u8 y), ?_, by simp [hs], fun j hj => ?_⟩
  · simp [World.setCell, Array.getElem?_modify, hb]
  · obtain ⟨h1, h2⟩ := hc j hj
    by_cases e : j = i
    · subst e
      have l1 : j * 2 < c.size := by omega
      have l2 : j * 2 + 1 < c.size := by omega
      constructor
      · rw [Array.getElem?_setIfInBounds, if_neg (by omega), Array.getElem?_setIfInBounds, if_pos rfl, if_pos l1]; simp
      · rw [Array.getElem?_setIfInBounds, if_pos rfl, if_pos (by simpa using l2)]; simp
    · constructor
      · rw [Array.getElem?_setIfInBounds, if_neg (by omega), Array.getElem?_setIfInBounds, if_neg (by omega), h1]; simp [e]
      · rw [Array.getElem?_setIfInBounds, if_neg (by omega), Array.getElem?_setIfInBounds, if_neg (by omega), h2]; simp [e]
theorem Crow.cods (h : Crow w b n F G) : Cods w (some ⟨b, 0, none⟩) n F G := fun hn =>
  ⟨b, 0, rfl, h.lt, fun i hi => by rw [Nat.zero_add]; exact ⟨h.cell1 hi, h.cell2 hi⟩⟩
end
theorem codeInfo : (Tryz.prog.info? 131).map (fun i => (i.zero, i.size, i.bytes)) = some (some (.agg #[.int .u32 0, .int .u8 0]), 2, 8) := by kernel_rfl
theorem run_make_known (w : World) {t e : TypeId} {z : Value} {size bytes : Nat} (ht : Tryz.prog.underlying t = some (.slice e)) (hi : (Tryz.prog.info? e).map (fun i => (i.zero, i.size, i.bytes)) = some (some z, size, bytes)) (hb : bytes ≤ 8) (n : Nat) (hn : n ≤ 400) :
    (Instr.makeSlice t (.int .i64 (n : Int)) (.int .i64 (n : Int))).run Tryz.prog w = .ok (.slice (some ⟨w.heap.size, 0, none⟩) n n) (w.alloc (.cells (madeCells z.cells (n * size)) e)) := by
  obtain ⟨i, h1, h2, h3, h4⟩ : ∃ i, Tryz.prog.info? e = some i ∧ i.zero = some z ∧ i.size = size ∧ i.bytes = bytes := by
    cases hq : Tryz.prog.info? e with
    | none => rw [hq] at hi; cases hi
    | some i => rw [hq] at hi; simp at hi; exact ⟨i, rfl, hi.1, hi.2.1, hi.2.2⟩
  subst h3 h4
  have hb' : (i.bytes : Int) * (n : Int) ≤ 281474976710656 := by
    have h : i.bytes * n ≤ 8 * 400 := Nat.mul_le_mul hb hn
    have h' : ((i.bytes * n : Nat) : Int) ≤ 281474976710656 := by omega
    rwa [Int.natCast_mul] at h'
  have hr := run_make (P := Tryz.prog) w t e i z ht h1 h2 .i64 .i64 n n (by omega) (Int.le_refl _) hb' (by omega)
  simp only [Int.toNat_natCast] at hr
  exact hr
theorem madeCode (w : World) (n : Nat) (hn : n ≤ 400) :
    (Instr.makeSlice 121 (.int .i64 (n : Int)) (.int .i64 (n : Int))).run Tryz.prog w = .ok (.slice (some ⟨w.heap.size, 0, none⟩) n n) (w.alloc (.cells (madeCells #[.int .u32 0, .int .u8 0] (n * 2)) 131)) :=
  run_make_known w Tryz.underlying121 codeInfo (by decide) n hn
theorem Crow.made (w : World) (n : Nat) : Crow (w.alloc (.cells (madeCells #[.int .u32 0, .int .u8 0] (n * 2)) 131)) w.heap.size n (fun _ => 0) (fun _ => 0) := by
  refine ⟨_, heap_alloc_new w _, size_madeCells _ _, fun i hi => ?_⟩
  have h1 : i * 2 < n * 2 := by omega
  have h2 : i * 2 + 1 < n * 2 := by omega
  have m1 : i * 2 % 2 = 0 := by omega
  have m2 : (i * 2 + 1) % 2 = 1 := by omega
  constructor
  · simp [madeCells, h1, m1]
  · simp [madeCells, h2, m2]
end Go.Proofs.YtldiojnkoobbmaaGreatDoor.C

namespace Go.Proofs.YtldiojnkoobbmaaGreatDoor.C
open Go.RowKit M
set_option linter.unusedVariables false
set_option maxRecDepth 1000000
def GotC (W : World) (n : Nat) (f g : Nat → Nat) (err : Int) (e : Ending) (w' : World) : Prop :=
  ∃ A c, e = .returned (.tuple #[.slice A n c, .int .i64 err]) ∧ n ≤ c ∧ c ≤ 400 ∧ Cods w' A n f g ∧ Below W.heap.size W w' ∧ (0 < n → ∃ b, A = some ⟨b, 0, none⟩ ∧ W.heap.size ≤ b ∧ Crow w' b n f g)
theorem codes_bad_any (A : Option Addr) (n c : Nat) (l : Nat → Nat) (W : World) (hn : n ≤ maxLen) (hl : ∀ i, l i ≤ 255) (H : Nums W .u8 A n (fun i => (l i : Int))) (f g : Nat → Nat) (hk : kind l n = 5) :
    Calls Tryz.prog 137 #[.slice A n c] W (GotC W 0 f g 2) := by
  have hv := Lib.hid hk
  have HL := Lib.hid hl
  clear hk hl
  go_enter Tryz.func137, Tryz.ntmps137
  go_wp2_with fail
  refine (kind_any A n c l _ hn HL.out H).mono ?_; rintro e w1 ⟨rfl, b1⟩
  rw [hv.out]
  have B1 := Lib.hid b1
  clear b1
  go_wp2_with fail
  go_ret2
  exact ⟨none, 0, rfl, Nat.le_refl _, by omega, Cods.nil _ _ _ _, B1.out, fun h => absurd h (by omega)⟩
theorem codes_over_any (A : Option Addr) (n c : Nat) (l : Nat → Nat) (W : World) (hn : n ≤ maxLen) (hl : ∀ i, l i ≤ 255) (H : Nums W .u8 A n (fun i => (l i : Int))) (f g : Nat → Nat) (hk : kind l n = 4) :
    Calls Tryz.prog 137 #[.slice A n c] W (GotC W 0 f g 7) := by
  have hv := Lib.hid hk
  have HL := Lib.hid hl
  clear hk hl
  go_enter Tryz.func137, Tryz.ntmps137
  go_wp2_with fail
  refine (kind_any A n c l _ hn HL.out H).mono ?_; rintro e w1 ⟨rfl, b1⟩
  rw [hv.out]
  have B1 := Lib.hid b1
  clear b1
  go_wp2_with fail
  go_ret2
  exact ⟨none, 0, rfl, Nat.le_refl _, by omega, Cods.nil _ _ _ _, B1.out, fun h => absurd h (by omega)⟩
set_option maxRecDepth 1000000 in
set_option maxHeartbeats 1000000 in
theorem codes_ok_any (A : Option Addr) (n c : Nat) (l : Nat → Nat) (W : World) (hl : ∀ i, l i ≤ 255) (H : Nums W .u8 A n (fun i => (l i : Int))) (hm : May l n) (hw : weight l n ≤ 32768) (K : Nat) (hk : kind l n = K) (k5 : K ≠ 5) (k4 : K ≠ 4) :
    Calls Tryz.prog 137 #[.slice A n c] W (GotC W n (cod l n) l 0) := by
  have hz := arrZero
  have h320 := hm.1
  have hv := Lib.hid hk
  have HL := Lib.hid hl
  have HM := Lib.hid hm
  have HW := Lib.hid hw
  have HN := Lib.hid (show n ≤ maxLen by unfold maxLen; omega)
  have HC := Lib.hid (show ∀ s, s < 16 → c0 l n s ≤ 320 from fun s _ => Nat.le_trans (c0_le l n s) hm.1)
  have d5 : ((K : Int) == 5) = false := by rw [beq_eq_false_iff_ne]; omega
  have d4 : ((K : Int) == 4) = false := by rw [beq_eq_false_iff_ne]; omega
  have HH := Lib.hid H
  clear hk hl hm hw k5 k4 H
  go_enter Tryz.func137, Tryz.ntmps137
  go_wp2_with fail
  refine (kind_any A n c l _ HN.out HL.out HH.out).mono ?_; rintro e w1 ⟨rfl, b1⟩
  rw [hv.out]
  have B1 := Lib.hid b1
  have H1 := Lib.hid (HH.out.below b1)
  clear b1
  go_wp2_with fail
  refine (count_any A n c l _ HM.out H1.out).mono ?_; rintro e w2 ⟨rfl, b2⟩
  have B2 := Lib.hid (B1.out.trans (b2.mono B1.out.size))
  clear b2
  go_wp2_with fail
  refine (firsts_any (c0 l n) _ HC.out).mono ?_; rintro e w3 ⟨rfl, b3⟩
  have B3 := Lib.hid (B2.out.trans (b3.mono B2.out.size))
  clear b3
  have hmk := fun w => madeCode w n (by omega)
  go_wp2_with (refine step_store rfl _ _ rfl _ (fs (c0 l n)) rfl rfl ?_)
  clear hz hmk
  go_loopw [22] (fun i wr => ∃ k : Nat, k ≤ n ∧ i = .int .i64 k ∧ Tb wr w3.heap.size (fun s => fs (c0 l n) s + c0 l k s) ∧ Crow wr (w3.heap.size + 1) n (fun j => if j < k then cod l n j else 0) (fun j => if j < k then l j else 0) ∧ Below W.heap.size W wr) (fun i _ => n - (intOf i).toNat)
  case atStart =>
    refine ⟨0, Nat.zero_le _, rfl, ?_, ?_, (B3.out.alloc B3.out.size _).alloc (by have := B3.out.size; simp; omega) _⟩
    · exact ((Tb.made w3 (fs (c0 l n))).alloc _).congr (fun i hi => by unfold c0; simp [cnt])
    · have h := Crow.made (w3.alloc (.cells (TV (fs (c0 l n))) 252)) n
      rw [show (w3.alloc (.cells (TV (fs (c0 l n))) 252)).heap.size = w3.heap.size + 1 by simp] at h
      exact h.congr (fun i hi => by simp) (fun i hi => by simp)
  case round =>
    obtain ⟨k, hkn, rfl, ht, hr, hb⟩ := hrel
    by_cases hlt : k < n
    · obtain ⟨b, o, rfl, hbs, hc⟩ := HH.out (by omega)
      have h15 := HM.out.2 k hlt
      have hcell : wr.cell? ⟨b, o + k, none⟩ = some (.int .u8 (l k)) := (hb.cell hbs).trans (hc k hlt)
      have hf1 := hr.frozen (k * 2)
      have hf2 := hr.frozen (k * 2 + 1)
      have hr1 := hr.cell1 hlt
      have hr2 := hr.cell2 hlt
      have hfl := fs_le (c := c0 l n) h15 (by rw [aw_weight l n HM.out.2]; exact HW.out)
      have hcm := cnt_mono l (l k) (Nat.le_of_lt hlt)
      have hpw : 2 ^ l k ≤ 2 ^ 15 := Nat.pow_le_pow_right (by omega) h15
      by_cases h0 : l k = 0
      · have HT := Lib.hid ht
        have HR := Lib.hid hr
        have HB := Lib.hid hb
        have H0 := Lib.hid h0
        rw [h0] at hcell
        clear ht hr hb hc hfl hcm hpw h0 hr1 hr2 hf1 hf2
        go_wp2_with fail
        go_roundw
        case rel =>
          refine ⟨k + 1, by omega, by go_num, HT.out.congr (fun i hi => ?_), HR.out.congr (fun i hi => ?_) (fun i hi => ?_), HB.out⟩
          · unfold c0
            by_cases e : i = 0
            · rw [if_pos e, if_pos e]
            · rw [if_neg e, if_neg e]
              simp only [cnt]
              rw [if_neg (by rw [H0.out]; exact fun q => e q.symm)]; rfl
          · by_cases e : i < k
            · rw [if_pos e, if_pos (by omega)]
            · rw [if_neg e]
              by_cases e2 : i < k + 1
              · obtain rfl : i = k := by omega
                rw [if_pos e2]; unfold cod; rw [if_pos H0.out]
              · rw [if_neg e2]
          · by_cases e : i < k
            · rw [if_pos e, if_pos (by omega)]
            · rw [if_neg e]
              by_cases e2 : i < k + 1
              · obtain rfl : i = k := by omega
                rw [if_pos e2, H0.out]
              · rw [if_neg e2]
        case measure => simp [intOf]; omega
      · have hk1 : (if k < k then cod l n k else 0) = 0 := if_neg (Nat.lt_irrefl _)
        have hk2 : (if k < k then l k else 0) = 0 := if_neg (Nat.lt_irrefl _)
        rw [hk1] at hr1
        rw [hk2] at hr2
        have hfr := ht.frozen (l k)
        have hcl := ht.cell (show l k < 16 by omega)
        have hcode : cod l n k = fs (c0 l n) (l k) + c0 l k (l k) := by unfold cod c0; rw [if_neg h0, if_neg h0]
        have e1 : c0 l n (l k) = cnt l (l k) n := by unfold c0; rw [if_neg h0]
        have e2 : c0 l k (l k) = cnt l (l k) k := by unfold c0; rw [if_neg h0]
        rw [← hcode] at hcl
        have hcs : cod l n k ≤ 32768 := by omega
        obtain ⟨x, hx⟩ : ∃ x, l k = x := ⟨_, rfl⟩
        obtain ⟨y, hy⟩ : ∃ y, cod l n k = y := ⟨_, rfl⟩
        have h0' : ((x : Int) == 0) = false := by rw [beq_eq_false_iff_ne]; omega
        rw [hx] at hcell hcl hfr h15
        rw [hy] at hcs hcl
        have HT := Lib.hid ht
        have HR := Lib.hid hr
        have HB := Lib.hid hb
        have H0 := Lib.hid h0
        have HX := Lib.hid hx
        have HY := Lib.hid hy
        have HCD := Lib.hid hcode
        have hne : ¬ w3.heap.size = w3.heap.size + 1 := by omega
        clear ht hr hb hc hfl hcm hpw h0 hx hy hcode e1 e2 hk1 hk2
        go_wp2_with fail
        go_roundw
        case rel =>
          refine ⟨k + 1, by omega, by go_num, ?_, ?_, (((HB.out.setCell (by have := B3.out.size; simp; omega) _).setCell (by have := B3.out.size; simp; omega) _).setCell (by have := B3.out.size; simp; omega) _)⟩
          · refine ((((HT.out.other (by simp) _).other (by simp) _).set x (y + 1))).congr (fun i hi => ?_)
            have hck : ∀ j, c0 l (k + 1) j = c0 l k j + if j = x then 1 else 0 := fun j => by
              have hx := HX.out
              unfold c0
              by_cases e : j = 0
              · have e' : ¬ j = x := by have := H0.out; omega
                rw [if_pos e, if_pos e, if_neg e']
              · rw [if_neg e, if_neg e]
                simp only [cnt]
                rw [hx]
                by_cases e' : j = x
                · rw [if_pos e', if_pos e'.symm]
                · rw [if_neg e', if_neg (fun q => e' q.symm)]
            rw [hck]
            by_cases e : i = x
            · rw [if_pos e, if_pos e, e]
              have h1 := HCD.out
              rw [HX.out, HY.out] at h1
              omega
            · rw [if_neg e, if_neg e]; rfl
          · refine ((HR.out.set k y x).other (by simp) _).congr (fun i hi => ?_) (fun i hi => ?_)
            · by_cases e : i = k
              · rw [if_pos e, if_pos (by omega), e, HY.out]
              · rw [if_neg e]
                by_cases e2 : i < k
                · rw [if_pos e2, if_pos (by omega)]
                · rw [if_neg e2, if_neg (by omega)]
            · by_cases e : i = k
              · rw [if_pos e, if_pos (by omega), e, HX.out]
              · rw [if_neg e]
                by_cases e2 : i < k
                · rw [if_pos e2, if_pos (by omega)]
                · rw [if_neg e2, if_neg (by omega)]
        case measure => simp [intOf]; omega
    · obtain rfl : k = n := by omega
      have HR := Lib.hid (hr.congr (F' := cod l k) (G' := l) (fun i hi => by rw [if_pos hi]) (fun i hi => by rw [if_pos hi]))
      have HB := Lib.hid hb
      clear ht hr hb
      go_wp2_with fail
      go_ret2
      exact ⟨_, _, rfl, Nat.le_refl _, by omega, HR.out.cods, HB.out, fun _ => ⟨_, rfl, by have := B3.out.size; omega, HR.out⟩⟩
theorem erc_of {l : Nat → Nat} {n : Nat} : (kind l n = 5 ∧ erc l n = 2 ∧ outn l n = 0) ∨ (kind l n = 4 ∧ erc l n = 7 ∧ outn l n = 0) ∨ (kind l n ≠ 5 ∧ kind l n ≠ 4 ∧ erc l n = 0 ∧ outn l n = n) := by
  by_cases h5 : kind l n = 5
  · exact .inl ⟨h5, by unfold erc; rw [if_pos h5], by unfold outn erc; rw [if_pos h5]; rfl⟩
  · by_cases h4 : kind l n = 4
    · exact .inr (.inl ⟨h4, by unfold erc; rw [if_neg h5, if_pos h4], by unfold outn erc; rw [if_neg h5, if_pos h4]; rfl⟩)
    · exact .inr (.inr ⟨h5, h4, by unfold erc; rw [if_neg h5, if_neg h4], by unfold outn erc; rw [if_neg h5, if_neg h4]; rfl⟩)
theorem codes_any (A : Option Addr) (n c : Nat) (l : Nat → Nat) (W : World) (hn : n ≤ maxLen) (hl : ∀ i, l i ≤ 255) (H : Nums W .u8 A n (fun i => (l i : Int))) :
    Calls Tryz.prog 137 #[.slice A n c] W (GotC W (outn l n) (cod l n) l (erc l n : Nat)) := by
  rcases erc_of (l := l) (n := n) with ⟨h1, h2, h3⟩ | ⟨h1, h2, h3⟩ | ⟨h1, h1', h2, h3⟩
  · rw [h2, h3]; exact codes_bad_any A n c l W hn hl H _ _ h1
  · rw [h2, h3]; exact codes_over_any A n c l W hn hl H _ _ h1
  · rw [h2, h3]
    obtain ⟨hm, hw⟩ := kind_fits h1 h1'
    exact codes_ok_any A n c l W hl H hm hw _ rfl h1 h1'
end Go.Proofs.YtldiojnkoobbmaaGreatDoor.C
