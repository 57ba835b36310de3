/- Texts of one place, one behind the other: BlA, BlB, BlX, BlC, BlT, BlN. -/
import Derived.Test.YtkegkfmikplgdaaDoorBwQ
import Derived.Test.YtkegkfmikplgdaaDoorMBwK
import Derived.Test.YtkegkfmikplgdaaDoorMBwX
import Derived.Test.YtkegkfmikplgdaaDoorQtD
import Derived.Test.YtkegkfmikplgdaaDoorMRns
import Derived.Test.YtkegkfmikplgdaaDoorMCnD
import Derived.Test.YtkegkfmikplgdaaDoorMBwH
import Derived.Deep.CutRange
import Derived.Test.YtkegkfmikplgdaaDoorWgA
/- What the laws of layer 13 ask of the program's functions; a block's bits, of any number of bytes. Conditions: as each theorem names them. -/
namespace Go.Proofs.YtkegkfmikplgdaaDoor.V
open Go Go.RowKit M U
set_option linter.unusedVariables false
set_option linter.unusedSimpArgs false

/-- the bits of stored blocks, behind o bits: as many as there are -/
def stm (o : Nat) (s : ByteArray) (last : Bool) : List Nat :=
  if h : s.size ≤ 65535 then stb o s last else stb o (s.extract 0 65535) false ++ stm (o + (stb o (s.extract 0 65535) false).length) (s.extract 65535 s.size) last
termination_by s.size
decreasing_by
  rw [ByteArray.size_extract]
  omega
theorem stm_one {o : Nat} {s : ByteArray} {last : Bool} (h : s.size ≤ 65535) : stm o s last = stb o s last := by rw [stm, dif_pos h]
theorem stm_more {o : Nat} {s : ByteArray} {last : Bool} (h : ¬ s.size ≤ 65535) : stm o s last = stb o (s.extract 0 65535) false ++ stm (o + (stb o (s.extract 0 65535) false).length) (s.extract 65535 s.size) last := by rw [stm, dif_neg h]
/-- a block's bits, behind o bits -/
noncomputable def bkm (k : Nat) (L : List Tk) (raw : ByteArray) (last : Bool) (o : Nat) : List Nat := if k = 0 then stm o raw last else blk k L raw last o
theorem bkm_blk {k : Nat} {L : List Tk} {raw : ByteArray} {last : Bool} {o : Nat} (h : raw.size ≤ 65535) : bkm k L raw last o = blk k L raw last o := by
  unfold bkm
  split
  · rename_i e; rw [e, stm_one h]; unfold blk; rw [if_pos rfl]
  · rfl
theorem wgh_few (l1 l2 : Nat → Nat) (h1 : ∀ i, l1 i ≤ 15) (h2 : ∀ i, l2 i ≤ 15) : ∀ S : List Sy, (∀ y ∈ S, y.b ≤ 13) → wgh l1 l2 S ≤ 28 * S.length
  | [], _ => by simp [wgh]
  | y :: S, h => by
    have ih := wgh_few l1 l2 h1 h2 S (fun z hz => h z (List.mem_cons_of_mem _ hz))
    have hy := h y List.mem_cons_self
    have := h1 y.n
    have := h2 y.n
    simp only [wgh, List.length_cons]
    split <;> omega
/-- a block of few tokens and bytes is short -/
theorem blk_few (k : Nat) (L : List Tk) (raw : ByteArray) (last : Bool) (o : Nat) (hr : raw.size ≤ 4096) (hn : L.length ≤ 600) (hm : k ≠ 0 → ∀ t ∈ L, may t = true) : (blk k L raw last o).length ≤ 50000 := by
  have hs := sys_len L
  unfold blk
  by_cases h0 : k = 0
  · rw [if_pos h0, stb_length]
    have : pd (o + 3) ≤ 7 := by unfold pd; omega
    omega
  · rw [if_neg h0]
    have hb : ∀ y ∈ sys L, y.b ≤ 13 := fun y hy => (sys_b (hm h0) y hy).1
    split
    · unfold sfx
      rw [List.length_append, hdb_length, flat_len]
      have := wgh_few fxl (fun _ => 5) (fun i => (fxl_in i).2) (fun _ => by omega) (sys L) hb
      omega
    · unfold sbs
      rw [List.length_append, List.length_append, hdb_length, flat_len]
      have h1 := hdd_len L
      have := wgh_few (ll1 L) (ll2 L) (fun i => hfl_le _ (by decide) (by decide) i) (fun i => hfl_le _ (by decide) (by decide) i) (sys L) hb
      omega

/-- what the program's functions answer wherever T holds (its variables, if it has any) -/
structure Bks (T : World → Prop) : Prop where
  keep : ∀ {w w' : World}, T w → Below w.heap.size w w' → T w'
  fixed : ∀ w, T w → Calls Tryd.prog 10 #[] w fun e w' => ∃ A1 c1 A2 c2, e = .returned (.agg #[.slice A1 288 c1, .slice A2 30 c2]) ∧ Nums w' .u8 A1 288 (fun i => (fxl i : Int)) ∧ Nums w' .u8 A2 30 (fun _ => ((5 : Nat) : Int)) ∧ Below w.heap.size w w'
  order : ∀ w, T w → Calls Tryd.prog 13 #[] w fun e w' => ∃ A c, e = .returned (.slice A 19 c) ∧ Nums w' .u8 A 19 (fun i => ((ord.getD i 0 : Nat) : Int)) ∧ Below w.heap.size w w'
  size : ∀ (k : Nat) (A : Option Addr) (n c : Nat) (L : List Tk) (raw : ByteArray) (p : Nat) (w : World), T w → IsTks w A n L → n ≤ 1000 → raw.size ≤ 1000000 → p ≤ 1000000 → k ≤ 2 → (k ≠ 0 → ∀ t ∈ L, may t = true) →
    Calls Tryd.prog 16 #[.int .u8 k, .slice A n c, .string raw, .int .i64 p] w fun e w' => e = .returned (.tuple #[.int .i64 ((bkm k L raw false (p % 8)).length : Nat), .int .i64 0]) ∧ Below w.heap.size w w'
  sizeNo : ∀ (k : Nat) (A : Option Addr) (n c : Nat) (L : List Tk) (raw : ByteArray) (p : Nat) (w : World), T w → IsTks w A n L → n ≤ 1000 → raw.size ≤ 1000000 → p ≤ 1000000 → k ≤ 255 → (2 < k ∨ (k ≠ 0 ∧ ∃ i, i < n ∧ may (L.getD i default) = false)) →
    Calls Tryd.prog 16 #[.int .u8 k, .slice A n c, .string raw, .int .i64 p] w fun e w' => e = .returned (.tuple #[.int .i64 0, .int .i64 2]) ∧ Below w.heap.size w w'
theorem IsTks.none (w : World) : IsTks w none 0 [] := ⟨rfl, Nat.zero_le _, fun c hc => absurd hc (by simp), .inl rfl⟩
theorem sys_nil : sys [] = [⟨false, 256, 0, 0⟩] := rfl
theorem bkm_ten (raw : ByteArray) (h : raw.size ≤ 65535) : (bkm 1 [] raw false (0 % 8)).length = 10 := by
  rw [bkm_blk h, blk_fixed, sys_nil]; rfl
theorem bkm_abc (raw : ByteArray) (h : raw.size = 3) : (bkm 0 [] raw false (0 % 8)).length = 64 := by
  rw [bkm_blk (by omega)]
  unfold blk
  rw [if_pos rfl, stb_length, h]; rfl
set_option maxRecDepth 1000000 in
theorem works13 {T : World → Prop} (C : Bks T) (w : World) (H : T w) : Calls Tryd.prog 7 #[] w fun e w' => e = .returned (.bool true) ∧ Below w.heap.size w w' := by
  have HS1 := Lib.hid (fun (raw : ByteArray) (hr : raw.size ≤ 1000) (w' : World) (b : Below w.heap.size w w') => (show Calls Tryd.prog 16 #[.int .u8 1, .slice none 0 0, .string raw, .int .i64 0] w' fun e w2 => e = .returned (.tuple #[.int .i64 10, .int .i64 0]) ∧ Below w'.heap.size w' w2 from by
    have h := C.size 1 none 0 0 [] raw 0 w' (C.keep H b) (IsTks.none w') (by omega) (by omega) (by omega) (by omega) (fun _ t ht => absurd ht (by simp))
    rw [bkm_ten raw (by omega)] at h
    exact h))
  have HS2 := Lib.hid (fun (raw : ByteArray) (hr : raw.size = 3) (w' : World) (b : Below w.heap.size w w') => (show Calls Tryd.prog 16 #[.int .u8 0, .slice none 0 0, .string raw, .int .i64 0] w' fun e w2 => e = .returned (.tuple #[.int .i64 64, .int .i64 0]) ∧ Below w'.heap.size w' w2 from by
    have h := C.size 0 none 0 0 [] raw 0 w' (C.keep H b) (IsTks.none w') (by omega) (by omega) (by omega) (by omega) (fun _ t ht => absurd ht (by simp))
    rw [bkm_abc raw hr] at h
    exact h))
  have HO := Lib.hid (fun (w' : World) (b : Below w.heap.size w w') => C.order w' (C.keep H b))
  have HF := Lib.hid (fun (w' : World) (b : Below w.heap.size w w') => C.fixed w' (C.keep H b))
  clear H C
  go_enter Tryd.func7, Tryd.ntmps7
  go_wp2_with (first
    | (go_at_call 16; (with_reducible refine (HS1.out _ (by decide) _ (Below.refl _ _)).mono ?_); rintro e w1 ⟨rfl, b1⟩; have B1 := Lib.hid b1; clear b1)
    | (go_at_call 16; (with_reducible refine (HS2.out _ (by decide) _ B1.out).mono ?_); rintro e w2 ⟨rfl, b2⟩; have B2 := Lib.hid (B1.out.trans (b2.mono B1.out.size)); clear b2)
    | (go_at_call 13; (with_reducible refine (HO.out _ B2.out).mono ?_); rintro e w3 ⟨A3, c3, rfl, o3, b3⟩; obtain ⟨b5, q5, rfl, hl5, hc5⟩ := o3 (by decide); have d0 : w3.cell? ⟨b5, q5, none⟩ = some (.int .u8 16) := hc5 0 (by decide); have B3 := Lib.hid (B2.out.trans (b3.mono B2.out.size)); clear o3 b3 hc5)
    | (go_at_call 10; (with_reducible refine (HF.out _ B3.out).mono ?_); rintro e w4 ⟨A4, c4, A5, c5, rfl, f4, g4, b4⟩; obtain ⟨b6, q6, rfl, hl6, hc6⟩ := f4 (by decide); have d1 : w4.cell? ⟨b6, q6 + 200, none⟩ = some (.int .u8 9) := hc6 200 (by decide); have d2 := (b4.cell (p := ⟨b5, q5, none⟩) hl5).trans d0; have e1 : ∀ o, (w4.alloc o).cell? ⟨b6, q6 + 200, none⟩ = some (.int .u8 9) := fun o => (Below.cell ((Below.refl w4.heap.size w4).alloc (Nat.le_refl _) o) (p := ⟨b6, q6 + 200, none⟩) (World.block_lt_of_cell? _ _ d1)).trans d1; have e2 : ∀ o, (w4.alloc o).cell? ⟨b5, q5, none⟩ = some (.int .u8 16) := fun o => (Below.cell ((Below.refl w4.heap.size w4).alloc (Nat.le_refl _) o) (p := ⟨b5, q5, none⟩) (World.block_lt_of_cell? _ _ d2)).trans d2; have B4 := Lib.hid (B3.out.trans (b4.mono B3.out.size)); clear f4 g4 b4 hc6 d0 d1 d2))
  go_ret
  exact ⟨rfl, B4.out.alloc B4.out.size _⟩
end Go.Proofs.YtkegkfmikplgdaaDoor.V

/- A block's bits are bits; the document's text of them; heavy of layer 13's laws. Conditions: as each theorem names them. -/
namespace Go.Proofs.YtkegkfmikplgdaaDoor.V
open Go Go.RowKit M U
set_option linter.unusedVariables false
set_option linter.unusedSimpArgs false

theorem rep_bit (n : Nat) : ∀ x ∈ List.replicate n 0, x ≤ 1 := fun x hx => by rw [List.eq_of_mem_replicate hx]; omega
theorem app_bit {a b : List Nat} (ha : ∀ x ∈ a, x ≤ 1) (hb : ∀ x ∈ b, x ≤ 1) : ∀ x ∈ a ++ b, x ≤ 1 := fun x hx => (List.mem_append.1 hx).elim (ha x) (hb x)
theorem flat_bit {α : Type} {f : α → List Nat} {l : List α} (h : ∀ a ∈ l, ∀ x ∈ f a, x ≤ 1) : ∀ x ∈ l.flatMap f, x ≤ 1 := fun x hx => by
  obtain ⟨a, ha, hx⟩ := List.mem_flatMap.1 hx
  exact h a ha x hx
theorem wsy_bit (l1 : Nat → Nat) (n1 : Nat) (l2 : Nat → Nat) (n2 : Nat) (y : Sy) : ∀ x ∈ wsy l1 n1 l2 n2 y, x ≤ 1 := by
  unfold wsy
  refine app_bit ?_ (put_bit _ _)
  split <;> exact cdb_bit _ _
theorem stb_bit (o : Nat) (s : ByteArray) (last : Bool) : ∀ x ∈ stb o s last, x ≤ 1 := by
  unfold stb
  exact app_bit (app_bit (app_bit (app_bit (hdb_bit _ _) (rep_bit _)) (put_bit _ _)) (put_bit _ _)) (flat_bit fun _ _ => put_bit _ _)
theorem hdd_bit (L : List Tk) : ∀ x ∈ hdd L, x ≤ 1 := by
  unfold hdd dyb
  refine app_bit (app_bit (app_bit (app_bit (put_bit _ _) (put_bit _ _)) (put_bit _ _)) (flat_bit fun _ _ => put_bit _ _)) (flat_bit fun a _ => ?_)
  unfold wrn
  exact app_bit (cdb_bit _ _) (put_bit _ _)
theorem blk_bit (k : Nat) (L : List Tk) (raw : ByteArray) (last : Bool) (o : Nat) : ∀ x ∈ blk k L raw last o, x ≤ 1 := by
  unfold blk
  split
  · exact stb_bit _ _ _
  · split
    · exact app_bit (hdb_bit _ _) (flat_bit fun y _ => wsy_bit _ _ _ _ y)
    · exact app_bit (app_bit (hdb_bit _ _) (hdd_bit L)) (flat_bit fun y _ => wsy_bit _ _ _ _ y)
theorem nb_zeros (n : Nat) (l : List Nat) : nb (List.replicate n 0 ++ l) = nb l * 2 ^ n := by
  rw [nb_append, List.length_replicate]
  have : nb (List.replicate n 0) = 0 := by
    induction n with
    | zero => rfl
    | succ n ih => rw [List.replicate_succ, nb, ih]
  rw [this, Nat.zero_add]
/-- what the document's Text answers is what bitw's does -/
theorem text_eq (V n : Nat) : (⟨((List.range n).map fun i => UInt8.ofNat (byn V i)).toArray⟩ : ByteArray) = bstr (le V n) := by
  unfold bstr
  rw [le_eq]
  rfl

theorem heavy13_any (A : Option Addr) (n c : Nat) (s : ByteArray) (w : World) (hn : n ≤ maxLen) (hs : s.size ≤ maxLen) : Calls Tryd.prog 6 #[.slice A n c, .string s] w fun e w' => e = .returned (.bool (decide (600 < n ∨ 4096 < s.size))) ∧ w = w' := by
  unfold maxLen at hn hs
  by_cases h1 : 600 < n
  · have d1 : decide ((600 : Int) < (n : Int)) = true := decide_eq_true (by omega)
    have d1' : decide (600 < n) = true := decide_eq_true h1
    rw [decide_eq_true (Or.inl h1)]
    clear h1
    go_enter Tryd.func6, Tryd.ntmps6
    go_wp2_with fail
    go_ret
    exact ⟨rfl, rfl⟩
  · have d1 : decide ((600 : Int) < (n : Int)) = false := decide_eq_false (by omega)
    have d1' : decide (600 < n) = false := decide_eq_false h1
    by_cases h2 : 4096 < s.size
    · have d2 : decide ((4096 : Int) < (s.size : Int)) = true := decide_eq_true (by omega)
      have d2' : decide (4096 < s.size) = true := decide_eq_true h2
      rw [decide_eq_true (Or.inr h2)]
      clear h1 h2
      go_enter Tryd.func6, Tryd.ntmps6
      go_wp2_with fail
      go_ret
      exact ⟨rfl, rfl⟩
    · have d2 : decide ((4096 : Int) < (s.size : Int)) = false := decide_eq_false (by omega)
      have d2' : decide (4096 < s.size) = false := decide_eq_false h2
      rw [decide_eq_false (fun g => g.elim h1 h2)]
      clear h1 h2
      go_enter Tryd.func6, Tryd.ntmps6
      go_wp2_with fail
      go_ret
      exact ⟨rfl, rfl⟩
/-- what a writer's call leaves, below its blocks -/
theorem Did.belowB {w w' : World} {B p : Nat} {S : Nat → Prop} {most : Int} {V L : Nat} {r : Int × Nat × Nat} {e : Ending} (h : Did w B p S most r e w') (hW : Wt w B p S most V L) (hB : B ≤ w.heap.size) : Below B w w' := by
  obtain ⟨_, S', _, hk, _⟩ := h
  exact hk.below hB (fun j hj => (hW.lt hj).1)
end Go.Proofs.YtkegkfmikplgdaaDoor.V

/- BlockWhere returns true, over what the program's functions answer. Conditions: as each theorem names them. -/
namespace Go.Proofs.YtkegkfmikplgdaaDoor.V
open Go Go.RowKit M U
set_option linter.unusedVariables false
set_option linter.unusedSimpArgs false

theorem made0 (A : Option Addr) (n c : Nat) (R : List Ra) (w : World) (h : IsRas w A n R) (hn : n ≤ 500) : Calls Tryd.prog 15 #[.string ⟨#[]⟩, .slice A n c] w fun e w' => ∃ A' c', e = .returned (.slice A' n c') ∧ IsTks w' A' n (mdk R 0) ∧ Below w.heap.size w w' :=
  (made_tks ⟨#[]⟩ A n c R w h hn (by decide)).mono fun e w' g => by
    obtain ⟨v, rfl, o, b⟩ := g
    have hl : (mdk R (ByteArray.size ⟨#[]⟩ : Nat)).length = n := by rw [mdk_length, h.leng]
    unfold Owt at o
    rw [hl] at o
    obtain ⟨A', c', rfl, t⟩ := IsTks.of_own o (fun x hx => (mdk_may R _ h.good (by omega) x hx).2) (by unfold maxLen; omega)
    exact ⟨A', c', rfl, t, b⟩
theorem mdk0_may {w : World} {A : Option Addr} {n : Nat} {R : List Ra} (h : IsRas w A n R) : ∀ t ∈ mdk R 0, may t = true := fun t ht => (mdk_may R 0 h.good (by omega) t ht).1

/-- where a block of symbols begins makes no difference -/
theorem bkm_any {k : Nat} {L : List Tk} {raw : ByteArray} {last : Bool} {o o' : Nat} (h : k ≠ 0) : (bkm k L raw last o).length = (bkm k L raw last o').length := by
  unfold bkm
  rw [if_neg h, if_neg h]
  unfold blk
  rw [if_neg h, if_neg h]
theorem bkm_stored {L : List Tk} {raw : ByteArray} {last : Bool} {o : Nat} (h : raw.size ≤ 65535) : (bkm 0 L raw last o).length = 3 + pd (o + 3) + 32 + raw.size * 8 := by
  rw [bkm_blk h]
  unfold blk
  rw [if_pos rfl, stb_length]

set_option maxRecDepth 1000000 in
set_option maxHeartbeats 2000000 in
theorem where_good {T : World → Prop} (C : Bks T) (A : Option Addr) (n c : Nat) (R : List Ra) (s : ByteArray) (a b : Nat) (W : World) (H : T W) (hR : IsRas W A n R) (hn : n ≤ 300) (hs : s.size ≤ 4096) (ha : a ≤ 65535) (hb : b ≤ 65535) :
    Calls Tryd.prog 5 #[.slice A n c, .string s, .int .u16 a, .int .u16 b] W fun e w' => e = .returned (.bool true) ∧ Below W.heap.size W w' := by
  have HM := Lib.hid (made0 A n c R W hR (by omega))
  have hmay := mdk0_may hR
  have hlen : (mdk R 0).length = n := by rw [mdk_length, hR.leng]
  obtain ⟨L, hL⟩ : ∃ L, mdk R 0 = L := ⟨_, rfl⟩
  rw [hL] at HM hmay hlen
  have HWk := Lib.hid (fun w (b : Below W.heap.size W w) => works13 C w (C.keep H b))
  have h1 : ∀ k, k ≤ 2 → ∀ o, (bkm k L s false o).length ≤ 60000 := fun k hk o => by
    rw [bkm_blk (by omega)]
    have := blk_few k L s false o hs (by omega) (fun _ => hmay)
    omega
  have HSz := Lib.hid (fun (k : Nat) (hk : k ≤ 2) (p : Nat) (hp : p ≤ 100000) (A' : Option Addr) (c' : Nat) w (b : Below W.heap.size W w) (ht : IsTks w A' n L) => C.size k A' n c' L s p w (C.keep H b) ht (by omega) (by omega) (by omega) hk (fun _ => hmay))
  have H1 := Lib.hid h1
  have dn : decide ((300 : Int) < (n : Int)) = false := decide_eq_false (by omega)
  have dn' : decide (300 < n) = false := decide_eq_false (by omega)
  have ds : decide ((4096 : Int) < (s.size : Int)) = false := decide_eq_false (by omega)
  have ds' : decide (4096 < s.size) = false := decide_eq_false (by omega)
  clear hL hmay hlen h1 C H hR
  go_enter Tryd.func5, Tryd.ntmps5
  go_wp2_with (go_at_call 15; (with_reducible refine HM.out.mono ?_); rintro e w1 ⟨A', c', rfl, t1, b1⟩; have T1 := Lib.hid t1; have B1 := Lib.hid b1; clear t1 b1)
  go_loopw [10] (fun x wr => ∃ k : Nat, k ≤ 3 ∧ x = .int .u8 k ∧ Below w1.heap.size w1 wr) (fun x _ => 3 - (intOf x).toNat)
  case atStart => exact ⟨0, by omega, rfl, Below.refl _ _⟩
  case round =>
    obtain ⟨k, hk, rfl, hbr⟩ := hrel
    have HB := Lib.hid hbr
    have HBW := Lib.hid (B1.out.trans (hbr.mono B1.out.size))
    clear hbr
    by_cases hlt : k < 3
    · have d1 : decide ((k : Int) < 3) = true := decide_eq_true (by omega)
      have d1' : decide (k < 3) = true := decide_eq_true hlt
      obtain ⟨x, hx⟩ : ∃ x, (bkm k L s false (a % 8)).length = x := ⟨_, rfl⟩
      obtain ⟨y, hy⟩ : ∃ y, (bkm k L s false (b % 8)).length = y := ⟨_, rfl⟩
      have hxl := H1.out k (by omega) (a % 8)
      have hyl := H1.out k (by omega) (b % 8)
      have S1 := Lib.hid (fun w (b1 : Below W.heap.size W w) (ht : IsTks w A' n L) => HSz.out k (by omega) a (by omega) A' c' w b1 ht)
      have S2 := Lib.hid (fun w (b1 : Below W.heap.size W w) (ht : IsTks w A' n L) => HSz.out k (by omega) b (by omega) A' c' w b1 ht)
      have S3 := Lib.hid (fun w (b1 : Below W.heap.size W w) (ht : IsTks w A' n L) => HSz.out k (by omega) (a + 8) (by omega) A' c' w b1 ht)
      rw [show (a + 8) % 8 = a % 8 by omega, hx] at S3
      rw [hx] at S1 hxl
      rw [hy] at S2 hyl
      have e8 : ((a : Int) + 8) = ((a + 8 : Nat) : Int) := by omega
      rw [← e8] at S3
      have e9 : IntKind.i64.wrap ((a : Int) + 8) = (a : Int) + 8 := by rw [IntKind.wrap_i64]; omega
      clear e8
      by_cases h0 : k = 0
      · have z1 : ((k : Int) == 0) = true := by rw [beq_iff_eq]; omega
        have z1' : (k == 0) = true := by rw [beq_iff_eq]; exact h0
        have z2 : ((k : Int) != 0) = false := by rw [bne_eq_false_iff_eq]; omega
        have z2' : (k != 0) = false := by rw [bne_eq_false_iff_eq]; exact h0
        rw [h0, bkm_stored (by omega)] at hx hy
        have p1 : pd (a % 8 + 3) ≤ 7 := by unfold pd; omega
        have p2 : pd (b % 8 + 3) ≤ 7 := by unfold pd; omega
        have g1 : decide ((7 : Int) < (x : Int) - (y : Int)) = false := decide_eq_false (by omega)
        have g2 : decide ((7 : Int) < (y : Int) - (x : Int)) = false := decide_eq_false (by omega)
        have p3 : (a % 8 + 3 + pd (a % 8 + 3)) % 8 = 0 := by unfold pd; omega
        have g3 : (((a : Int) + (x : Int)) % 8 != 0) = false := by rw [bne_eq_false_iff_eq]; omega
        have HJ := Lib.hid (show k + 1 ≤ 3 by omega)
        clear hx hy p1 p2 p3 h0 H1 HSz
        go_wp2_with (first
          | (go_at_call 16; (with_reducible refine (S1.out _ HBW.out (T1.out.below HB.out)).mono ?_); rintro e w2 ⟨rfl, b2⟩; have B2 := Lib.hid (HB.out.trans (b2.mono HB.out.size)); clear b2)
          | (go_at_call 16; (with_reducible refine (S2.out _ (B1.out.trans (B2.out.mono B1.out.size)) (T1.out.below B2.out)).mono ?_); rintro e w3 ⟨rfl, b3⟩; have B3 := Lib.hid (B2.out.trans (b3.mono B2.out.size)); clear b3)
          | (go_at_call 16; (with_reducible refine (S3.out _ (B1.out.trans (B3.out.mono B1.out.size)) (T1.out.below B3.out)).mono ?_); rintro e w4 ⟨rfl, b4⟩; have B4 := Lib.hid (B3.out.trans (b4.mono B3.out.size)); clear b4))
        exact ⟨⟨k + 1, HJ.out, by go_num, B4.out⟩, by have := HJ.out; simp [intOf]; omega⟩
      · have z1 : ((k : Int) == 0) = false := by rw [beq_eq_false_iff_ne]; omega
        have z1' : (k == 0) = false := by rw [beq_eq_false_iff_ne]; exact h0
        have z2 : ((k : Int) != 0) = true := by rw [bne_iff_ne]; omega
        have z2' : (k != 0) = true := by rw [bne_iff_ne]; exact h0
        obtain rfl : x = y := by rw [← hx, ← hy]; exact bkm_any h0
        have HJ := Lib.hid (show k + 1 ≤ 3 by omega)
        clear hx hy h0 H1 HSz
        go_wp2_with (first
          | (go_at_call 16; (with_reducible refine (S1.out _ HBW.out (T1.out.below HB.out)).mono ?_); rintro e w2 ⟨rfl, b2⟩; have B2 := Lib.hid (HB.out.trans (b2.mono HB.out.size)); clear b2)
          | (go_at_call 16; (with_reducible refine (S2.out _ (B1.out.trans (B2.out.mono B1.out.size)) (T1.out.below B2.out)).mono ?_); rintro e w3 ⟨rfl, b3⟩; have B3 := Lib.hid (B2.out.trans (b3.mono B2.out.size)); clear b3)
          | (go_at_call 16; (with_reducible refine (S3.out _ (B1.out.trans (B3.out.mono B1.out.size)) (T1.out.below B3.out)).mono ?_); rintro e w4 ⟨rfl, b4⟩; have B4 := Lib.hid (B3.out.trans (b4.mono B3.out.size)); clear b4))
        exact ⟨⟨k + 1, HJ.out, by go_num, B4.out⟩, by have := HJ.out; simp [intOf]; omega⟩
    · obtain rfl : k = 3 := by omega
      clear H1 HSz hlt
      go_wp2_with (go_at_call 7; (with_reducible refine (HWk.out _ HBW.out).mono ?_); rintro e w7 ⟨rfl, b7⟩; have B7 := Lib.hid (HBW.out.trans (b7.mono HBW.out.size)); clear b7)
      go_ret
      exact ⟨rfl, B7.out⟩

set_option maxRecDepth 1000000 in
theorem where_heavy {T : World → Prop} (C : Bks T) (A : Option Addr) (n c : Nat) (s : ByteArray) (a b : Nat) (W : World) (H : T W) (hn : n ≤ maxLen) (hs : s.size ≤ maxLen) (hv : 300 < n ∨ 4096 < s.size) :
    Calls Tryd.prog 5 #[.slice A n c, .string s, .int .u16 a, .int .u16 b] W fun e w' => e = .returned (.bool true) ∧ Below W.heap.size W w' := by
  unfold maxLen at hn hs
  have HWk := Lib.hid (works13 C W H)
  clear C H
  by_cases h1 : 300 < n
  · have dn : decide ((300 : Int) < (n : Int)) = true := decide_eq_true (by omega)
    have dn' : decide (300 < n) = true := decide_eq_true h1
    clear hv h1
    go_enter Tryd.func5, Tryd.ntmps5
    go_wp2_with (go_at_call 7; (with_reducible refine HWk.out.mono ?_); rintro e w7 ⟨rfl, b7⟩; have B7 := Lib.hid b7; clear b7)
    go_ret
    exact ⟨rfl, B7.out⟩
  · have dn : decide ((300 : Int) < (n : Int)) = false := decide_eq_false (by omega)
    have dn' : decide (300 < n) = false := decide_eq_false h1
    have ds : decide ((4096 : Int) < (s.size : Int)) = true := decide_eq_true (by omega)
    have ds' : decide (4096 < s.size) = true := decide_eq_true (by omega)
    clear hv h1
    go_enter Tryd.func5, Tryd.ntmps5
    go_wp2_with (go_at_call 7; (with_reducible refine HWk.out.mono ?_); rintro e w7 ⟨rfl, b7⟩; have B7 := Lib.hid b7; clear b7)
    go_ret
    exact ⟨rfl, B7.out⟩
/-- the law -/
theorem where_law {T : World → Prop} (C : Bks T) (A : Option Addr) (n c : Nat) (R : List Ra) (s : ByteArray) (a b : Nat) (W : World) (H : T W) (hR : IsRas W A n R) (hs : s.size ≤ maxLen) (ha : a ≤ 65535) (hb : b ≤ 65535) :
    Calls Tryd.prog 5 #[.slice A n c, .string s, .int .u16 a, .int .u16 b] W fun e w' => e = .returned (.bool true) ∧ Below W.heap.size W w' := by
  by_cases hv : 300 < n ∨ 4096 < s.size
  · exact where_heavy C A n c s a b W H hR.most hs hv
  · exact where_good C A n c R s a b W H hR (by omega) (by omega) ha hb
end Go.Proofs.YtkegkfmikplgdaaDoor.V

/- BlockCodes returns true, over what the program's functions answer. Conditions: as each theorem names them. -/
namespace Go.Proofs.YtkegkfmikplgdaaDoor.V
open Go Go.RowKit M U
set_option linter.unusedVariables false
set_option linter.unusedSimpArgs false

/-- what the program's Best answers wherever T holds -/
structure Bst (T : World → Prop) : Prop where
  best : ∀ (A : Option Addr) (n c : Nat) (L : List Tk) (w : World), T w → IsTks w A n L → n ≤ 1000 → (∀ t ∈ L, may t = true) → Calls Tryd.prog 8 #[.slice A n c] w fun e w' => ∃ A1 c1 A2 c2, e = .returned (.tuple #[.agg #[.slice A1 286 c1, .slice A2 30 c2], .int .i64 0]) ∧
    Nums w' .u8 A1 286 (fun i => (ll1 L i : Int)) ∧ Nums w' .u8 A2 30 (fun i => (ll2 L i : Int)) ∧ Below w.heap.size w w'
  bestNo : ∀ (A : Option Addr) (n c : Nat) (L : List Tk) (w : World), T w → IsTks w A n L → n ≤ 1000 → (∃ i, i < n ∧ may (L.getD i default) = false) → Calls Tryd.prog 8 #[.slice A n c] w fun e w' => ∃ A1 c1 A2 c2, e = .returned (.tuple #[.agg #[.slice A1 0 c1, .slice A2 0 c2], .int .i64 2]) ∧ Below w.heap.size w w'

set_option maxRecDepth 1000000 in
set_option maxHeartbeats 2000000 in
theorem rbest_no (A : Option Addr) (n c : Nat) (L : List Tk) (w : World) (h : IsTks w A n L) (hn : n ≤ 100000) (hb : ∃ i, i < n ∧ may (L.getD i default) = false) :
    Calls Tryd.prog 9 #[.slice A n c] w fun e w' => e = .returned (.tuple #[.agg #[.slice none 0 0, .slice none 0 0], .int .i64 2]) ∧ Below w.heap.size w w' := by
  obtain ⟨m, hm, hx⟩ := hb
  have HH := Lib.hid h
  have HX := Lib.hid hx
  clear h hx
  go_enter Tryd.func9, Tryd.ntmps9
  go_wp2_with fail
  go_loopw [4] (fun x wr => ∃ i : Nat, i ≤ m ∧ x = .int .i64 i ∧ C2 wr w.heap.size (.slice none 0 0) (.slice none 0 0) ∧ Below w.heap.size w wr) (fun x _ => m - (intOf x).toNat)
  case atStart => exact ⟨0, Nat.zero_le _, rfl, C2.new _ _ _, (Below.refl _ _).alloc (Nat.le_refl _) _⟩
  case round =>
    obtain ⟨i, hi, rfl, hr, hb⟩ := hrel
    have hin : i < n := by omega
    have d4 : decide ((i : Int) < (n : Int)) = true := decide_eq_true (by omega)
    have d4' : decide (i < n) = true := decide_eq_true hin
    obtain ⟨b, o, rfl, hbl, hc⟩ := (HH.out.below hb).at (by omega)
    obtain ⟨c0, c1, c2⟩ := hc i hin
    obtain ⟨t, ht⟩ : ∃ t, L.getD i default = t := ⟨_, rfl⟩
    rw [ht] at c0 c1 c2
    obtain ⟨tl, tn, td⟩ := t
    simp only at c0 c1 c2
    have hM := rmay_any tl tn td
    have HB := Lib.hid hb
    have HR := Lib.hid hr
    have hi2 : i ≤ 100000 := by omega
    by_cases q : may ⟨tl, tn, td⟩ = true
    · rw [q] at hM
      have HM := Lib.hid hM
      have him : i + 1 ≤ m := by
        by_cases e : i = m
        · subst e; have := HX.out; rw [ht, q] at this; cases this
        · omega
      have HI := Lib.hid him
      clear hM q hb hc ht him hm hr
      go_wp2_with (go_at_call 21; refine (HM.out _).mono ?_; rintro e w1 ⟨rfl, b1⟩; have R1 := Lib.hid (World.rowIs.of_block HR.out (b1.block _ (World.rowIs.lt HR.out))); have B1 := Lib.hid (HB.out.trans (b1.mono HB.out.size)); clear b1)
      go_roundw
      case rel => exact ⟨i + 1, HI.out, by go_num, R1.out, B1.out⟩
      case measure => (have := HI.out; simp [intOf]; try omega)
    · have q' : may ⟨tl, tn, td⟩ = false := by simpa using q
      rw [q'] at hM
      have HM := Lib.hid hM
      clear hM q q' hb hc ht hm hr
      go_wp2_with (go_at_call 21; refine (HM.out _).mono ?_; rintro e w1 ⟨rfl, b1⟩; have hr1 : C2 w1 w.heap.size (.slice none 0 0) (.slice none 0 0) := World.rowIs.of_block HR.out (b1.block _ (World.rowIs.lt HR.out)); have R1 := Lib.hid hr1; have r0 := hr1.at0; have r1 := hr1.at1; have g0 := hr1.frozen 0; have g1 := hr1.frozen 1; have B1 := Lib.hid (HB.out.trans (b1.mono HB.out.size)); clear b1 hr1)
      refine bodyPost_ret (v := .tuple #[.agg #[.slice none 0 0, .slice none 0 0], .int .i64 2]) (results_row_tmp (p := 2) (u := 3) (ty := 27) rfl _ _ w.heap.size _ _ _ _ rfl (R1.out.put _ _).row Tryd.underlying27 rfl codesSize) rfl ⟨rfl, (B1.out.setCell (Nat.le_refl _) _).setCell (Nat.le_refl _) _⟩

/-- two lists of codes, as a call answers them -/
def CdsP (W : World) (n1 n2 : Nat) (f1 f2 : Nat → Nat) (X : Int) (e : Ending) (w' : World) : Prop := ∃ A1 c1 A2 c2, e = .returned (.tuple #[.agg #[.slice A1 n1 c1, .slice A2 n2 c2], .int .i64 X]) ∧ Nums w' .u8 A1 n1 (fun i => (f1 i : Int)) ∧ Nums w' .u8 A2 n2 (fun i => (f2 i : Int)) ∧ Below W.heap.size W w'
theorem ord_nums {w : World} {A : Option Addr} (h : IsBys w A 19 ord) : Nums w .u8 A 19 (fun i => ((ord.getD i 0 : Nat) : Int)) := fun hn => h.at (by omega)

set_option maxRecDepth 1000000 in
set_option maxHeartbeats 4000000 in
theorem codes_gen {T : World → Prop} (C : Bks T) (A : Option Addr) (n c : Nat) (n1 n2 : Nat) (f1 f2 : Nat → Nat) (X : Int) (W : World) (H : T W) (hn : n ≤ 600) (h1 : n1 ≤ 1000) (h2 : n2 ≤ 1000)
    (HB : Hid (∀ w, Below W.heap.size W w → Calls Tryd.prog 8 #[.slice A n c] w (CdsP w n1 n2 f1 f2 X)))
    (HRB : Hid (∀ w, Below W.heap.size W w → Calls Tryd.prog 9 #[.slice A n c] w (CdsP w n1 n2 f1 f2 X))) :
    Calls Tryd.prog 3 #[.slice A n c] W fun e w' => e = .returned (.bool true) ∧ Below W.heap.size W w' := by
  have HV := Lib.hid (heavy13_any A n c ⟨#[]⟩ W (by unfold maxLen; omega) (by decide))
  rw [decide_eq_false (fun g => g.elim (fun g => by omega) (fun g => by have : ByteArray.size ⟨#[]⟩ = 0 := rfl; omega))] at HV
  have HWk := Lib.hid (fun w (b : Below W.heap.size W w) => works13 C w (C.keep H b))
  have HF := Lib.hid (fun w (b : Below W.heap.size W w) => C.fixed w (C.keep H b))
  have HO := Lib.hid (fun w (b : Below W.heap.size W w) => C.order w (C.keep H b))
  have HSL := Lib.hid (fun (n : Nat) (hn : n ≤ 1000) (A B : Option Addr) (c d : Nat) (f : Nat → Nat) (w : World) (h1 : Nums w .u8 A n (fun i => (f i : Int))) (h2 : Nums w .u8 B n (fun i => (f i : Int))) => sameLens_any A B n c d f f w (by unfold maxLen; omega) h1 h2 (fun _ _ => rfl))
  unfold CdsP at HB HRB
  clear C H
  go_enter Tryd.func3, Tryd.ntmps3
  go_upto_region 6 with (first
    | (go_at_call 6; (with_reducible refine HV.out.mono ?_); rintro e w0 ⟨rfl, rfl⟩)
    | (go_at_call 8; (with_reducible refine (HB.out _ (Below.refl _ _)).mono ?_); rintro e w1 ⟨A1, c1, A2, c2, rfl, s1, s2, b1⟩; have S1 := Lib.hid s1; have S2 := Lib.hid s2; have B1 := Lib.hid b1; clear s1 s2 b1)
    | (go_at_call 9; (with_reducible refine (HRB.out _ (B1.out.alloc B1.out.size _)).mono ?_); rintro e w2 ⟨A3, c3, A4, c4, rfl, s3, s4, b2⟩; have S3 := Lib.hid s3; have S4 := Lib.hid s4; have p0 := (b2.cell (p := ⟨w1.heap.size, 0, none⟩) (by simp)).trans (show (w1.alloc (.cells #[.slice A1 n1 c1, .slice A2 n2 c2] 27)).cell? ⟨w1.heap.size, 0, none⟩ = some (.slice A1 n1 c1) by simp); have p1 := (b2.cell (p := ⟨w1.heap.size, 1, none⟩) (by simp)).trans (show (w1.alloc (.cells #[.slice A1 n1 c1, .slice A2 n2 c2] 27)).cell? ⟨w1.heap.size, 1, none⟩ = some (.slice A2 n2 c2) by simp); have b2' : Below w1.heap.size w1 w2 := ((Below.refl w1.heap.size w1).alloc (Nat.le_refl _) (.cells #[.slice A1 n1 c1, .slice A2 n2 c2] 27)).trans (b2.mono (by simp)); have B2 := Lib.hid b2'; clear s3 s4 b2 b2')
    | (go_at_call 10; (with_reducible refine (HF.out _ ((B1.out.trans (B2.out.mono B1.out.size)).alloc (Nat.le_trans B1.out.size B2.out.size) _)).mono ?_); rintro e w3 ⟨A5, c5, A6, c6, rfl, s5, s6, b3⟩; have S5 := Lib.hid s5; have S6 := Lib.hid s6; have b3' : Below w2.heap.size w2 w3 := ((Below.refl w2.heap.size w2).alloc (Nat.le_refl _) (.cells #[.slice A3 n1 c3, .slice A4 n2 c4] 27)).trans (b3.mono (by simp)); have q0 := (b3.cell (p := ⟨w2.heap.size, 0, none⟩) (by simp)).trans (show (w2.alloc (.cells #[.slice A3 n1 c3, .slice A4 n2 c4] 27)).cell? ⟨w2.heap.size, 0, none⟩ = some (.slice A3 n1 c3) by simp); have q1 := (b3.cell (p := ⟨w2.heap.size, 1, none⟩) (by simp)).trans (show (w2.alloc (.cells #[.slice A3 n1 c3, .slice A4 n2 c4] 27)).cell? ⟨w2.heap.size, 1, none⟩ = some (.slice A4 n2 c4) by simp); have B3 := Lib.hid b3'; clear s5 s6 b3 b3')
    | (go_at_call 11; (with_reducible refine (fixed_any _).mono ?_); rintro e w4 ⟨la, da, rfl, hla, hda, s7, s8, b4⟩; have S7 := Lib.hid s7.nums; have S8 := Lib.hid s8.nums; have B4 := Lib.hid b4; clear s7 s8 b4))
  have b6 : Below w4.heap.size w4 ((w4.alloc (.cells #[.slice A5 288 c5, .slice A6 30 c6] 27)).alloc (.cells #[.slice (some ⟨la, 0, none⟩) 288 288, .slice (some ⟨da, 0, none⟩) 30 30] 27)) := ((Below.refl _ _).alloc (Nat.le_refl _) _).alloc (by simp) _
  have u0 : ((w4.alloc (.cells #[.slice A5 288 c5, .slice A6 30 c6] 27)).alloc (.cells #[.slice (some ⟨la, 0, none⟩) 288 288, .slice (some ⟨da, 0, none⟩) 30 30] 27)).cell? ⟨w4.heap.size, 0, none⟩ = some (.slice A5 288 c5) := by simp
  have u1 : ((w4.alloc (.cells #[.slice A5 288 c5, .slice A6 30 c6] 27)).alloc (.cells #[.slice (some ⟨la, 0, none⟩) 288 288, .slice (some ⟨da, 0, none⟩) 30 30] 27)).cell? ⟨w4.heap.size, 1, none⟩ = some (.slice A6 30 c6) := by simp
  have u2 : ((w4.alloc (.cells #[.slice A5 288 c5, .slice A6 30 c6] 27)).alloc (.cells #[.slice (some ⟨la, 0, none⟩) 288 288, .slice (some ⟨da, 0, none⟩) 30 30] 27)).cell? ⟨w4.heap.size + 1, 0, none⟩ = some (.slice (some ⟨la, 0, none⟩) 288 288) := by simp
  have u3 : ((w4.alloc (.cells #[.slice A5 288 c5, .slice A6 30 c6] 27)).alloc (.cells #[.slice (some ⟨la, 0, none⟩) 288 288, .slice (some ⟨da, 0, none⟩) 30 30] 27)).cell? ⟨w4.heap.size + 1, 1, none⟩ = some (.slice (some ⟨da, 0, none⟩) 30 30) := by simp
  obtain ⟨w6, hw6⟩ : ∃ w6, (w4.alloc (.cells #[.slice A5 288 c5, .slice A6 30 c6] 27)).alloc (.cells #[.slice (some ⟨la, 0, none⟩) 288 288, .slice (some ⟨da, 0, none⟩) 30 30] 27) = w6 := ⟨_, rfl⟩
  rw [hw6] at b6 u0 u1 u2 u3 ⊢
  clear hw6
  have hs1 := Nat.le_trans B1.out.size B2.out.size
  have b36 : Below w3.heap.size w3 w6 := B4.out.trans (b6.mono B4.out.size)
  have b26 : Below w2.heap.size w2 w6 := B3.out.trans (b36.mono B3.out.size)
  have b16 : Below w1.heap.size w1 w6 := B2.out.trans (b26.mono B2.out.size)
  have v0 : w6.cell? ⟨w1.heap.size, 0, none⟩ = some (.slice A1 n1 c1) := (b26.cell (World.block_lt_of_cell? _ _ p0)).trans p0
  have v1 : w6.cell? ⟨w1.heap.size, 1, none⟩ = some (.slice A2 n2 c2) := (b26.cell (World.block_lt_of_cell? _ _ p1)).trans p1
  have v2 : w6.cell? ⟨w2.heap.size, 0, none⟩ = some (.slice A3 n1 c3) := (b36.cell (World.block_lt_of_cell? _ _ q0)).trans q0
  have v3 : w6.cell? ⟨w2.heap.size, 1, none⟩ = some (.slice A4 n2 c4) := (b36.cell (World.block_lt_of_cell? _ _ q1)).trans q1
  have N1 := Lib.hid (S1.out.below b16)
  have N2 := Lib.hid (S2.out.below b16)
  have N3 := Lib.hid (S3.out.below b26)
  have N4 := Lib.hid (S4.out.below b26)
  have N5 := Lib.hid (S5.out.below b36)
  have N6 := Lib.hid (S6.out.below b36)
  have N7 := Lib.hid (S7.out.below b6)
  have N8 := Lib.hid (S8.out.below b6)
  have BW := Lib.hid (B1.out.trans (b16.mono B1.out.size))
  have HL1 := Lib.hid (fun m => HSL.out n1 h1 A1 A3 c1 c3 f1 (w6.drewN m) N1.out N3.out)
  have HL1' := Lib.hid (HSL.out n1 h1 A1 A3 c1 c3 f1 w6 N1.out N3.out)
  have HL2 := Lib.hid (fun w (b : Below w6.heap.size w6 w) => HSL.out n2 h2 A2 A4 c2 c4 f2 w (N2.out.below b) (N4.out.below b))
  have HL3 := Lib.hid (fun w (b : Below w6.heap.size w6 w) => HSL.out 288 (by omega) A5 (some ⟨la, 0, none⟩) c5 288 fxl w (N5.out.below b) (N7.out.below b))
  have HL4 := Lib.hid (fun w (b : Below w6.heap.size w6 w) => HSL.out 30 (by omega) A6 (some ⟨da, 0, none⟩) c6 30 (fun _ => 5) w (N6.out.below b) (N8.out.below b))
  have eX : (X == X) = true := by rw [beq_iff_eq]
  clear b6 b36 b26 b16 p0 p1 q0 q1 S1 S2 S3 S4 S5 S6 S7 S8 HB HRB HF HV N1 N2 N3 N4 N5 N6 N7 N8 HL1 hs1
  go_wp2_with (first
    | (go_at_call 12; (with_reducible refine HL1'.out.mono ?_); rintro e w' ⟨rfl, m1, rfl⟩)
    | (go_at_call 12; (with_reducible refine (HL2.out _ (below_drewN (Below.refl _ _) _)).mono ?_); rintro e w' ⟨rfl, m2, rfl⟩)
    | (go_at_call 12; (with_reducible refine (HL3.out _ (below_drewN (Below.refl _ _) _)).mono ?_); rintro e w' ⟨rfl, m3, rfl⟩)
    | (go_at_call 12; (with_reducible refine (HL4.out _ (below_drewN (Below.refl _ _) _)).mono ?_); rintro e w' ⟨rfl, m4, rfl⟩)
    | (go_at_call 13; (with_reducible refine (HO.out _ (below_drewN BW.out _)).mono ?_); rintro e w7 ⟨A7, c7, rfl, s7, b7⟩; have S7 := Lib.hid s7; have B7 := Lib.hid ((below_drewN BW.out _).trans (b7.mono BW.out.size)); clear s7 b7)
    | (go_at_call 14; (with_reducible refine (order_any _).mono ?_); rintro e w8 ⟨rfl, s8, b8⟩; have S8 := Lib.hid (ord_nums s8); have S9 := Lib.hid (S7.out.below b8); have B8 := Lib.hid (B7.out.trans (b8.mono B7.out.size)); clear s8 b8)
    | (go_at_call 12; (with_reducible refine (HSL.out 19 (by omega) _ _ _ _ _ _ S9.out S8.out).mono ?_); rintro e w' ⟨rfl, m5, rfl⟩)
    | (go_at_call 7; (with_reducible refine (HWk.out _ (below_drewN B8.out _)).mono ?_); rintro e w9 ⟨rfl, b9⟩; have B9 := Lib.hid ((below_drewN B8.out m5).trans (b9.mono B8.out.size)); clear b9))
  go_ret
  exact ⟨rfl, B9.out⟩

set_option maxRecDepth 1000000 in
theorem codes_heavy {T : World → Prop} (C : Bks T) (A : Option Addr) (n c : Nat) (W : World) (H : T W) (hn : n ≤ maxLen) (hv : 600 < n) :
    Calls Tryd.prog 3 #[.slice A n c] W fun e w' => e = .returned (.bool true) ∧ Below W.heap.size W w' := by
  have HV := Lib.hid (heavy13_any A n c ⟨#[]⟩ W hn (by decide))
  rw [decide_eq_true (Or.inl hv)] at HV
  have HWk := Lib.hid (works13 C W H)
  clear C H hv
  go_enter Tryd.func3, Tryd.ntmps3
  go_wp2_with (first
    | (go_at_call 6; (with_reducible refine HV.out.mono ?_); rintro e w0 ⟨rfl, rfl⟩)
    | (go_at_call 7; (with_reducible refine HWk.out.mono ?_); rintro e w7 ⟨rfl, b7⟩; have B7 := Lib.hid b7; clear b7))
  go_ret
  exact ⟨rfl, B7.out⟩
/-- the law -/
theorem codes_law {T : World → Prop} (C : Bks T) (D : Bst T) (A : Option Addr) (n c : Nat) (L : List Tk) (W : World) (H : T W) (hL : IsTks W A n L) :
    Calls Tryd.prog 3 #[.slice A n c] W fun e w' => e = .returned (.bool true) ∧ Below W.heap.size W w' := by
  by_cases hv : 600 < n
  · exact codes_heavy C A n c W H hL.most hv
  · by_cases hb : ∃ i, i < n ∧ may (L.getD i default) = false
    · refine codes_gen C A n c 0 0 (fun _ => 0) (fun _ => 0) 2 W H (by omega) (by omega) (by omega) (Lib.hid fun w b => (D.bestNo A n c L w (C.keep H b) (hL.below b) (by omega) hb).mono fun e w' g => ?_) (Lib.hid fun w b => (rbest_no A n c L w (hL.below b) (by omega) hb).mono fun e w' g => ?_)
      · obtain ⟨A1, c1, A2, c2, rfl, b1⟩ := g
        exact ⟨A1, c1, A2, c2, rfl, Nums.nil _ _ _ _, Nums.nil _ _ _ _, b1⟩
      · obtain ⟨rfl, b1⟩ := g
        exact ⟨none, 0, none, 0, rfl, Nums.nil _ _ _ _, Nums.nil _ _ _ _, b1⟩
    · have hm : ∀ t ∈ L, may t = true := fun t ht => by
        cases hm : may t with
        | true => rfl
        | false =>
          obtain ⟨i, hi, he⟩ := List.mem_iff_getElem.1 ht
          refine absurd ⟨i, by rw [← hL.leng]; exact hi, ?_⟩ hb
          rw [List.getD, List.getElem?_eq_getElem hi, Option.getD_some, he]
          exact hm
      refine codes_gen C A n c 286 30 (ll1 L) (ll2 L) 0 W H (by omega) (by omega) (by omega) (Lib.hid fun w b => D.best A n c L w (C.keep H b) (hL.below b) (by omega) hm) (Lib.hid fun w b => (best_any A n c L w (hL.below b) (by omega) hm _ _ _ _ (hf_lv (cs false (sys L)) 286) (hf_lv (cs true (sys L)) 30)).mono fun e w' g => ?_)
      obtain ⟨la, da, rfl, _, _, s1, s2, b1⟩ := g
      exact ⟨_, _, _, _, rfl, s1.nums, s2.nums, b1⟩
end Go.Proofs.YtkegkfmikplgdaaDoor.V

/- BlockBest returns true, over what the program's functions answer. Conditions: as each theorem names them. -/
namespace Go.Proofs.YtkegkfmikplgdaaDoor.V
open Go Go.RowKit M U
set_option linter.unusedVariables false
set_option linter.unusedSimpArgs false

set_option maxRecDepth 1000000 in
set_option maxHeartbeats 4000000 in
theorem bbest_good {T : World → Prop} (C : Bks T) (D : Bst T) (A : Option Addr) (n c : Nat) (R : List Ra) (ah : Nat) (W : World) (H : T W) (hR : IsRas W A n R) (hn : n ≤ 500) (hah : ah ≤ 255) :
    Calls Tryd.prog 4 #[.slice A n c, .int .u8 ah] W fun e w' => e = .returned (.bool true) ∧ Below W.heap.size W w' := by
  have HM := Lib.hid (made0 A n c R W hR (by omega))
  have hmay := mdk0_may hR
  have hok : ∀ t ∈ mdk R 0, t.ok := fun t ht => (mdk_may R 0 hR.good (by omega) t ht).2
  have hlen : (mdk R 0).length = n := by rw [mdk_length, hR.leng]
  obtain ⟨L, hL⟩ : ∃ L, mdk R 0 = L := ⟨_, rfl⟩
  rw [hL] at HM hmay hlen hok
  obtain ⟨q, hqe⟩ : ∃ q, ah % 20 = q := ⟨_, rfl⟩
  have q20 : (ah : Int) % 20 = (q : Int) := by omega
  have hq19 : q ≤ 19 := by omega
  have HWk := Lib.hid (fun w (b : Below W.heap.size W w) => works13 C w (C.keep H b))
  have HF := Lib.hid (fun w (b : Below W.heap.size W w) => C.fixed w (C.keep H b))
  have hin := sys_in hmay hok
  have hsb := sys_b hmay
  have hcode := fun y hy => has_code L hmay hok (y := y) hy
  obtain ⟨x, hx⟩ : ∃ x, wgh fxl (fun _ => 5) (sys L) = x := ⟨_, rfl⟩
  obtain ⟨y, hy⟩ : ∃ y, wgh (ll1 L) (ll2 L) (sys L) = y := ⟨_, rfl⟩
  obtain ⟨z, hz⟩ : ∃ z, (bkm 2 L ⟨#[]⟩ false (q % 8)).length = z := ⟨_, rfl⟩
  have hxy : y ≤ x := by rw [← hx, ← hy]; exact best_le L hmay hok
  have hyz : 3 + 14 + 4 * 3 + y < z := by rw [← hy, ← hz, bkm_blk (by decide)]; exact blk_best L _ _ _
  have hzl : z ≤ 50000 := by rw [← hz, bkm_blk (by decide)]; exact blk_few 2 L _ false _ (by decide) (by omega) (fun _ => hmay)
  have hxl : x ≤ 40000 := by
    have h1 := wgh_few fxl (fun _ => 5) (fun i => (fxl_in i).2) (fun _ => by omega) (sys L) (fun s hs => (hsb s hs).1)
    have h2 := sys_len L
    rw [hx] at h1
    omega
  have S1 := Lib.hid (fun (A' : Option Addr) (c' : Nat) w (b : Below W.heap.size W w) (ht : IsTks w A' n L) => (show Calls Tryd.prog 16 #[.int .u8 1, .slice A' n c', .string ⟨#[]⟩, .int .i64 q] w (fun e w' => e = .returned (.tuple #[.int .i64 (3 + x : Nat), .int .i64 0]) ∧ Below w.heap.size w w') from by
    have h := C.size 1 A' n c' L ⟨#[]⟩ q w (C.keep H b) ht (by omega) (by decide) (by omega) (by omega) (fun _ => hmay)
    rw [bkm_blk (by decide), blk_fixed, hx] at h
    exact h))
  have S2 := Lib.hid (fun (A' : Option Addr) (c' : Nat) w (b : Below W.heap.size W w) (ht : IsTks w A' n L) => (show Calls Tryd.prog 16 #[.int .u8 2, .slice A' n c', .string ⟨#[]⟩, .int .i64 q] w (fun e w' => e = .returned (.tuple #[.int .i64 z, .int .i64 0]) ∧ Below w.heap.size w w') from by
    have h := C.size 2 A' n c' L ⟨#[]⟩ q w (C.keep H b) ht (by omega) (by decide) (by omega) (by omega) (fun _ => hmay)
    rw [hz] at h
    exact h))
  have HBs := Lib.hid (fun (A' : Option Addr) (c' : Nat) w (b : Below W.heap.size W w) (ht : IsTks w A' n L) => D.best A' n c' L w (C.keep H b) ht (by omega) hmay)
  have G1 := Lib.hid (fun (A' : Option Addr) (c' : Nat) w (ht : IsTks w A' n L) (A1 A2 : Option Addr) (c1 c2 : Nat) (h1 : Nums w .u8 A1 288 (fun i => (fxl i : Int))) (h2 : Nums w .u8 A2 30 (fun _ => ((5 : Nat) : Int))) => (show Calls Tryd.prog 17 #[.slice A' n c', .agg #[.slice A1 288 c1, .slice A2 30 c2]] w (fun e w' => e = .returned (.tuple #[.int .i64 x, .bool true]) ∧ Below w.heap.size w w') from by
    have h := weigh_any A' n c' L w ht (by omega) hmay A1 A2 288 30 c1 c2 fxl (fun _ => 5) h1 h2 (fun s hs => ⟨(hsb s hs).1, fun e => ⟨by have := (hin s hs).1 e; omega, by have := (fxl_in s.n).1; omega⟩, fun e => ⟨(hin s hs).2 e, by omega⟩⟩) (fun i => by have := (fxl_in i).2; omega) (fun _ => by omega)
    rw [hx] at h
    exact h))
  have G2 := Lib.hid (fun (A' : Option Addr) (c' : Nat) w (ht : IsTks w A' n L) (A1 A2 : Option Addr) (c1 c2 : Nat) (h1 : Nums w .u8 A1 286 (fun i => (ll1 L i : Int))) (h2 : Nums w .u8 A2 30 (fun i => (ll2 L i : Int))) => (show Calls Tryd.prog 17 #[.slice A' n c', .agg #[.slice A1 286 c1, .slice A2 30 c2]] w (fun e w' => e = .returned (.tuple #[.int .i64 y, .bool true]) ∧ Below w.heap.size w w') from by
    have h := weigh_any A' n c' L w ht (by omega) hmay A1 A2 286 30 c1 c2 (ll1 L) (ll2 L) h1 h2 (fun s hs => ⟨(hsb s hs).1, fun e => ⟨(hin s hs).1 e, (hcode s hs).1 e⟩, fun e => ⟨(hin s hs).2 e, (hcode s hs).2 e⟩⟩) (fun i => Nat.le_trans (hfl_le _ (by decide) (by decide) i) (by decide)) (fun i => Nat.le_trans (hfl_le _ (by decide) (by decide) i) (by decide))
    rw [hy] at h
    exact h))
  have dn : decide ((500 : Int) < (n : Int)) = false := decide_eq_false (by omega)
  have dn' : decide (500 < n) = false := decide_eq_false (by omega)
  obtain ⟨f, hf⟩ : ∃ f, 3 + x = f := ⟨_, rfl⟩
  rw [hf] at S1
  have e1 : ((f : Int) == 3 + (x : Int)) = true := by rw [beq_iff_eq]; omega
  have e2 : decide ((y : Int) ≤ (x : Int)) = true := decide_eq_true (by omega)
  have e2' : decide (y ≤ x) = true := decide_eq_true hxy
  have e3 : decide ((29 : Int) + (y : Int) < (z : Int)) = true := decide_eq_true (by omega)
  clear hL hmay hlen hok hR C D H hin hsb hcode hx hy hz hqe hf
  go_enter Tryd.func4, Tryd.ntmps4
  go_wp2_with (first
    | (go_at_call 15; (with_reducible refine HM.out.mono ?_); rintro e w1 ⟨A', c', rfl, t1, b1⟩; have T1 := Lib.hid t1; have B1 := Lib.hid b1; clear t1 b1)
    | (go_at_call 16; (with_reducible refine (S1.out _ _ _ B1.out T1.out).mono ?_); rintro e w2 ⟨rfl, b2⟩; have T2 := Lib.hid (T1.out.below b2); have B2 := Lib.hid (B1.out.trans (b2.mono B1.out.size)); clear b2)
    | (go_at_call 16; (with_reducible refine (S2.out _ _ _ B2.out T2.out).mono ?_); rintro e w3 ⟨rfl, b3⟩; have T3 := Lib.hid (T2.out.below b3); have B3 := Lib.hid (B2.out.trans (b3.mono B2.out.size)); clear b3)
    | (go_at_call 8; (with_reducible refine (HBs.out _ _ _ B3.out T3.out).mono ?_); rintro e w4 ⟨A1, c1, A2, c2, rfl, s1, s2, b4⟩; have T4 := Lib.hid (T3.out.below b4); have N1 := Lib.hid s1; have N2 := Lib.hid s2; have B4 := Lib.hid (B3.out.trans (b4.mono B3.out.size)); clear s1 s2 b4)
    | (go_at_call 10; (with_reducible refine (HF.out _ (B4.out.alloc B4.out.size _)).mono ?_); rintro e w5 ⟨A3, c3, A4, c4, rfl, s3, s4, b5⟩; have b45 : Below w4.heap.size w4 w5 := ((Below.refl w4.heap.size w4).alloc (Nat.le_refl _) (.cells #[.slice A1 286 c1, .slice A2 30 c2] 27)).trans (b5.mono (by simp)); have k0 := (b5.cell (p := ⟨w4.heap.size, 0, none⟩) (by simp)).trans (show (w4.alloc (.cells #[.slice A1 286 c1, .slice A2 30 c2] 27)).cell? ⟨w4.heap.size, 0, none⟩ = some (.slice A1 286 c1) by simp); have k1 := (b5.cell (p := ⟨w4.heap.size, 1, none⟩) (by simp)).trans (show (w4.alloc (.cells #[.slice A1 286 c1, .slice A2 30 c2] 27)).cell? ⟨w4.heap.size, 1, none⟩ = some (.slice A2 30 c2) by simp); have N3 := Lib.hid s3; have N4 := Lib.hid s4; have T5 := Lib.hid (T4.out.below b45); have M1 := Lib.hid (N1.out.below b45); have M2 := Lib.hid (N2.out.below b45); have B5 := Lib.hid (B4.out.trans (b45.mono B4.out.size)); clear s3 s4 b5 b45)
    | (go_at_call 17; (with_reducible refine (G1.out _ _ _ T5.out _ _ _ _ N3.out N4.out).mono ?_); rintro e w6 ⟨rfl, b6⟩; have j0 := (b6.cell (p := ⟨w4.heap.size, 0, none⟩) (World.block_lt_of_cell? _ _ k0)).trans k0; have j1 := (b6.cell (p := ⟨w4.heap.size, 1, none⟩) (World.block_lt_of_cell? _ _ k1)).trans k1; have T6 := Lib.hid (T5.out.below b6); have M3 := Lib.hid (M1.out.below b6); have M4 := Lib.hid (M2.out.below b6); have B6 := Lib.hid (B5.out.trans (b6.mono B5.out.size)); clear b6)
    | (go_at_call 17; (with_reducible refine (G2.out _ _ _ T6.out _ _ _ _ M3.out M4.out).mono ?_); rintro e w7 ⟨rfl, b7⟩; have B7 := Lib.hid (B6.out.trans (b7.mono B6.out.size)); clear b7)
    | (go_at_call 7; (with_reducible refine (HWk.out _ B7.out).mono ?_); rintro e w8 ⟨rfl, b8⟩; have B8 := Lib.hid (B7.out.trans (b8.mono B7.out.size)); clear b8))
  go_ret
  exact ⟨rfl, B8.out⟩

set_option maxRecDepth 1000000 in
theorem bbest_heavy {T : World → Prop} (C : Bks T) (A : Option Addr) (n c : Nat) (ah : Nat) (W : World) (H : T W) (hn : n ≤ maxLen) (hv : 500 < n) :
    Calls Tryd.prog 4 #[.slice A n c, .int .u8 ah] W fun e w' => e = .returned (.bool true) ∧ Below W.heap.size W w' := by
  unfold maxLen at hn
  have HWk := Lib.hid (works13 C W H)
  have dn : decide ((500 : Int) < (n : Int)) = true := decide_eq_true (by omega)
  have dn' : decide (500 < n) = true := decide_eq_true hv
  clear C H hv
  go_enter Tryd.func4, Tryd.ntmps4
  go_wp2_with (go_at_call 7; (with_reducible refine HWk.out.mono ?_); rintro e w7 ⟨rfl, b7⟩; have B7 := Lib.hid b7; clear b7)
  go_ret
  exact ⟨rfl, B7.out⟩
/-- the law -/
theorem bbest_law {T : World → Prop} (C : Bks T) (D : Bst T) (A : Option Addr) (n c : Nat) (R : List Ra) (ah : Nat) (W : World) (H : T W) (hR : IsRas W A n R) (hah : ah ≤ 255) :
    Calls Tryd.prog 4 #[.slice A n c, .int .u8 ah] W fun e w' => e = .returned (.bool true) ∧ Below W.heap.size W w' := by
  by_cases hv : 500 < n
  · exact bbest_heavy C A n c ah W H hR.most hv
  · exact bbest_good C D A n c R ah W H hR (by omega) hah
end Go.Proofs.YtkegkfmikplgdaaDoor.V

/- The program's writer in lists of bits (layer 13): what each call puts behind the bits that are there. Conditions: as each theorem names them. -/
namespace Go.Proofs.YtkegkfmikplgdaaDoor.V
open Go Go.RowKit M U
set_option linter.unusedVariables false
set_option linter.unusedSimpArgs false

theorem cdb_succ (c s : Nat) : cdb c (s + 1) = c / 2 ^ s % 2 :: cdb c s := by
  unfold cdb
  rw [List.range_succ_eq_map, List.map_cons, List.map_map]
  congr 1
  apply List.map_congr_left
  intro i _
  show c / 2 ^ (s + 1 - 1 - (i + 1)) % 2 = _
  congr 3
  omega
theorem nb_cdb (c : Nat) : ∀ s, nb (cdb c s) = rv c s
  | 0 => rfl
  | s + 1 => by
    rw [cdb_succ]
    simp only [nb, rv, nb_cdb c s]
    omega
theorem nb_rep (n : Nat) : nb (List.replicate n 0) = 0 := by
  have h := nb_zeros n []
  rw [List.append_nil] at h
  rw [h]
  simp [nb]
theorem nb_byb (s : ByteArray) : ∀ k, k ≤ s.size → nb (byb s k) = vl (s.data.toList.take k)
  | 0, _ => rfl
  | k + 1, h => by
    have hk : k < s.size := h
    rw [byb_succ, nb_append, nb_byb s k (by omega), nb_put, byb_length, vl_take_succ s k hk, bty_eq hk]
    have := bty_lt s k
    rw [show (2 : Nat) ^ 8 = 256 from rfl, Nat.mod_eq_of_lt (by omega), Nat.mul_comm k 8, ← p8]
theorem nb_byb_all (s : ByteArray) : nb (byb s s.size) = vl s.data.toList := by rw [nb_byb s s.size (Nat.le_refl _), vl_take_all]
theorem nb_more (V o : Nat) (X Y : List Nat) : V + nb (X ++ Y) * 2 ^ o = V + nb X * 2 ^ o + nb Y * 2 ^ (o + X.length) := by
  rw [nb_append, Nat.add_mul, Nat.pow_add, Nat.mul_assoc, Nat.mul_comm (2 ^ X.length) (2 ^ o), Nat.add_assoc]
theorem align_pd (L : Nat) : alignL L = L + pd L := by unfold alignL pd; omega
section
variable {w : World} {B p : Nat} {S : Nat → Prop} {most : Int} {V o : Nat} {X : List Nat}
end
end Go.Proofs.YtkegkfmikplgdaaDoor.V
