/- Texts of one place, one behind the other: BlA, BlB, BlW, BlX, BlC, BlR, BlM, BlS, BlN. -/
import Derived.Test.YtfochecpdfmfbaaGreatDoorBwQ
import Derived.Test.YtfochecpdfmfbaaGreatDoorMBwK
import Derived.Test.YtfochecpdfmfbaaGreatDoorMBwX
import Derived.Test.YtfochecpdfmfbaaGreatDoorQtD
import Derived.Test.YtfochecpdfmfbaaGreatDoorMRns
import Derived.Deep.RegionHeld3
import Derived.Deep.CutRange
import Derived.Test.YtfochecpdfmfbaaGreatDoorMCnD
import Derived.Test.YtfochecpdfmfbaaGreatDoorMBwH
import Derived.BigQuiet
/- What the laws of layer 13 ask of the program's functions; a block's bits, of any number of bytes. Conditions: as each theorem names them. -/
namespace Go.Proofs.YtfochecpdfmfbaaGreatDoor.V
open Go Go.RowKit M U
set_option linter.unusedVariables false
set_option linter.unusedSimpArgs false

/-- the bits of stored blocks, behind o bits: as many as there are -/
def stm (o : Nat) (s : ByteArray) (last : Bool) : List Nat :=
  if h : s.size ≤ 65535 then stb o s last else stb o (s.extract 0 65535) false ++ stm (o + (stb o (s.extract 0 65535) false).length) (s.extract 65535 s.size) last
termination_by s.size
decreasing_by
  rw [ByteArray.size_extract]
  omega
theorem stm_one {o : Nat} {s : ByteArray} {last : Bool} (h : s.size ≤ 65535) : stm o s last = stb o s last := by rw [stm, dif_pos h]
theorem stm_more {o : Nat} {s : ByteArray} {last : Bool} (h : ¬ s.size ≤ 65535) : stm o s last = stb o (s.extract 0 65535) false ++ stm (o + (stb o (s.extract 0 65535) false).length) (s.extract 65535 s.size) last := by rw [stm, dif_neg h]
/-- a block's bits, behind o bits -/
noncomputable def bkm (k : Nat) (L : List Tk) (raw : ByteArray) (last : Bool) (o : Nat) : List Nat := if k = 0 then stm o raw last else blk k L raw last o
theorem bkm_blk {k : Nat} {L : List Tk} {raw : ByteArray} {last : Bool} {o : Nat} (h : raw.size ≤ 65535) : bkm k L raw last o = blk k L raw last o := by
  unfold bkm
  split
  · rename_i e; rw [e, stm_one h]; unfold blk; rw [if_pos rfl]
  · rfl
theorem wgh_few (l1 l2 : Nat → Nat) (h1 : ∀ i, l1 i ≤ 15) (h2 : ∀ i, l2 i ≤ 15) : ∀ S : List Sy, (∀ y ∈ S, y.b ≤ 13) → wgh l1 l2 S ≤ 28 * S.length
  | [], _ => by simp [wgh]
  | y :: S, h => by
    have ih := wgh_few l1 l2 h1 h2 S (fun z hz => h z (List.mem_cons_of_mem _ hz))
    have hy := h y List.mem_cons_self
    have := h1 y.n
    have := h2 y.n
    simp only [wgh, List.length_cons]
    split <;> omega
/-- a block of few tokens and bytes is short -/
theorem blk_few (k : Nat) (L : List Tk) (raw : ByteArray) (last : Bool) (o : Nat) (hr : raw.size ≤ 4096) (hn : L.length ≤ 600) (hm : k ≠ 0 → ∀ t ∈ L, may t = true) : (blk k L raw last o).length ≤ 50000 := by
  have hs := sys_len L
  unfold blk
  by_cases h0 : k = 0
  · rw [if_pos h0, stb_length]
    have : pd (o + 3) ≤ 7 := by unfold pd; omega
    omega
  · rw [if_neg h0]
    have hb : ∀ y ∈ sys L, y.b ≤ 13 := fun y hy => (sys_b (hm h0) y hy).1
    split
    · unfold sfx
      rw [List.length_append, hdb_length, flat_len]
      have := wgh_few fxl (fun _ => 5) (fun i => (fxl_in i).2) (fun _ => by omega) (sys L) hb
      omega
    · unfold sbs
      rw [List.length_append, List.length_append, hdb_length, flat_len]
      have h1 := hdd_len L
      have := wgh_few (ll1 L) (ll2 L) (fun i => hfl_le _ (by decide) (by decide) i) (fun i => hfl_le _ (by decide) (by decide) i) (sys L) hb
      omega

/-- what the program's functions answer wherever T holds (its variables, if it has any) -/
structure Bks (T : World → Prop) : Prop where
  keep : ∀ {w w' : World}, T w → Below w.heap.size w w' → T w'
  fixed : ∀ w, T w → Calls Tryz.prog 20 #[] w fun e w' => ∃ A1 c1 A2 c2, e = .returned (.agg #[.slice A1 288 c1, .slice A2 30 c2]) ∧ Nums w' .u8 A1 288 (fun i => (fxl i : Int)) ∧ Nums w' .u8 A2 30 (fun _ => ((5 : Nat) : Int)) ∧ Below w.heap.size w w'
  order : ∀ w, T w → Calls Tryz.prog 19 #[] w fun e w' => ∃ A c, e = .returned (.slice A 19 c) ∧ Nums w' .u8 A 19 (fun i => ((ord.getD i 0 : Nat) : Int)) ∧ Below w.heap.size w w'
  size : ∀ (k : Nat) (A : Option Addr) (n c : Nat) (L : List Tk) (raw : ByteArray) (p : Nat) (w : World), T w → IsTks w A n L → n ≤ 1000 → raw.size ≤ 1000000 → p ≤ 1000000 → k ≤ 2 → (k ≠ 0 → ∀ t ∈ L, may t = true) →
    Calls Tryz.prog 10 #[.int .u8 k, .slice A n c, .string raw, .int .i64 p] w fun e w' => e = .returned (.tuple #[.int .i64 ((bkm k L raw false (p % 8)).length : Nat), .int .i64 0]) ∧ Below w.heap.size w w'
  sizeNo : ∀ (k : Nat) (A : Option Addr) (n c : Nat) (L : List Tk) (raw : ByteArray) (p : Nat) (w : World), T w → IsTks w A n L → n ≤ 1000 → raw.size ≤ 1000000 → p ≤ 1000000 → k ≤ 255 → (2 < k ∨ (k ≠ 0 ∧ ∃ i, i < n ∧ may (L.getD i default) = false)) →
    Calls Tryz.prog 10 #[.int .u8 k, .slice A n c, .string raw, .int .i64 p] w fun e w' => e = .returned (.tuple #[.int .i64 0, .int .i64 2]) ∧ Below w.heap.size w w'
/-- .. and its Write -/
structure Bkw (T : World → Prop) : Prop extends Bks T where
  write : ∀ (B p : Nat) (S : Nat → Prop) (most : Int) (V Ln k : Nat) (A : Option Addr) (n c : Nat) (L : List Tk) (raw : ByteArray) (last : Bool) (w : World), (∀ w', Below B w w' → T w') → Wt w B p S most V Ln → (∀ w', Below B w w' → IsTks w' A n L) → B ≤ w.heap.size →
    Ln ≤ 1000 → n ≤ 1000 → raw.size ≤ 200000 → k ≤ 2 → (k ≠ 0 → ∀ t ∈ L, may t = true) → (((Ln + (bkm k L raw last Ln).length + 7) / 8 : Nat) : Int) ≤ most →
    Calls Tryz.prog 11 #[.pointer (some ⟨p, 0, none⟩), .int .u8 k, .slice A n c, .string raw, .bool last] w (Did w B p S most (0, V + nb (bkm k L raw last Ln) * 2 ^ Ln, Ln + (bkm k L raw last Ln).length))
  writeFull : ∀ (B p : Nat) (S : Nat → Prop) (most : Int) (V Ln k : Nat) (A : Option Addr) (n c : Nat) (L : List Tk) (raw : ByteArray) (last : Bool) (w : World), (∀ w', Below B w w' → T w') → Wt w B p S most V Ln → (∀ w', Below B w w' → IsTks w' A n L) → B ≤ w.heap.size →
    Ln ≤ 1000 → n ≤ 1000 → raw.size ≤ 200000 → k ≤ 2 → (k ≠ 0 → ∀ t ∈ L, may t = true) → most < (((Ln + (bkm k L raw last Ln).length + 7) / 8 : Nat) : Int) →
    Calls Tryz.prog 11 #[.pointer (some ⟨p, 0, none⟩), .int .u8 k, .slice A n c, .string raw, .bool last] w fun e w' => e = .returned (.int .i64 4) ∧ Below B w w'
  writeNo : ∀ (B p : Nat) (S : Nat → Prop) (most : Int) (V Ln k : Nat) (A : Option Addr) (n c : Nat) (L : List Tk) (raw : ByteArray) (last : Bool) (w : World), (∀ w', Below B w w' → T w') → Wt w B p S most V Ln → (∀ w', Below B w w' → IsTks w' A n L) → B ≤ w.heap.size →
    Ln ≤ 1000 → n ≤ 1000 → raw.size ≤ 200000 → k ≤ 255 → (2 < k ∨ (k ≠ 0 ∧ ∃ i, i < n ∧ may (L.getD i default) = false)) → (((Ln + 7) / 8 : Nat) : Int) ≤ most →
    Calls Tryz.prog 11 #[.pointer (some ⟨p, 0, none⟩), .int .u8 k, .slice A n c, .string raw, .bool last] w (Did w B p S most (2, V, Ln))
  writeNil : ∀ (k : Nat) (A : Option Addr) (n c : Nat) (L : List Tk) (raw : ByteArray) (last : Bool) (w : World), T w → IsTks w A n L → n ≤ 1000 → raw.size ≤ 200000 → k ≤ 255 →
    Calls Tryz.prog 11 #[.pointer none, .int .u8 k, .slice A n c, .string raw, .bool last] w fun e w' => e = .returned (.int .i64 1) ∧ Below w.heap.size w w'

theorem IsTks.none (w : World) : IsTks w none 0 [] := ⟨rfl, Nat.zero_le _, fun c hc => absurd hc (by simp), .inl rfl⟩
theorem sys_nil : sys [] = [⟨false, 256, 0, 0⟩] := rfl
theorem bkm_ten (raw : ByteArray) (h : raw.size ≤ 65535) : (bkm 1 [] raw false (0 % 8)).length = 10 := by
  rw [bkm_blk h, blk_fixed, sys_nil]; rfl
theorem bkm_abc (raw : ByteArray) (h : raw.size = 3) : (bkm 0 [] raw false (0 % 8)).length = 64 := by
  rw [bkm_blk (by omega)]
  unfold blk
  rw [if_pos rfl, stb_length, h]; rfl
set_option maxRecDepth 1000000 in
theorem works13 {T : World → Prop} (C : Bks T) (w : World) (H : T w) : Calls Tryz.prog 7 #[] w fun e w' => e = .returned (.bool true) ∧ Below w.heap.size w w' := by
  have HS1 := Lib.hid (fun (raw : ByteArray) (hr : raw.size ≤ 1000) (w' : World) (b : Below w.heap.size w w') => (show Calls Tryz.prog 10 #[.int .u8 1, .slice none 0 0, .string raw, .int .i64 0] w' fun e w2 => e = .returned (.tuple #[.int .i64 10, .int .i64 0]) ∧ Below w'.heap.size w' w2 from by
    have h := C.size 1 none 0 0 [] raw 0 w' (C.keep H b) (IsTks.none w') (by omega) (by omega) (by omega) (by omega) (fun _ t ht => absurd ht (by simp))
    rw [bkm_ten raw (by omega)] at h
    exact h))
  have HS2 := Lib.hid (fun (raw : ByteArray) (hr : raw.size = 3) (w' : World) (b : Below w.heap.size w w') => (show Calls Tryz.prog 10 #[.int .u8 0, .slice none 0 0, .string raw, .int .i64 0] w' fun e w2 => e = .returned (.tuple #[.int .i64 64, .int .i64 0]) ∧ Below w'.heap.size w' w2 from by
    have h := C.size 0 none 0 0 [] raw 0 w' (C.keep H b) (IsTks.none w') (by omega) (by omega) (by omega) (by omega) (fun _ t ht => absurd ht (by simp))
    rw [bkm_abc raw hr] at h
    exact h))
  have HO := Lib.hid (fun (w' : World) (b : Below w.heap.size w w') => C.order w' (C.keep H b))
  have HF := Lib.hid (fun (w' : World) (b : Below w.heap.size w w') => C.fixed w' (C.keep H b))
  clear H C
  go_enter Tryz.func7, Tryz.ntmps7
  go_wp2_with (first
    | (go_at_call 10; (with_reducible refine (HS1.out _ (by decide) _ (Below.refl _ _)).mono ?_); rintro e w1 ⟨rfl, b1⟩; have B1 := Lib.hid b1; clear b1)
    | (go_at_call 10; (with_reducible refine (HS2.out _ (by decide) _ B1.out).mono ?_); rintro e w2 ⟨rfl, b2⟩; have B2 := Lib.hid (B1.out.trans (b2.mono B1.out.size)); clear b2)
    | (go_at_call 19; (with_reducible refine (HO.out _ B2.out).mono ?_); rintro e w3 ⟨A3, c3, rfl, o3, b3⟩; obtain ⟨b5, q5, rfl, hl5, hc5⟩ := o3 (by decide); have d0 : w3.cell? ⟨b5, q5, none⟩ = some (.int .u8 16) := hc5 0 (by decide); have B3 := Lib.hid (B2.out.trans (b3.mono B2.out.size)); clear o3 b3 hc5)
    | (go_at_call 20; (with_reducible refine (HF.out _ B3.out).mono ?_); rintro e w4 ⟨A4, c4, A5, c5, rfl, f4, g4, b4⟩; obtain ⟨b6, q6, rfl, hl6, hc6⟩ := f4 (by decide); have d1 : w4.cell? ⟨b6, q6 + 200, none⟩ = some (.int .u8 9) := hc6 200 (by decide); have d2 := (b4.cell (p := ⟨b5, q5, none⟩) hl5).trans d0; have e1 : ∀ o, (w4.alloc o).cell? ⟨b6, q6 + 200, none⟩ = some (.int .u8 9) := fun o => (Below.cell ((Below.refl w4.heap.size w4).alloc (Nat.le_refl _) o) (p := ⟨b6, q6 + 200, none⟩) (World.block_lt_of_cell? _ _ d1)).trans d1; have e2 : ∀ o, (w4.alloc o).cell? ⟨b5, q5, none⟩ = some (.int .u8 16) := fun o => (Below.cell ((Below.refl w4.heap.size w4).alloc (Nat.le_refl _) o) (p := ⟨b5, q5, none⟩) (World.block_lt_of_cell? _ _ d2)).trans d2; have B4 := Lib.hid (B3.out.trans (b4.mono B3.out.size)); clear f4 g4 b4 hc6 d0 d1 d2))
  go_ret
  exact ⟨rfl, B4.out.alloc B4.out.size _⟩
end Go.Proofs.YtfochecpdfmfbaaGreatDoor.V

/- A block's bits are bits; the document's text of them; heavy of layer 13's laws. Conditions: as each theorem names them. -/
namespace Go.Proofs.YtfochecpdfmfbaaGreatDoor.V
open Go Go.RowKit M U
set_option linter.unusedVariables false
set_option linter.unusedSimpArgs false

theorem rep_bit (n : Nat) : ∀ x ∈ List.replicate n 0, x ≤ 1 := fun x hx => by rw [List.eq_of_mem_replicate hx]; omega
theorem app_bit {a b : List Nat} (ha : ∀ x ∈ a, x ≤ 1) (hb : ∀ x ∈ b, x ≤ 1) : ∀ x ∈ a ++ b, x ≤ 1 := fun x hx => (List.mem_append.1 hx).elim (ha x) (hb x)
theorem flat_bit {α : Type} {f : α → List Nat} {l : List α} (h : ∀ a ∈ l, ∀ x ∈ f a, x ≤ 1) : ∀ x ∈ l.flatMap f, x ≤ 1 := fun x hx => by
  obtain ⟨a, ha, hx⟩ := List.mem_flatMap.1 hx
  exact h a ha x hx
theorem wsy_bit (l1 : Nat → Nat) (n1 : Nat) (l2 : Nat → Nat) (n2 : Nat) (y : Sy) : ∀ x ∈ wsy l1 n1 l2 n2 y, x ≤ 1 := by
  unfold wsy
  refine app_bit ?_ (put_bit _ _)
  split <;> exact cdb_bit _ _
theorem stb_bit (o : Nat) (s : ByteArray) (last : Bool) : ∀ x ∈ stb o s last, x ≤ 1 := by
  unfold stb
  exact app_bit (app_bit (app_bit (app_bit (hdb_bit _ _) (rep_bit _)) (put_bit _ _)) (put_bit _ _)) (flat_bit fun _ _ => put_bit _ _)
theorem hdd_bit (L : List Tk) : ∀ x ∈ hdd L, x ≤ 1 := by
  unfold hdd dyb
  refine app_bit (app_bit (app_bit (app_bit (put_bit _ _) (put_bit _ _)) (put_bit _ _)) (flat_bit fun _ _ => put_bit _ _)) (flat_bit fun a _ => ?_)
  unfold wrn
  exact app_bit (cdb_bit _ _) (put_bit _ _)
theorem blk_bit (k : Nat) (L : List Tk) (raw : ByteArray) (last : Bool) (o : Nat) : ∀ x ∈ blk k L raw last o, x ≤ 1 := by
  unfold blk
  split
  · exact stb_bit _ _ _
  · split
    · exact app_bit (hdb_bit _ _) (flat_bit fun y _ => wsy_bit _ _ _ _ y)
    · exact app_bit (app_bit (hdb_bit _ _) (hdd_bit L)) (flat_bit fun y _ => wsy_bit _ _ _ _ y)
theorem nb_zeros (n : Nat) (l : List Nat) : nb (List.replicate n 0 ++ l) = nb l * 2 ^ n := by
  rw [nb_append, List.length_replicate]
  have : nb (List.replicate n 0) = 0 := by
    induction n with
    | zero => rfl
    | succ n ih => rw [List.replicate_succ, nb, ih]
  rw [this, Nat.zero_add]
/-- what the document's Text answers is what bitw's does -/
theorem text_eq (V n : Nat) : (⟨((List.range n).map fun i => UInt8.ofNat (byn V i)).toArray⟩ : ByteArray) = bstr (le V n) := by
  unfold bstr
  rw [le_eq]
  rfl

theorem heavy13_any (A : Option Addr) (n c : Nat) (s : ByteArray) (w : World) (hn : n ≤ maxLen) (hs : s.size ≤ maxLen) : Calls Tryz.prog 6 #[.slice A n c, .string s] w fun e w' => e = .returned (.bool (decide (600 < n ∨ 4096 < s.size))) ∧ w = w' := by
  unfold maxLen at hn hs
  by_cases h1 : 600 < n
  · have d1 : decide ((600 : Int) < (n : Int)) = true := decide_eq_true (by omega)
    have d1' : decide (600 < n) = true := decide_eq_true h1
    rw [decide_eq_true (Or.inl h1)]
    clear h1
    go_enter Tryz.func6, Tryz.ntmps6
    go_wp2_with fail
    go_ret
    exact ⟨rfl, rfl⟩
  · have d1 : decide ((600 : Int) < (n : Int)) = false := decide_eq_false (by omega)
    have d1' : decide (600 < n) = false := decide_eq_false h1
    by_cases h2 : 4096 < s.size
    · have d2 : decide ((4096 : Int) < (s.size : Int)) = true := decide_eq_true (by omega)
      have d2' : decide (4096 < s.size) = true := decide_eq_true h2
      rw [decide_eq_true (Or.inr h2)]
      clear h1 h2
      go_enter Tryz.func6, Tryz.ntmps6
      go_wp2_with fail
      go_ret
      exact ⟨rfl, rfl⟩
    · have d2 : decide ((4096 : Int) < (s.size : Int)) = false := decide_eq_false (by omega)
      have d2' : decide (4096 < s.size) = false := decide_eq_false h2
      rw [decide_eq_false (fun g => g.elim h1 h2)]
      clear h1 h2
      go_enter Tryz.func6, Tryz.ntmps6
      go_wp2_with fail
      go_ret
      exact ⟨rfl, rfl⟩
/-- what a writer's call leaves, below its blocks -/
theorem Did.belowB {w w' : World} {B p : Nat} {S : Nat → Prop} {most : Int} {V L : Nat} {r : Int × Nat × Nat} {e : Ending} (h : Did w B p S most r e w') (hW : Wt w B p S most V L) (hB : B ≤ w.heap.size) : Below B w w' := by
  obtain ⟨_, S', _, hk, _⟩ := h
  exact hk.below hB (fun j hj => (hW.lt hj).1)
end Go.Proofs.YtfochecpdfmfbaaGreatDoor.V

/- BlockWrites returns true, over what the program's functions answer. Conditions: as each theorem names them. -/
namespace Go.Proofs.YtfochecpdfmfbaaGreatDoor.V
open Go Go.RowKit M U
set_option linter.unusedVariables false
set_option linter.unusedSimpArgs false

set_option maxRecDepth 1000000 in
set_option maxHeartbeats 4000000 in
theorem writes_good {T : World → Prop} (C : Bkw T) (kd : Nat) (A : Option Addr) (n c : Nat) (L : List Tk) (raw : ByteArray) (ah : Nat) (last : Bool) (W : World) (H : T W) (hL : IsTks W A n L) (hn : n ≤ 600) (hr : raw.size ≤ 4096) (hah : ah ≤ 255) (hkd : kd ≤ 255) (hk : kd % 4 ≤ 2) (hm : kd % 4 ≠ 0 → ∀ t ∈ L, may t = true) :
    Calls Tryz.prog 3 #[.int .u8 kd, .slice A n c, .string raw, .int .u8 ah, .bool last] W fun e w' => e = .returned (.bool true) ∧ Below W.heap.size W w' := by
  have hlen := hL.leng
  obtain ⟨k, hke⟩ : ∃ k, kd % 4 = k := ⟨_, rfl⟩
  have k4 : (kd : Int) % 4 = (k : Int) := by omega
  rw [hke] at hk hm
  obtain ⟨q, hqe⟩ : ∃ q, ah % 20 = q := ⟨_, rfl⟩
  have q20 : (ah : Int) % 20 = (q : Int) := by omega
  have hq19 : q ≤ 19 := by omega
  have hbk : ∀ o, bkm k L raw last o = blk k L raw last o := fun o => bkm_blk (by omega)
  have hbf : ∀ o, bkm k L raw false o = blk k L raw false o := fun o => bkm_blk (by omega)
  have hfew := blk_few k L raw last q hr (by omega) hm
  have hfew2 := blk_few k L raw false (q % 8) hr (by omega) hm
  have hbit := blk_bit k L raw last q
  have hsame : (blk k L raw false (q % 8)).length = (blk k L raw last q).length := by
    unfold blk
    split
    · rw [stb_length, stb_length]
      have : pd (q % 8 + 3) = pd (q + 3) := by unfold pd; omega
      rw [this]
    · split
      · rw [List.length_append, List.length_append, hdb_length, hdb_length]
      · simp only [List.length_append, hdb_length]
  have hl3 : 3 ≤ (blk k L raw last q).length := by
    unfold blk
    split
    · rw [stb_length]; omega
    · split <;> (simp only [List.length_append, hdb_length]; omega)
  have HV := Lib.hid (heavy13_any A n c raw W (by unfold maxLen; omega) (by unfold maxLen; omega))
  rw [decide_eq_false (fun g => g.elim (fun g => by omega) (fun g => by omega))] at HV
  have HWk := Lib.hid (fun w (b : Below W.heap.size W w) => works13 C.toBks w (C.keep H b))
  have HNew := Lib.hid (new_any (B := W.heap.size) 65536 W (Nat.le_refl _))
  have HBits := Lib.hid (fun (w : World) (S : Nat → Prop) (h : Wt w W.heap.size W.heap.size S 65536 0 0) => (show Calls Tryz.prog 9 #[.pointer (some ⟨W.heap.size, 0, none⟩), .int .u64 0, .int .i64 q] w (Did w W.heap.size W.heap.size S 65536 (0, 0, q)) from by
    have h1 := Go.Proofs.YtfochecpdfmfbaaGreatDoor.bits_any h 0 q (by omega) (by omega)
    rw [show (0 : Int).toNat = 0 from rfl, bitsR_yes (by omega) (Nat.two_pow_pos _) (by omega)] at h1
    simpa using h1))
  obtain ⟨z, hz⟩ : ∃ z, (blk k L raw last q).length = z := ⟨_, rfl⟩
  rw [hz] at hfew hsame hl3
  have HSz := Lib.hid (fun w (b : Below W.heap.size W w) => (show Calls Tryz.prog 10 #[.int .u8 k, .slice A n c, .string raw, .int .i64 q] w (fun e w' => e = .returned (.tuple #[.int .i64 z, .int .i64 0]) ∧ Below w.heap.size w w') from by
    have h := C.size k A n c L raw q w (C.keep H b) (hL.below b) (by omega) (by omega) (by omega) hk hm
    rw [hbf, hsame] at h
    exact h))
  obtain ⟨VV, hVV⟩ : ∃ VV, nb (blk k L raw last q) * 2 ^ q = VV := ⟨_, rfl⟩
  obtain ⟨LL, hLL⟩ : ∃ LL, q + z = LL := ⟨_, rfl⟩
  have HWr := Lib.hid (fun (w : World) (S : Nat → Prop) (h : Wt w W.heap.size W.heap.size S 65536 0 q) (b : Below W.heap.size W w) => (show Calls Tryz.prog 11 #[.pointer (some ⟨W.heap.size, 0, none⟩), .int .u8 k, .slice A n c, .string raw, .bool last] w (Did w W.heap.size W.heap.size S 65536 (0, VV, LL)) from by
    have h := C.write W.heap.size W.heap.size S 65536 0 q k A n c L raw last w (fun w' b' => C.keep H (b.trans b')) h (fun w' b' => hL.below (b.trans b')) b.size (by omega) (by omega) (by omega) hk hm (by rw [hbk, hz]; omega)
    rw [hbk, hz, Nat.zero_add, hVV, hLL] at h
    exact h))
  have HMy := Lib.hid (fun w (b : Below W.heap.size W w) => may_ok k A n c L raw q w (hL.below b) (by omega) hk (by omega) (by by_cases e : k = 0; exact .inl e; exact .inr (hm e)) (by omega))
  have HRW := Lib.hid (fun (w w' : World) (P : Nat) (v : Value) (h : Bw w.heap.size w' P v (List.replicate q 0)) (b : Below W.heap.size W w) (b' : Below w.heap.size w w') => (show Calls Tryz.prog 14 #[.pointer (some ⟨P, 0, none⟩), .int .u8 k, .slice A n c, .string raw, .bool last] w' (fun e w2 => e = .returned (.tuple #[]) ∧ ∃ v', Bw w.heap.size w2 P v' (List.replicate q 0 ++ blk k L raw last q) ∧ Chg P v.ownBlock w' v'.ownBlock w2) from by
    have h1 := write_any h k hk A n c L raw last (fun _ => by omega) (fun w2 b2 => hL.below (b.trans ((b'.trans b2).mono b.size))) (by omega) hm (by simp; omega) b'.size
    rw [List.length_replicate] at h1
    exact h1))
  obtain ⟨bs, hbs⟩ : ∃ bs, List.replicate q 0 ++ blk k L raw last q = bs := ⟨_, rfl⟩
  have hbl : bs.length = LL := by rw [← hbs, List.length_append, List.length_replicate, hz, hLL]
  have hbn : nb bs = VV := by rw [← hbs, nb_zeros, hVV]
  have hbb : ∀ x ∈ bs, x ≤ 1 := by rw [← hbs]; exact app_bit (rep_bit _) hbit
  rw [hbs] at HRW
  obtain ⟨TX, hTX⟩ : ∃ TX, textR VV LL = TX := ⟨_, rfl⟩
  have HRT := Lib.hid (fun (B P : Nat) (v : Value) (w : World) (h : Bw B w P v bs) (hB : B ≤ w.heap.size) => (show Calls Tryz.prog 17 #[.pointer (some ⟨P, 0, none⟩)] w (fun e w' => e = .returned (.string TX) ∧ Below w.heap.size w w') from by
    have h1 := text_any h hbb (by omega) hB
    rw [text_eq, hbl, hbn] at h1
    unfold textR at hTX
    rw [hTX] at h1
    exact h1))
  have HT := Lib.hid (fun (w : World) (S : Nat → Prop) (h : Wt w W.heap.size W.heap.size S 65536 VV LL) => (show Calls Tryz.prog 16 #[.pointer (some ⟨W.heap.size, 0, none⟩)] w (fun e w' => e = .returned (.string TX) ∧ Kept NoB w w') from by
    have h1 := Go.Proofs.YtfochecpdfmfbaaGreatDoor.text_any h (by omega)
    rw [hTX] at h1
    exact h1))
  have HLn := Lib.hid (fun (w : World) (S : Nat → Prop) (h : Wt w W.heap.size W.heap.size S 65536 VV LL) => wlen_any h (by omega))
  have HS2 := Lib.hid (fun w (b : Below W.heap.size W w) => (show Calls Tryz.prog 15 #[.int .u8 k, .slice A n c, .string raw, .int .i64 q] w (fun e w' => e = .returned (.int .i64 z) ∧ Below w.heap.size w w') from by
    have h := size_any k hk A n c L raw q w (fun _ => by omega) (fun w' b' => hL.below (b.trans (b'.mono b.size))) (by omega) hm (by omega)
    rw [hsame] at h
    exact h))
  have hmk := fun w => made_any w q (by omega)
  have HBL := Lib.hid hbl
  have HZR := Lib.hid (fun w => Bw.zeros w q (by omega))
  clear hL hlen hke hqe hbk hbf hfew2 hbit hsame hz hVV hbs hbn hbb hTX C H hm hbl hLL
  go_enter Tryz.func3, Tryz.ntmps3
  go_upto_region 15 with (first
    | (go_at_call 6; (with_reducible refine HV.out.mono ?_); rintro e w0 ⟨rfl, rfl⟩)
    | (go_at_call 8; (with_reducible refine HNew.out.mono ?_); rintro e w1 ⟨rfl, k1, t1, s1⟩; have T1 := Lib.hid t1; have B1 := Lib.hid (k1.below (Nat.le_refl _) (fun j g => g.elim) : Below W.heap.size W w1); clear k1 t1 s1)
    | (go_at_call 9; (with_reducible refine (HBits.out _ _ T1.out).mono ?_); rintro e w2 hd; have b2 := Did.belowB hd T1.out B1.out.size; obtain ⟨rfl, S2, t2, _, _⟩ := hd; have T2 := Lib.hid t2; have B2 := Lib.hid (B1.out.trans b2); clear t2 b2)
    | (go_at_call 10; (with_reducible refine (HSz.out _ B2.out).mono ?_); rintro e w3 ⟨rfl, b3⟩; have T3 := Lib.hid (T2.out.keep (Kept.of_below b3) (fun _ _ g => g)); have B3 := Lib.hid (B2.out.trans (b3.mono B2.out.size)); clear b3)
    | (go_at_call 11; (with_reducible refine (HWr.out _ _ T3.out B3.out).mono ?_); rintro e w4 hd; have b4 := Did.belowB hd T3.out B3.out.size; obtain ⟨rfl, S4, t4, _, _⟩ := hd; have T4 := Lib.hid t4; have B4 := Lib.hid (B3.out.trans b4); clear t4 b4)
    | (go_at_call 12; (with_reducible refine (HMy.out _ B4.out).mono ?_); rintro e w5 ⟨rfl, b5⟩; have T5 := Lib.hid (T4.out.keep (Kept.of_below b5) (fun _ _ g => g)); have B5 := Lib.hid (B4.out.trans (b5.mono B4.out.size)); clear b5))
  have hb7 : Below w5.heap.size w5 ((w5.alloc (.cells (madeCells #[.int .u8 0] q) 5)).alloc (.cells #[.slice (some ⟨w5.heap.size, 0, none⟩) q q] 38)) := ((Below.refl _ _).alloc (Nat.le_refl _) _).alloc (by simp) _
  have HB7 := Lib.hid hb7
  have HRW1 := Lib.hid (HRW.out w5 _ _ _ (HZR.out w5) B5.out hb7)
  clear hb7
  go_upto_region 17 with (go_at_call 14; (with_reducible refine HRW1.out.mono ?_); rintro e w8 ⟨rfl, v1, h1, c1⟩; have b8 := HB7.out.trans ((HZR.out w5).base c1 (by simp; omega)); have T8 := Lib.hid (T5.out.keep (Kept.of_below b8) (fun _ _ g => g)); have B8 := Lib.hid (B5.out.trans (b8.mono B5.out.size)); obtain ⟨A1, c2, hv⟩ := Owb.form h1.ow; rw [HBL.out] at hv; have k0 := h1.at0; rw [hv] at k0; have H8 := Lib.hid h1; have HZ8 := Lib.hid b8.size; clear b8 h1 c1)
  have HR8 := Lib.hid (Below.refl w8.heap.size w8)
  have e1 : (((z : Int)) == (z : Int)) = true := by rw [beq_iff_eq]
  have e2 : (((LL : Int)) == (LL : Int)) = true := by rw [beq_iff_eq]
  clear HV HNew HBits HSz HWr HMy HRW HZR HRW1 HB7
  go_region_held3 (fun w' => w'.cell? ⟨w5.heap.size + 1, 0, none⟩ = some (.slice A1 LL c2)) (first | exact l5 | exact l4 | exact l3 | exact l2 | exact l1 | exact k0) (first
    | (go_at_call 15; (with_reducible refine (HS2.out _ (by first | exact B8.out | exact B8.out.drew)).mono ?_); rintro e w9 ⟨rfl, b9⟩; have l1 := (b9.cell (p := ⟨w5.heap.size + 1, 0, none⟩) (World.block_lt_of_cell? _ _ k0)).trans k0; have D9 := Lib.hid ((by first | exact HR8.out.trans b9 | exact HR8.out.drew.trans b9 : Below w8.heap.size w8 w9)); have T9 := Lib.hid (T8.out.keep (Kept.of_below D9.out) (fun _ _ g => g)); clear b9)
    | (go_at_call 13; (with_reducible refine (HLn.out _ _ T9.out).mono ?_); rintro e w10 ⟨rfl, k10⟩; have b10 := k10.below (Nat.le_refl _) (fun j g => g.elim); have l2 := (b10.cell (p := ⟨w5.heap.size + 1, 0, none⟩) (World.block_lt_of_cell? _ _ l1)).trans l1; have D10 := Lib.hid (D9.out.trans (b10.mono D9.out.size)); have T10 := Lib.hid (T9.out.keep (Kept.of_below b10) (fun _ _ g => g)); clear b10 k10)
    | (go_at_call 16; (with_reducible refine (HT.out _ _ T10.out).mono ?_); rintro e w11 ⟨rfl, k11⟩; have b11 := k11.below (Nat.le_refl _) (fun j g => g.elim); have l3 := (b11.cell (p := ⟨w5.heap.size + 1, 0, none⟩) (World.block_lt_of_cell? _ _ l2)).trans l2; have D11 := Lib.hid (D10.out.trans (b11.mono D10.out.size)); clear b11 k11)
    | (go_at_call 17; (with_reducible refine (HRT.out _ _ _ _ (H8.out.below D11.out) (Nat.le_trans HZ8.out D11.out.size)).mono ?_); rintro e w12 ⟨rfl, b12⟩; have l4 := (b12.cell (p := ⟨w5.heap.size + 1, 0, none⟩) (World.block_lt_of_cell? _ _ l3)).trans l3; have D12 := Lib.hid (D11.out.trans (b12.mono D11.out.size)); clear b12)
    | (go_at_call 7; (with_reducible refine (HWk.out _ (B8.out.trans (D12.out.mono B8.out.size))).mono ?_); rintro e w13 ⟨rfl, b13⟩; have l5 := (b13.cell (p := ⟨w5.heap.size + 1, 0, none⟩) (World.block_lt_of_cell? _ _ l4)).trans l4; have D13 := Lib.hid ((B8.out.trans (D12.out.mono B8.out.size)).trans (b13.mono (Nat.le_trans B8.out.size D12.out.size))); clear b13))
  go_wp2_with fail
  go_ret
  exact ⟨rfl, D13.out⟩

theorem may_some {k : Nat} {A : Option Addr} {n c : Nat} {L : List Tk} {s : ByteArray} {p : Int} {w : World} (h : IsTks w A n L) (hn : n ≤ 100000) (hk : k ≤ 255) (hp : 0 ≤ p) (hb : 2 < k ∨ (k ≠ 0 ∧ ∃ i, i < n ∧ may (L.getD i default) = false)) :
    Calls Tryz.prog 12 #[.int .u8 k, .slice A n c, .string s, .int .i64 p] w fun e w' => e = .returned (.int .i64 2) ∧ Below w.heap.size w w' := by
  by_cases h2 : 2 < k
  · exact (may_kind k A n c s p w h2 hp).mono fun e w' g => ⟨g.1, by rw [← g.2]; exact Below.refl _ _⟩
  · rcases hb with g | g
    · exact absurd g h2
    · exact may_bad k A n c L s p w h hn ⟨by omega, by omega⟩ hp g.2
set_option maxRecDepth 1000000 in
set_option maxHeartbeats 4000000 in
theorem writes_bad {T : World → Prop} (C : Bkw T) (kd : Nat) (A : Option Addr) (n c : Nat) (L : List Tk) (raw : ByteArray) (ah : Nat) (last : Bool) (W : World) (H : T W) (hL : IsTks W A n L) (hn : n ≤ 600) (hr : raw.size ≤ 4096) (hah : ah ≤ 255) (hkd : kd ≤ 255) (hb : 2 < kd % 4 ∨ (kd % 4 ≠ 0 ∧ ∃ i, i < n ∧ may (L.getD i default) = false)) :
    Calls Tryz.prog 3 #[.int .u8 kd, .slice A n c, .string raw, .int .u8 ah, .bool last] W fun e w' => e = .returned (.bool true) ∧ Below W.heap.size W w' := by
  obtain ⟨k, hke⟩ : ∃ k, kd % 4 = k := ⟨_, rfl⟩
  have k4 : (kd : Int) % 4 = (k : Int) := by omega
  have hk3 : k ≤ 3 := by omega
  rw [hke] at hb
  obtain ⟨q, hqe⟩ : ∃ q, ah % 20 = q := ⟨_, rfl⟩
  have q20 : (ah : Int) % 20 = (q : Int) := by omega
  have hq19 : q ≤ 19 := by omega
  have HV := Lib.hid (heavy13_any A n c raw W (by unfold maxLen; omega) (by unfold maxLen; omega))
  rw [decide_eq_false (fun g => g.elim (fun g => by omega) (fun g => by omega))] at HV
  have HWk := Lib.hid (fun w (b : Below W.heap.size W w) => works13 C.toBks w (C.keep H b))
  have HNew := Lib.hid (new_any (B := W.heap.size) 65536 W (Nat.le_refl _))
  have HBits := Lib.hid (fun (w : World) (S : Nat → Prop) (h : Wt w W.heap.size W.heap.size S 65536 0 0) => (show Calls Tryz.prog 9 #[.pointer (some ⟨W.heap.size, 0, none⟩), .int .u64 0, .int .i64 q] w (Did w W.heap.size W.heap.size S 65536 (0, 0, q)) from by
    have h1 := Go.Proofs.YtfochecpdfmfbaaGreatDoor.bits_any h 0 q (by omega) (by omega)
    rw [show (0 : Int).toNat = 0 from rfl, bitsR_yes (by omega) (Nat.two_pow_pos _) (by omega)] at h1
    simpa using h1))
  have HSz := Lib.hid (fun w (b : Below W.heap.size W w) => C.sizeNo k A n c L raw q w (C.keep H b) (hL.below b) (by omega) (by omega) (by omega) (by omega) hb)
  have HWr := Lib.hid (fun (w : World) (S : Nat → Prop) (h : Wt w W.heap.size W.heap.size S 65536 0 q) (b : Below W.heap.size W w) => C.writeNo W.heap.size W.heap.size S 65536 0 q k A n c L raw last w (fun w' b' => C.keep H (b.trans b')) h (fun w' b' => hL.below (b.trans b')) b.size (by omega) (by omega) (by omega) (by omega) hb (by omega))
  have HMy := Lib.hid (fun w (b : Below W.heap.size W w) => (may_some (c := c) (s := raw) (p := q) (hL.below b) (by omega) (by omega) (by omega) hb))
  have HLn := Lib.hid (fun (w : World) (S : Nat → Prop) (h : Wt w W.heap.size W.heap.size S 65536 0 q) => wlen_any h (by omega))
  clear hL hke hqe hb C H
  go_enter Tryz.func3, Tryz.ntmps3
  go_wp2_with (first
    | (go_at_call 6; (with_reducible refine HV.out.mono ?_); rintro e w0 ⟨rfl, rfl⟩)
    | (go_at_call 8; (with_reducible refine HNew.out.mono ?_); rintro e w1 ⟨rfl, k1, t1, s1⟩; have T1 := Lib.hid t1; have B1 := Lib.hid (k1.below (Nat.le_refl _) (fun j g => g.elim) : Below W.heap.size W w1); clear k1 t1 s1)
    | (go_at_call 9; (with_reducible refine (HBits.out _ _ T1.out).mono ?_); rintro e w2 hd; have b2 := Did.belowB hd T1.out B1.out.size; obtain ⟨rfl, S2, t2, _, _⟩ := hd; have T2 := Lib.hid t2; have B2 := Lib.hid (B1.out.trans b2); clear t2 b2)
    | (go_at_call 10; (with_reducible refine (HSz.out _ B2.out).mono ?_); rintro e w3 ⟨rfl, b3⟩; have T3 := Lib.hid (T2.out.keep (Kept.of_below b3) (fun _ _ g => g)); have B3 := Lib.hid (B2.out.trans (b3.mono B2.out.size)); clear b3)
    | (go_at_call 11; (with_reducible refine (HWr.out _ _ T3.out B3.out).mono ?_); rintro e w4 hd; have b4 := Did.belowB hd T3.out B3.out.size; obtain ⟨rfl, S4, t4, _, _⟩ := hd; have T4 := Lib.hid t4; have B4 := Lib.hid (B3.out.trans b4); clear t4 b4)
    | (go_at_call 12; (with_reducible refine (HMy.out _ B4.out).mono ?_); rintro e w5 ⟨rfl, b5⟩; have T5 := Lib.hid (T4.out.keep (Kept.of_below b5) (fun _ _ g => g)); have B5 := Lib.hid (B4.out.trans (b5.mono B4.out.size)); clear b5)
    | (go_at_call 13; (with_reducible refine (HLn.out _ _ T5.out).mono ?_); rintro e w6 ⟨rfl, k6⟩; have B6 := Lib.hid (B5.out.trans ((k6.below (Nat.le_refl _) (fun j g => g.elim) : Below w5.heap.size w5 w6).mono B5.out.size)); clear k6)
    | (go_at_call 7; (with_reducible refine (HWk.out _ B6.out).mono ?_); rintro e w7 ⟨rfl, b7⟩; have B7 := Lib.hid (B6.out.trans (b7.mono B6.out.size)); clear b7))
  go_ret
  exact ⟨rfl, B7.out⟩
set_option maxRecDepth 1000000 in
theorem writes_heavy {T : World → Prop} (C : Bkw T) (kd : Nat) (A : Option Addr) (n c : Nat) (raw : ByteArray) (ah : Nat) (last : Bool) (W : World) (H : T W) (hn : n ≤ maxLen) (hr : raw.size ≤ maxLen) (hv : 600 < n ∨ 4096 < raw.size) :
    Calls Tryz.prog 3 #[.int .u8 kd, .slice A n c, .string raw, .int .u8 ah, .bool last] W fun e w' => e = .returned (.bool true) ∧ Below W.heap.size W w' := by
  have HV := Lib.hid (heavy13_any A n c raw W hn hr)
  rw [decide_eq_true hv] at HV
  have HWk := Lib.hid (works13 C.toBks W H)
  clear C H hv
  go_enter Tryz.func3, Tryz.ntmps3
  go_wp2_with (first
    | (go_at_call 6; (with_reducible refine HV.out.mono ?_); rintro e w0 ⟨rfl, rfl⟩)
    | (go_at_call 7; (with_reducible refine HWk.out.mono ?_); rintro e w7 ⟨rfl, b7⟩; have B7 := Lib.hid b7; clear b7))
  go_ret
  exact ⟨rfl, B7.out⟩
/-- the law -/
theorem writes_law {T : World → Prop} (C : Bkw T) (kd : Nat) (A : Option Addr) (n c : Nat) (L : List Tk) (raw : ByteArray) (ah : Nat) (last : Bool) (W : World) (H : T W) (hL : IsTks W A n L) (hr : raw.size ≤ maxLen) (hah : ah ≤ 255) (hkd : kd ≤ 255) :
    Calls Tryz.prog 3 #[.int .u8 kd, .slice A n c, .string raw, .int .u8 ah, .bool last] W fun e w' => e = .returned (.bool true) ∧ Below W.heap.size W w' := by
  by_cases hv : 600 < n ∨ 4096 < raw.size
  · exact writes_heavy C kd A n c raw ah last W H hL.most hr hv
  · have h1 : n ≤ 600 := by omega
    have h2 : raw.size ≤ 4096 := by omega
    by_cases hb : 2 < kd % 4 ∨ (kd % 4 ≠ 0 ∧ ∃ i, i < n ∧ may (L.getD i default) = false)
    · exact writes_bad C kd A n c L raw ah last W H hL h1 h2 hah hkd hb
    · refine writes_good C kd A n c L raw ah last W H hL h1 h2 hah hkd (by omega) (fun h0 t ht => ?_)
      cases hm : may t with
      | true => rfl
      | false =>
        obtain ⟨i, hi, he⟩ := List.mem_iff_getElem.1 ht
        refine absurd (.inr ⟨h0, i, by rw [← hL.leng]; exact hi, ?_⟩) hb
        rw [List.getD, List.getElem?_eq_getElem hi, Option.getD_some, he]
        exact hm
end Go.Proofs.YtfochecpdfmfbaaGreatDoor.V

/- BlockWhere returns true, over what the program's functions answer. Conditions: as each theorem names them. -/
namespace Go.Proofs.YtfochecpdfmfbaaGreatDoor.V
open Go Go.RowKit M U
set_option linter.unusedVariables false
set_option linter.unusedSimpArgs false

theorem made0 (A : Option Addr) (n c : Nat) (R : List Ra) (w : World) (h : IsRas w A n R) (hn : n ≤ 500) : Calls Tryz.prog 18 #[.string ⟨#[]⟩, .slice A n c] w fun e w' => ∃ A' c', e = .returned (.slice A' n c') ∧ IsTks w' A' n (mdk R 0) ∧ Below w.heap.size w w' :=
  (made_tks ⟨#[]⟩ A n c R w h hn (by decide)).mono fun e w' g => by
    obtain ⟨v, rfl, o, b⟩ := g
    have hl : (mdk R (ByteArray.size ⟨#[]⟩ : Nat)).length = n := by rw [mdk_length, h.leng]
    unfold Owt at o
    rw [hl] at o
    obtain ⟨A', c', rfl, t⟩ := IsTks.of_own o (fun x hx => (mdk_may R _ h.good (by omega) x hx).2) (by unfold maxLen; omega)
    exact ⟨A', c', rfl, t, b⟩
theorem mdk0_may {w : World} {A : Option Addr} {n : Nat} {R : List Ra} (h : IsRas w A n R) : ∀ t ∈ mdk R 0, may t = true := fun t ht => (mdk_may R 0 h.good (by omega) t ht).1

end Go.Proofs.YtfochecpdfmfbaaGreatDoor.V

/- BlockCodes returns true, over what the program's functions answer. Conditions: as each theorem names them. -/
namespace Go.Proofs.YtfochecpdfmfbaaGreatDoor.V
open Go Go.RowKit M U
set_option linter.unusedVariables false
set_option linter.unusedSimpArgs false

end Go.Proofs.YtfochecpdfmfbaaGreatDoor.V

/- BlockRoom returns true, over what the program's functions answer. Conditions: as each theorem names them. -/
namespace Go.Proofs.YtfochecpdfmfbaaGreatDoor.V
open Go Go.RowKit M U
set_option linter.unusedVariables false
set_option linter.unusedSimpArgs false

/-- whether it is the last one makes no block longer -/
theorem blk_last (k : Nat) (L : List Tk) (raw : ByteArray) (a b : Bool) (o : Nat) : (blk k L raw a o).length = (blk k L raw b o).length := by
  unfold blk
  split
  · rw [stb_length, stb_length]
  · split <;> simp only [List.length_append, hdb_length]
theorem blk_some (k : Nat) (L : List Tk) (raw : ByteArray) (a : Bool) (o : Nat) : 3 ≤ (blk k L raw a o).length := by
  unfold blk
  split
  · rw [stb_length]; omega
  · split <;> (simp only [List.length_append, hdb_length]; omega)
abbrev tenb : ByteArray := ⟨#[115, 111, 109, 101, 32, 98, 121, 116, 101, 115]⟩
set_option maxRecDepth 1000000 in
set_option maxHeartbeats 4000000 in
theorem room_good {T : World → Prop} (C : Bkw T) (A : Option Addr) (n c : Nat) (R : List Ra) (kd ls : Nat) (W : World) (H : T W) (hR : IsRas W A n R) (hn : n ≤ 300) (hkd : kd ≤ 255) (hls : ls ≤ 255) :
    Calls Tryz.prog 5 #[.slice A n c, .int .u8 kd, .int .u8 ls] W fun e w' => e = .returned (.bool true) ∧ Below W.heap.size W w' := by
  have HM := Lib.hid (made0 A n c R W hR (by omega))
  have hmay := mdk0_may hR
  have hlen : (mdk R 0).length = n := by rw [mdk_length, hR.leng]
  obtain ⟨L, hL⟩ : ∃ L, mdk R 0 = L := ⟨_, rfl⟩
  rw [hL] at HM hmay hlen
  obtain ⟨k, hke⟩ : ∃ k, kd % 3 = k := ⟨_, rfl⟩
  have k3 : (kd : Int) % 3 = (k : Int) := by omega
  have hk : k ≤ 2 := by omega
  obtain ⟨u, hue⟩ : ∃ u, ls % 4 = u := ⟨_, rfl⟩
  have u4 : (ls : Int) % 4 = (u : Int) := by omega
  have hu3 : u ≤ 3 := by omega
  have HWk := Lib.hid (fun w (b : Below W.heap.size W w) => works13 C.toBks w (C.keep H b))
  obtain ⟨z, hz⟩ : ∃ z, (bkm k L tenb false (0 % 8)).length = z := ⟨_, rfl⟩
  have hz3 : 3 ≤ z := by rw [← hz, bkm_blk (by decide)]; exact blk_some _ _ _ _ _
  have hzl : z ≤ 50000 := by rw [← hz, bkm_blk (by decide)]; exact blk_few k L tenb false _ (by decide) (by omega) (fun _ => hmay)
  have hzt : (bkm k L tenb true 0).length = z := by rw [← hz, bkm_blk (by decide), bkm_blk (by decide)]; exact blk_last _ _ _ _ _ _
  have S1 := Lib.hid (fun (A' : Option Addr) (c' : Nat) w (b : Below W.heap.size W w) (ht : IsTks w A' n L) => (show Calls Tryz.prog 10 #[.int .u8 k, .slice A' n c', .string tenb, .int .i64 0] w (fun e w' => e = .returned (.tuple #[.int .i64 z, .int .i64 0]) ∧ Below w.heap.size w w') from by
    have h := C.size k A' n c' L tenb 0 w (C.keep H b) ht (by omega) (by decide) (by omega) hk (fun _ => hmay)
    rw [hz] at h
    exact h))
  obtain ⟨rm, hrm⟩ : ∃ rm, (z + 7) / 8 = rm := ⟨_, rfl⟩
  have e1 : ((z : Int) + 7) / 8 = (rm : Int) := by omega
  have hr1 : 1 ≤ rm := by omega
  have hrl : rm ≤ 10000 := by omega
  obtain ⟨mx, hmx⟩ : ∃ mx, rm - 1 - u = mx := ⟨_, rfl⟩
  have e2 : (if (rm : Int) - 1 - (u : Int) < 0 then (0 : Int) else (rm : Int) - 1 - (u : Int)) = (mx : Int) := by split <;> omega
  have e2m : max ((rm : Int) - 1 - (u : Int)) 0 = (mx : Int) := by omega
  have hmr : mx < rm := by omega
  have W1 := Lib.hid (fun (B p : Nat) (S : Nat → Prop) (A' : Option Addr) (c' : Nat) (w : World) (hB : B ≤ w.heap.size) (hT : Wt w B p S rm 0 0) (ht : ∀ w', Below B w w' → IsTks w' A' n L) (b : ∀ w', Below B w w' → Below W.heap.size W w') => (show Calls Tryz.prog 11 #[.pointer (some ⟨p, 0, none⟩), .int .u8 k, .slice A' n c', .string tenb, .bool true] w (fun e w' => ∃ VV, Did w B p S rm (0, VV, z) e w') from by
    have h := C.write B p S rm 0 0 k A' n c' L tenb true w (fun w' b' => C.keep H (b w' b')) hT ht hB (by omega) (by omega) (by decide) hk (fun _ => hmay) (by rw [hzt, Nat.zero_add, hrm]; exact Int.le_refl _)
    rw [hzt, Nat.zero_add, Nat.zero_add] at h
    exact h.mono fun e w' g => ⟨_, g⟩))
  have W2 := Lib.hid (fun (B p : Nat) (S : Nat → Prop) (A' : Option Addr) (c' : Nat) (w : World) (hB : B ≤ w.heap.size) (hT : Wt w B p S mx 0 0) (ht : ∀ w', Below B w w' → IsTks w' A' n L) (b : ∀ w', Below B w w' → Below W.heap.size W w') => C.writeFull B p S mx 0 0 k A' n c' L tenb true w (fun w' b' => C.keep H (b w' b')) hT ht hB (by omega) (by omega) (by decide) hk (fun _ => hmay) (by rw [hzt, Nat.zero_add, hrm]; omega))
  have W3 := Lib.hid (fun (A' : Option Addr) (c' : Nat) (w : World) (b : Below W.heap.size W w) (ht : IsTks w A' n L) => C.writeNil k A' n c' L ⟨#[]⟩ true w (C.keep H b) ht (by omega) (by decide) (by omega))
  have HN1 := Lib.hid (fun (w : World) => (show Calls Tryz.prog 8 #[.int .i64 rm] w (fun e w' => e = .returned (.pointer (some ⟨w.heap.size, 0, none⟩)) ∧ Kept NoB w w' ∧ Wt w' w.heap.size w.heap.size (fun j => j = w.heap.size) rm 0 0 ∧ w.heap.size < w'.heap.size) from by
    have h := new_any (B := w.heap.size) (rm : Int) w (Nat.le_refl _)
    rw [show max 0 (rm : Int) = rm by omega] at h
    exact h))
  have HN2 := Lib.hid (fun (B : Nat) (w : World) (hB : B ≤ w.heap.size) => (show Calls Tryz.prog 8 #[.int .i64 mx] w (fun e w' => e = .returned (.pointer (some ⟨w.heap.size, 0, none⟩)) ∧ Kept NoB w w' ∧ Wt w' B w.heap.size (fun j => j = w.heap.size) mx 0 0 ∧ w.heap.size < w'.heap.size) from by
    have h := new_any (B := B) (mx : Int) w hB
    rw [show max 0 (mx : Int) = mx by omega] at h
    exact h))
  have HLn := Lib.hid (fun (w : World) (B p : Nat) (S : Nat → Prop) (VV : Nat) (h : Wt w B p S rm VV z) => wlen_any h (by omega))
  have dn : decide ((300 : Int) < (n : Int)) = false := decide_eq_false (by omega)
  have dn' : decide (300 < n) = false := decide_eq_false (by omega)
  have d1 : decide ((z : Int) < 1) = false := decide_eq_false (by omega)
  have d1' : decide (z < 1) = false := decide_eq_false (by omega)
  clear hL hmay hlen hR C H hke hue hz hzt hrm hmx
  go_enter Tryz.func5, Tryz.ntmps5
  go_upto_region 13 with (first
    | (go_at_call 18; (with_reducible refine HM.out.mono ?_); rintro e w1 ⟨A', c', rfl, t1, b1⟩; have T1 := Lib.hid t1; have B1 := Lib.hid b1; clear t1 b1)
    | (go_at_call 10; (with_reducible refine (S1.out _ _ _ B1.out T1.out).mono ?_); rintro e w2 ⟨rfl, b2⟩; have T2 := Lib.hid (T1.out.below b2); have B2 := Lib.hid (B1.out.trans (b2.mono B1.out.size)); clear b2)
    | (go_at_call 8; (with_reducible refine (HN1.out _).mono ?_); rintro e w3 ⟨rfl, k3', t3, s3⟩; have P3 := Lib.hid t3; have b3 := k3'.below (Nat.le_refl _) (fun j g => g.elim); have D3 := Lib.hid b3; have Z3 := Lib.hid s3; clear k3' t3 b3 s3)
    | (go_at_call 8; (with_reducible refine (HN2.out w2.heap.size _ D3.out.size).mono ?_); rintro e w4 ⟨rfl, k4, t4, s4⟩; have Q4 := Lib.hid t4; have b4 := k4.below (Nat.le_refl _) (fun j g => g.elim); have P4 := Lib.hid (P3.out.keep k4 (fun _ _ g => g)); have D4 := Lib.hid (D3.out.trans (b4.mono D3.out.size)); clear k4 t4 b4 s4))
  have hTk := Lib.hid (fun (w5 : World) (b : Below w2.heap.size w4 w5) => T2.out.below (D4.out.trans b))
  have hBl := Lib.hid (fun (w5 : World) (b : Below w2.heap.size w4 w5) => B2.out.trans ((D4.out.trans b).mono B2.out.size))
  have hlt34 := Z3.out
  clear HM S1 HN1 HN2
  go_wp2_with (first
    | (go_at_call 11; (with_reducible refine (W1.out _ _ _ _ _ _ D4.out.size P4.out hTk.out hBl.out).mono ?_); rintro e w5 ⟨VV, hd⟩; have b5 := Did.belowB hd P4.out D4.out.size; obtain ⟨rfl, S5, t5, k5, _⟩ := hd; have P5 := Lib.hid t5; have Q5 := Lib.hid (Q4.out.keep k5 (fun j g g' => by have e1 : j = w3.heap.size := g; have e2 : j = w2.heap.size := g'; omega)); have D5 := Lib.hid b5; clear t5 k5 b5)
    | (go_at_call 13; (with_reducible refine (HLn.out _ _ _ _ _ P5.out).mono ?_); rintro e w6 ⟨rfl, k6⟩; have Q6 := Lib.hid (Q5.out.keep k6 (fun _ _ g => g)); have D6 := Lib.hid (D5.out.trans ((k6.below (Nat.le_refl _) (fun j g => g.elim) : Below w5.heap.size w5 w6).mono (Nat.le_trans D4.out.size D5.out.size))); clear k6)
    | (go_at_call 11; (with_reducible refine (W2.out w2.heap.size _ _ _ _ _ (Nat.le_trans D4.out.size D6.out.size) Q6.out (fun w' b => hTk.out w' (D6.out.trans b)) (fun w' b => hBl.out w' (D6.out.trans b))).mono ?_); rintro e w7 ⟨rfl, b7⟩; have D7 := Lib.hid (D6.out.trans b7); clear b7)
    | (go_at_call 11; (with_reducible refine (W3.out _ _ _ (hBl.out _ D7.out) (hTk.out _ D7.out)).mono ?_); rintro e w8 ⟨rfl, b8⟩; have B8 := Lib.hid ((hBl.out _ D7.out).trans (b8.mono (hBl.out _ D7.out).size)); clear b8)
    | (go_at_call 7; (with_reducible refine (HWk.out _ B8.out).mono ?_); rintro e w9 ⟨rfl, b9⟩; have B9 := Lib.hid (B8.out.trans (b9.mono B8.out.size)); clear b9))
  go_ret
  exact ⟨rfl, B9.out⟩

set_option maxRecDepth 1000000 in
theorem room_heavy {T : World → Prop} (C : Bkw T) (A : Option Addr) (n c : Nat) (kd ls : Nat) (W : World) (H : T W) (hn : n ≤ maxLen) (hv : 300 < n) :
    Calls Tryz.prog 5 #[.slice A n c, .int .u8 kd, .int .u8 ls] W fun e w' => e = .returned (.bool true) ∧ Below W.heap.size W w' := by
  unfold maxLen at hn
  have HWk := Lib.hid (works13 C.toBks W H)
  have dn : decide ((300 : Int) < (n : Int)) = true := decide_eq_true (by omega)
  have dn' : decide (300 < n) = true := decide_eq_true hv
  clear C H hv
  go_enter Tryz.func5, Tryz.ntmps5
  go_wp2_with (go_at_call 7; (with_reducible refine HWk.out.mono ?_); rintro e w7 ⟨rfl, b7⟩; have B7 := Lib.hid b7; clear b7)
  go_ret
  exact ⟨rfl, B7.out⟩
/-- the law -/
theorem room_law {T : World → Prop} (C : Bkw T) (A : Option Addr) (n c : Nat) (R : List Ra) (kd ls : Nat) (W : World) (H : T W) (hR : IsRas W A n R) (hkd : kd ≤ 255) (hls : ls ≤ 255) :
    Calls Tryz.prog 5 #[.slice A n c, .int .u8 kd, .int .u8 ls] W fun e w' => e = .returned (.bool true) ∧ Below W.heap.size W w' := by
  by_cases hv : 300 < n
  · exact room_heavy C A n c kd ls W H hR.most hv
  · exact room_good C A n c R kd ls W H hR (by omega) hkd hls
end Go.Proofs.YtfochecpdfmfbaaGreatDoor.V

/- The text of stored blocks, byte by byte (layer 13): mathematics. Conditions: as each theorem names them. -/
namespace Go.Proofs.YtfochecpdfmfbaaGreatDoor.V
open Go Go.RowKit M U
set_option linter.unusedVariables false
set_option linter.unusedSimpArgs false

theorem byn_sh (X Y : List Nat) (m i : Nat) (hX : X.length = 8 * m) (hb : ∀ x ∈ X, x ≤ 1) : byn (nb (X ++ Y)) (m + i) = byn (nb Y) i := by
  have h1 := nb_lt X hb
  rw [hX, ← p8] at h1
  unfold byn
  rw [nb_append, hX, ← p8, Nat.pow_add, ← Nat.div_div_eq_div_mul, Nat.mul_comm (nb Y), Nat.add_mul_div_left _ _ (Nat.pow_pos (by decide)), Nat.div_eq_of_lt h1, Nat.zero_add]
theorem byn_front (b : Nat) (Y : List Nat) : byn (nb (put b 8 ++ Y)) 0 = b % 256 := by
  unfold byn
  rw [nb_append, nb_put, put_length]
  simp only [Nat.pow_zero, Nat.div_one]
  rw [show (2 : Nat) ^ 8 = 256 from rfl, Nat.add_mul_mod_self_right, Nat.mod_mod]
theorem byn_two (x : Nat) (Y : List Nat) (hx : x < 65536) : byn (nb (put x 16 ++ Y)) 0 + 256 * byn (nb (put x 16 ++ Y)) 1 = x := by
  unfold byn
  rw [nb_append, nb_put, put_length, show (2 : Nat) ^ 16 = 65536 from rfl, Nat.mod_eq_of_lt hx]
  simp only [Nat.pow_zero, Nat.div_one, Nat.pow_one]
  omega
theorem byb_bit (s : ByteArray) (k : Nat) : ∀ x ∈ byb s k, x ≤ 1 := flat_bit fun _ _ => put_bit _ _
theorem byb_more (s : ByteArray) (i : Nat) : ∀ d, ∃ X, byb s (i + 1 + d) = byb s i ++ (put (bty s i) 8 ++ X)
  | 0 => ⟨[], by rw [Nat.add_zero, byb_succ, List.append_nil]⟩
  | d + 1 => by
    obtain ⟨X, hX⟩ := byb_more s i d
    exact ⟨X ++ put (bty s (i + 1 + d)) 8, by rw [show i + 1 + (d + 1) = i + 1 + d + 1 by omega, byb_succ, hX]; simp only [List.append_assoc]⟩
theorem byb_at (s : ByteArray) {k i : Nat} (hi : i < k) (Y : List Nat) : byn (nb (byb s k ++ Y)) i = bty s i := by
  obtain ⟨X, hX⟩ := byb_more s i (k - (i + 1))
  rw [show i + 1 + (k - (i + 1)) = k by omega] at hX
  rw [hX, List.append_assoc, List.append_assoc]
  have h := byn_sh (byb s i) (put (bty s i) 8 ++ (X ++ Y)) i 0 (by rw [byb_length]; omega) (byb_bit s i)
  rw [Nat.add_zero] at h
  rw [h, byn_front]
  have := bty_lt s i
  omega
/-- from byte a on stand how many, that turned about, and k bytes -/
structure Hd (t : Nat → Nat) (a : Nat) (s : ByteArray) (k : Nat) : Prop where
  lo : t a + 256 * t (a + 1) = k
  hi : t (a + 2) + 256 * t (a + 3) = 65535 - k
  at' : ∀ i, i < k → t (a + 4 + i) = bty s i
theorem hd_of (P Y : List Nat) (a k : Nat) (s : ByteArray) (hP : P.length = 8 * a) (hb : ∀ x ∈ P, x ≤ 1) (hk : k ≤ 65535) : Hd (byn (nb (P ++ (put k 16 ++ (put (65535 - k) 16 ++ (byb s k ++ Y)))))) a s k := by
  have e0 := fun i => byn_sh P (put k 16 ++ (put (65535 - k) 16 ++ (byb s k ++ Y))) a i hP hb
  have e1 := fun i => byn_sh (put k 16) (put (65535 - k) 16 ++ (byb s k ++ Y)) 2 i (by rw [put_length]) (put_bit _ _)
  have e2 := fun i => byn_sh (put (65535 - k) 16) (byb s k ++ Y) 2 i (by rw [put_length]) (put_bit _ _)
  refine ⟨?_, ?_, fun i hi => ?_⟩
  · have h0 := e0 0
    rw [Nat.add_zero] at h0
    rw [h0, e0 1]
    exact byn_two k _ (by omega)
  · have h2 := e1 0
    have h3 := e1 1
    rw [Nat.add_zero] at h2
    rw [e0 2, e0 3, h2, show (3 : Nat) = 2 + 1 from rfl, h3]
    exact byn_two _ _ (by omega)
  · rw [show a + 4 + i = a + (2 + (2 + i)) by omega, e0, e1, e2]
    exact byb_at s hi Y
/-- stored blocks from byte a on, up to byte e -/
def Str (t : Nat → Nat) : Nat → Nat → ByteArray → Nat → Prop
  | 0, _, _, _ => False
  | f + 1, a, s, e => Hd t a s (min s.size 65535) ∧ if s.size ≤ 65535 then e = a + 4 + s.size else Str t f (a + 65540) (s.extract 65535 s.size) e
theorem bty_cut (s : ByteArray) (k i : Nat) (hi : i < k) (hk : k ≤ s.size) : bty (s.extract 0 k) i = bty s i := by
  have h1 : i < (s.extract 0 k).size := by rw [ByteArray.size_extract]; omega
  rw [← bty_eq h1, ← bty_eq (by omega), ByteArray.getElem_extract]
  simp only [Nat.zero_add]
theorem byb_cut (s : ByteArray) (k : Nat) (hk : k ≤ s.size) : ∀ j, j ≤ k → byb (s.extract 0 k) j = byb s j
  | 0, _ => rfl
  | j + 1, h => by rw [byb_succ, byb_succ, byb_cut s k hk j (by omega), bty_cut s k j (by omega) hk]
theorem str_of : ∀ (f : Nat) (s : ByteArray) (P : List Nat) (last : Bool), (∀ x ∈ P, x ≤ 1) → s.size ≤ 65535 * (f + 1) →
    Str (byn (nb (P ++ stm P.length s last))) (f + 1) ((P.length + 10) / 8) s ((P ++ stm P.length s last).length / 8) ∧ (P ++ stm P.length s last).length % 8 = 0
  | f, s, P, last, hb, hs => by
    have hpd : (P.length + 3 + pd (P.length + 3)) = 8 * ((P.length + 10) / 8) := by unfold pd; omega
    have hbit : ∀ l, ∀ x ∈ P ++ (hdb 0 l ++ List.replicate (pd (P.length + 3)) 0), x ≤ 1 := fun l => app_bit hb (app_bit (hdb_bit _ _) (rep_bit _))
    have hlen : ∀ l, (P ++ (hdb 0 l ++ List.replicate (pd (P.length + 3)) 0)).length = 8 * ((P.length + 10) / 8) := fun l => by
      simp only [List.length_append, hdb_length, List.length_replicate]
      omega
    by_cases h : s.size ≤ 65535
    · rw [stm_one h]
      refine ⟨⟨?_, ?_⟩, ?_⟩
      · rw [Nat.min_eq_left h]
        have g := hd_of _ [] _ s.size s (hlen last) (hbit last) h
        unfold stb
        simp only [List.append_assoc, List.append_nil] at g ⊢
        exact g
      · rw [if_pos h, List.length_append, stb_length]
        omega
      · rw [List.length_append, stb_length]
        omega
    · have h1 : (s.extract 0 65535).size = 65535 := by rw [ByteArray.size_extract]; omega
      have hst : (stb P.length (s.extract 0 65535) false).length = 3 + pd (P.length + 3) + 32 + 65535 * 8 := by rw [stb_length, h1]
      match f with
      | 0 => omega
      | f + 1 =>
        have ih := str_of f (s.extract 65535 s.size) (P ++ stb P.length (s.extract 0 65535) false) last (app_bit hb (stb_bit _ _ _)) (by rw [ByteArray.size_extract]; omega)
        rw [List.length_append] at ih
        have e : P ++ stm P.length s last = (P ++ stb P.length (s.extract 0 65535) false) ++ stm (P.length + (stb P.length (s.extract 0 65535) false).length) (s.extract 65535 s.size) last := by
          rw [stm_more h, List.append_assoc]
        rw [← e] at ih
        refine ⟨⟨?_, ?_⟩, ih.2⟩
        · rw [Nat.min_eq_right (by omega)]
          have g := hd_of _ (stm (P.length + (stb P.length (s.extract 0 65535) false).length) (s.extract 65535 s.size) last) _ 65535 s (hlen false) (hbit false) (by omega)
          rw [e]
          have e2 : stb P.length (s.extract 0 65535) false = hdb 0 false ++ List.replicate (pd (P.length + 3)) 0 ++ put 65535 16 ++ put (65535 - 65535) 16 ++ byb s 65535 := by
            unfold stb
            rw [h1, byb_cut s 65535 (by omega) 65535 (Nat.le_refl _)]
          obtain ⟨Y, hY⟩ : ∃ Y, stm (P.length + (stb P.length (s.extract 0 65535) false).length) (s.extract 65535 s.size) last = Y := ⟨_, rfl⟩
          rw [hY] at g ⊢
          rw [e2]
          simp only [List.append_assoc] at g ⊢
          exact g
        · rw [if_neg h]
          have e3 : (P.length + (stb P.length (s.extract 0 65535) false).length + 10) / 8 = (P.length + 10) / 8 + 65540 := by rw [hst]; omega
          rw [e3] at ih
          exact ih.1
theorem Str.le {t : Nat → Nat} : ∀ {f a : Nat} {s : ByteArray} {e : Nat}, Str t f a s e → a + 4 + min s.size 65535 ≤ e
  | f + 1, a, s, e, h => by
    have h2 := h.2
    split at h2
    · omega
    · have := Str.le h2
      omega
theorem bty_text (V n i : Nat) (hi : i < n) : bty (bstr (le V n)) i = byn V i := by
  rw [← text_eq]
  unfold bty
  simp only [List.getD]
  rw [List.getElem?_map, List.getElem?_range hi]
  simp only [Option.map_some, Option.getD_some, UInt8.toNat_ofNat']
  exact Nat.mod_eq_of_lt (byn_lt V i)
theorem part_eq (s u : ByteArray) (a k : Nat) (h1 : a + k ≤ s.size) (h2 : k ≤ u.size) (h : ∀ i, i < k → bty s (a + i) = bty u i) : s.extract a (a + k) = u.extract 0 k := by
  apply ByteArray.ext_getElem
  · rw [ByteArray.size_extract, ByteArray.size_extract]; omega
  · intro i hi hi'
    rw [ByteArray.size_extract] at hi hi'
    have g := h i (by omega)
    rw [ByteArray.getElem_extract, ByteArray.getElem_extract]
    rw [← bty_eq (show a + i < s.size by omega), ← bty_eq (show i < u.size by omega)] at g
    simp only [Nat.zero_add]
    exact UInt8.toNat_inj.1 g
end Go.Proofs.YtfochecpdfmfbaaGreatDoor.V

/- BlockStored returns true, over what the program's functions answer. Conditions: as each theorem names them. -/
namespace Go.Proofs.YtfochecpdfmfbaaGreatDoor.V
open Go Go.RowKit M U
set_option linter.unusedVariables false
set_option linter.unusedSimpArgs false

theorem str_some {l : ByteArray} (h : 0 < l.size) : l.toList.isEmpty = false := by
  rw [ByteArray.toList_eq]
  have h1 : l.data.toList.length = l.size := by rw [Array.length_toList]; rfl
  cases e : l.data.toList with
  | nil => rw [e] at h1; simp at h1; omega
  | cons x y => rfl
/-- how much is left -/
def msr : Value → Value → Nat
  | .bool b, .string l => l.size + (if b = true then 1 else 0)
  | _, _ => 0
theorem stm_len : ∀ (f : Nat) (o : Nat) (s : ByteArray) (last : Bool), s.size ≤ 65535 * (f + 1) → (stm o s last).length ≤ 8 * s.size + 42 * (f + 1)
  | f, o, s, last, h => by
    have hp : ∀ n, pd n ≤ 7 := fun n => by unfold pd; omega
    by_cases h1 : s.size ≤ 65535
    · rw [stm_one h1, stb_length]
      have := hp (o + 3)
      omega
    · have h2 : (s.extract 0 65535).size = 65535 := by rw [ByteArray.size_extract]; omega
      have h3 : (s.extract 65535 s.size).size = s.size - 65535 := by rw [ByteArray.size_extract]; omega
      have := hp (o + 3)
      rw [stm_more h1, List.length_append]
      have hl : (stb o (s.extract 0 65535) false).length = 3 + pd (o + 3) + 32 + 65535 * 8 := by rw [stb_length, h2]
      match f with
      | 0 => omega
      | f + 1 =>
        have ih := stm_len f (o + (stb o (s.extract 0 65535) false).length) (s.extract 65535 s.size) last (by omega)
        rw [h3] at ih
        omega

set_option maxRecDepth 1000000 in
set_option maxHeartbeats 4000000 in
theorem stored_good {T : World → Prop} (C : Bkw T) (pc : ByteArray) (many ah : Nat) (last : Bool) (W : World) (H : T W) (hp : pc.size ≤ 300) (hm : many ≤ 65535) (hah : ah ≤ 255) :
    Calls Tryz.prog 4 #[.string pc, .int .u16 many, .int .u8 ah, .bool last] W fun e w' => e = .returned (.bool true) ∧ Below W.heap.size W w' := by
  have HWk := Lib.hid (fun w (b : Below W.heap.size W w) => works13 C.toBks w (C.keep H b))
  obtain ⟨q, hqe⟩ : ∃ q, ah % 20 = q := ⟨_, rfl⟩
  have q20 : (ah : Int) % 20 = (q : Int) := by omega
  have hq19 : q ≤ 19 := by omega
  obtain ⟨m, hme⟩ : ∃ m, many % 300 = m := ⟨_, rfl⟩
  have m300 : (many : Int) % 300 = (m : Int) := by omega
  have hm3 : m ≤ 299 := by omega
  have dn : decide ((300 : Int) < (pc.size : Int)) = false := decide_eq_false (by omega)
  have dn' : decide (300 < pc.size) = false := decide_eq_false (by omega)
  have HNew := Lib.hid (new_any (B := W.heap.size) 262144 W (Nat.le_refl _))
  have HBits := Lib.hid (fun (w : World) (S : Nat → Prop) (h : Wt w W.heap.size W.heap.size S 262144 0 0) => (show Calls Tryz.prog 9 #[.pointer (some ⟨W.heap.size, 0, none⟩), .int .u64 0, .int .i64 q] w (Did w W.heap.size W.heap.size S 262144 (0, 0, q)) from by
    have h1 := Go.Proofs.YtfochecpdfmfbaaGreatDoor.bits_any h 0 q (by omega) (by omega)
    rw [show (0 : Int).toNat = 0 from rfl, bitsR_yes (by omega) (Nat.two_pow_pos _) (by omega)] at h1
    simpa using h1))
  have HWr := Lib.hid (fun (raw : ByteArray) (hr : raw.size ≤ 131372) (w : World) (S : Nat → Prop) (h : Wt w W.heap.size W.heap.size S 262144 0 q) (b : Below W.heap.size W w) => (show Calls Tryz.prog 11 #[.pointer (some ⟨W.heap.size, 0, none⟩), .int .u8 0, .slice none 0 0, .string raw, .bool last] w (Did w W.heap.size W.heap.size S 262144 (0, nb (stm q raw last) * 2 ^ q, q + (stm q raw last).length)) from by
    have hl := stm_len 2 q raw last (by omega)
    have hbk : bkm 0 [] raw last q = stm q raw last := by unfold bkm; rw [if_pos rfl]
    have h := C.write W.heap.size W.heap.size S 262144 0 q 0 none 0 0 [] raw last w (fun w' b' => C.keep H (b.trans b')) h (fun w' b' => IsTks.none w') b.size (by omega) (by omega) (by omega) (by omega) (fun g => absurd rfl g) (by rw [hbk]; omega)
    rw [hbk, Nat.zero_add] at h
    exact h))
  have HTx := Lib.hid (fun (w : World) (S : Nat → Prop) (VV LL : Nat) (h : Wt w W.heap.size W.heap.size S 262144 VV LL) (hl : LL ≤ 2000000) => Go.Proofs.YtfochecpdfmfbaaGreatDoor.text_any h (by omega))
  clear hqe hme C H
  go_enter Tryz.func4, Tryz.ntmps4
  go_wp2_with fail
  go_loopw [9, 10] (fun x y wr => ∃ (r : ByteArray) (i : Nat), i ≤ m ∧ x = .string r ∧ y = .int .i64 i ∧ r.size ≤ 300 * i ∧ W = wr) (fun _ y _ => m - (intOf y).toNat)
  case atStart => exact ⟨⟨#[]⟩, 0, Nat.zero_le _, rfl, rfl, by decide, rfl⟩
  case round =>
    obtain ⟨r, i, hi, rfl, rfl, hr, rfl⟩ := hrel
    have HR := Lib.hid hr
    by_cases hgo : i < m
    · have d1 : decide ((i : Int) < (m : Int)) = true := decide_eq_true (by omega)
      have d1' : decide (i < m) = true := decide_eq_true hgo
      have d2 : decide ((r.size : Int) < 131072) = true := decide_eq_true (by omega)
      have d2' : decide (r.size < 131072) = true := decide_eq_true (by omega)
      have hsum : r.size + pc.size ≤ 9223372036854775807 := by omega
      have HJ := Lib.hid (show i + 1 ≤ m ∧ (r ++ pc).size ≤ 300 * (i + 1) by rw [ByteArray.size_append]; omega)
      clear hgo hr
      go_wp2_with fail
      go_roundw
      case rel => exact ⟨r ++ pc, i + 1, HJ.out.1, rfl, by go_num, HJ.out.2, trivial⟩
      case measure => (have := HJ.out.1; simp [intOf]; try omega)
    · have HRest := Lib.hid (show r.size ≤ 100000 by omega)
      have d1 : decide ((i : Int) < (m : Int)) = false := decide_eq_false (by omega)
      have d1' : decide (i < m) = false := decide_eq_false hgo
      clear hgo hr
      go_upto_region 8 with fail
      have hrs : r.size ≤ 131371 := by have := HRest.out; omega
      have hstr := str_of 2 r (List.replicate q 0) last (rep_bit q) (by omega)
      have hsl := stm_len 2 q r last (by omega)
      rw [List.length_append, List.length_replicate, nb_zeros] at hstr
      have HWr1 := Lib.hid (HWr.out r (by omega))
      obtain ⟨VV, hVV⟩ : ∃ VV, nb (stm q r last) * 2 ^ q = VV := ⟨_, rfl⟩
      obtain ⟨LL, hLL⟩ : ∃ LL, q + (stm q r last).length = LL := ⟨_, rfl⟩
      rw [hVV, hLL] at hstr HWr1
      have hLl : LL ≤ 1100000 := by omega
      obtain ⟨N, hN⟩ : ∃ N, LL / 8 = N := ⟨_, rfl⟩
      rw [hN] at hstr
      have hN2 : (LL + 7) / 8 = N := by have := hstr.2; omega
      have hNl : N ≤ 200000 := by omega
      obtain ⟨TX, hTX⟩ : ∃ TX, bstr (le VV N) = TX := ⟨_, rfl⟩
      have hTs : TX.size = N := by rw [← hTX]; exact le_length VV N
      have HTb := Lib.hid (show ∀ j, j < N → bty TX j = byn VV j from fun j hj => by rw [← hTX]; exact bty_text VV N j hj)
      have HTx1 := Lib.hid (fun (w : World) (S : Nat → Prop) (h : Wt w W.heap.size W.heap.size S 262144 VV LL) => (show Calls Tryz.prog 16 #[.pointer (some ⟨W.heap.size, 0, none⟩)] w (fun e w' => e = .returned (.string TX) ∧ Kept NoB w w') from by
        have h1 := HTx.out w S VV LL h (by omega)
        unfold textR at h1
        rw [hN2, hTX] at h1
        exact h1))
      have HStr := Lib.hid hstr.1
      obtain ⟨a0, ha0⟩ : ∃ a0, (q + 10) / 8 = a0 := ⟨_, rfl⟩
      rw [ha0] at HStr
      have ea : ((q : Int) + 3 + 7) / 8 = (a0 : Int) := by omega
      clear hrs hstr hsl hVV hLL hN hN2 hTX ha0 HTx HWr hLl
      go_wp2_with (first
        | (go_at_call 8; (with_reducible refine HNew.out.mono ?_); rintro e w1 ⟨rfl, k1, t1, s1⟩; have T1 := Lib.hid t1; have B1 := Lib.hid (k1.below (Nat.le_refl _) (fun j g => g.elim) : Below W.heap.size W w1); clear k1 t1 s1)
        | (go_at_call 9; (with_reducible refine (HBits.out _ _ T1.out).mono ?_); rintro e w2 hd; have b2 := Did.belowB hd T1.out B1.out.size; obtain ⟨rfl, S2, t2, _, _⟩ := hd; have T2 := Lib.hid t2; have B2 := Lib.hid (B1.out.trans b2); clear t2 b2)
        | (go_at_call 11; (with_reducible refine (HWr1.out _ _ T2.out B2.out).mono ?_); rintro e w4 hd; have b4 := Did.belowB hd T2.out B2.out.size; obtain ⟨rfl, S4, t4, _, _⟩ := hd; have T4 := Lib.hid t4; have B4 := Lib.hid (B2.out.trans b4); clear t4 b4)
        | (go_at_call 16; (with_reducible refine (HTx1.out _ _ T4.out).mono ?_); rintro e w5 ⟨rfl, k5⟩; have B5 := Lib.hid (B4.out.trans ((k5.below (Nat.le_refl _) (fun j g => g.elim) : Below w4.heap.size w4 w5).mono B4.out.size)); clear k5))
      go_loopw [14, 15, 16] (fun x y z wr => ∃ (a f : Nat) (fs : Bool) (l : ByteArray), x = .int .i64 a ∧ y = .bool fs ∧ z = .string l ∧ ((Str (byn VV) f a l N ∧ (fs = true ∨ 0 < l.size)) ∨ (fs = false ∧ l = ⟨#[]⟩ ∧ a = N)) ∧ l.size ≤ 131371 ∧ Below W.heap.size W wr) (fun _ y z _ => msr y z)
      case atStart => exact ⟨a0, 3, true, r, by rw [ea], rfl, rfl, .inl ⟨HStr.out, .inl rfl⟩, (by have := HRest.out; omega), B5.out⟩
      case round =>
        obtain ⟨a, f, fs, l, rfl, rfl, rfl, hA, hll, hbr⟩ := hrel
        clear ea q20 m300 d1 d1' dn dn' HNew HBits HTx1 HWr1 B1 B2 B4 B5 T1 T2 T4 HStr HRest HR
        have HBr := Lib.hid hbr
        rcases hA with ⟨hS, hfs⟩ | ⟨rfl, rfl, rfl⟩
        · match f, hS with
          | f + 1, hS =>
          have hle := hS.le
          obtain ⟨hd, hnx⟩ := hS
          obtain ⟨k, hk⟩ : ∃ k, min l.size 65535 = k := ⟨_, rfl⟩
          rw [hk] at hd hle
          have m1 : min (l.size : Int) 65535 = (k : Int) := by omega
          have m2 : (if (65535 : Int) < (l.size : Int) then (65535 : Int) else (l.size : Int)) = (k : Int) := by split <;> omega
          have m3 : (if 65535 < l.size then 65535 else l.size) = k := by split <;> omega
          have g1 : decide ((TX.size : Int) < (a : Int) + 4 + (k : Int)) = false := decide_eq_false (by omega)
          have hcond : fs = true ∨ (fs = false ∧ l.toList.isEmpty = false) := by
            rcases hfs with g | g
            · exact .inl g
            · cases fs with
              | true => exact .inl rfl
              | false => exact .inr ⟨rfl, str_some g⟩
          have HFs := Lib.hid hfs
          clear hfs hbr
          have hkl : k ≤ l.size := by omega
          obtain ⟨a1, ha1⟩ : ∃ a1, a + 1 = a1 := ⟨_, rfl⟩
          obtain ⟨a2, ha2⟩ : ∃ a2, a + 2 = a2 := ⟨_, rfl⟩
          obtain ⟨a3, ha3⟩ : ∃ a3, a + 3 = a3 := ⟨_, rfl⟩
          obtain ⟨a4, ha4⟩ : ∃ a4, a + 4 = a4 := ⟨_, rfl⟩
          obtain ⟨a5, ha5⟩ : ∃ a5, a4 + k = a5 := ⟨_, rfl⟩
          have i0 : a < TX.size := by omega
          have i1 : a1 < TX.size := by omega
          have i2 : a2 < TX.size := by omega
          have i3 : a3 < TX.size := by omega
          have x1 : (a : Int) + 1 = (a1 : Int) := by omega
          have x2 : (a : Int) + 2 = (a2 : Int) := by omega
          have x3 : (a : Int) + 3 = (a3 : Int) := by omega
          have x4 : (a : Int) + 4 = (a4 : Int) := by omega
          have x5 : (a4 : Int) + (k : Int) = (a5 : Int) := by omega
          have w1' : IntKind.i64.wrap (a1 : Int) = (a1 : Int) := by rw [IntKind.wrap_i64]; omega
          have w2' : IntKind.i64.wrap (a2 : Int) = (a2 : Int) := by rw [IntKind.wrap_i64]; omega
          have w3' : IntKind.i64.wrap (a3 : Int) = (a3 : Int) := by rw [IntKind.wrap_i64]; omega
          have w4' : IntKind.i64.wrap (a4 : Int) = (a4 : Int) := by rw [IntKind.wrap_i64]; omega
          have w5' : IntKind.i64.wrap (a5 : Int) = (a5 : Int) := by rw [IntKind.wrap_i64]; omega
          have j0 : a < N := by omega
          have j1 : a1 < N := by omega
          have j2 : a2 < N := by omega
          have j3 : a3 < N := by omega
          have hget : ∀ j (hj : j < TX.size), (TX[j]'hj).toNat = byn VV j := fun j hj => by rw [bty_eq hj, HTb.out j (by omega)]
          have r0 := hget a i0
          have r1 := hget a1 i1
          have r2 := hget a2 i2
          have r3 := hget a3 i3
          obtain ⟨b0, hb0⟩ : ∃ b0 : Nat, (TX[a]'i0).toNat = b0 := ⟨_, rfl⟩
          obtain ⟨b1, hb1⟩ : ∃ b1 : Nat, (TX[a1]'i1).toNat = b1 := ⟨_, rfl⟩
          obtain ⟨b2, hb2⟩ : ∃ b2 : Nat, (TX[a2]'i2).toNat = b2 := ⟨_, rfl⟩
          obtain ⟨b3, hb3⟩ : ∃ b3 : Nat, (TX[a3]'i3).toNat = b3 := ⟨_, rfl⟩
          have f1 : b0 + 256 * b1 = k := by
            have := hd.lo
            rw [ha1, ← r0, ← r1, hb0, hb1] at this
            exact this
          have f2 : b2 + 256 * b3 = 65535 - k := by
            have := hd.hi
            rw [ha2, ha3, ← r2, ← r3, hb2, hb3] at this
            exact this
          have hsub : TX.extract a4 a5 = l.extract 0 k := by
            rw [← ha5]
            refine part_eq TX l a4 k (by omega) hkl (fun j hj => ?_)
            rw [HTb.out _ (by omega), ← ha4]
            exact hd.at' j hj
          obtain ⟨SB, hSB⟩ : ∃ SB, l.extract 0 k = SB := ⟨_, rfl⟩
          rw [hSB] at hsub
          obtain ⟨LN, hLN⟩ : ∃ LN, l.extract k l.size = LN := ⟨_, rfl⟩
          have y0 : IntKind.i64.wrap (b0 : Int) = (b0 : Int) := by rw [IntKind.wrap_i64]; omega
          have y1 : IntKind.i64.wrap (b1 : Int) = (b1 : Int) := by rw [IntKind.wrap_i64]; omega
          have y2 : IntKind.i64.wrap (b2 : Int) = (b2 : Int) := by rw [IntKind.wrap_i64]; omega
          have y3 : IntKind.i64.wrap (b3 : Int) = (b3 : Int) := by rw [IntKind.wrap_i64]; omega
          clear r0 r1 r2 r3 hget
          obtain ⟨c1, hc1⟩ : ∃ c1, 256 * b1 = c1 := ⟨_, rfl⟩
          obtain ⟨c3, hc3⟩ : ∃ c3, 256 * b3 = c3 := ⟨_, rfl⟩
          obtain ⟨kk, hkk⟩ : ∃ kk, 65535 - k = kk := ⟨_, rfl⟩
          have z1 : (256 : Int) * (b1 : Int) = (c1 : Int) := by omega
          have z3 : (256 : Int) * (b3 : Int) = (c3 : Int) := by omega
          have z5 : (b0 : Int) + (c1 : Int) = (k : Int) := by omega
          have z6 : (b2 : Int) + (c3 : Int) = (kk : Int) := by omega
          have z7 : (65535 : Int) - (k : Int) = (kk : Int) := by omega
          have y5 : IntKind.i64.wrap (c1 : Int) = (c1 : Int) := by rw [IntKind.wrap_i64]; omega
          have y6 : IntKind.i64.wrap (c3 : Int) = (c3 : Int) := by rw [IntKind.wrap_i64]; omega
          have y7 : IntKind.i64.wrap (k : Int) = (k : Int) := by rw [IntKind.wrap_i64]; omega
          have y8 : IntKind.i64.wrap (kk : Int) = (kk : Int) := by rw [IntKind.wrap_i64]; omega
          have v1 : ((k : Int) != (k : Int)) = false := by rw [bne_eq_false_iff_eq]
          have v2 : ((kk : Int) != (kk : Int)) = false := by rw [bne_eq_false_iff_eq]
          have v3 : decide ((a4 : Int) ≤ (a5 : Int)) = true := decide_eq_true (by omega)
          have l1 : a4 ≤ a5 := by omega
          have l2 : a5 ≤ N := by omega
          clear f1 f2 hc1 hc3 hkk
          have HA5 := Lib.hid (show a5 = a + 4 + k by omega)
          have HLn := Lib.hid hLN
          have HKl := Lib.hid (show k ≤ l.size ∧ l.size ≤ 131371 by omega)
          have e51 : (a5 : Int) + 1 = ((a5 + 1 : Nat) : Int) := by omega
          clear ha1 ha2 ha3 ha4
          go_upto_region 16 with fail
          go_cut [67] from 63 to 132 (fun c wx => c = .bool true ∧ Below W.heap.size W wx)
          case first =>
            rcases hcond with rfl | ⟨rfl, hne⟩
            · go_wp2_with fail
              go_meet
              exact ⟨rfl, HBr.out⟩
            · go_wp2_with fail
              go_meet
              exact ⟨rfl, HBr.out⟩
          case rest =>
          obtain ⟨rfl, hbr2⟩ := hcut
          have HBr2 := Lib.hid hbr2
          clear hbr2 hcond HBr
          go_upto_region 20 with fail
          go_cut [121] from 63 to 132 (fun c wx => c = .bool false ∧ Below W.heap.size W wx)
          case first =>
            clear hnx hd hle ha5 hk hkl
            go_quiet (fail)
            go_wp2_with fail
            go_meet
            exact ⟨rfl, below_drewN HBr2.out _⟩
          case rest =>
          obtain ⟨rfl, hbr3⟩ := hcut
          have HBr3 := Lib.hid hbr3
          clear hbr3 HBr2
          clear hb0 hb1 hb2 hb3 HTb hsub hSB
          by_cases hlast : l.size ≤ 65535
          · rw [if_pos hlast] at hnx
            have hkl2 : k = l.size := by omega
            have hLe : LN = ⟨#[]⟩ := by
              rw [← hLN, hkl2]
              apply ByteArray.ext
              apply Array.toList_inj.1
              rw [ByteArray.data_extract, Array.toList_extract, List.extract_eq_take_drop, Nat.sub_self, List.take_zero]
            have hLe2 : LN.toList.isEmpty = true := by rw [hLe, ByteArray.toList_eq]; rfl
            have HEnd := Lib.hid (show a5 = N by omega)
            have HLe := Lib.hid hLe
            have HMs := Lib.hid (show ∀ b : Bool, (b = true ∨ 0 < l.size) → msr (.bool false) (.string LN) < msr (.bool b) (.string l) from fun b hb => by
              have h0 : LN.size = 0 := by rw [hLe]; rfl
              show LN.size + 0 < l.size + (if b = true then 1 else 0)
              rw [h0]
              rcases hb with rfl | hb
              · show 0 + 0 < l.size + 1
                omega
              · omega)
            clear hLe hnx hlast hkl2 hd hle e51 ha5 hk hkl
            go_wp2_with fail
            go_roundw
            case rel => exact ⟨a5, f, false, LN, rfl, rfl, rfl, .inr ⟨rfl, HLe.out, HEnd.out⟩, by rw [HLe.out]; decide, HBr3.out⟩
            case measure => exact HMs.out _ HFs.out
          · rw [if_neg hlast] at hnx
            have hkl2 : k = 65535 := by omega
            have hLs : LN.size = l.size - 65535 := by rw [← hLN, ByteArray.size_extract, hkl2]; omega
            have hLe2 : LN.toList.isEmpty = false := str_some (by omega)
            have HNx := Lib.hid (show Str (byn VV) f (a5 + 1) LN N by
              rw [show a5 + 1 = a + 65540 by omega, ← hLN, hkl2]
              exact hnx)
            have HLs := Lib.hid (show 0 < LN.size ∧ LN.size ≤ 131371 by omega)
            have w6' : IntKind.i64.wrap ((a5 + 1 : Nat) : Int) = ((a5 + 1 : Nat) : Int) := by rw [IntKind.wrap_i64]; omega
            have HMs := Lib.hid (show ∀ b : Bool, (b = true ∨ 0 < l.size) → msr (.bool false) (.string LN) < msr (.bool b) (.string l) from fun b hb => by
              show LN.size + 0 < l.size + (if b = true then 1 else 0)
              omega)
            obtain ⟨a6, ha6⟩ : ∃ a6, a5 + 1 = a6 := ⟨_, rfl⟩
            rw [ha6] at e51 w6' HNx
            clear hLs hnx hlast hkl2 hd hle ha5 ha6 hk hkl
            go_wp2_with fail
            go_roundw
            case rel => exact ⟨a6, f, false, LN, rfl, rfl, rfl, .inl ⟨HNx.out, .inr HLs.out.1⟩, HLs.out.2, HBr3.out⟩
            case measure => exact HMs.out _ HFs.out
        · clear hbr
          have e1 : ((TX.size : Int)) = (TX.size : Int) := rfl
          go_wp2_with (go_at_call 7; (with_reducible refine (HWk.out _ HBr.out).mono ?_); rintro e w7 ⟨rfl, b7⟩; have B7 := Lib.hid (HBr.out.trans (b7.mono HBr.out.size)); clear b7)
          go_ret
          exact ⟨rfl, B7.out⟩
set_option maxRecDepth 1000000 in
theorem stored_heavy {T : World → Prop} (C : Bkw T) (pc : ByteArray) (many ah : Nat) (last : Bool) (W : World) (H : T W) (hv : 300 < pc.size) :
    Calls Tryz.prog 4 #[.string pc, .int .u16 many, .int .u8 ah, .bool last] W fun e w' => e = .returned (.bool true) ∧ Below W.heap.size W w' := by
  have HWk := Lib.hid (works13 C.toBks W H)
  have dn : decide ((300 : Int) < (pc.size : Int)) = true := decide_eq_true (by omega)
  have dn' : decide (300 < pc.size) = true := decide_eq_true hv
  clear C H hv
  go_enter Tryz.func4, Tryz.ntmps4
  go_wp2_with (go_at_call 7; (with_reducible refine HWk.out.mono ?_); rintro e w7 ⟨rfl, b7⟩; have B7 := Lib.hid b7; clear b7)
  go_ret
  exact ⟨rfl, B7.out⟩
/-- the law -/
theorem stored_law {T : World → Prop} (C : Bkw T) (pc : ByteArray) (many ah : Nat) (last : Bool) (W : World) (H : T W) (hm : many ≤ 65535) (hah : ah ≤ 255) :
    Calls Tryz.prog 4 #[.string pc, .int .u16 many, .int .u8 ah, .bool last] W fun e w' => e = .returned (.bool true) ∧ Below W.heap.size W w' := by
  by_cases hv : 300 < pc.size
  · exact stored_heavy C pc many ah last W H hv
  · exact stored_good C pc many ah last W H (by omega) hm hah
end Go.Proofs.YtfochecpdfmfbaaGreatDoor.V

/- The program's writer in lists of bits (layer 13): what each call puts behind the bits that are there. Conditions: as each theorem names them. -/
namespace Go.Proofs.YtfochecpdfmfbaaGreatDoor.V
open Go Go.RowKit M U
set_option linter.unusedVariables false
set_option linter.unusedSimpArgs false

theorem cdb_succ (c s : Nat) : cdb c (s + 1) = c / 2 ^ s % 2 :: cdb c s := by
  unfold cdb
  rw [List.range_succ_eq_map, List.map_cons, List.map_map]
  congr 1
  apply List.map_congr_left
  intro i _
  show c / 2 ^ (s + 1 - 1 - (i + 1)) % 2 = _
  congr 3
  omega
theorem nb_rep (n : Nat) : nb (List.replicate n 0) = 0 := by
  have h := nb_zeros n []
  rw [List.append_nil] at h
  rw [h]
  simp [nb]
theorem nb_byb (s : ByteArray) : ∀ k, k ≤ s.size → nb (byb s k) = vl (s.data.toList.take k)
  | 0, _ => rfl
  | k + 1, h => by
    have hk : k < s.size := h
    rw [byb_succ, nb_append, nb_byb s k (by omega), nb_put, byb_length, vl_take_succ s k hk, bty_eq hk]
    have := bty_lt s k
    rw [show (2 : Nat) ^ 8 = 256 from rfl, Nat.mod_eq_of_lt (by omega), Nat.mul_comm k 8, ← p8]
theorem nb_byb_all (s : ByteArray) : nb (byb s s.size) = vl s.data.toList := by rw [nb_byb s s.size (Nat.le_refl _), vl_take_all]
theorem nb_more (V o : Nat) (X Y : List Nat) : V + nb (X ++ Y) * 2 ^ o = V + nb X * 2 ^ o + nb Y * 2 ^ (o + X.length) := by
  rw [nb_append, Nat.add_mul, Nat.pow_add, Nat.mul_assoc, Nat.mul_comm (2 ^ X.length) (2 ^ o), Nat.add_assoc]
theorem align_pd (L : Nat) : alignL L = L + pd L := by unfold alignL pd; omega
section
variable {w : World} {B p : Nat} {S : Nat → Prop} {most : Int} {V o : Nat} {X : List Nat}
theorem alignl_any (h : Wt w B p S most (V + nb X * 2 ^ o) (o + X.length)) (hL : o + X.length ≤ 900000000) :
    Calls Tryz.prog 78 #[.pointer (some ⟨p, 0, none⟩)] w (Did w B p S most (0, V + nb (X ++ List.replicate (pd (o + X.length)) 0) * 2 ^ o, o + (X ++ List.replicate (pd (o + X.length)) 0).length)) := by
  have g := Go.Proofs.YtfochecpdfmfbaaGreatDoor.align_any h hL
  rw [align_pd] at g
  rw [nb_more, nb_rep, Nat.zero_mul, Nat.add_zero, List.length_append, List.length_replicate, ← Nat.add_assoc]
  exact g
theorem bytesl_any (h : Wt w B p S most (V + nb X * 2 ^ o) (o + X.length)) (s : ByteArray) (hs : s.size ≤ 100000000) (hL : o + X.length ≤ 900000000) (h8 : (o + X.length) % 8 = 0) (hm : (((o + (X ++ byb s s.size).length + 7) / 8 : Nat) : Int) ≤ most) :
    Calls Tryz.prog 79 #[.pointer (some ⟨p, 0, none⟩), .string s] w (Did w B p S most (0, V + nb (X ++ byb s s.size) * 2 ^ o, o + (X ++ byb s s.size).length)) := by
  have g := Go.Proofs.YtfochecpdfmfbaaGreatDoor.bytes_any h s hL hs
  have ha : alignL (o + X.length) = o + X.length := by unfold alignL; omega
  rw [List.length_append, byb_length] at hm
  rw [bytesR_yes (by omega), ha] at g
  rw [nb_more, nb_byb_all, List.length_append, byb_length, ← Nat.add_assoc, Nat.mul_comm s.size 8]
  exact g
theorem bytesl_full (h : Wt w B p S most (V + nb X * 2 ^ o) (o + X.length)) (s : ByteArray) (hs : s.size ≤ 100000000) (hL : o + X.length ≤ 900000000) (h8 : (o + X.length) % 8 = 0) (hm : ¬ (((o + (X ++ byb s s.size).length + 7) / 8 : Nat) : Int) ≤ most) :
    Calls Tryz.prog 79 #[.pointer (some ⟨p, 0, none⟩), .string s] w (Did w B p S most (4, V + nb X * 2 ^ o, o + X.length)) := by
  have g := Go.Proofs.YtfochecpdfmfbaaGreatDoor.bytes_any h s hL hs
  rw [List.length_append, byb_length] at hm
  rw [bytesR_full (by omega)] at g
  exact g
end
end Go.Proofs.YtfochecpdfmfbaaGreatDoor.V
