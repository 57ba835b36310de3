/- Texts of one place, one behind the other: BlA, BlB, BlM, BlN. -/
import Derived.Test.YtldiojnkoobbmaaGreatDoorCMBwX
import Derived.Test.YtldiojnkoobbmaaGreatDoorCMBwG
import Derived.Test.YtldiojnkoobbmaaGreatDoorCQtD
import Derived.Test.YtldiojnkoobbmaaGreatDoorCMRns
namespace Go.Proofs.YtldiojnkoobbmaaGreatDoor.V
open Go Go.RowKit M U
set_option linter.unusedVariables false
set_option linter.unusedSimpArgs false
structure Bks (T : World → Prop) : Prop where
  keep : ∀ {w w' : World}, T w → Below w.heap.size w w' → T w'
  fixed : ∀ w, T w → Calls Tryz.prog 106 #[] w fun e w' => ∃ A1 c1 A2 c2, e = .returned (.agg #[.slice A1 288 c1, .slice A2 30 c2]) ∧ Nums w' .u8 A1 288 (fun i => (fxl i : Int)) ∧ Nums w' .u8 A2 30 (fun _ => ((5 : Nat) : Int)) ∧ Below w.heap.size w w'
  order : ∀ w, T w → Calls Tryz.prog 155 #[] w fun e w' => ∃ A c, e = .returned (.slice A 19 c) ∧ Nums w' .u8 A 19 (fun i => ((ord.getD i 0 : Nat) : Int)) ∧ Below w.heap.size w w'
  size : ∀ (k : Nat) (A : Option Addr) (n c : Nat) (L : List Tk) (raw : ByteArray) (p : Nat) (w : World), T w → IsTks w A n L → n ≤ 100000 → raw.size ≤ 1000000 → p ≤ 1000000 → k ≤ 2 → (k ≠ 0 → ∀ t ∈ L, may t = true) →
    Calls Tryz.prog 67 #[.int .u8 k, .slice A n c, .string raw, .int .i64 p] w fun e w' => e = .returned (.tuple #[.int .i64 ((bkm k L raw false (p % 8)).length : Nat), .int .i64 0]) ∧ Below w.heap.size w w'
  sizeNo : ∀ (k : Nat) (A : Option Addr) (n c : Nat) (L : List Tk) (raw : ByteArray) (p : Nat) (w : World), T w → IsTks w A n L → n ≤ 100000 → raw.size ≤ 1000000 → p ≤ 1000000 → k ≤ 255 → (2 < k ∨ (k ≠ 0 ∧ ∃ i, i < n ∧ may (L.getD i default) = false)) →
    Calls Tryz.prog 67 #[.int .u8 k, .slice A n c, .string raw, .int .i64 p] w fun e w' => e = .returned (.tuple #[.int .i64 0, .int .i64 2]) ∧ Below w.heap.size w w'
end Go.Proofs.YtldiojnkoobbmaaGreatDoor.V

namespace Go.Proofs.YtldiojnkoobbmaaGreatDoor.V
open Go Go.RowKit M U
set_option linter.unusedVariables false
set_option linter.unusedSimpArgs false
theorem flat_bit {α : Type} {f : α → List Nat} {l : List α} (h : ∀ a ∈ l, ∀ x ∈ f a, x ≤ 1) : ∀ x ∈ l.flatMap f, x ≤ 1 := fun x hx => by
  obtain ⟨a, ha, hx⟩ := List.mem_flatMap.1 hx
  exact h a ha x hx
theorem nb_zeros (n : Nat) (l : List Nat) : nb (List.replicate n 0 ++ l) = nb l * 2 ^ n := by
  rw [nb_append, List.length_replicate]
  have : nb (List.replicate n 0) = 0 := by
    induction n with
    | zero => rfl
    | succ n ih => rw [List.replicate_succ, nb, ih]
  rw [this, Nat.zero_add]
theorem text_eq (V n : Nat) : (⟨((List.range n).map fun i => UInt8.ofNat (byn V i)).toArray⟩ : ByteArray) = bstr (le V n) := by
  unfold bstr
  rw [le_eq]
  rfl
end Go.Proofs.YtldiojnkoobbmaaGreatDoor.V

namespace Go.Proofs.YtldiojnkoobbmaaGreatDoor.V
open Go Go.RowKit M U
set_option linter.unusedVariables false
set_option linter.unusedSimpArgs false
theorem byn_sh (X Y : List Nat) (m i : Nat) (hX : X.length = 8 * m) (hb : ∀ x ∈ X, x ≤ 1) : byn (nb (X ++ Y)) (m + i) = byn (nb Y) i := by
  have h1 := nb_lt X hb
  rw [hX, ← p8] at h1
  unfold byn
  rw [nb_append, hX, ← p8, Nat.pow_add, ← Nat.div_div_eq_div_mul, Nat.mul_comm (nb Y), Nat.add_mul_div_left _ _ (Nat.pow_pos (by decide)), Nat.div_eq_of_lt h1, Nat.zero_add]
theorem byn_front (b : Nat) (Y : List Nat) : byn (nb (put b 8 ++ Y)) 0 = b % 256 := by
  unfold byn
  rw [nb_append, nb_put, put_length]
  simp only [Nat.pow_zero, Nat.div_one]
  rw [show (2 : Nat) ^ 8 = 256 from rfl, Nat.add_mul_mod_self_right, Nat.mod_mod]
theorem byn_two (x : Nat) (Y : List Nat) (hx : x < 65536) : byn (nb (put x 16 ++ Y)) 0 + 256 * byn (nb (put x 16 ++ Y)) 1 = x := by
  unfold byn
  rw [nb_append, nb_put, put_length, show (2 : Nat) ^ 16 = 65536 from rfl, Nat.mod_eq_of_lt hx]
  simp only [Nat.pow_zero, Nat.div_one, Nat.pow_one]
  omega
theorem byb_bit (s : ByteArray) (k : Nat) : ∀ x ∈ byb s k, x ≤ 1 := flat_bit fun _ _ => put_bit _ _
theorem byb_more (s : ByteArray) (i : Nat) : ∀ d, ∃ X, byb s (i + 1 + d) = byb s i ++ (put (bty s i) 8 ++ X)
  | 0 => ⟨[], by rw [Nat.add_zero, byb_succ, List.append_nil]⟩
  | d + 1 => by
    obtain ⟨X, hX⟩ := byb_more s i d
    exact ⟨X ++ put (bty s (i + 1 + d)) 8, by rw [show i + 1 + (d + 1) = i + 1 + d + 1 by omega, byb_succ, hX]; simp only [List.append_assoc]⟩
theorem byb_at (s : ByteArray) {k i : Nat} (hi : i < k) (Y : List Nat) : byn (nb (byb s k ++ Y)) i = bty s i := by
  obtain ⟨X, hX⟩ := byb_more s i (k - (i + 1))
  rw [show i + 1 + (k - (i + 1)) = k by omega] at hX
  rw [hX, List.append_assoc, List.append_assoc]
  have h := byn_sh (byb s i) (put (bty s i) 8 ++ (X ++ Y)) i 0 (by rw [byb_length]; omega) (byb_bit s i)
  rw [Nat.add_zero] at h
  rw [h, byn_front]
  have := bty_lt s i
  omega
structure Hd (t : Nat → Nat) (a : Nat) (s : ByteArray) (k : Nat) : Prop where
  lo : t a + 256 * t (a + 1) = k
  hi : t (a + 2) + 256 * t (a + 3) = 65535 - k
  at' : ∀ i, i < k → t (a + 4 + i) = bty s i
theorem hd_of (P Y : List Nat) (a k : Nat) (s : ByteArray) (hP : P.length = 8 * a) (hb : ∀ x ∈ P, x ≤ 1) (hk : k ≤ 65535) : Hd (byn (nb (P ++ (put k 16 ++ (put (65535 - k) 16 ++ (byb s k ++ Y)))))) a s k := by
  have e0 := fun i => byn_sh P (put k 16 ++ (put (65535 - k) 16 ++ (byb s k ++ Y))) a i hP hb
  have e1 := fun i => byn_sh (put k 16) (put (65535 - k) 16 ++ (byb s k ++ Y)) 2 i (by rw [put_length]) (put_bit _ _)
  have e2 := fun i => byn_sh (put (65535 - k) 16) (byb s k ++ Y) 2 i (by rw [put_length]) (put_bit _ _)
  refine ⟨?_, ?_, fun i hi => ?_⟩
  · have h0 := e0 0
    rw [Nat.add_zero] at h0
    rw [h0, e0 1]
    exact byn_two k _ (by omega)
  · have h2 := e1 0
    have h3 := e1 1
    rw [Nat.add_zero] at h2
    rw [e0 2, e0 3, h2, show (3 : Nat) = 2 + 1 from rfl, h3]
    exact byn_two _ _ (by omega)
  · rw [show a + 4 + i = a + (2 + (2 + i)) by omega, e0, e1, e2]
    exact byb_at s hi Y
theorem bty_text (V n i : Nat) (hi : i < n) : bty (bstr (le V n)) i = byn V i := by
  rw [← text_eq]
  unfold bty
  simp only [List.getD]
  rw [List.getElem?_map, List.getElem?_range hi]
  simp only [Option.map_some, Option.getD_some, UInt8.toNat_ofNat']
  exact Nat.mod_eq_of_lt (byn_lt V i)
theorem part_eq (s u : ByteArray) (a k : Nat) (h1 : a + k ≤ s.size) (h2 : k ≤ u.size) (h : ∀ i, i < k → bty s (a + i) = bty u i) : s.extract a (a + k) = u.extract 0 k := by
  apply ByteArray.ext_getElem
  · rw [ByteArray.size_extract, ByteArray.size_extract]; omega
  · intro i hi hi'
    rw [ByteArray.size_extract] at hi hi'
    have g := h i (by omega)
    rw [ByteArray.getElem_extract, ByteArray.getElem_extract]
    rw [← bty_eq (show a + i < s.size by omega), ← bty_eq (show i < u.size by omega)] at g
    simp only [Nat.zero_add]
    exact UInt8.toNat_inj.1 g
end Go.Proofs.YtldiojnkoobbmaaGreatDoor.V

namespace Go.Proofs.YtldiojnkoobbmaaGreatDoor.V
open Go Go.RowKit M U
set_option linter.unusedVariables false
set_option linter.unusedSimpArgs false
theorem cdb_succ (c s : Nat) : cdb c (s + 1) = c / 2 ^ s % 2 :: cdb c s := by
  unfold cdb
  rw [List.range_succ_eq_map, List.map_cons, List.map_map]
  congr 1
  apply List.map_congr_left
  intro i _
  show c / 2 ^ (s + 1 - 1 - (i + 1)) % 2 = _
  congr 3
  omega
theorem nb_rep (n : Nat) : nb (List.replicate n 0) = 0 := by
  have h := nb_zeros n []
  rw [List.append_nil] at h
  rw [h]
  simp [nb]
theorem nb_byb (s : ByteArray) : ∀ k, k ≤ s.size → nb (byb s k) = vl (s.data.toList.take k)
  | 0, _ => rfl
  | k + 1, h => by
    have hk : k < s.size := h
    rw [byb_succ, nb_append, nb_byb s k (by omega), nb_put, byb_length, vl_take_succ s k hk, bty_eq hk]
    have := bty_lt s k
    rw [show (2 : Nat) ^ 8 = 256 from rfl, Nat.mod_eq_of_lt (by omega), Nat.mul_comm k 8, ← p8]
theorem nb_byb_all (s : ByteArray) : nb (byb s s.size) = vl s.data.toList := by rw [nb_byb s s.size (Nat.le_refl _), vl_take_all]
theorem nb_more (V o : Nat) (X Y : List Nat) : V + nb (X ++ Y) * 2 ^ o = V + nb X * 2 ^ o + nb Y * 2 ^ (o + X.length) := by
  rw [nb_append, Nat.add_mul, Nat.pow_add, Nat.mul_assoc, Nat.mul_comm (2 ^ X.length) (2 ^ o), Nat.add_assoc]
theorem align_pd (L : Nat) : alignL L = L + pd L := by unfold alignL pd; omega
section
variable {w : World} {B p : Nat} {S : Nat → Prop} {most : Int} {V o : Nat} {X : List Nat}
theorem alignl_any (h : Wt w B p S most (V + nb X * 2 ^ o) (o + X.length)) (hL : o + X.length ≤ 900000000) :
    Calls Tryz.prog 127 #[.pointer (some ⟨p, 0, none⟩)] w (Did w B p S most (0, V + nb (X ++ List.replicate (pd (o + X.length)) 0) * 2 ^ o, o + (X ++ List.replicate (pd (o + X.length)) 0).length)) := by
  have g := Go.Proofs.YtldiojnkoobbmaaGreatDoor.align_any h hL
  rw [align_pd] at g
  rw [nb_more, nb_rep, Nat.zero_mul, Nat.add_zero, List.length_append, List.length_replicate, ← Nat.add_assoc]
  exact g
theorem bytesl_any (h : Wt w B p S most (V + nb X * 2 ^ o) (o + X.length)) (s : ByteArray) (hs : s.size ≤ 100000000) (hL : o + X.length ≤ 900000000) (h8 : (o + X.length) % 8 = 0) (hm : (((o + (X ++ byb s s.size).length + 7) / 8 : Nat) : Int) ≤ most) :
    Calls Tryz.prog 128 #[.pointer (some ⟨p, 0, none⟩), .string s] w (Did w B p S most (0, V + nb (X ++ byb s s.size) * 2 ^ o, o + (X ++ byb s s.size).length)) := by
  have g := Go.Proofs.YtldiojnkoobbmaaGreatDoor.bytes_any h s hL hs
  have ha : alignL (o + X.length) = o + X.length := by unfold alignL; omega
  rw [List.length_append, byb_length] at hm
  rw [bytesR_yes (by omega), ha] at g
  rw [nb_more, nb_byb_all, List.length_append, byb_length, ← Nat.add_assoc, Nat.mul_comm s.size 8]
  exact g
theorem bytesl_full (h : Wt w B p S most (V + nb X * 2 ^ o) (o + X.length)) (s : ByteArray) (hs : s.size ≤ 100000000) (hL : o + X.length ≤ 900000000) (h8 : (o + X.length) % 8 = 0) (hm : ¬ (((o + (X ++ byb s s.size).length + 7) / 8 : Nat) : Int) ≤ most) :
    Calls Tryz.prog 128 #[.pointer (some ⟨p, 0, none⟩), .string s] w (Did w B p S most (4, V + nb X * 2 ^ o, o + X.length)) := by
  have g := Go.Proofs.YtldiojnkoobbmaaGreatDoor.bytes_any h s hL hs
  rw [List.length_append, byb_length] at hm
  rw [bytesR_full (by omega)] at g
  exact g
end
end Go.Proofs.YtldiojnkoobbmaaGreatDoor.V
