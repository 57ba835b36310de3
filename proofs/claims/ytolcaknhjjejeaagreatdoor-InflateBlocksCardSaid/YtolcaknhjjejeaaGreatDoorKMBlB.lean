/- Texts of one place, one behind the other: BlB, RdD, IfB, IfK, IfO, IgA, IgB, IgE, IgF. -/
import Derived.Test.YtolcaknhjjejeaaGreatDoorKBlA
import Derived.Test.YtolcaknhjjejeaaGreatDoorKTbs
import Derived.Test.YtolcaknhjjejeaaGreatDoorKMMathT
import Derived.Test.YtolcaknhjjejeaaGreatDoorKMRns
import Derived.Test.YtolcaknhjjejeaaGreatDoorChecked
import Derived.KernelRfl
import Derived.Deep.OwnRows
import Derived.WalkKit
import Derived.Deep.Slices
import Derived.Deep.Fields
import Derived.SizedLaws
import Derived.Laws.IdiomStrings
import Derived.Lib.ConvBytes
import Derived.ArgAppend
import Derived.Laws.OwnMore
import Derived.Deep.AppendLies
import Derived.RangeFuncOwn
import Derived.Lib.Hide
import Derived.Outline
import Derived.Deep.RegionLaw
import Derived.RegionTactic
import Derived.BigRegion
import Derived.BigQuiet
import Derived.Deep.QuietTactic
import Derived.ChangeAlike
import Derived.Laws.Cells
import Derived.WalkSpells
import Derived.WalkMore
import Derived.IntWalk
import Derived.Laws.StructEq
import Derived.Test.YtolcaknhjjejeaaGreatDoorKP8Cpy
import Derived.OwnWalk
import Derived.Maps.AppendAt
import Derived.Test.YtolcaknhjjejeaaGreatDoorRows
import Derived.OpenShut
import Derived.LaidMore
import Derived.Deep.DeepHandedRow
import Derived.MakeChecks
import Derived.Test.YtolcaknhjjejeaaGreatDoorKDfA
import Derived.Recover
import Derived.RecoverIn
import Derived.Defers
import Derived.Laws.Pointers
import Derived.TacticsInMore
import Derived.RegionIn
import Derived.Deep.RegionHeld
import Derived.Test.YtolcaknhjjejeaaGreatDoorKBpB
import Derived.Test.YtolcaknhjjejeaaGreatDoorKMSaA
import Derived.LoopNIn
import Derived.RangeFuncNested
import Derived.RangeFuncBox
import Derived.RangeFuncCalls
import Derived.RangeFuncLeaves
import Derived.RangeFuncWrites
import Derived.Shelf.Abstract
import Derived.OwnWalkIn
import Derived.LoopIn
import Derived.Laws.EntriesVeiled
import Derived.Shelf.RegionOpen
import Derived.Test.YtolcaknhjjejeaaGreatDoorKMBwH
import Derived.Test.YtolcaknhjjejeaaGreatDoorKMBwK
import Derived.Deep.MidRow
import Derived.Test.YtolcaknhjjejeaaGreatDoorKMPkE
import Derived.Deep.CutRange
import Derived.Lib.AppendZeros
import Derived.Test.YtolcaknhjjejeaaGreatDoorKMMath
import Derived.Deep.LoopGhost
import Derived.Lib.AppendStr
import Derived.Laws.BytesString
import Derived.Test.YtolcaknhjjejeaaGreatDoorKSpO
import Derived.Test.YtolcaknhjjejeaaGreatDoorKMBwQ
import Derived.Test.YtolcaknhjjejeaaGreatDoorKMT9Tok
import Derived.Deep.RegionHeld3
import Derived.Test.YtolcaknhjjejeaaGreatDoorKSpT
import Derived.BigRegionIn
import Derived.Test.YtolcaknhjjejeaaGreatDoorKMBwX
import Derived.Test.YtolcaknhjjejeaaGreatDoorKMT9TkF
namespace Go.Proofs.YtolcaknhjjejeaaGreatDoor.V
open Go Go.RowKit M U
set_option linter.unusedVariables false
set_option linter.unusedSimpArgs false
theorem rep_bit (n : Nat) : ∀ x ∈ List.replicate n 0, x ≤ 1 := fun x hx => by rw [List.eq_of_mem_replicate hx]; omega
theorem app_bit {a b : List Nat} (ha : ∀ x ∈ a, x ≤ 1) (hb : ∀ x ∈ b, x ≤ 1) : ∀ x ∈ a ++ b, x ≤ 1 := fun x hx => (List.mem_append.1 hx).elim (ha x) (hb x)
theorem flat_bit {α : Type} {f : α → List Nat} {l : List α} (h : ∀ a ∈ l, ∀ x ∈ f a, x ≤ 1) : ∀ x ∈ l.flatMap f, x ≤ 1 := fun x hx => by
  obtain ⟨a, ha, hx⟩ := List.mem_flatMap.1 hx
  exact h a ha x hx
theorem wsy_bit (l1 : Nat → Nat) (n1 : Nat) (l2 : Nat → Nat) (n2 : Nat) (y : Sy) : ∀ x ∈ wsy l1 n1 l2 n2 y, x ≤ 1 := by
  unfold wsy
  refine app_bit ?_ (put_bit _ _)
  split <;> exact cdb_bit _ _
theorem stb_bit (o : Nat) (s : ByteArray) (last : Bool) : ∀ x ∈ stb o s last, x ≤ 1 := by
  unfold stb
  exact app_bit (app_bit (app_bit (app_bit (hdb_bit _ _) (rep_bit _)) (put_bit _ _)) (put_bit _ _)) (flat_bit fun _ _ => put_bit _ _)
theorem hdd_bit (L : List Tk) : ∀ x ∈ hdd L, x ≤ 1 := by
  unfold hdd dyb
  refine app_bit (app_bit (app_bit (app_bit (put_bit _ _) (put_bit _ _)) (put_bit _ _)) (flat_bit fun _ _ => put_bit _ _)) (flat_bit fun a _ => ?_)
  unfold wrn
  exact app_bit (cdb_bit _ _) (put_bit _ _)
theorem blk_bit (k : Nat) (L : List Tk) (raw : ByteArray) (last : Bool) (o : Nat) : ∀ x ∈ blk k L raw last o, x ≤ 1 := by
  unfold blk
  split
  · exact stb_bit _ _ _
  · split
    · exact app_bit (hdb_bit _ _) (flat_bit fun y _ => wsy_bit _ _ _ _ y)
    · exact app_bit (app_bit (hdb_bit _ _) (hdd_bit L)) (flat_bit fun y _ => wsy_bit _ _ _ _ y)
theorem text_eq (V n : Nat) : (⟨((List.range n).map fun i => UInt8.ofNat (byn V i)).toArray⟩ : ByteArray) = bstr (le V n) := by
  unfold bstr
  rw [le_eq]
  rfl
end Go.Proofs.YtolcaknhjjejeaaGreatDoor.V

namespace Go.Proofs.YtolcaknhjjejeaaGreatDoor.V
open Go Go.RowKit M U
set_option linter.unusedVariables false
set_option linter.unusedSimpArgs false
set_option maxRecDepth 1000000
theorem bw_new (w1 : World) : Bw w1.heap.size (w1.alloc (.cells #[.slice none 0 0] 43)) w1.heap.size (.slice none 0 0) [] :=
  ⟨heap_alloc_new _ _, World.ownsRow_nil _ _ _ _, Nat.le_refl _⟩
end Go.Proofs.YtolcaknhjjejeaaGreatDoor.V

namespace Go.Proofs.YtolcaknhjjejeaaGreatDoor.I
open M
set_option linter.unusedVariables false
set_option linter.unusedSimpArgs false
set_option maxRecDepth 1000000
structure Bt (s : ByteArray) (a : Nat) (B : List Nat) : Prop where
  fit : a + B.length ≤ 8 * s.size
  one : ∀ x ∈ B, x ≤ 1
  eq : M.nb s a B.length = V.nb B
theorem nb_add (s : ByteArray) (a x y : Nat) : M.nb s a (x + y) = M.nb s a x + M.nb s (a + x) y * 2 ^ x := by
  unfold M.nb
  rw [Nat.pow_add, Nat.mod_mul, Nat.pow_add 2 a x, ← Nat.div_div_eq_div_mul, Nat.mul_comm (2 ^ x)]
theorem two_parts {p q p' q' m : Nat} (hp : p < m) (hp' : p' < m) (h : p + q * m = p' + q' * m) : p = p' ∧ q = q' := by
  have e1 : p = p' := by
    have := congrArg (· % m) h
    simpa only [Nat.add_mul_mod_self_right, Nat.mod_eq_of_lt hp, Nat.mod_eq_of_lt hp'] using this
  subst e1
  exact ⟨rfl, Nat.eq_of_mul_eq_mul_right (by omega) (Nat.add_left_cancel h)⟩
section
variable {s : ByteArray} {a D L : Nat} {x : St} {X Y : List Nat}
theorem Bt.split (h : Bt s a (X ++ Y)) : Bt s a X ∧ Bt s (a + X.length) Y := by
  have e := h.eq
  have f := h.fit
  rw [List.length_append] at e f
  rw [nb_add, V.nb_append] at e
  have o1 : ∀ x ∈ X, x ≤ 1 := fun x hx => h.one x (List.mem_append_left _ hx)
  obtain ⟨e1, e2⟩ := two_parts (M.nb_lt s a X.length) (V.nb_lt X o1) e
  exact ⟨⟨by omega, o1, e1⟩, ⟨by omega, fun x hx => h.one x (List.mem_append_right _ hx), e2⟩⟩
theorem Bt.bits {k n : Nat} (h : Bt s x.1 (V.put n k ++ Y)) (hn : n < 2 ^ k) : bits k s D L x = .ok (n, (x.1 + k, x.2)) ∧ Bt s (x.1 + k) Y := by
  obtain ⟨h1, h2⟩ := h.split
  have e := h1.eq
  have f := h1.fit
  rw [V.put_length] at e f h2
  rw [V.nb_put, Nat.mod_eq_of_lt hn] at e
  refine ⟨?_, h2⟩
  unfold I.bits
  rw [if_pos f, e]
theorem cdb_succ (c s : Nat) : V.cdb c (s + 1) = c / 2 ^ s % 2 :: V.cdb c s := by
  unfold V.cdb
  rw [List.range_succ_eq_map, List.map_cons, List.map_map]
  congr 1
  apply List.map_congr_left
  intro i _
  show c / 2 ^ (s + 1 - 1 - (i + 1)) % 2 = _
  congr 3
  omega
theorem nb_cdb (c : Nat) : ∀ s, V.nb (V.cdb c s) = rv c s
  | 0 => rfl
  | s + 1 => by
    rw [cdb_succ]
    simp only [V.nb, rv, nb_cdb c s]
    omega
def Cd (l : Nat → Nat) (n : Nat) (l' : Nat → Nat) (n' : Nat) : Prop := Tbl l' n' ∧ ∀ i, i < n → l i ≠ 0 → i < n' ∧ l' i = l i ∧ cod l' n' i = cod l n i
theorem Bt.code {l l' : Nat → Nat} {n n' i : Nat} (h : Bt s x.1 (V.cdb (cod l n i) (l i) ++ Y)) (hc : Cd l n l' n') (hi : i < n) (h0 : l i ≠ 0) : nxt l' n' s D L x = .ok (i, (x.1 + l i, x.2)) ∧ Bt s (x.1 + l i) Y := by
  obtain ⟨c1, c2, c3⟩ := hc.2 i hi h0
  obtain ⟨h1, h2⟩ := h.split
  have e := h1.eq
  have f := h1.fit
  rw [V.cdb_length] at e f h2
  rw [nb_cdb] at e
  refine ⟨?_, h2⟩
  rw [← c2]
  exact nxt_is hc.1 c1 (by rw [c2]; exact h0) (by rw [c2]; exact f) (by rw [c2, e]; unfold M.rc; rw [c3, c2])
end
theorem cnt_tail {l l' : Nat → Nat} {a : Nat} (s : Nat) (hs : s ≠ 0) (h1 : ∀ i, i < a → l' i = l i) : ∀ n, a ≤ n → (∀ i, a ≤ i → i < n → l i = 0) → cnt l s n = cnt l' s a
  | 0, hn, _ => by
    obtain rfl : a = 0 := by omega
    rfl
  | n + 1, hn, h0 => by
    by_cases e : a = n + 1
    · subst e
      exact (cnt_congr s _ (fun i hi => (h1 i hi).symm))
    · simp only [cnt]
      rw [cnt_tail s hs h1 n (by omega) (fun i g1 g2 => h0 i g1 (by omega)), if_neg (by rw [h0 n (by omega) (by omega)]; omega)]
      rfl
theorem weight_tail {l l' : Nat → Nat} {a : Nat} (h1 : ∀ i, i < a → l' i = l i) : ∀ n, a ≤ n → (∀ i, a ≤ i → i < n → l i = 0) → weight l n = weight l' a
  | 0, hn, _ => by
    obtain rfl : a = 0 := by omega
    rfl
  | n + 1, hn, h0 => by
    by_cases e : a = n + 1
    · subst e
      exact (weight_congr _ (fun i hi => (h1 i hi).symm))
    · simp only [weight]
      rw [weight_tail h1 n (by omega) (fun i g1 g2 => h0 i g1 (by omega)), h0 n (by omega) (by omega)]
      rfl
theorem c0_tail {l l' : Nat → Nat} {a n : Nat} (ha : a ≤ n) (h1 : ∀ i, i < a → l' i = l i) (h0 : ∀ i, a ≤ i → i < n → l i = 0) : c0 l n = c0 l' a := by
  funext s
  unfold c0
  split
  · rfl
  · rename_i hs
    exact cnt_tail s hs h1 n ha h0
theorem kind_tail {l l' : Nat → Nat} {a n : Nat} (ha : a ≤ n) (h1 : ∀ i, i < a → l' i = l i) (h0 : ∀ i, a ≤ i → i < n → l i = 0) (hm : May l n) : kind l' a = kind l n := by
  have hm' : May l' a := ⟨by have := hm.1; omega, fun i hi => by rw [h1 i hi]; exact hm.2 i (by omega)⟩
  rw [kind_of hm, kind_of hm', weight_tail h1 n ha h0, c0_tail ha h1 h0]
theorem Cd.tail {l l' : Nat → Nat} {a n : Nat} (ha : a ≤ n) (h1 : ∀ i, i < a → l' i = l i) (h0 : ∀ i, a ≤ i → i < n → l i = 0) (hm : May l n) (hk : kind l n ≤ 2) : Cd l n l' a := by
  refine ⟨by unfold Tbl; rw [kind_tail ha h1 h0 hm]; omega, fun i hi hn0 => ?_⟩
  have hia : i < a := by
    apply Classical.byContradiction
    intro g
    exact hn0 (h0 i (by omega) hi)
  refine ⟨hia, h1 i hia, ?_⟩
  unfold cod
  rw [h1 i hia, c0_tail ha h1 h0, cnt_congr (l := l') (l' := l) _ i (fun j hj => h1 j (by omega))]
theorem Cd.fives : Cd (fun _ => 5) 30 (fun _ => 5) 32 :=
  ⟨by decide +kernel, fun i hi _ => ⟨by omega, rfl, by
    have h : ∀ i, i < 30 → cod (fun _ => 5) 32 i = cod (fun _ => 5) 30 i := by decide +kernel
    exact h i hi⟩⟩
theorem Cd.fixed : Cd V.fxl 288 fx 288 := ⟨by decide +kernel, fun i hi _ => ⟨hi, rfl, rfl⟩⟩
theorem gr_eq (b : List UInt8) (d : Nat) : ∀ k, gr b d k = V.Tx.grow b d k
  | 0 => rfl
  | k + 1 => by simp only [gr, V.Tx.grow, gr_eq b d k]
def tkb (l1 : Nat → Nat) (n1 : Nat) (l2 : Nat → Nat) (n2 : Nat) (t : V.Tk) : List Nat := (V.sy1 t).flatMap (V.wsy l1 n1 l2 n2)
structure Has (l1 : Nat → Nat) (l2 : Nat → Nat) (L : List V.Sy) : Prop where
  h1 : ∀ y ∈ L, y.d = false → l1 y.n ≠ 0
  h2 : ∀ y ∈ L, y.d = true → l2 y.n ≠ 0
section
variable {l1 l2 l d : Nat → Nat} {n1 n2 n m : Nat} {s : ByteArray} {D Lim : Nat} {x : St} {Y : List Nat}
theorem put_zero (e : Nat) : V.put e 0 = [] := rfl
theorem rd_tok {t : V.Tk} (hc1 : Cd l1 n1 l n) (hc2 : Cd l2 n2 d m) (hn1 : 286 ≤ n1) (hn2 : 30 ≤ n2) (hh : Has l1 l2 (V.sy1 t)) (ht : t.ok) (h : Bt s x.1 (tkb l1 n1 l2 n2 t ++ Y)) (hs : (V.Tx.step D x.2 t).1 = 0) (hL : (V.Tx.step D x.2 t).2.length - D ≤ Lim) (hD : D ≤ x.2.length) :
    ∃ y, sym1 l n d m () s D Lim x = .ok (.inl (), (y, (V.Tx.step D x.2 t).2)) ∧ y = x.1 + (tkb l1 n1 l2 n2 t).length ∧ Bt s y Y := by
  have hlen := V.Tx.step_len hs
  rcases V.Tx.step_ways D x.2 t with h1 | ⟨h1, h2⟩ | ⟨h1, h2, h3⟩ | ⟨h2, h3, h4⟩ | ⟨h2, h3, h4⟩
  · rw [V.Tx.step_arg h1] at hs; exact absurd hs (by simp)
  · rw [V.Tx.step_far h1 h2] at hs; exact absurd hs (by simp)
  · rw [V.Tx.step_long h1 h2 h3] at hs; exact absurd hs (by simp)
  · obtain ⟨t1, t2⟩ := V.isB_iff.1 h4
    have e1 : V.sy1 t = [⟨false, t.l.toNat, 0, 0⟩] := by unfold V.sy1; rw [if_pos t1]
    have e2 : tkb l1 n1 l2 n2 t = V.cdb (cod l1 n1 t.l.toNat) (l1 t.l.toNat) := by unfold tkb; rw [e1]; simp [V.wsy, put_zero]
    have hl := ht.l
    rw [e2] at h ⊢
    have h0 := hh.h1 ⟨false, t.l.toNat, 0, 0⟩ (by rw [e1]; exact List.mem_singleton.2 rfl) rfl
    obtain ⟨g1, g2⟩ := h.code (D := D) (L := Lim) hc1 (show t.l.toNat < n1 by omega) h0
    refine ⟨_, ?_, ?_, g2⟩
    · unfold sym1
      rw [bnd_of g1, if_pos (show t.l.toNat < 256 by omega)]
      rw [V.Tx.step_byte h2 h3 h4] at hL ⊢
      rw [V.Tx.szo_byte h4] at hlen
      unfold bnd app pur
      simp only [List.length_append, List.length_singleton] at hL ⊢
      rw [if_neg (by omega)]
    · rw [V.cdb_length]
  · obtain ⟨t1, t2, t3, t4, t5⟩ := V.isM_iff.1 h4
    have e1 : V.sy1 t = [⟨false, 257 + lsy t.n.toNat, lex t.n.toNat, lb (lsy t.n.toNat)⟩, ⟨true, dsy t.d.toNat, dex t.d.toNat, db (dsy t.d.toNat)⟩] := by unfold V.sy1; rw [if_neg (by omega)]
    have hn3 : 3 ≤ t.n.toNat ∧ t.n.toNat ≤ 258 := by omega
    have hd1 : 1 ≤ t.d.toNat ∧ t.d.toNat ≤ 32768 := by omega
    have q1 := (len_in hn3).1
    have q2 := (dist_in hd1).1
    have q3 := lex_lt hn3
    have q4 := ls_le q1
    have q5 := dex_lt hd1
    have q6 := lof_back hn3
    have q7 := dof_back hd1
    have h01 := hh.h1 _ (by rw [e1]; exact List.mem_cons_self) rfl
    have h02 := hh.h2 _ (by rw [e1]; exact List.mem_cons_of_mem _ (List.mem_singleton.2 rfl)) rfl
    simp only at h01 h02
    have e2 : tkb l1 n1 l2 n2 t = V.cdb (cod l1 n1 (257 + lsy t.n.toNat)) (l1 (257 + lsy t.n.toNat)) ++ (V.put (lex t.n.toNat) (lb (lsy t.n.toNat)) ++ (V.cdb (cod l2 n2 (dsy t.d.toNat)) (l2 (dsy t.d.toNat)) ++ V.put (dex t.d.toNat) (db (dsy t.d.toNat)))) := by
      unfold tkb; rw [e1]; simp [V.wsy]
    rw [e2] at h ⊢
    simp only [List.append_assoc] at h
    obtain ⟨g1, g2⟩ := h.code (D := D) (L := Lim) hc1 (show 257 + lsy t.n.toNat < n1 by omega) h01
    obtain ⟨g3, g4⟩ := Bt.bits (x := (x.1 + l1 (257 + lsy t.n.toNat), x.2)) (D := D) (L := Lim) g2 (show lex t.n.toNat < 2 ^ lb (lsy t.n.toNat) by omega)
    obtain ⟨g5, g6⟩ := Bt.code (x := (x.1 + l1 (257 + lsy t.n.toNat) + lb (lsy t.n.toNat), x.2)) (D := D) (L := Lim) g4 hc2 (show dsy t.d.toNat < n2 by omega) h02
    obtain ⟨g7, g8⟩ := Bt.bits (x := (x.1 + l1 (257 + lsy t.n.toNat) + lb (lsy t.n.toNat) + l2 (dsy t.d.toNat), x.2)) (D := D) (L := Lim) g6 q5
    refine ⟨_, ?_, ?_, g8⟩
    · unfold sym1
      rw [bnd_of g1, if_neg (by omega), if_neg (by omega)]
      unfold matR lenR
      have e3 : 257 + lsy t.n.toNat - 257 = lsy t.n.toNat := by omega
      have g3' : bnd (bits (if 257 + lsy t.n.toNat ≤ 285 then lb (257 + lsy t.n.toNat - 257) else 0)) (fun e => if 285 < 257 + lsy t.n.toNat ∨ lof (257 + lsy t.n.toNat - 257) e = 0 then fl 163 else pur (lof (257 + lsy t.n.toNat - 257) e)) s D Lim (x.1 + l1 (257 + lsy t.n.toNat), x.2) = .ok (t.n.toNat, (x.1 + l1 (257 + lsy t.n.toNat) + lb (lsy t.n.toNat), x.2)) := by
        rw [e3, if_pos (by omega), bnd_of g3, if_neg (by omega), q6]
        rfl
      rw [bnd_of g3', bnd_of g5]
      unfold dstR
      have g7' : bnd (bits (if dsy t.d.toNat ≤ 29 then db (dsy t.d.toNat) else 0)) (fun e => if 29 < dsy t.d.toNat ∨ dof (dsy t.d.toNat) e = 0 then fl 163 else pur (dof (dsy t.d.toNat) e)) s D Lim (x.1 + l1 (257 + lsy t.n.toNat) + lb (lsy t.n.toNat) + l2 (dsy t.d.toNat), x.2) = .ok (t.d.toNat, (x.1 + l1 (257 + lsy t.n.toNat) + lb (lsy t.n.toNat) + l2 (dsy t.d.toNat) + db (dsy t.d.toNat), x.2)) := by
        rw [if_pos (by omega), bnd_of g7, if_neg (by omega), q7]
        rfl
      rw [bnd_of g7']
      rw [V.Tx.step_match h2 h3 h4] at hL ⊢
      rw [V.Tx.szo_match h4] at hlen
      simp only [V.Tx.grow_length] at hL
      unfold bnd copy pur
      simp only
      rw [if_neg (by omega), if_neg (by omega), gr_eq]
    · simp only [List.length_append, V.cdb_length, V.put_length]; omega
theorem flat_tkb (L : List V.Tk) : (V.sys L).flatMap (V.wsy l1 n1 l2 n2) = L.flatMap (tkb l1 n1 l2 n2) ++ V.cdb (cod l1 n1 256) (l1 256) := by
  unfold V.sys tkb
  rw [List.flatMap_append, List.flatMap_assoc]
  simp [V.wsy, put_zero]
theorem run_len : ∀ (L : List V.Tk) (b : List UInt8), (V.Tx.run D b L).1 = 0 → b.length ≤ (V.Tx.run D b L).2.length
  | [], b, _ => Nat.le_refl _
  | t :: L, b, h => by
    by_cases q : (V.Tx.step D b t).1 = 0
    · rw [V.Tx.run_go q] at h ⊢
      have := run_len L _ h
      have := (V.Tx.step_len q).1
      omega
    · rw [V.Tx.run_no q] at h
      exact absurd h q
theorem rd_syms (hc1 : Cd l1 n1 l n) (hc2 : Cd l2 n2 d m) (hn1 : 286 ≤ n1) (hn2 : 30 ≤ n2) (h256 : l1 256 ≠ 0) : ∀ (L : List V.Tk) (k : Nat) (x : St), L.length < k → (∀ t ∈ L, t.ok) → Has l1 l2 (V.sys L) → Bt s x.1 ((V.sys L).flatMap (V.wsy l1 n1 l2 n2) ++ Y) → (V.Tx.run D x.2 L).1 = 0 → (V.Tx.run D x.2 L).2.length - D ≤ Lim → D ≤ x.2.length →
    ∃ y, loopR (sym1 l n d m) k () s D Lim x = .ok ((), (y, (V.Tx.run D x.2 L).2)) ∧ y = x.1 + ((V.sys L).flatMap (V.wsy l1 n1 l2 n2)).length ∧ Bt s y Y
  | [], k, x, hk, hg, hh, hB, hr, hL, hD => by
    obtain ⟨k, rfl⟩ : ∃ j, k = j + 1 := ⟨k - 1, by simp at hk; omega⟩
    rw [flat_tkb] at hB ⊢
    simp only [List.flatMap_nil, List.nil_append] at hB ⊢
    obtain ⟨g1, g2⟩ := hB.code (D := D) (L := Lim) hc1 (show 256 < n1 by omega) h256
    refine ⟨_, loop_end (b := ()) ?_, by rw [V.cdb_length], g2⟩
    unfold sym1
    rw [bnd_of g1, if_neg (by decide), if_pos rfl]
    rfl
  | t :: L, k, x, hk, hg, hh, hB, hr, hL, hD => by
    obtain ⟨k, rfl⟩ : ∃ j, k = j + 1 := ⟨k - 1, by simp at hk; omega⟩
    have e : V.sys (t :: L) = V.sy1 t ++ V.sys L := by unfold V.sys; simp
    have e2 : (V.sys (t :: L)).flatMap (V.wsy l1 n1 l2 n2) = tkb l1 n1 l2 n2 t ++ (V.sys L).flatMap (V.wsy l1 n1 l2 n2) := by rw [e, List.flatMap_append]; rfl
    rw [e2, List.append_assoc] at hB
    have q : (V.Tx.step D x.2 t).1 = 0 := by
      apply Classical.byContradiction
      intro g
      rw [V.Tx.run_no g] at hr
      exact g hr
    rw [V.Tx.run_go q] at hr hL ⊢
    have hl := V.Tx.step_len q
    have hrl := run_len L _ hr
    obtain ⟨y, g1, g2, g3⟩ := rd_tok (Lim := Lim) hc1 hc2 hn1 hn2 (t := t) ⟨fun z hz => hh.h1 z (by rw [e]; exact List.mem_append_left _ hz), fun z hz => hh.h2 z (by rw [e]; exact List.mem_append_left _ hz)⟩ (hg t List.mem_cons_self) hB q (by omega) hD
    obtain ⟨z, k1, k2, k3⟩ := rd_syms hc1 hc2 hn1 hn2 h256 L k (y, (V.Tx.step D x.2 t).2) (by simp at hk; omega) (fun u hu => hg u (List.mem_cons_of_mem _ hu)) ⟨fun z hz => hh.h1 z (by rw [e]; exact List.mem_append_right _ hz), fun z hz => hh.h2 z (by rw [e]; exact List.mem_append_right _ hz)⟩ g3 hr hL (by simp only; omega)
    refine ⟨z, by rw [loop_go g1]; exact k1, ?_, k3⟩
    rw [k2, g2, e2, List.length_append]
    omega
end
end Go.Proofs.YtolcaknhjjejeaaGreatDoor.I

namespace Go.Proofs.YtolcaknhjjejeaaGreatDoor.I
open M
set_option linter.unusedVariables false
set_option linter.unusedSimpArgs false
set_option maxRecDepth 1000000
theorem upk_zero (l : List Nat) (a : Nat) : ∀ k j, j < k → V.upk l a k ≤ j → l.getD j 0 = 0
  | 0, j, h, _ => by omega
  | k + 1, j, h, hu => by
    rw [V.upk_succ] at hu
    by_cases e : j = k
    · subst e
      split at hu
      · omega
      · omega
    · split at hu
      · exact upk_zero l a k j (by omega) (by omega)
      · exact upk_zero l a k j (by omega) hu
theorem upt_zero {l : List Nat} {a j : Nat} (hj : j < l.length) (h : V.upt l a ≤ j) : l.getD j 0 = 0 := upk_zero l a l.length j hj h
def ownF : List Nat → Nat → (Nat → Nat) → Nat → Nat
  | [], _, g => g
  | v :: l, i, g => ownF l (i + 1) (fun j => if j = od.getD i 0 then v else g j)
theorem ownF_not : ∀ (xs : List Nat) (i : Nat) (g : Nat → Nat) (j : Nat), (∀ p, p < xs.length → od.getD (i + p) 0 ≠ j) → ownF xs i g j = g j
  | [], i, g, j, _ => rfl
  | v :: l, i, g, j, h => by
    rw [ownF, ownF_not l (i + 1) _ j (fun p hp => by rw [Nat.add_assoc, Nat.add_comm 1 p]; exact h (p + 1) (by simp only [List.length_cons]; omega))]
    have := h 0 (by simp)
    exact if_neg (fun e => this e.symm)
theorem ownF_at : ∀ (xs : List Nat) (i : Nat) (g : Nat → Nat) (p : Nat), p < xs.length → (∀ q, p < q → q < xs.length → od.getD (i + q) 0 ≠ od.getD (i + p) 0) → ownF xs i g (od.getD (i + p) 0) = xs.getD p 0
  | [], i, g, p, h, _ => by simp at h
  | v :: l, i, g, 0, h, hi => by
    rw [ownF, ownF_not l (i + 1) _ _ (fun p hp => by rw [Nat.add_assoc, Nat.add_comm 1 p]; exact hi (p + 1) (by omega) (by simp only [List.length_cons]; omega))]
    exact if_pos rfl
  | v :: l, i, g, p + 1, h, hi => by
    have := ownF_at l (i + 1) (fun j => if j = od.getD i 0 then v else g j) p (by simp only [List.length_cons] at h; omega) (fun q h1 h2 => by
      rw [Nat.add_assoc i 1 q, Nat.add_comm 1 q, Nat.add_assoc i 1 p, Nat.add_comm 1 p]
      exact hi (q + 1) (by omega) (by simp only [List.length_cons]; omega))
    rw [Nat.add_assoc i 1 p, Nat.add_comm 1 p] at this
    rw [ownF, this]
    rfl
theorem od_all : ∀ j, j < 19 → ∃ p, p < 19 ∧ od.getD p 0 = j := by decide +kernel
theorem od_one : ∀ p, p < 19 → ∀ q, q < 19 → od.getD p 0 = od.getD q 0 → p = q := by decide +kernel
theorem od_ord : od = V.ord := rfl
theorem inl_len (l : Nat → Nat) : (V.inl l).length = 19 := by unfold V.inl; rw [List.length_map]; rfl
theorem inl_at (l : Nat → Nat) {p : Nat} (hp : p < 19) : (V.inl l).getD p 0 = l (od.getD p 0) := by
  unfold V.inl
  rw [← od_ord]
  have h : p < od.length := hp
  rw [List.getD, List.getD, List.getElem?_map, List.getElem?_eq_getElem h]
  rfl
theorem ownF_is (l : Nat → Nat) {j : Nat} (hj : j < 19) : ownF ((V.inl l).take (V.upt (V.inl l) 4)) 0 (fun _ => 0) j = l j := by
  obtain ⟨p, hp, rfl⟩ := od_all j hj
  have hl := inl_len l
  have hu := V.upt_le (V.inl l) 4
  have hlen : ((V.inl l).take (V.upt (V.inl l) 4)).length = V.upt (V.inl l) 4 := by rw [List.length_take]; omega
  by_cases c : p < V.upt (V.inl l) 4
  · have := ownF_at ((V.inl l).take (V.upt (V.inl l) 4)) 0 (fun _ => 0) p (by omega) (fun q h1 h2 e => by
      rw [Nat.zero_add, Nat.zero_add] at e
      have := od_one q (by omega) p hp e
      omega)
    rw [Nat.zero_add] at this
    rw [this, ← inl_at l hp, List.getD, List.getElem?_take, if_pos c, ← List.getD]
  · rw [ownF_not _ _ _ _ (fun q h1 e => by
      rw [Nat.zero_add] at e
      have := od_one q (by omega) p hp e
      omega)]
    rw [← inl_at l hp]
    exact (upt_zero (a := 4) (by omega) (by omega)).symm
section
variable {s : ByteArray} {D Lim : Nat} {Y : List Nat}
theorem rd_own : ∀ (xs : List Nat) (i : Nat) (g : Nat → Nat) (x : St), (∀ v ∈ xs, v < 8) → Bt s x.1 (xs.flatMap (fun v => V.put v 3) ++ Y) →
    ownR xs.length i g s D Lim x = .ok (ownF xs i g, (x.1 + 3 * xs.length, x.2)) ∧ Bt s (x.1 + 3 * xs.length) Y
  | [], i, g, x, _, h => ⟨rfl, by simpa using h⟩
  | v :: l, i, g, x, hv, h => by
    rw [List.flatMap_cons, List.append_assoc] at h
    obtain ⟨g1, g2⟩ := h.bits (D := D) (L := Lim) (show v < 2 ^ 3 from hv v List.mem_cons_self)
    obtain ⟨k1, k2⟩ := rd_own l (i + 1) (fun j => if j = od.getD i 0 then v else g j) (x.1 + 3, x.2) (fun u hu => hv u (List.mem_cons_of_mem _ hu)) g2
    have e : x.1 + 3 + 3 * l.length = x.1 + 3 * (v :: l).length := by rw [List.length_cons]; omega
    simp only at k1 k2
    rw [e] at k1 k2
    refine ⟨?_, k2⟩
    rw [List.length_cons, ownR, bnd_of g1, ownF]
    exact k1
theorem zrs_sym (n : Nat) : ∀ r ∈ zrs n, r.s = 0 ∨ r.s = 17 ∨ r.s = 18 := by
  induction n using Nat.strongRecOn with
  | _ n ih =>
    intro r hr
    by_cases h : 11 ≤ n
    · rw [zrs_many h, List.mem_cons] at hr
      rcases hr with rfl | hr
      · exact .inr (.inr rfl)
      · exact ih _ (by omega) r hr
    · by_cases h3 : 3 ≤ n
      · rw [zrs_some h h3, List.mem_singleton] at hr
        subst hr
        exact .inr (.inl rfl)
      · rw [zrs_few h3] at hr
        rw [List.eq_of_mem_replicate hr]
        exact .inl rfl
theorem zrs_one {n : Nat} (hn : 1 ≤ n) : ∃ r, r ∈ zrs n := by
  by_cases h : 11 ≤ n
  · rw [zrs_many h]; exact ⟨_, List.mem_cons_self⟩
  · by_cases h3 : 3 ≤ n
    · rw [zrs_some h h3]; exact ⟨_, List.mem_singleton.2 rfl⟩
    · obtain ⟨m, rfl⟩ : ∃ m, n = m + 1 := ⟨n - 1, by omega⟩
      rw [zrs_few h3, List.replicate_succ]; exact ⟨_, List.mem_cons_self⟩
def Rft (r : Rn) : Prop := r.e < 2 ^ V.rbn r.s
theorem rbn_few {v : Nat} (hv : v ≤ 15) : V.rbn v = 0 := by unfold V.rbn; rw [if_pos (by omega)]
theorem zrs_ft (n : Nat) : ∀ r ∈ zrs n, Rft r := by
  induction n using Nat.strongRecOn with
  | _ n ih =>
    intro r hr
    by_cases h : 11 ≤ n
    · rw [zrs_many h, List.mem_cons] at hr
      rcases hr with rfl | hr
      · show _ < 128; simp only; omega
      · exact ih _ (by omega) r hr
    · by_cases h3 : 3 ≤ n
      · rw [zrs_some h h3, List.mem_singleton] at hr
        subst hr
        show _ < 8; simp only; omega
      · rw [zrs_few h3] at hr
        rw [List.eq_of_mem_replicate hr]
        show 0 < 1; omega
theorem oths_ft (v : Nat) (hv : v ≤ 15) (n : Nat) : ∀ r ∈ oths v n, Rft r := by
  induction n using Nat.strongRecOn with
  | _ n ih =>
    intro r hr
    by_cases h : 3 ≤ n
    · rw [oths_many h, List.mem_cons] at hr
      rcases hr with rfl | hr
      · show _ < 4; simp only; omega
      · exact ih _ (by omega) r hr
    · rw [oths_few h] at hr
      rw [List.eq_of_mem_replicate hr]
      unfold Rft
      rw [rbn_few hv]
      show 0 < 1; omega
theorem pk_ft : ∀ l : List Nat, (∀ v ∈ l, v ≤ 15) → ∀ r ∈ pk l, Rft r := by
  intro l
  generalize hn : l.length = n
  induction n using Nat.strongRecOn generalizing l with
  | _ n ih =>
    cases l with
    | nil => intro _ r hr; rw [pk_nil] at hr; cases hr
    | cons v l =>
      intro hl r hr
      rw [pk_cons, List.mem_append] at hr
      have hv := hl v (by simp)
      rcases hr with hr | hr
      · unfold one at hr
        split at hr
        · exact zrs_ft _ r hr
        · unfold oth at hr
          rw [List.mem_cons] at hr
          rcases hr with rfl | hr
          · unfold Rft; rw [rbn_few hv]; show 0 < 1; omega
          · exact oths_ft v hv _ r hr
      · rw [List.length_cons] at hn
        exact ih (l.drop (ru v l)).length (by rw [List.length_drop]; omega) _ rfl (fun x hx => hl x (by simp [List.mem_of_mem_drop hx])) r hr
theorem pk_lit : ∀ l : List Nat, (∀ v ∈ l, v ≤ 15) → (∃ v ∈ l, v ≠ 0) → ∃ r ∈ pk l, 1 ≤ r.s ∧ r.s ≤ 15 := by
  intro l
  generalize hn : l.length = n
  induction n using Nat.strongRecOn generalizing l with
  | _ n ih =>
    cases l with
    | nil => rintro _ ⟨v, hv, _⟩; cases hv
    | cons v l =>
      rintro hl ⟨x, hx, hx0⟩
      rw [pk_cons]
      by_cases h0 : v = 0
      · subst h0
        have hxl : x ∈ l := (List.mem_cons.1 hx).elim (fun e => absurd e hx0) id
        rw [← List.take_append_drop (ru 0 l) l, List.mem_append, ru_take] at hxl
        rcases hxl with g | g
        · exact absurd (List.eq_of_mem_replicate g) hx0
        · rw [List.length_cons] at hn
          obtain ⟨r, h1, h2⟩ := ih (l.drop (ru 0 l)).length (by rw [List.length_drop]; omega) _ rfl (fun y hy => hl y (by simp [List.mem_of_mem_drop hy])) ⟨x, g, hx0⟩
          exact ⟨r, List.mem_append_right _ h1, h2⟩
      · refine ⟨⟨v, 0⟩, List.mem_append_left _ ?_, ?_, hl v List.mem_cons_self⟩
        · unfold one oth; rw [if_neg h0]; exact List.mem_cons_self
        · show 1 ≤ v; omega
theorem ru_max (v : Nat) : ∀ l : List Nat, ∀ x r, l.drop (ru v l) = x :: r → x ≠ v
  | [], x, r, h => by simp at h
  | y :: l, x, r, h => by
    unfold ru at h
    split at h
    · rw [List.drop_succ_cons] at h; exact ru_max v l x r h
    · rename_i q
      rw [List.drop_zero] at h
      cases h
      exact q
theorem pk_two {l : List Nat} (hl : ∀ v ∈ l, v ≤ 15) (h5 : 5 ≤ l.length) (hx : ∃ v ∈ l, v ≠ 0) : ∃ r1 ∈ pk l, ∃ r2 ∈ pk l, r1.s ≠ r2.s := by
  cases l with
  | nil => simp at h5
  | cons v l =>
    rw [List.length_cons] at h5
    by_cases h0 : v = 0
    · subst h0
      obtain ⟨r2, g1, g2, g3⟩ := pk_lit _ hl hx
      obtain ⟨r1, k1⟩ := zrs_one (show 1 ≤ ru 0 l + 1 by omega)
      have k2 := zrs_sym _ r1 k1
      refine ⟨r1, ?_, r2, g1, by omega⟩
      rw [pk_cons]
      exact List.mem_append_left _ (by unfold one; rw [if_pos rfl]; exact k1)
    · have hf : (⟨v, 0⟩ : Rn) ∈ pk (v :: l) := by rw [pk_cons]; exact List.mem_append_left _ (by unfold one oth; rw [if_neg h0]; exact List.mem_cons_self)
      have hv := hl v List.mem_cons_self
      refine ⟨_, hf, ?_⟩
      rw [pk_cons]
      by_cases c : 3 ≤ ru v l
      · refine ⟨⟨16, min (ru v l) 6 - 3⟩, List.mem_append_left _ ?_, by simp only; omega⟩
        unfold one oth
        rw [if_neg h0, Nat.add_sub_cancel, oths_many c]
        exact List.mem_cons_of_mem _ List.mem_cons_self
      · cases hd : l.drop (ru v l) with
        | nil =>
          have := congrArg List.length hd
          rw [List.length_drop] at this
          simp at this
          omega
        | cons x r =>
          have hne := ru_max v l x r hd
          have hx15 : x ≤ 15 := hl x (by
            have : x ∈ l.drop (ru v l) := by rw [hd]; exact List.mem_cons_self
            simp [List.mem_of_mem_drop this])
          rw [pk_cons]
          by_cases hx0 : x = 0
          · obtain ⟨r1, k1⟩ := zrs_one (show 1 ≤ ru x r + 1 by omega)
            have k2 := zrs_sym _ r1 k1
            refine ⟨r1, List.mem_append_right _ (List.mem_append_left _ (by unfold one; rw [if_pos hx0]; exact k1)), ?_⟩
            show v ≠ r1.s
            omega
          · refine ⟨⟨x, 0⟩, List.mem_append_right _ (List.mem_append_left _ (by unfold one oth; rw [if_neg hx0]; exact List.mem_cons_self)), ?_⟩
            show v ≠ x
            exact fun e => hne e.symm
theorem rd_runs {l o : Nat → Nat} {N : Nat} {all : List Nat} (hc : Cd l 19 o 19) : ∀ (rs : List Rn) (out : List Nat) (k : Nat) (x : St), rs.length < k → (∀ r ∈ rs, r.s < 19 ∧ l r.s ≠ 0 ∧ Rft r) → Bt s x.1 (rs.flatMap (V.wrn l) ++ Y) → unp N out rs = (0, all) →
    ∃ y, loopR (len1 o N) k out s D Lim x = .ok (all, (y, x.2)) ∧ y = x.1 + (rs.flatMap (V.wrn l)).length ∧ Bt s y Y
  | [], out, k, x, hk, _, h, hu => by
    obtain ⟨k, rfl⟩ : ∃ j, k = j + 1 := ⟨k - 1, by simp at hk; omega⟩
    have hN : ¬ out.length < N := by
      intro g
      rw [unp_less g] at hu
      cases hu
    rw [unp_end hN] at hu
    injection hu with _ hu
    subst hu
    refine ⟨x.1, loop_end (b := out) ?_, by simp, by simpa using h⟩
    unfold len1
    rw [if_pos (by omega)]
    rfl
  | r :: rs, out, k, x, hk, hr, h, hu => by
    obtain ⟨k, rfl⟩ : ∃ j, k = j + 1 := ⟨k - 1, by simp at hk; omega⟩
    obtain ⟨q1, q2, q3⟩ := hr r List.mem_cons_self
    have a1 : tms r ≠ 0 := fun e => by rw [unp_arg e] at hu; cases hu
    have a2 : ¬ (r.s = 16 ∧ out = []) := fun e => by rw [unp_first a1 e.1 e.2] at hu; cases hu
    have a3 : ¬ N < out.length + tms r := fun e => by rw [unp_more a1 a2 e] at hu; cases hu
    rw [unp_go a1 a2 a3] at hu
    rw [List.flatMap_cons, List.append_assoc] at h
    have h' : Bt s x.1 (V.cdb (cod l 19 r.s) (l r.s) ++ (V.put r.e (V.rbn r.s) ++ (rs.flatMap (V.wrn l) ++ Y))) := by
      unfold V.wrn at h
      rw [List.append_assoc] at h
      exact h
    obtain ⟨g1, g2⟩ := h'.code (D := D) (L := Lim) hc q1 q2
    obtain ⟨g3, g4⟩ := Bt.bits (x := (x.1 + l r.s, x.2)) (D := D) (L := Lim) g2 q3
    obtain ⟨y, k1, k2, k3⟩ := rd_runs hc rs (out ++ List.replicate (tms r) (vlr out r)) k (x.1 + l r.s + V.rbn r.s, x.2) (by simp only [List.length_cons] at hk; omega) (fun u hu => hr u (List.mem_cons_of_mem _ hu)) g4 hu
    refine ⟨y, ?_, ?_, k3⟩
    · refine (loop_go (a' := out ++ List.replicate (tms r) (vlr out r)) (y := (x.1 + l r.s + V.rbn r.s, x.2)) ?_).trans k1
      unfold len1
      rw [if_neg (by omega), bnd_of g1]
      have e : rbm r.s = V.rbn r.s := rfl
      rw [e, bnd_of g3]
      have c : ¬ ((r.s = 16 ∧ out = []) ∨ N < out.length + tms ⟨r.s, r.e⟩) := fun e => e.elim a2 a3
      rw [if_neg c]
      rfl
    · rw [k2, List.flatMap_cons, List.length_append]
      unfold V.wrn
      rw [List.length_append, V.cdb_length, V.put_length]
      simp only
      omega
theorem put3_len : ∀ xs : List Nat, (xs.flatMap fun v => V.put v 3).length = 3 * xs.length
  | [] => rfl
  | v :: xs => by rw [List.flatMap_cons, List.length_append, put3_len xs, V.put_length, List.length_cons]; omega
theorem map_getD {f : Nat → Nat} {n i : Nat} (hi : i < n) : ((List.range n).map f).getD i 0 = f i := by
  rw [List.getD, List.getElem?_map, List.getElem?_range hi]; rfl
end
end Go.Proofs.YtolcaknhjjejeaaGreatDoor.I

namespace Go.Proofs.YtolcaknhjjejeaaGreatDoor.I
open M
set_option linter.unusedVariables false
set_option linter.unusedSimpArgs false
set_option maxRecDepth 1000000
theorem hfl_kind (c : Nat → Nat) {n L : Nat} (h1 : 1 ≤ L) (h15 : L ≤ 15) (hn : n ≤ 2 ^ L) (h320 : n ≤ 320) : kind (V.hfl c n L) n ≤ 2 := by
  rw [V.hfl_eq, pl_kind (V.hf_lv c n) h320 (V.hf_nds c h1 hn) h1 h15]
  split
  · omega
  · split <;> omega
theorem hfl_two (c : Nat → Nat) {n L : Nat} (h1 : 1 ≤ L) (h15 : L ≤ 15) (hn : n ≤ 2 ^ L) (h320 : n ≤ 320) {i j : Nat} (hi : i < n) (hj : j < n) (hij : i ≠ j) (ci : 0 < c i) (cj : 0 < c j) : kind (V.hfl c n L) n = 2 := by
  rw [V.hfl_eq, pl_kind (V.hf_lv c n) h320 (V.hf_nds c h1 hn) h1 h15]
  obtain ⟨p, p1, p2⟩ := (V.hf_lv c n).all i hi ci
  obtain ⟨q, q1, q2⟩ := (V.hf_lv c n).all j hj cj
  rw [if_neg (by omega), if_neg]
  intro e
  have : p = q := by omega
  subst this
  exact hij (p2.symm.trans q2)
theorem hfl_none (c : Nat → Nat) {n L : Nat} (h1 : 1 ≤ L) (hn : n ≤ 2 ^ L) {i : Nat} (hi : i < n) (ci : 0 < c i) : V.hfl c n L i ≠ 0 := fun e => by
  have := (pl_zero (V.hf_lv c n) (V.hf_nds c h1 hn) h1 hi).1 e
  omega
section
variable {s : ByteArray} {D Lim : Nat} {Y : List Nat}
def hds (a b u : Nat) (xs : List Nat) (rs : List Rn) (l : Nat → Nat) : List Nat := V.put (a - 257) 5 ++ V.put (b - 1) 5 ++ V.put (u - 4) 4 ++ xs.flatMap (fun v => V.put v 3) ++ rs.flatMap (V.wrn l)
theorem rd_head {a b u K : Nat} {xs all : List Nat} {rs : List Rn} {l : Nat → Nat} (ha : 257 ≤ a ∧ a ≤ 286) (hb : 1 ≤ b ∧ b ≤ 30) (hu : 4 ≤ u ∧ u ≤ 19) (hx : xs.length = u) (l8 : ∀ v ∈ xs, v < 8) (hc : Cd l 19 (ownF xs 0 fun _ => 0) 19)
    (ko : kind (ownF xs 0 fun _ => 0) 19 = 2) (rl : rs.length < K) (rok : ∀ r ∈ rs, r.s < 19 ∧ l r.s ≠ 0 ∧ Rft r) (hun : unp (a + b) [] rs = (0, all)) (h256 : all.getD 256 0 ≠ 0) (t1 : Tbl (lit all) a) (t2 : Tbl (dis all a) b) (x : St) (h : Bt s x.1 (hds a b u xs rs l ++ Y)) :
    dyn K s D Lim x = .ok ((all, a, b), (x.1 + (hds a b u xs rs l).length, x.2)) ∧ Bt s (x.1 + (hds a b u xs rs l).length) Y := by
  unfold hds at h ⊢
  simp only [List.append_assoc] at h
  obtain ⟨g1, k1⟩ := h.bits (D := D) (L := Lim) (show a - 257 < 2 ^ 5 by omega)
  obtain ⟨g2, k2⟩ := Bt.bits (x := (x.1 + 5, x.2)) (D := D) (L := Lim) k1 (show b - 1 < 2 ^ 5 by omega)
  obtain ⟨g3, k3'⟩ := Bt.bits (x := (x.1 + 5 + 5, x.2)) (D := D) (L := Lim) k2 (show u - 4 < 2 ^ 4 by omega)
  obtain ⟨g4, k4⟩ := rd_own (D := D) (Lim := Lim) xs 0 (fun _ => 0) (x.1 + 5 + 5 + 4, x.2) l8 k3'
  obtain ⟨y, g5, q5, k5⟩ := rd_runs (D := D) (Lim := Lim) (N := a + b) hc rs [] K (x.1 + 5 + 5 + 4 + 3 * xs.length, x.2) rl rok k4 hun
  have hlen : x.1 + (V.put (a - 257) 5 ++ V.put (b - 1) 5 ++ V.put (u - 4) 4 ++ xs.flatMap (fun v => V.put v 3) ++ rs.flatMap (V.wrn l)).length = y := by
    rw [q5]
    simp only [List.length_append, V.put_length, put3_len]
    omega
  rw [hlen]
  refine ⟨?_, k5⟩
  rw [hx] at g4 g5
  unfold dyn
  rw [bnd_of g1, bnd_of g2, bnd_of g3, if_neg (by omega), show u - 4 + 4 = u by omega, bnd_of g4, if_neg (by rw [ko]; omega)]
  rw [show a - 257 + 257 = a by omega, show b - 1 + 1 = b by omega, bnd_of g5]
  unfold tabR
  rw [if_neg]
  · rfl
  · rintro (e | e | e)
    · exact h256 e
    · exact e t1
    · exact e t2
set_option maxHeartbeats 1000000 in
theorem rd_dyn {L : List V.Tk} (hm : ∀ t ∈ L, V.may t = true) (hg : ∀ t ∈ L, t.ok) {K : Nat} (hK : 1000 ≤ K) (x : St) (h : Bt s x.1 (V.hdd L ++ Y)) :
    ∃ t : List Nat × Nat × Nat, dyn K s D Lim x = .ok (t, (x.1 + (V.hdd L).length, x.2)) ∧ Bt s (x.1 + (V.hdd L).length) Y ∧ Cd (V.ll1 L) 286 (lit t.1) t.2.1 ∧ Cd (V.ll2 L) 30 (dis t.1 t.2.1) t.2.2 := by
  have e1 : (V.lx1 L).length = 286 := by unfold V.lx1; simp
  have e2 : (V.lx2 L).length = 30 := by unfold V.lx2; simp
  have e3 := inl_len (V.ll3 L)
  have u1 := V.upt_le (V.lx1 L) 257
  have u2 := V.upt_le (V.lx2 L) 1
  obtain ⟨a, hda⟩ : ∃ a, V.upt (V.lx1 L) 257 = a := ⟨_, rfl⟩
  obtain ⟨b, hdb⟩ : ∃ b, V.upt (V.lx2 L) 1 = b := ⟨_, rfl⟩
  rw [hda] at u1
  rw [hdb] at u2
  have u3 := V.upt_le (V.inl (V.ll3 L)) 4
  have z1 : ∀ i, i < 286 → (V.lx1 L).getD i 0 = V.ll1 L i := fun i hi => map_getD hi
  have z2 : ∀ i, i < 30 → (V.lx2 L).getD i 0 = V.ll2 L i := fun i hi => map_getD hi
  have t1 : ∀ i, a ≤ i → i < 286 → V.ll1 L i = 0 := fun i h1 h2 => by rw [← z1 i h2]; exact upt_zero (a := 257) (by omega) (by rw [hda]; exact h1)
  have t2 : ∀ i, b ≤ i → i < 30 → V.ll2 L i = 0 := fun i h1 h2 => by rw [← z2 i h2]; exact upt_zero (a := 1) (by omega) (by rw [hdb]; exact h1)
  have o3 : ∀ i, i < 19 → ownF ((V.inl (V.ll3 L)).take (V.upt (V.inl (V.ll3 L)) 4)) 0 (fun _ => 0) i = V.ll3 L i := fun i hi => ownF_is (V.ll3 L) hi
  have l8 : ∀ v ∈ (V.inl (V.ll3 L)).take (V.upt (V.inl (V.ll3 L)) 4), v < 8 := fun v hv => by
    obtain ⟨j, _, rfl⟩ := List.mem_map.1 (List.mem_of_mem_take hv)
    have := V.hfl_le (V.rc (V.rrs L)) (n := 19) (L := 7) (by decide) (by decide) j
    show V.ll3 L j < 8
    unfold V.ll3
    omega
  have ol : ((V.inl (V.ll3 L)).take (V.upt (V.inl (V.ll3 L)) 4)).length = V.upt (V.inl (V.ll3 L)) 4 := by rw [List.length_take]; omega
  have h256 : V.ll1 L 256 ≠ 0 := (V.has_code L hm hg (y := ⟨false, 256, 0, 0⟩) (by unfold V.sys; simp)).1 rfl
  -- all lengths, one behind the other
  obtain ⟨all, hall⟩ : ∃ all, (V.lx1 L).take (a) ++ (V.lx2 L).take (b) = all := ⟨_, rfl⟩
  have hrr : V.rrs L = pk all := by unfold V.rrs; rw [hda, hdb, hall]
  have l1 : ((V.lx1 L).take (a)).length = a := by rw [List.length_take]; omega
  have l2 : ((V.lx2 L).take (b)).length = b := by rw [List.length_take]; omega
  have lal : all.length = a + b := by rw [← hall, List.length_append, l1, l2]
  have v15 : ∀ v ∈ all, v ≤ 15 := fun v hv => by
    rw [← hall] at hv
    rcases List.mem_append.1 hv with g | g
    · obtain ⟨i, _, rfl⟩ := List.mem_map.1 (List.mem_of_mem_take g)
      exact V.hfl_le _ (by decide) (by decide) i
    · obtain ⟨i, _, rfl⟩ := List.mem_map.1 (List.mem_of_mem_take g)
      exact V.hfl_le _ (by decide) (by decide) i
  have a1 : ∀ i, i < a → lit all i = V.ll1 L i := fun i hi => by
    unfold lit
    rw [← hall, List.getD, List.getElem?_append_left (by omega), List.getElem?_take, if_pos hi, ← List.getD]
    exact z1 i (by omega)
  have a2 : ∀ i, i < b → dis all (a) i = V.ll2 L i := fun i hi => by
    unfold dis
    rw [← hall, List.getD, List.getElem?_append_right (by omega), l1, Nat.add_sub_cancel_left, List.getElem?_take, if_pos hi, ← List.getD]
    exact z2 i (by omega)
  have c1 : Cd (V.ll1 L) 286 (lit all) (a) := Cd.tail (by omega) a1 t1 (V.hfl_fine _ (by decide) (by decide) (by decide) (by decide)).may (hfl_kind _ (by decide) (by decide) (by decide) (by decide))
  have c2 : Cd (V.ll2 L) 30 (dis all (a)) (b) := Cd.tail (by omega) a2 t2 (V.hfl_fine _ (by decide) (by decide) (by decide) (by decide)).may (hfl_kind _ (by decide) (by decide) (by decide) (by decide))
  have ge256 : all.getD 256 0 = V.ll1 L 256 := a1 256 (by omega)
  -- the runs
  have rok : ∀ r ∈ V.rrs L, r.s < 19 ∧ V.ll3 L r.s ≠ 0 ∧ Rft r := fun r hr => by
    have q1 := V.pk_ok all v15 r (by rw [← hrr]; exact hr)
    have q2 := pk_ft all v15 r (by rw [← hrr]; exact hr)
    have q3 : r.s < 19 := by have := q1.1; omega
    exact ⟨q3, hfl_none _ (by decide) (by decide) q3 (V.rc_pos _ r hr), q2⟩
  have k3 : kind (V.ll3 L) 19 = 2 := by
    obtain ⟨r1, h1, r2, h2, hne⟩ := pk_two v15 (by omega) ⟨V.ll1 L 256, by rw [← ge256, List.getD, List.getElem?_eq_getElem (show 256 < all.length by omega)]; exact List.getElem_mem _, h256⟩
    rw [← hrr] at h1 h2
    exact hfl_two _ (by decide) (by decide) (by decide) (by decide) (rok r1 h1).1 (rok r2 h2).1 hne (V.rc_pos _ r1 h1) (V.rc_pos _ r2 h2)
  have m3 : May (V.ll3 L) 19 := (V.hfl_fine _ (by decide) (by decide) (by decide) (by decide)).may
  have ko := kind_tail (Nat.le_refl 19) o3 (fun i g1 g2 => by omega) m3
  have c3 := Cd.tail (Nat.le_refl 19) o3 (fun i g1 g2 => by omega) m3 (by omega)
  have hun : unp (a + b) [] (V.rrs L) = (0, all) := by
    have := unp_pk (n := a + b) (L := []) all [] (fun v hv => by have := v15 v hv; omega) (by simp; omega)
    rw [List.append_nil, List.nil_append] at this
    rw [hrr, this, unp_end (by omega)]
  have rl := V.rrs_len L
  have hh : V.hdd L = hds (a) (b) (V.upt (V.inl (V.ll3 L)) 4) ((V.inl (V.ll3 L)).take (V.upt (V.inl (V.ll3 L)) 4)) (V.rrs L) (V.ll3 L) := by rw [← hda, ← hdb]; rfl
  rw [hh] at h ⊢
  have := rd_head (D := D) (Lim := Lim) (by omega) (by omega) (by omega) ol l8 c3 (ko.trans k3) (show (V.rrs L).length < K by omega) rok hun (by rw [ge256]; exact h256) c1.1 c2.1 x h
  exact ⟨(all, a, b), this.1, this.2, c1, c2⟩
end
end Go.Proofs.YtolcaknhjjejeaaGreatDoor.I

namespace Go.Proofs.YtolcaknhjjejeaaGreatDoor.I
open M
set_option linter.unusedVariables false
set_option linter.unusedSimpArgs false
set_option maxRecDepth 1000000
theorem nb_byb (r : ByteArray) : ∀ k, k ≤ r.size → V.nb (V.byb r k) = vl (r.data.toList.take k)
  | 0, _ => by simp [V.byb, V.nb, vl]
  | k + 1, h => by
    have hl := size_list r
    have e : r.data.toList.take (k + 1) = r.data.toList.take k ++ [r.data.toList.getD k 0] := by
      rw [List.take_add_one, List.getD, List.getElem?_eq_getElem (by omega)]
      rfl
    rw [V.byb_succ, V.nb_append, nb_byb r k (by omega), e, vl_append, V.byb_length, V.nb_put, List.length_take, Nat.min_eq_left (by omega)]
    have e2 : vl [r.data.toList.getD k 0] = V.bty r k := by simp [vl, V.bty]
    rw [e2, Nat.mod_eq_of_lt (by have := V.bty_lt r k; omega), p256', Nat.mul_comm 8 k, Nat.mul_comm]
theorem nb_part (s : ByteArray) (p n : Nat) (h : p ≤ s.size) : M.nb s (8 * p) (8 * n) = vl ((s.data.toList.drop p).take n) := by
  have hl := size_list s
  have e := vl_append (s.data.toList.take p) (s.data.toList.drop p)
  rw [List.take_append_drop, List.length_take, Nat.min_eq_left (by omega)] at e
  have hlt := vl_lt (s.data.toList.take p)
  rw [List.length_take, Nat.min_eq_left (by omega)] at hlt
  unfold M.nb M.tx
  rw [← p256', ← p256', e, Nat.add_mul_div_left _ _ (Nat.pow_pos (by decide)), Nat.div_eq_of_lt hlt, Nat.zero_add]
  by_cases c : n ≤ (s.data.toList.drop p).length
  · rw [vl_take _ _ c]
  · rw [List.take_of_length_le (by omega), Nat.mod_eq_of_lt]
    exact Nat.lt_of_lt_of_le (vl_lt _) (Nat.pow_le_pow_right (by decide) (by omega))
theorem byt_is {s r : ByteArray} {p n : Nat} {Y : List Nat} (hn : r.size = n) (h : Bt s (8 * p) (V.byb r r.size ++ Y)) : I.byt s p n = r.data.toList := by
  obtain ⟨h1, _⟩ := h.split
  have e := h1.eq
  have f := h1.fit
  have hr := size_list r
  have hs := size_list s
  rw [V.byb_length, hn] at e f
  rw [hn] at hr
  rw [Nat.mul_comm n 8, nb_part s p n (by omega), nb_byb r n (by omega), List.take_of_length_le (Nat.le_of_eq hr)] at e
  have l1 : ((s.data.toList.drop p).take n).length = n := by rw [List.length_take, List.length_drop]; omega
  have g1 := le_vl ((s.data.toList.drop p).take n)
  have g2 := le_vl r.data.toList
  unfold I.byt
  rw [← g1, ← g2, e, l1, hr]
section
variable {s : ByteArray} {D Lim : Nat} {Y : List Nat}
theorem pd_up (a : Nat) : 8 * ((a + 7) / 8) = a + V.pd a := by unfold V.pd; omega
theorem rd_sto {r : ByteArray} (hr : r.size ≤ 65535) (x : St) (h : Bt s x.1 (List.replicate (V.pd x.1) 0 ++ (V.put r.size 16 ++ (V.put (65535 - r.size) 16 ++ (V.byb r r.size ++ Y))))) (hL : x.2.length - D + r.size ≤ Lim) :
    stor s D Lim x = .ok ((), (x.1 + V.pd x.1 + 32 + 8 * r.size, x.2 ++ r.data.toList)) ∧ Bt s (x.1 + V.pd x.1 + 32 + 8 * r.size) Y := by
  obtain ⟨_, h1⟩ := h.split
  rw [List.length_replicate] at h1
  obtain ⟨g1, k1⟩ := Bt.bits (x := (x.1 + V.pd x.1, x.2)) (D := D) (L := Lim) h1 (show r.size < 2 ^ 16 by omega)
  obtain ⟨g2, k2⟩ := Bt.bits (x := (x.1 + V.pd x.1 + 16, x.2)) (D := D) (L := Lim) k1 (show 65535 - r.size < 2 ^ 16 by omega)
  have hz := size_list r
  have e0 := pd_up x.1
  obtain ⟨p, hp⟩ : ∃ p, x.1 + V.pd x.1 + 16 + 16 = 8 * p := ⟨(x.1 + V.pd x.1 + 16 + 16) / 8, by omega⟩
  simp only [hp] at k2
  have eb := byt_is rfl k2
  obtain ⟨k3, k4⟩ := k2.split
  have f := k3.fit
  rw [V.byb_length] at f k4
  have g3 : byts r.size s D Lim (8 * p, x.2) = .ok (r.data.toList, (8 * (p + r.size), x.2)) := by
    unfold byts
    rw [show (8 * p + 7) / 8 = p by omega, if_pos (by omega), eb]
  have e1 : 8 * p + r.size * 8 = x.1 + V.pd x.1 + 32 + 8 * r.size := by omega
  rw [e1] at k4
  refine ⟨?_, k4⟩
  unfold stor
  rw [bnd_of (show algn s D Lim x = .ok ((), (x.1 + V.pd x.1, x.2)) from by unfold algn; rw [e0]), bnd_of g1, bnd_of g2, if_neg (by omega)]
  simp only [hp]
  rw [bnd_of g3]
  unfold app
  simp only
  rw [if_neg (by omega)]
  congr 3
  omega
theorem fxl_some (i : Nat) : V.fxl i ≠ 0 := by have := (V.fxl_in i).1; omega
theorem rd_blk {k K : Nat} {L : List V.Tk} {r : ByteArray} {last : Bool} (hk : k ≤ 2) (hm : ∀ t ∈ L, V.may t = true) (hg : ∀ t ∈ L, t.ok) (hr : r.size ≤ 65535) (hK : 1000 ≤ K) (hLK : L.length < K) (x : St) (h : Bt s x.1 (V.blk k L r last x.1 ++ Y))
    (hrun : k ≠ 0 → V.Tx.run D x.2 L = (0, x.2 ++ r.data.toList)) (hL : x.2.length - D + r.size ≤ Lim) (hD : D ≤ x.2.length) :
    blk K () s D Lim x = .ok (if last = true then .inr () else .inl (), (x.1 + (V.blk k L r last x.1).length, x.2 ++ r.data.toList)) ∧ Bt s (x.1 + (V.blk k L r last x.1).length) Y := by
  have hz := size_list r
  obtain ⟨B, hB⟩ : ∃ B, V.blk k L r last x.1 = V.hdb k last ++ B := by
    have hc : k = 0 ∨ k = 1 ∨ k = 2 := by omega
    rcases hc with rfl | rfl | rfl
    · unfold V.blk V.stb; rw [if_pos rfl]; simp only [List.append_assoc]; exact ⟨_, rfl⟩
    · unfold V.blk; rw [if_neg (by decide), if_pos rfl]; exact ⟨_, rfl⟩
    · unfold V.blk; rw [if_neg (by decide), if_neg (by decide)]; simp only [List.append_assoc]; exact ⟨_, rfl⟩
  have hbody : Bt s (x.1 + 3) (B ++ Y) → body K k s D Lim (x.1 + 3, x.2) = .ok ((), (x.1 + 3 + B.length, x.2 ++ r.data.toList)) ∧ Bt s (x.1 + 3 + B.length) Y := fun hb => by
    have hc : k = 0 ∨ k = 1 ∨ k = 2 := by omega
    rcases hc with rfl | rfl | rfl
    · have hBe : B = List.replicate (V.pd (x.1 + 3)) 0 ++ (V.put r.size 16 ++ (V.put (65535 - r.size) 16 ++ V.byb r r.size)) := by
        unfold V.blk V.stb at hB
        rw [if_pos rfl] at hB
        simp only [List.append_assoc] at hB
        exact (List.append_cancel_left hB).symm
      have hlen : B.length = V.pd (x.1 + 3) + 32 + 8 * r.size := by
        rw [hBe]
        simp only [List.length_append, List.length_replicate, V.put_length, V.byb_length]
        omega
      rw [hBe] at hb
      simp only [List.append_assoc] at hb
      have := rd_sto (D := D) (Lim := Lim) hr (x.1 + 3, x.2) hb hL
      simp only at this
      rw [show x.1 + 3 + B.length = x.1 + 3 + V.pd (x.1 + 3) + 32 + 8 * r.size by omega]
      exact this
    · have hBe : B = (V.sys L).flatMap (V.wsy V.fxl 288 (fun _ => 5) 30) := by
        unfold V.blk at hB
        rw [if_neg (by decide), if_pos rfl] at hB
        exact (List.append_cancel_left hB).symm
      have hr2 := hrun (by decide)
      rw [hBe] at hb ⊢
      obtain ⟨y, q1, q2, q3⟩ := rd_syms (D := D) (Lim := Lim) Cd.fixed Cd.fives (by decide) (by decide) (fxl_some 256) L K (x.1 + 3, x.2) hLK hg ⟨fun y _ _ => fxl_some _, fun y _ _ => by show (5 : Nat) ≠ 0; decide⟩ hb (by rw [hr2]) (by rw [hr2, List.length_append]; omega) hD
      rw [hr2] at q1
      simp only at q2
      rw [← q2]
      exact ⟨q1, q3⟩
    · have hBe : B = V.hdd L ++ (V.sys L).flatMap (V.wsy (V.ll1 L) 286 (V.ll2 L) 30) := by
        unfold V.blk at hB
        rw [if_neg (by decide), if_neg (by decide)] at hB
        simp only [List.append_assoc] at hB
        exact (List.append_cancel_left hB).symm
      have hr2 := hrun (by decide)
      rw [hBe] at hb
      simp only [List.append_assoc] at hb
      obtain ⟨t, p1, p2, c1, c2⟩ := rd_dyn (D := D) (Lim := Lim) hm hg hK (x.1 + 3, x.2) hb
      obtain ⟨y, q1, q2, q3⟩ := rd_syms (D := D) (Lim := Lim) c1 c2 (by decide) (by decide) ((V.has_code L hm hg (y := ⟨false, 256, 0, 0⟩) (by unfold V.sys; simp)).1 rfl) L K (x.1 + 3 + (V.hdd L).length, x.2) hLK hg
        ⟨fun y hy e => (V.has_code L hm hg hy).1 e, fun y hy e => (V.has_code L hm hg hy).2 e⟩ p2 (by rw [hr2]) (by rw [hr2, List.length_append]; omega) hD
      rw [hr2] at q1
      have e : x.1 + 3 + B.length = y := by rw [hBe, List.length_append, q2]; simp only; omega
      rw [e]
      refine ⟨?_, q3⟩
      unfold body
      rw [if_neg (by decide), if_neg (by decide), if_pos rfl, bnd_of p1]
      exact q1
  rw [hB] at h ⊢
  unfold V.hdb at h ⊢
  simp only [List.append_assoc] at h
  obtain ⟨g1, k1⟩ := h.bits (D := D) (L := Lim) (show (if last = true then 1 else 0) < 2 ^ 1 by split <;> decide)
  obtain ⟨g2, k2⟩ := Bt.bits (x := (x.1 + 1, x.2)) (D := D) (L := Lim) k1 (show k < 2 ^ 2 by omega)
  obtain ⟨g3, k3⟩ := hbody k2
  have e : x.1 + (V.put (if last = true then 1 else 0) 1 ++ V.put k 2 ++ B).length = x.1 + 3 + B.length := by
    simp only [List.length_append, V.put_length]; omega
  rw [e]
  refine ⟨?_, k3⟩
  unfold blk
  rw [bnd_of g1, bnd_of g2, bnd_of g3]
  cases last <;> rfl
end
end Go.Proofs.YtolcaknhjjejeaaGreatDoor.I

namespace Go.Proofs.YtolcaknhjjejeaaGreatDoor.I
open Go Go.RowKit M
set_option linter.unusedVariables false
set_option linter.unusedSimpArgs false
set_option maxRecDepth 1000000
theorem grow_take (b : List UInt8) (d : Nat) : ∀ k, (V.Tx.grow b d k).take b.length = b
  | 0 => List.take_length
  | k + 1 => by
    have hl := V.Tx.grow_length b d k
    rw [V.Tx.grow, List.take_append_of_le_length (by omega), grow_take b d k]
theorem step_take {D : Nat} {b : List UInt8} {t : V.Tk} (h : (V.Tx.step D b t).1 = 0) : (V.Tx.step D b t).2.take b.length = b := by
  rcases V.Tx.step_ways D b t with h1 | ⟨h1, h2⟩ | ⟨h1, h2, h3⟩ | ⟨h2, h3, h4⟩ | ⟨h2, h3, h4⟩
  · rw [V.Tx.step_arg h1] at h; exact absurd h (by simp)
  · rw [V.Tx.step_far h1 h2] at h; exact absurd h (by simp)
  · rw [V.Tx.step_long h1 h2 h3] at h; exact absurd h (by simp)
  · rw [V.Tx.step_byte h2 h3 h4]; simp
  · rw [V.Tx.step_match h2 h3 h4]; exact grow_take b _ _
theorem run_out {D : Nat} : ∀ (l : List V.Tk) (b : List UInt8), (V.Tx.run D b l).1 = 0 → (V.Tx.run D b l).2.take b.length = b ∧ (V.Tx.run D b l).2.length = b.length + V.Tx.szs l
  | [], b, _ => ⟨List.take_length, rfl⟩
  | t :: l, b, h => by
    by_cases q : (V.Tx.step D b t).1 = 0
    · rw [V.Tx.run_go q] at h ⊢
      obtain ⟨h1, h2⟩ := run_out l _ h
      have h3 := (V.Tx.step_len q).1
      refine ⟨take_tt (step_take q) h1 (by omega), ?_⟩
      rw [h2, h3]
      simp only [V.Tx.szs]
      omega
    · rw [V.Tx.run_no q] at h; exact absurd h q
theorem run_two {D : Nat} : ∀ (l m : List V.Tk) (b z : List UInt8), V.Tx.run D b (l ++ m) = (0, z) → ∃ y, V.Tx.run D b l = (0, y) ∧ V.Tx.run D y m = (0, z)
  | [], m, b, z, h => ⟨b, rfl, h⟩
  | t :: l, m, b, z, h => by
    rw [List.cons_append] at h
    by_cases q : (V.Tx.step D b t).1 = 0
    · rw [V.Tx.run_go q] at h
      obtain ⟨y, h1, h2⟩ := run_two l m _ z h
      exact ⟨y, by rw [V.Tx.run_go q, h1], h2⟩
    · rw [V.Tx.run_no q] at h
      exact absurd (congrArg Prod.fst h) q
theorem run_seg {D : Nat} {L : List V.Tk} {b z : List UInt8} (h : V.Tx.run D b L = (0, z)) {f t : Nat} (hft : f ≤ t) : V.Tx.run D (z.take (b.length + V.szt L f)) (V.seg L f t) = (0, z.take (b.length + V.szt L t)) := by
  have key : ∀ i, V.Tx.run D b (L.take i) = (0, z.take (b.length + V.szt L i)) := fun i => by
    have h' := h
    rw [← List.take_append_drop i L] at h'
    obtain ⟨y, h1, h2⟩ := run_two _ _ _ _ h'
    obtain ⟨_, g2⟩ := run_out (D := D) (L.take i) b (by rw [h1])
    obtain ⟨k1, _⟩ := run_out (D := D) (L.drop i) y (by rw [h2])
    rw [h1] at g2
    rw [h2] at k1
    rw [h1]
    unfold V.szt
    rw [← g2, k1]
  have h1 := key t
  rw [V.take_seg L hft] at h1
  obtain ⟨y, q1, q2⟩ := run_two _ _ _ _ h1
  rw [key f] at q1
  injection q1 with _ q1
  rw [← q1] at q2
  exact q2
section
variable {s : ByteArray} {Lim K : Nat} {Y : List Nat} {L : List V.Tk} {d t : ByteArray}
theorem ext_list (t : ByteArray) (f g : Nat) : (t.extract f g).data.toList = (t.data.toList.drop f).take (g - f) := by
  rw [ByteArray.data_extract, Array.toList_extract, List.extract_eq_take_drop]
theorem take_app (d T : List UInt8) (i : Nat) : (d ++ T).take (d.length + i) = d ++ T.take i := by
  rw [List.take_append, List.take_of_length_le (Nat.le_add_right _ _), Nat.add_sub_cancel_left]
theorem take_two (l : List UInt8) {a c : Nat} (h : a ≤ c) : l.take a ++ (l.drop a).take (c - a) = l.take c := by
  conv => rhs; rw [show c = a + (c - a) by omega, List.take_add]
end
theorem bt_text {B : List Nat} (h1 : ∀ x ∈ B, x ≤ 1) (u : ByteArray) : Bt (textR (V.nb B) B.length ++ u) 0 (B ++ []) := by
  rw [List.append_nil]
  have hs : (textR (V.nb B) B.length).size = (B.length + 7) / 8 := V.textR_size _ _
  have hlt := V.nb_lt B h1
  have e : (textR (V.nb B) B.length ++ u).data.toList = le (V.nb B) ((B.length + 7) / 8) ++ u.data.toList := by
    unfold textR bstr
    simp
  refine ⟨by rw [ByteArray.size_append, hs]; omega, h1, ?_⟩
  have hle : 2 ^ B.length ≤ 2 ^ (8 * ((B.length + 7) / 8)) := Nat.pow_le_pow_right (by decide) (by omega)
  have a : V.nb B % 2 ^ (8 * ((B.length + 7) / 8)) = V.nb B := Nat.mod_eq_of_lt (Nat.lt_of_lt_of_le hlt hle)
  unfold M.nb M.tx
  rw [e, vl_append, vl_le, le_length, p256', Nat.pow_zero, Nat.div_one, a]
  obtain ⟨r, hr⟩ : ∃ r, 8 * ((B.length + 7) / 8) = B.length + r := ⟨8 * ((B.length + 7) / 8) - B.length, by omega⟩
  rw [hr, Nat.pow_add, Nat.mul_assoc, Nat.add_mul_mod_self_left, Nat.mod_eq_of_lt hlt]
end Go.Proofs.YtolcaknhjjejeaaGreatDoor.I

namespace Go.Proofs.YtolcaknhjjejeaaGreatDoor.I
open Go Go.RowKit M
set_option linter.unusedVariables false
set_option linter.unusedSimpArgs false
set_option maxRecDepth 1000000
def Rdp (d : List UInt8) (T : ByteArray) (L : List V.Tk) (m : Nat) (bs : List Nat) (a : Nat) : Prop :=
  ∀ (s : ByteArray) (Y : List Nat) (Lim K k : Nat), 1000 ≤ K → L.length < K → T.size ≤ Lim → Bt s 0 (bs ++ Y) →
    loopR (blk K) (k + m) () s d.length Lim (0, d) = loopR (blk K) k () s d.length Lim (bs.length, (d ++ T.data.toList).take (d.length + V.szt L a)) ∧ Bt s bs.length Y
section
variable {d : List UInt8} {T : ByteArray} {L : List V.Tk} {m a b kd : Nat} {bs : List Nat}
theorem Rdp.none : Rdp d T L 0 [] 0 := fun s Y Lim K k hK hL hT hB => by
  refine ⟨?_, hB⟩
  rw [V.szt_zero, Nat.add_zero, Nat.add_zero, List.take_left]
  rfl
theorem rd_one (hm : ∀ x ∈ L, V.may x = true) (hg : ∀ x ∈ L, x.ok) (hz : V.Tx.szs L = T.size) (hT : T.size ≤ 65535) (hrun : V.Tx.run d.length d L = (0, d ++ T.data.toList)) (hk : kd ≤ 2) (hab : a ≤ b) (hb : b ≤ L.length)
    {s : ByteArray} {Y : List Nat} {Lim K o : Nat} {last : Bool} (hK : 1000 ≤ K) (hLK : L.length < K) (hLim : T.size ≤ Lim) (hB : Bt s o (V.blk kd (V.seg L a b) (T.extract (V.szt L a) (V.szt L b)) last o ++ Y)) :
    blk K () s d.length Lim (o, (d ++ T.data.toList).take (d.length + V.szt L a)) = .ok (if last = true then .inr () else .inl (), (o + (V.blk kd (V.seg L a b) (T.extract (V.szt L a) (V.szt L b)) last o).length, (d ++ T.data.toList).take (d.length + V.szt L b))) ∧
      Bt s (o + (V.blk kd (V.seg L a b) (T.extract (V.szt L a) (V.szt L b)) last o).length) Y := by
  have hm1 := V.szt_mono L hab
  have hm3 : V.szt L b ≤ T.size := by rw [← hz, ← V.szt_all (Nat.le_refl L.length)]; exact V.szt_mono L hb
  have htl : T.data.toList.length = T.size := Array.length_toList
  have hxl : ((d ++ T.data.toList).take (d.length + V.szt L a)).length = d.length + V.szt L a := by rw [List.length_take, List.length_append]; omega
  have hr : (T.extract (V.szt L a) (V.szt L b)).size ≤ 65535 := by rw [ByteArray.size_extract]; omega
  have hnx : (d ++ T.data.toList).take (d.length + V.szt L a) ++ (T.extract (V.szt L a) (V.szt L b)).data.toList = (d ++ T.data.toList).take (d.length + V.szt L b) := by
    rw [ext_list, take_app, take_app, List.append_assoc, take_two _ hm1]
  have hsl := V.seg_length (L := L) (f := a) (t := b) hb
  have := rd_blk (k := kd) (K := K) (L := V.seg L a b) (D := d.length) (Lim := Lim) (last := last) hk (fun y hy => hm y (V.seg_mem hy)) (fun y hy => hg y (V.seg_mem hy)) hr hK (by omega) (o, (d ++ T.data.toList).take (d.length + V.szt L a)) hB
    (fun _ => by rw [hnx]; exact run_seg hrun hab) (by simp only [hxl]; rw [ByteArray.size_extract]; omega) (by simp only [hxl]; omega)
  rw [hnx] at this
  exact this
theorem Rdp.more (h : Rdp d T L m bs a) (hm : ∀ x ∈ L, V.may x = true) (hg : ∀ x ∈ L, x.ok) (hz : V.Tx.szs L = T.size) (hT : T.size ≤ 65535) (hrun : V.Tx.run d.length d L = (0, d ++ T.data.toList)) (hk : kd ≤ 2) (hab : a ≤ b) (hb : b ≤ L.length) :
    Rdp d T L (m + 1) (bs ++ V.bkm kd (V.seg L a b) (T.extract (V.szt L a) (V.szt L b)) false bs.length) b := fun s Y Lim K k hK hL hLim hB => by
  have hm3 : V.szt L b ≤ T.size := by rw [← hz, ← V.szt_all (Nat.le_refl L.length)]; exact V.szt_mono L hb
  have hr : (T.extract (V.szt L a) (V.szt L b)).size ≤ 65535 := by rw [ByteArray.size_extract]; omega
  rw [V.bkm_blk hr] at hB ⊢
  rw [List.append_assoc] at hB
  obtain ⟨g1, g2⟩ := h s _ Lim K (k + 1) hK hL hLim hB
  obtain ⟨k1, k2⟩ := rd_one hm hg hz hT hrun hk hab hb hK hL hLim g2
  rw [if_neg (by decide)] at k1
  rw [show k + (m + 1) = k + 1 + m by omega, g1, loop_go k1, List.length_append]
  exact ⟨rfl, k2⟩
theorem Rdp.last (h : Rdp d T L m bs a) (hm : ∀ x ∈ L, V.may x = true) (hg : ∀ x ∈ L, x.ok) (hz : V.Tx.szs L = T.size) (hT : T.size ≤ 65535) (hrun : V.Tx.run d.length d L = (0, d ++ T.data.toList)) (hk : kd ≤ 2) (ha : a ≤ L.length)
    {s : ByteArray} {Y : List Nat} {Lim K : Nat} (hK : 1000 + m ≤ K) (hL : L.length < K) (hLim : T.size ≤ Lim) (hB : Bt s 0 ((bs ++ V.bkm kd (V.seg L a L.length) (T.extract (V.szt L a) (V.szt L L.length)) true bs.length) ++ Y)) :
    inf K s d.length Lim (0, d) = .ok ((), ((bs ++ V.bkm kd (V.seg L a L.length) (T.extract (V.szt L a) (V.szt L L.length)) true bs.length).length, d ++ T.data.toList)) := by
  have e : V.szt L L.length = T.size := by rw [V.szt_all (Nat.le_refl L.length), hz]
  have hr : (T.extract (V.szt L a) (V.szt L L.length)).size ≤ 65535 := by rw [ByteArray.size_extract]; omega
  have htl : T.data.toList.length = T.size := Array.length_toList
  rw [V.bkm_blk hr] at hB ⊢
  rw [List.append_assoc] at hB
  obtain ⟨k, rfl⟩ : ∃ k, K = k + 1 + m := ⟨K - 1 - m, by omega⟩
  obtain ⟨g1, g2⟩ := h s _ Lim (k + 1 + m) (k + 1) (by omega) hL hLim hB
  obtain ⟨k1, k2⟩ := rd_one hm hg hz hT hrun hk ha (Nat.le_refl _) (by omega) hL hLim g2
  rw [if_pos rfl] at k1
  unfold inf
  rw [g1, loop_end k1, e, List.length_append, List.take_of_length_le (by rw [List.length_append]; omega)]
end
end Go.Proofs.YtolcaknhjjejeaaGreatDoor.I

namespace Go.Proofs.YtolcaknhjjejeaaGreatDoor.I
open Go Go.RowKit M
set_option linter.unusedVariables false
set_option linter.unusedSimpArgs false
set_option maxRecDepth 1000000
theorem tkn_step {D : Nat} {b : List UInt8} {r : V.Ra} (h : r.ok) (hL : b.length - D + 258 ≤ 1048576) : (V.Tx.step D b (V.tkn r b.length)).1 = 0 ∧ ((V.Tx.step D b (V.tkn r b.length)).2.length : Int) = V.nxt r b.length := by
  obtain ⟨h1, h2, h3, h4⟩ := V.tkn_may h (a := (b.length : Int)) (by omega)
  have hd : (V.tkn r b.length).d ≤ b.length := by
    unfold V.tkn
    split
    · show (0 : Int) ≤ _; omega
    · rename_i g
      have := Int.emod_lt_of_pos r.d (show 0 < min (b.length : Int) 32768 by omega)
      show 1 + r.d % min (b.length : Int) 32768 ≤ _
      omega
  have hz := V.Tx.szo_le (V.tkn r b.length)
  have h0 : (V.Tx.step D b (V.tkn r b.length)).1 = 0 := by
    rcases V.Tx.step_ways D b (V.tkn r b.length) with q | ⟨q1, q2⟩ | ⟨q1, q2, q3⟩ | ⟨q2, q3, q4⟩ | ⟨q2, q3, q4⟩
    · rw [h1] at q; cases q
    · omega
    · omega
    · rw [V.Tx.step_byte q2 q3 q4]
    · rw [V.Tx.step_match q2 q3 q4]
  refine ⟨h0, ?_⟩
  rw [(V.Tx.step_len h0).1]
  unfold V.nxt
  have hm := h1
  unfold V.may at hm
  rw [Bool.or_eq_true] at hm
  rcases hm with q | q
  · rw [V.Tx.szo_byte q]
    have := V.isB_iff.1 q
    omega
  · rw [V.Tx.szo_match q]
    have := V.isM_iff.1 q
    omega
theorem run_mdk {D : Nat} : ∀ (R : List V.Ra) (b : List UInt8), (∀ r ∈ R, r.ok) → D ≤ b.length → b.length - D + 258 * R.length ≤ 1048576 → (V.Tx.run D b (V.mdk R b.length)).1 = 0
  | [], b, _, _, _ => rfl
  | r :: R, b, h, hD, hL => by
    simp only [List.length_cons] at hL
    obtain ⟨h1, h2⟩ := tkn_step (D := D) (b := b) (h r List.mem_cons_self) (by omega)
    have h3 := (V.Tx.step_len h1).1
    have h4 := V.Tx.szo_le (V.tkn r b.length)
    rw [V.mdk, V.Tx.run_go h1, ← h2]
    exact run_mdk R _ (fun x hx => h x (List.mem_cons_of_mem _ hx)) (by omega) (by omega)
theorem mdk_text (d : ByteArray) (R : List V.Ra) (h : ∀ r ∈ R, r.ok) (hn : R.length ≤ 200) : ∃ T : ByteArray, (⟨(V.Tx.txt d.data.toList (V.mdk R d.size)).1.toArray⟩ : ByteArray) = T ∧ (V.Tx.txt d.data.toList (V.mdk R d.size)).2 = 0 ∧
    V.Tx.run d.data.toList.length d.data.toList (V.mdk R d.size) = (0, d.data.toList ++ T.data.toList) ∧ V.Tx.szs (V.mdk R d.size) = T.size ∧ T.size ≤ 51600 := by
  have hdl : d.data.toList.length = d.size := Array.length_toList
  have h0 := run_mdk (D := d.data.toList.length) R d.data.toList h (Nat.le_refl _) (by omega)
  rw [hdl] at h0
  obtain ⟨o1, o2⟩ := run_out (D := d.size) _ _ h0
  have hz := V.Tx.szs_le (V.mdk R d.size)
  rw [V.mdk_length] at hz
  refine ⟨⟨((V.Tx.run d.size d.data.toList (V.mdk R d.size)).2.drop d.size).toArray⟩, ?_, ?_, ?_, ?_, ?_⟩
  · unfold V.Tx.txt
    rw [hdl, if_pos h0]
  · unfold V.Tx.txt
    rw [hdl, if_pos h0]
  · rw [hdl]
    have e : (V.Tx.run d.size d.data.toList (V.mdk R d.size)).2 = d.data.toList ++ (V.Tx.run d.size d.data.toList (V.mdk R d.size)).2.drop d.size := by
      have := List.take_append_drop d.size (V.Tx.run d.size d.data.toList (V.mdk R d.size)).2
      rw [hdl] at o1
      rw [o1] at this
      exact this.symm
    calc V.Tx.run d.size d.data.toList (V.mdk R d.size) = ((V.Tx.run d.size d.data.toList (V.mdk R d.size)).1, (V.Tx.run d.size d.data.toList (V.mdk R d.size)).2) := rfl
      _ = _ := by rw [h0]; exact congrArg (Prod.mk 0) e
  · show _ = ((V.Tx.run d.size d.data.toList (V.mdk R d.size)).2.drop d.size).toArray.size
    rw [List.size_toArray, List.length_drop, o2, hdl]
    omega
  · show ((V.Tx.run d.size d.data.toList (V.mdk R d.size)).2.drop d.size).toArray.size ≤ _
    rw [List.size_toArray, List.length_drop, o2, hdl]
    omega
end Go.Proofs.YtolcaknhjjejeaaGreatDoor.I
