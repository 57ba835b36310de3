/- Texts of one place, one behind the other: SpK, SpO, SpP, SpA. -/
import Derived.Test.YtldiojnkoobbmaaGreatDoorCMBwX
import Derived.Test.YtldiojnkoobbmaaGreatDoorCMT9Tok
import Derived.Test.YtldiojnkoobbmaaGreatDoorCMRns
import Derived.Deep.RegionHeld3
import Derived.Test.YtldiojnkoobbmaaGreatDoorCMBwG
import Derived.Laws.StructEq
namespace Go.Proofs.YtldiojnkoobbmaaGreatDoor.V
open Go Go.RowKit M U
set_option linter.unusedVariables false
set_option linter.unusedSimpArgs false
noncomputable def kds (L : List Tk) (s : ByteArray) : Nat → Nat × Nat
  | 0 => (0, b3 L s 0)
  | j + 1 => if b3 L s (j + 1) < (kds L s j).2 then (j + 1, b3 L s (j + 1)) else kds L s j
theorem kds_two (L : List Tk) (s : ByteArray) : kds L s 2 = kd L s := by
  unfold kd
  simp only [kds]
  by_cases h1 : b3 L s 1 < b3 L s 0
  · simp only [Nat.zero_add, h1, if_true]
  · simp only [Nat.zero_add, h1, if_false]
theorem kds_le3 {L : List Tk} {s : ByteArray} (hs : s.size ≤ 70000) (hn : L.length ≤ 30000) (hm : ∀ t ∈ L, may t = true) : ∀ j, (kds L s j).2 ≤ 20000000 ∧ (kds L s j).1 ≤ j
  | 0 => ⟨b3_le3 hs hn hm, Nat.le_refl _⟩
  | j + 1 => by
    have ih := kds_le3 hs hn hm j
    rw [kds]
    split
    · exact ⟨by show b3 L s (j + 1) ≤ _; omega, Nat.le_refl _⟩
    · exact ⟨ih.1, by omega⟩
def mys (L : List Tk) (s : ByteArray) : Nat := if L.all may = true then (if Tx.szs L = s.size then 0 else 7) else 2
end Go.Proofs.YtldiojnkoobbmaaGreatDoor.V

namespace Go.Proofs.YtldiojnkoobbmaaGreatDoor.V
open Go Go.RowKit M U
open Go.ChangeShapes Go.WideShapes Go.Deep
set_option linter.unusedVariables false
set_option linter.unusedSimpArgs false
structure Pv where
  f : Nat
  t : Nat
  z : Nat
  k : Nat
deriving DecidableEq
instance : Inhabited Pv := ⟨⟨0, 0, 0, 0⟩⟩
def clp : List Pv → List Value
  | [] => []
  | q :: l => .int .i64 q.f :: .int .i64 q.t :: .int .i64 q.z :: .int .u8 q.k :: clp l
theorem clp_append : ∀ l r, clp (l ++ r) = clp l ++ clp r
  | [], r => rfl
  | q :: l, r => by simp only [List.cons_append, clp, clp_append l r]
theorem clp_at : ∀ (l : List Pv) (i : Nat) (q : Pv), l[i]? = some q → (clp l)[i * 4]? = some (.int .i64 q.f) ∧ (clp l)[i * 4 + 1]? = some (.int .i64 q.t) ∧ (clp l)[i * 4 + 2]? = some (.int .i64 q.z) ∧ (clp l)[i * 4 + 3]? = some (.int .u8 q.k)
  | [], i, q, h => by simp at h
  | x :: l, 0, q, h => by simp at h; subst h; exact ⟨rfl, rfl, rfl, rfl⟩
  | x :: l, i + 1, q, h => by
    simp at h
    have ih := clp_at l i q h
    rw [show (i + 1) * 4 = i * 4 + 1 + 1 + 1 + 1 by omega]
    exact ih
theorem clp_one : ∀ (l : List Pv), ∀ u ∈ clp l, u.oneCell' = true
  | [], u, h => by simp [clp] at h
  | q :: l, u, h => by
    simp only [clp, List.mem_cons] at h
    rcases h with rfl | rfl | rfl | rfl | h
    · rfl
    · rfl
    · rfl
    · rfl
    · exact clp_one l u h
def Owp (B : Nat) (w : World) (v : Value) (l : List Pv) : Prop := w.ownsRow B 49 4 v l.length (clp l)
theorem Owp.nil (B : Nat) (w : World) : Owp B w (.slice none 0 0) [] := World.ownsRow_nil w B _ 4
theorem Owp.alloc {B : Nat} {w : World} {v : Value} {L : List Pv} (h : Owp B w v L) (o : Obj) : Owp B (w.alloc o) v L := World.ownsRow.alloc h o
theorem Owp.at {B : Nat} {w w' : World} {v : Value} {L : List Pv} (h : Owp B w v L) (e : ∀ g, v.ownBlock = some g → w'.heap[g]? = w.heap[g]?) : Owp B w' v L := ownsRow_at h e
theorem Owp.lt {B : Nat} {w : World} {v : Value} {L : List Pv} (h : Owp B w v L) : ∀ g, v.ownBlock = some g → B ≤ g ∧ g < w.heap.size := World.ownsRow.lt h
theorem Owp.form {B : Nat} {w : World} {v : Value} {L : List Pv} (h : Owp B w v L) (hn : 0 < L.length) : ∃ g c, v = .slice (some ⟨g, 0, none⟩) L.length c ∧ L.length ≤ c := by
  obtain ⟨_, hh⟩ := h
  rcases hh with ⟨h1, h2⟩ | ⟨g, c, cs, h1, h2, h3, h4, h5, h6, h7⟩
  · omega
  · exact ⟨g, c, h1, by omega⟩
theorem Owp.form' {B : Nat} {w : World} {v : Value} {L : List Pv} (h : Owp B w v L) : ∃ A c, v = .slice A L.length c := by
  obtain ⟨_, hh⟩ := h
  rcases hh with ⟨h1, h2⟩ | ⟨g, c, cs, h1, h2, h3, h4, h5, h6, h7⟩
  · exact ⟨none, 0, by rw [h2, h1]⟩
  · exact ⟨_, c, h1⟩
theorem Owp.cell {B : Nat} {w : World} {g n c : Nat} {L : List Pv} (h : Owp B w (.slice (some ⟨g, 0, none⟩) n c) L) {i : Nat} {q : Pv} (hn : L.length = n) (hi : L[i]? = some q) : w.cell? ⟨g, i * 4, none⟩ = some (.int .i64 q.f) ∧ w.cell? ⟨g, i * 4 + 1, none⟩ = some (.int .i64 q.t) ∧ w.cell? ⟨g, i * 4 + 2, none⟩ = some (.int .i64 q.z) ∧ w.cell? ⟨g, i * 4 + 3, none⟩ = some (.int .u8 q.k) := by
  have hl : i < L.length := (List.getElem?_eq_some_iff.1 hi).1
  obtain ⟨a1, a2, a3, a4⟩ := clp_at L i q hi
  unfold Owp at h
  rw [hn] at h
  exact ⟨(h.cellAt (i * 4) (by omega)).trans a1, (h.cellAt (i * 4 + 1) (by omega)).trans a2, (h.cellAt (i * 4 + 2) (by omega)).trans a3, (h.cellAt (i * 4 + 3) (by omega)).trans a4⟩
theorem partInfo : (Tryz.prog.info? 49).map (fun i => (i.zero, i.size, i.bytes)) = some (some (.agg #[.int .i64 0, .int .i64 0, .int .i64 0, .int .u8 0]), 4, 32) := by kernel_rfl
theorem lies_clp {w : World} {b : Nat} {q : Pv} (hc : w.cell? ⟨b, 0, none⟩ = some (.int .i64 q.f) ∧ w.cell? ⟨b, 1, none⟩ = some (.int .i64 q.t) ∧ w.cell? ⟨b, 2, none⟩ = some (.int .i64 q.z) ∧ w.cell? ⟨b, 3, none⟩ = some (.int .u8 q.k)) : ∀ j u, (clp [q])[j]? = some u → w.cell? ((⟨b, 0, none⟩ : Addr).add j) = some u := fun j u hu => by
  rw [cadd_at]
  match j, hu with
  | 0, hu => simp [clp] at hu; subst hu; simpa using hc.1
  | 1, hu => simp [clp] at hu; subst hu; simpa using hc.2.1
  | 2, hu => simp [clp] at hu; subst hu; simpa using hc.2.2.1
  | 3, hu => simp [clp] at hu; subst hu; simpa using hc.2.2.2
  | (k + 4), hu => simp [clp] at hu
theorem IsTks.sub {w : World} {A : Option Addr} {n c : Nat} {L : List Tk} (h : IsTks w A n L) (hc : n ≤ c) {f t : Nat} (hf : f ≤ t) (ht : t ≤ n) :
    IsTks w (if c = f then A else Option.map (fun x => x.add (f * 3)) A) (t - f) (seg L f t) := by
  refine ⟨by rw [seg_length (by have := h.leng; omega)], by have := h.most; omega, fun x hx => h.good x (seg_mem hx), ?_⟩
  by_cases h0 : t - f = 0
  · exact .inl h0
  · right
    rcases h.cells with q | ⟨b, o, rfl, hb, hcs⟩
    · omega
    · rw [if_neg (by omega)]
      refine ⟨b, o + f * 3, by simp [cadd_at], hb, fun i x hx => ?_⟩
      have hx' : L[f + i]? = some x := by
        unfold seg at hx
        rw [List.getElem?_take] at hx
        split at hx
        · rw [List.getElem?_drop] at hx; exact hx
        · cases hx
      have k := hcs (f + i) x hx'
      have e : o + (f + i) * 3 = o + f * 3 + i * 3 := by omega
      exact ⟨by rw [← e]; exact k.l, by rw [← e]; exact k.n, by rw [← e]; exact k.d⟩
end Go.Proofs.YtldiojnkoobbmaaGreatDoor.V

namespace Go.Proofs.YtldiojnkoobbmaaGreatDoor.V
open Go Go.RowKit M U
set_option linter.unusedVariables false
set_option linter.unusedSimpArgs false
set_option maxRecDepth 1000000
noncomputable def pvo (L : List Tk) (s : ByteArray) (q : Nat × Nat) : Pv := ⟨q.1, q.2, szt L q.2 - szt L q.1, (kp L s q.1 q.2).1⟩
noncomputable def pvs (L : List Tk) (s : ByteArray) (l : List (Nat × Nat)) : List Pv := l.map (pvo L s)
theorem pvs_append (L : List Tk) (s : ByteArray) (l r : List (Nat × Nat)) : pvs L s (l ++ r) = pvs L s l ++ pvs L s r := List.map_append
end Go.Proofs.YtldiojnkoobbmaaGreatDoor.V

namespace Go.Proofs.YtldiojnkoobbmaaGreatDoor.V
open Go Go.RowKit M U
open Go.ChangeShapes (lits)
set_option linter.unusedVariables false
set_option linter.unusedSimpArgs false
set_option maxRecDepth 1000000
theorem mys_zero {L : List Tk} {s : ByteArray} : mys L s = 0 ↔ (∀ t ∈ L, may t = true) ∧ Tx.szs L = s.size := by
  unfold mys
  by_cases h : L.all may = true
  · rw [if_pos h]
    rw [List.all_eq_true] at h
    by_cases h2 : Tx.szs L = s.size
    · rw [if_pos h2]; exact ⟨fun _ => ⟨h, h2⟩, fun _ => rfl⟩
    · rw [if_neg h2]; exact ⟨fun g => absurd g (by decide), fun g => absurd g.2 h2⟩
  · rw [if_neg h]
    rw [List.all_eq_true] at h
    exact ⟨fun g => absurd g (by decide), fun g => absurd g.1 h⟩
theorem b3_nil : b3 [] ⟨#[]⟩ 0 = 40 ∧ b3 [] ⟨#[]⟩ 1 = 10 ∧ 10 ≤ b3 [] ⟨#[]⟩ 2 := by
  refine ⟨?_, ?_, ?_⟩
  · unfold b3
    rw [bkm_blk (by decide)]
    unfold blk
    rw [if_pos rfl, stb_length]; rfl
  · unfold b3
    rw [bkm_blk (by decide)]
    unfold blk
    rw [if_neg (by decide), if_pos rfl]; rfl
  · unfold b3
    rw [bkm_blk (by decide)]
    unfold blk
    rw [if_neg (by decide), if_neg (by decide), List.length_append, List.length_append]
    have := hdd_more []
    omega
theorem kd_nil : kd [] ⟨#[]⟩ = (1, 10) := by
  obtain ⟨h0, h1, h2⟩ := b3_nil
  unfold kd
  rw [if_pos (by omega), if_neg (by omega), h1]
end Go.Proofs.YtldiojnkoobbmaaGreatDoor.V
