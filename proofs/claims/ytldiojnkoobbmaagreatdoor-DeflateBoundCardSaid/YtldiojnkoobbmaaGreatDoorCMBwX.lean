/- Texts of one place, one behind the other: BwX, BwZ, BwQ, SpM. -/
import Derived.Test.YtldiojnkoobbmaaGreatDoorCMRns
import Derived.Lib.ConvBytes
import Derived.StillTailTactics
import Derived.Deep.CutRange
import Derived.BigRegion
import Derived.Test.YtldiojnkoobbmaaGreatDoorCMBwG
namespace Go.Proofs.YtldiojnkoobbmaaGreatDoor.V
open Go Go.RowKit M U
set_option linter.unusedVariables false
set_option linter.unusedSimpArgs false
def nb : List Nat → Nat
  | [] => 0
  | b :: l => b + 2 * nb l
theorem nb_append : ∀ l r : List Nat, nb (l ++ r) = nb l + nb r * 2 ^ l.length
  | [], r => by simp [nb]
  | b :: l, r => by
    simp only [List.cons_append, nb, nb_append l r, List.length_cons, Nat.pow_succ]
    rw [Nat.mul_add, ← Nat.mul_assoc, Nat.mul_comm 2 (nb r), Nat.mul_assoc, Nat.mul_comm 2 (2 ^ l.length)]
    omega
theorem nb_lt : ∀ l : List Nat, (∀ x ∈ l, x ≤ 1) → nb l < 2 ^ l.length
  | [], _ => by simp [nb]
  | b :: l, h => by
    have h1 := h b List.mem_cons_self
    have h2 := nb_lt l (fun x hx => h x (List.mem_cons_of_mem _ hx))
    simp only [nb, List.length_cons, Nat.pow_succ]
    omega
def byn (V i : Nat) : Nat := V / 256 ^ i % 256
theorem byn_lt (V i : Nat) : byn V i < 256 := Nat.mod_lt _ (by decide)
theorem p8 (i : Nat) : (256 : Nat) ^ i = 2 ^ (8 * i) := by rw [Nat.pow_mul]
end Go.Proofs.YtldiojnkoobbmaaGreatDoor.V

namespace Go.Proofs.YtldiojnkoobbmaaGreatDoor.V
open Go Go.RowKit M U
set_option linter.unusedVariables false
set_option linter.unusedSimpArgs false
theorem nb_put (n : Nat) : ∀ k, nb (put n k) = n % 2 ^ k
  | 0 => by simp [put, nb, Nat.mod_one]
  | k + 1 => by
    rw [put_succ, nb_append, nb_put n k, put_length, Nat.mod_pow_succ]
    simp only [nb, Nat.mul_zero, Nat.add_zero]
    rw [Nat.mul_comm (2 ^ k)]
theorem put_bit (n k : Nat) : ∀ x ∈ put n k, x ≤ 1 := fun x hx => by
  obtain ⟨i, _, rfl⟩ := List.mem_map.1 hx
  have := Nat.mod_lt (n / 2 ^ i) (show 0 < 2 by decide)
  omega
end Go.Proofs.YtldiojnkoobbmaaGreatDoor.V

namespace Go.Proofs.YtldiojnkoobbmaaGreatDoor.V
open Go Go.RowKit M U
set_option linter.unusedVariables false
set_option linter.unusedSimpArgs false
theorem stm_len : ∀ (f : Nat) (o : Nat) (s : ByteArray) (last : Bool), s.size ≤ 65535 * (f + 1) → (stm o s last).length ≤ 8 * s.size + 42 * (f + 1)
  | f, o, s, last, h => by
    have hp : ∀ n, pd n ≤ 7 := fun n => by unfold pd; omega
    by_cases h1 : s.size ≤ 65535
    · rw [stm_one h1, stb_length]
      have := hp (o + 3)
      omega
    · have h2 : (s.extract 0 65535).size = 65535 := by rw [ByteArray.size_extract]; omega
      have h3 : (s.extract 65535 s.size).size = s.size - 65535 := by rw [ByteArray.size_extract]; omega
      have := hp (o + 3)
      rw [stm_more h1, List.length_append]
      have hl : (stb o (s.extract 0 65535) false).length = 3 + pd (o + 3) + 32 + 65535 * 8 := by rw [stb_length, h2]
      match f with
      | 0 => omega
      | f + 1 =>
        have ih := stm_len f (o + (stb o (s.extract 0 65535) false).length) (s.extract 65535 s.size) last (by omega)
        rw [h3] at ih
        omega
theorem blk_len3 (k : Nat) (L : List Tk) (raw : ByteArray) (last : Bool) (o : Nat) (hr : k = 0 → raw.size ≤ 70000) (hn : L.length ≤ 30000) (hm : k ≠ 0 → ∀ t ∈ L, may t = true) : (blk k L raw last o).length ≤ 20000000 := by
  have hs := sys_len L
  unfold blk
  by_cases h0 : k = 0
  · rw [if_pos h0, stb_length]
    have h1 := hr h0
    have : pd (o + 3) ≤ 7 := by unfold pd; omega
    omega
  · rw [if_neg h0]
    have hb : ∀ y ∈ sys L, y.b ≤ 13 := fun y hy => (sys_b (hm h0) y hy).1
    split
    · unfold sfx
      rw [List.length_append, hdb_length]
      have := wss_len fxl 288 (fun _ => 5) 30 fxl_fine.byte (fun _ => by show 5 ≤ 255; decide) (sys L) hb
      omega
    · unfold sbs
      rw [List.length_append, List.length_append, hdb_length]
      have h1 := hdd_len L
      have := wss_len (ll1 L) 286 (ll2 L) 30 (fun i => Nat.le_trans (hfl_le _ (by decide) (by decide) i) (by decide)) (fun i => Nat.le_trans (hfl_le _ (by decide) (by decide) i) (by decide)) (sys L) hb
      omega
theorem bkm_len3 (k : Nat) (L : List Tk) (raw : ByteArray) (last : Bool) (o : Nat) (hr : k = 0 → raw.size ≤ 70000) (hn : L.length ≤ 30000) (hm : k ≠ 0 → ∀ t ∈ L, may t = true) : (bkm k L raw last o).length ≤ 20000000 := by
  unfold bkm
  split
  · rename_i e
    have := stm_len 1 o raw last (by have := hr e; omega)
    have := hr e
    omega
  · exact blk_len3 k L raw last o hr hn hm
end Go.Proofs.YtldiojnkoobbmaaGreatDoor.V

namespace Go.Proofs.YtldiojnkoobbmaaGreatDoor.V
open Go Go.RowKit M U
set_option linter.unusedVariables false
set_option linter.unusedSimpArgs false
noncomputable def b3 (L : List Tk) (s : ByteArray) (k : Nat) : Nat := (bkm k L s false 0).length
noncomputable def kd (L : List Tk) (s : ByteArray) : Nat × Nat :=
  if b3 L s 1 < b3 L s 0 then (if b3 L s 2 < b3 L s 1 then (2, b3 L s 2) else (1, b3 L s 1)) else (if b3 L s 2 < b3 L s 0 then (2, b3 L s 2) else (0, b3 L s 0))
theorem kd_kind (L : List Tk) (s : ByteArray) : (kd L s).1 ≤ 2 := by
  unfold kd
  split <;> split <;> simp
theorem kd_bits (L : List Tk) (s : ByteArray) : (kd L s).2 = b3 L s (kd L s).1 := by
  unfold kd
  split <;> split <;> rfl
theorem kd_least (L : List Tk) (s : ByteArray) {k : Nat} (h : k ≤ 2) : (kd L s).2 ≤ b3 L s k := by
  have hc : k = 0 ∨ k = 1 ∨ k = 2 := by omega
  unfold kd
  split <;> split <;> (rcases hc with rfl | rfl | rfl <;> (simp only; omega))
theorem b3_le3 {L : List Tk} {s : ByteArray} {k : Nat} (hs : s.size ≤ 70000) (hn : L.length ≤ 30000) (hm : ∀ t ∈ L, may t = true) : b3 L s k ≤ 20000000 := bkm_len3 k L s false 0 (fun _ => hs) hn (fun _ => hm)
theorem kd_le3 {L : List Tk} {s : ByteArray} (hs : s.size ≤ 70000) (hn : L.length ≤ 30000) (hm : ∀ t ∈ L, may t = true) : (kd L s).2 ≤ 20000000 := by rw [kd_bits]; exact b3_le3 hs hn hm
def seg (L : List Tk) (f t : Nat) : List Tk := (L.drop f).take (t - f)
theorem seg_length {L : List Tk} {f t : Nat} (h : t ≤ L.length) : (seg L f t).length = t - f := by
  unfold seg
  rw [List.length_take, List.length_drop]
  omega
theorem seg_mem {L : List Tk} {f t : Nat} {x : Tk} (h : x ∈ seg L f t) : x ∈ L := List.mem_of_mem_drop (List.mem_of_mem_take h)
theorem take_seg (L : List Tk) {f t : Nat} (h : f ≤ t) : L.take t = L.take f ++ seg L f t := by
  unfold seg
  conv => lhs; rw [show t = f + (t - f) by omega, List.take_add]
def szt (L : List Tk) (i : Nat) : Nat := Tx.szs (L.take i)
theorem szt_zero (L : List Tk) : szt L 0 = 0 := rfl
theorem szs_seg (L : List Tk) {f t : Nat} (h : f ≤ t) : szt L f + Tx.szs (seg L f t) = szt L t := by
  unfold szt
  rw [take_seg L h, Tx.szs_append]
theorem szt_mono (L : List Tk) {f t : Nat} (h : f ≤ t) : szt L f ≤ szt L t := by
  have := szs_seg L h
  omega
theorem szt_all {L : List Tk} {n : Nat} (h : L.length ≤ n) : szt L n = Tx.szs L := by
  unfold szt
  rw [List.take_of_length_le h]
noncomputable def kp (L : List Tk) (s : ByteArray) (f t : Nat) : Nat × Nat := kd (seg L f t) (s.extract (szt L f) (szt L t))
def pst (K : Nat → Nat → Nat × Nat) (c : Nat → Nat) : Nat → List (Nat × Nat) × (Nat × Nat)
  | 0 => ([], (c 0, c 1))
  | k + 1 => if (K (pst K c k).2.1 (c (k + 2))).2 ≤ (K (pst K c k).2.1 (c (k + 1))).2 + (K (c (k + 1)) (c (k + 2))).2 then ((pst K c k).1, ((pst K c k).2.1, c (k + 2))) else ((pst K c k).1 ++ [(pst K c k).2], (c (k + 1), c (k + 2)))
def prt (K : Nat → Nat → Nat × Nat) (c : Nat → Nat) (k : Nat) : List (Nat × Nat) := (pst K c k).1 ++ [(pst K c k).2]
theorem pst_to (K : Nat → Nat → Nat × Nat) (c : Nat → Nat) : ∀ k, (pst K c k).2.2 = c (k + 1)
  | 0 => rfl
  | k + 1 => by rw [pst]; split <;> rfl
theorem prt_length (K : Nat → Nat → Nat × Nat) (c : Nat → Nat) : ∀ k, (prt K c k).length ≤ k + 1
  | 0 => by simp [prt, pst]
  | k + 1 => by
    have ih := prt_length K c k
    unfold prt at ih ⊢
    rw [List.length_append] at ih
    rw [pst]
    split <;> (simp only [List.length_append, List.length_cons, List.length_nil] at ih ⊢; omega)
def Chn : Nat → List (Nat × Nat) → Nat → Prop
  | a, [], b => a = b
  | a, q :: l, b => q.1 = a ∧ a ≤ q.2 ∧ Chn q.2 l b
theorem Chn.append : ∀ {l : List (Nat × Nat)} {r : List (Nat × Nat)} {a b d : Nat}, Chn a l b → Chn b r d → Chn a (l ++ r) d
  | [], _, _, _, _, h, h2 => by cases h; exact h2
  | q :: l, _, _, _, _, h, h2 => ⟨h.1, h.2.1, Chn.append h.2.2 h2⟩
theorem Chn.le : ∀ {l : List (Nat × Nat)} {a b : Nat}, Chn a l b → a ≤ b
  | [], _, _, h => Nat.le_of_eq h
  | q :: l, _, _, h => Nat.le_trans h.2.1 (Chn.le h.2.2)
def pbits (K : Nat → Nat → Nat × Nat) : List (Nat × Nat) → Nat
  | [] => 0
  | q :: l => (K q.1 q.2).2 + pbits K l
theorem pbits_append (K : Nat → Nat → Nat × Nat) : ∀ l r, pbits K (l ++ r) = pbits K l + pbits K r
  | [], r => by simp [pbits]
  | q :: l, r => by simp only [List.cons_append, pbits, pbits_append K l r]; omega
def cbits (K : Nat → Nat → Nat × Nat) (c : Nat → Nat) : Nat → Nat
  | 0 => 0
  | k + 1 => cbits K c k + (K (c k) (c (k + 1))).2
theorem pst_chn (K : Nat → Nat → Nat × Nat) (c : Nat → Nat) (hc : ∀ i, c i ≤ c (i + 1)) : ∀ k, Chn (c 0) (pst K c k).1 (pst K c k).2.1 ∧ (pst K c k).2.1 ≤ c k
  | 0 => ⟨rfl, Nat.le_refl _⟩
  | k + 1 => by
    obtain ⟨h1, h2⟩ := pst_chn K c hc k
    rw [pst]
    split
    · exact ⟨h1, Nat.le_trans h2 (hc k)⟩
    · refine ⟨Chn.append h1 ⟨rfl, ?_, ?_⟩, Nat.le_refl _⟩
      · rw [pst_to]; exact Nat.le_trans h2 (hc k)
      · exact pst_to K c k
theorem prt_chn (K : Nat → Nat → Nat × Nat) (c : Nat → Nat) (hc : ∀ i, c i ≤ c (i + 1)) (k : Nat) : Chn (c 0) (prt K c k) (c (k + 1)) := by
  obtain ⟨h1, h2⟩ := pst_chn K c hc k
  refine Chn.append h1 ⟨rfl, ?_, pst_to K c k⟩
  rw [pst_to]
  exact Nat.le_trans h2 (hc k)
theorem prt_bits (K : Nat → Nat → Nat × Nat) (c : Nat → Nat) : ∀ k, pbits K (prt K c k) ≤ cbits K c (k + 1)
  | 0 => by simp [prt, pst, pbits, cbits]
  | k + 1 => by
    have ih := prt_bits K c k
    have ht := pst_to K c k
    unfold prt at ih ⊢
    rw [pbits_append] at ih
    rw [cbits]
    have e : pbits K [(pst K c k).2] = (K (pst K c k).2.1 (c (k + 1))).2 := by rw [← ht]; simp [pbits]
    rw [e] at ih
    rw [pst]
    split
    · rename_i h
      rw [pbits_append]
      show pbits K (pst K c k).1 + ((K (pst K c k).2.1 (c (k + 2))).2 + 0) ≤ cbits K c (k + 1) + (K (c (k + 1)) (c (k + 2))).2
      omega
    · rw [pbits_append, pbits_append, e]
      show pbits K (pst K c k).1 + (K (pst K c k).2.1 (c (k + 1))).2 + ((K (c (k + 1)) (c (k + 2))).2 + 0) ≤ cbits K c (k + 1) + (K (c (k + 1)) (c (k + 2))).2
      omega
def cut (n i : Nat) : Nat := min (1024 * i) n
theorem cut_mono (n i : Nat) : cut n i ≤ cut n (i + 1) := by unfold cut; omega
theorem cut_zero (n : Nat) : cut n 0 = 0 := by unfold cut; omega
def cnk (n : Nat) : Nat := (n - 1) / 1024
theorem cut_end (n : Nat) : cut n (cnk n + 1) = n := by unfold cut cnk; omega
noncomputable def pts (L : List Tk) (s : ByteArray) : List (Nat × Nat) := prt (kp L s) (cut L.length) (cnk L.length)
theorem pts_chn (L : List Tk) (s : ByteArray) : Chn 0 (pts L s) L.length := by
  have h := prt_chn (kp L s) (cut L.length) (cut_mono L.length) (cnk L.length)
  rw [cut_zero, cut_end] at h
  exact h
theorem pts_bits (L : List Tk) (s : ByteArray) : pbits (kp L s) (pts L s) ≤ cbits (kp L s) (cut L.length) (cnk L.length + 1) := prt_bits _ _ _
theorem pts_few (L : List Tk) (s : ByteArray) (h : L.length ≤ 1024) : pts L s = [(0, L.length)] := by
  have e : cnk L.length = 0 := by unfold cnk; omega
  unfold pts
  rw [e]
  simp only [prt, pst, List.nil_append, cut_zero]
  rw [show cut L.length 1 = L.length by unfold cut; omega]
end Go.Proofs.YtldiojnkoobbmaaGreatDoor.V
