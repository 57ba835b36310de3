/- weigh of layer 13's law: how many bits symbols take by lengths. Conditions: as each theorem names them. -/
import Derived.Test.YtkegkfmikplgdaaDoorMRns
import Derived.BigQuiet
import Derived.BigRegion
import Derived.Deep.CutRange
namespace Go.Proofs.YtkegkfmikplgdaaDoor.V
open Go Go.RowKit M U
set_option linter.unusedVariables false
set_option linter.unusedSimpArgs false

set_option maxRecDepth 1000000 in
set_option maxHeartbeats 4000000 in
theorem weigh_any (A : Option Addr) (n c : Nat) (L : List Tk) (w : World) (hT : IsTks w A n L) (hn : n ≤ 100000) (hm : ∀ t ∈ L, may t = true)
    (A1 A2 : Option Addr) (n1 n2 c1 c2 : Nat) (l1 l2 : Nat → Nat) (H1 : Nums w .u8 A1 n1 (fun i => (l1 i : Int))) (H2 : Nums w .u8 A2 n2 (fun i => (l2 i : Int)))
    (hin : ∀ y ∈ sys L, y.b ≤ 13 ∧ (y.d = false → y.n < n1 ∧ l1 y.n ≠ 0) ∧ (y.d = true → y.n < n2 ∧ l2 y.n ≠ 0)) (hl1 : ∀ i, l1 i ≤ 255) (hl2 : ∀ i, l2 i ≤ 255) :
    Calls Tryd.prog 17 #[.slice A n c, .agg #[.slice A1 n1 c1, .slice A2 n2 c2]] w fun e w' => e = .returned (.tuple #[.int .i64 (wgh l1 l2 (sys L) : Nat), .bool true]) ∧ Below w.heap.size w w' := by
  have hsl : (sys L).length ≤ 2 * n + 1 := by
    have h0 := hT.leng
    unfold sys
    rw [List.length_append, List.length_singleton]
    have := fsy_len L
    omega
  have HS := Lib.hid (fun w' (hb : Below w.heap.size w w') => syms_any A n c L w' (hT.below hb) hn hm)
  obtain ⟨S, hS⟩ : ∃ S, sys L = S := ⟨_, rfl⟩
  rw [hS] at HS hin hsl ⊢
  have HIN := Lib.hid hin
  have HN1 := Lib.hid H1
  have HN2 := Lib.hid H2
  have HW := Lib.hid (fun k => wgh_le l1 l2 hl1 hl2 (S.take k) (fun y hy => (hin y (List.mem_of_mem_take hy)).1))
  have hL1 := Lib.hid hl1
  have hL2 := Lib.hid hl2
  clear hT hm hin H1 H2 hS hl1 hl2
  go_enter Tryd.func17, Tryd.ntmps17
  go_wp2_with (go_at_call 22; (with_reducible refine (HS.out _ ((Below.refl _ _).alloc (Nat.le_refl _) _)).mono ?_); rintro e w2 ⟨v, rfl, o2, b2⟩; obtain ⟨A3, c3, hv, s2⟩ := o2.sys; subst hv; have S2 := Lib.hid s2; have B2 := Lib.hid (((Below.refl _ _).alloc (Nat.le_refl _) _).trans (b2.mono (by simp))); have k0 := (b2.cell (p := ⟨w.heap.size, 0, none⟩) (by simp)).trans (show (w.alloc (.cells #[.slice A1 n1 c1, .slice A2 n2 c2] 27)).cell? ⟨w.heap.size, 0, none⟩ = some (.slice A1 n1 c1) by simp); have k1 := (b2.cell (p := ⟨w.heap.size, 1, none⟩) (by simp)).trans (show (w.alloc (.cells #[.slice A1 n1 c1, .slice A2 n2 c2] 27)).cell? ⟨w.heap.size, 1, none⟩ = some (.slice A2 n2 c2) by simp); clear o2 b2 s2)
  obtain ⟨len, hlen⟩ : ∃ len, S.length = len := ⟨_, rfl⟩
  rw [hlen] at hsl S2 ⊢
  go_loopw [6, 8] (fun v x wr => ∃ k m : Nat, k ≤ len ∧ x = .int .i64 k ∧ v = .int .i64 (wgh l1 l2 (S.take k) : Nat) ∧ wr = w2.drewN m) (fun _ x _ => len - (intOf x).toNat)
  case atStart => exact ⟨0, 0, Nat.zero_le _, rfl, by simp [wgh], rfl⟩
  case round =>
    obtain ⟨k, m, hk, rfl, rfl, rfl⟩ := hrel
    by_cases hlt : k < len
    · have d1 : decide ((k : Int) < (len : Int)) = true := decide_eq_true (by omega)
      have d1' : decide (k < len) = true := decide_eq_true hlt
      obtain ⟨b, o, rfl, hbl, hc⟩ := S2.out.at (by omega)
      obtain ⟨f0, f1, f2, f3⟩ := hc k hlt
      have hkS : k < S.length := by omega
      have hmem : S.getD k default ∈ S := by rw [List.getD, List.getElem?_eq_getElem hkS]; exact List.getElem_mem _
      have hy := HIN.out _ hmem
      have hts := sy_take_succ S k hkS
      have hle := HW.out k
      rw [List.length_take, Nat.min_eq_left (by omega)] at hle
      obtain ⟨y, hye⟩ : ∃ y, S.getD k default = y := ⟨_, rfl⟩
      rw [hye] at f0 f1 f2 f3 hy hts
      obtain ⟨yd, yn, ye, yb⟩ := y
      simp only at f0 f1 f2 f3 hy
      have e0 : (w2.drewN m).cell? ⟨b, o + k * 4, none⟩ = some (.bool yd) := f0
      have e1 : (w2.drewN m).cell? ⟨b, o + k * 4 + 1, none⟩ = some (.int .i64 (yn : Int)) := f1
      have e3 : (w2.drewN m).cell? ⟨b, o + k * 4 + 3, none⟩ = some (.int .i64 (yb : Int)) := f3
      have j0 : (w2.drewN m).cell? ⟨w.heap.size, 0, none⟩ = some (.slice A1 n1 c1) := k0
      have j1 : (w2.drewN m).cell? ⟨w.heap.size, 1, none⟩ = some (.slice A2 n2 c2) := k1
      obtain ⟨g, hg⟩ : ∃ g, wgh l1 l2 (S.take k) = g := ⟨_, rfl⟩
      rw [hg] at hle ⊢
      have hb13 := hy.1
      have hg2 : g ≤ 60000000 := by omega
      have hk2 : k ≤ 300000 := by omega
      clear hye hmem hkS hc hle
      cases yd with
      | false =>
        have hcode := (hy.2.1 rfl)
        obtain ⟨g1, g2⟩ := hcode
        obtain ⟨b', o', rfl, hb', hc'⟩ := HN1.out (by omega)
        have cc : w2.cell? ⟨b', o' + yn, none⟩ = some (.int .u8 (l1 yn : Nat)) := (B2.out.cell (p := ⟨b', o' + yn, none⟩) hb').trans (hc' yn g1)
        obtain ⟨z, hz⟩ : ∃ z, l1 yn = z := ⟨_, rfl⟩
        have hz255 : z ≤ 255 := by rw [← hz]; exact hL1.out yn
        rw [hz] at cc g2
        have hsn : wgh l1 l2 (S.take (k + 1)) = g + z + yb := by rw [hts, wgh_append, hg, ← hz]; simp [wgh, Nat.add_assoc]
        have HSN := Lib.hid hsn
        have q1 : decide ((n1 : Int) ≤ (yn : Int)) = false := decide_eq_false (by omega)
        have q1' : decide (n1 ≤ yn) = false := decide_eq_false (by omega)
        have q2 : ((z : Int) == 0) = false := by rw [beq_eq_false_iff_ne]; omega
        have q2' : (z == 0) = false := by rw [beq_eq_false_iff_ne]; exact g2
        have q3 : yn < n1 := g1
        clear hts hsn hz hg hc' hy
        go_upto_region 11 with fail
        go_region
        go_wp2_with fail
        exact ⟨⟨k + 1, m + 1, by omega, by go_num, by rw [HSN.out]; go_num, rfl⟩, by simp [intOf]; omega⟩
      | true =>
        have hcode := (hy.2.2 rfl)
        obtain ⟨g1, g2⟩ := hcode
        obtain ⟨b', o', rfl, hb', hc'⟩ := HN2.out (by omega)
        have cc : w2.cell? ⟨b', o' + yn, none⟩ = some (.int .u8 (l2 yn : Nat)) := (B2.out.cell (p := ⟨b', o' + yn, none⟩) hb').trans (hc' yn g1)
        obtain ⟨z, hz⟩ : ∃ z, l2 yn = z := ⟨_, rfl⟩
        have hz255 : z ≤ 255 := by rw [← hz]; exact hL2.out yn
        rw [hz] at cc g2
        have hsn : wgh l1 l2 (S.take (k + 1)) = g + z + yb := by rw [hts, wgh_append, hg, ← hz]; simp [wgh, Nat.add_assoc]
        have HSN := Lib.hid hsn
        have q1 : decide ((n2 : Int) ≤ (yn : Int)) = false := decide_eq_false (by omega)
        have q1' : decide (n2 ≤ yn) = false := decide_eq_false (by omega)
        have q2 : ((z : Int) == 0) = false := by rw [beq_eq_false_iff_ne]; omega
        have q2' : (z == 0) = false := by rw [beq_eq_false_iff_ne]; exact g2
        have q3 : yn < n2 := g1
        clear hts hsn hz hg hc' hy
        go_upto_region 11 with fail
        go_region
        go_wp2_with fail
        exact ⟨⟨k + 1, m + 1, by omega, by go_num, by rw [HSN.out]; go_num, rfl⟩, by simp [intOf]; omega⟩
    · obtain rfl : k = len := by omega
      have d1 : decide ((k : Int) < (k : Int)) = false := decide_eq_false (by omega)
      have d1' : decide (k < k) = false := decide_eq_false (by omega)
      have he : S.take k = S := List.take_of_length_le (by omega)
      rw [he]
      go_wp2_with fail
      exact bodyPost_ret (v := .tuple #[.int .i64 (wgh l1 l2 S : Nat), .bool true]) (by simp [results, Tryd.results17, go_sem]) rfl ⟨rfl, below_drewN B2.out m⟩
end Go.Proofs.YtkegkfmikplgdaaDoor.V
