/- The law of what lengths and distances are as symbols. Conditions: as each theorem names them. -/
import Derived.Test.YtobcgieblidjcaaDoorTyA
import Derived.Test.YtobcgieblidjcaaDoorTyB
import Derived.Test.YtobcgieblidjcaaDoorTyC
namespace Go.Proofs.YtobcgieblidjcaaDoor
open Go Go.RowKit M
set_option linter.unusedVariables false
set_option linter.unusedSimpArgs false

theorem u32_nat {a : Int} (h : (Lit.int .u32 a).wf = true) : ∃ n : Nat, a = n ∧ n < 4294967296 := by
  have g : 0 ≤ a ∧ a ≤ 4294967295 := by simpa [Lit.wf, IntKind.min, IntKind.max, IntKind.signed, IntKind.bits] using h
  exact ⟨a.toNat, by omega, by omega⟩
theorem sym_len (z : Int) : ∃ (g k : Int) (gg : Bool), ((k = -1 ∧ g = 0 ∧ gg = false) ∨ ∃ n : Nat, k = n ∧ g = n ∧ gg = true) ∧
    (∀ w, Tab w → Calls Tryd.prog 12 #[.int .i64 z] w fun y w' => y = .returned (.tuple #[.int .i64 g, .bool gg]) ∧ Below w.heap.size w w') ∧
    (∀ w, Tab w → Calls Tryd.prog 10 #[.int .i64 z] w fun y w' => y = .returned (.int .i64 k) ∧ Below w.heap.size w w') := by
  by_cases h : z < 257 ∨ 285 < z
  · exact ⟨0, -1, false, .inl ⟨rfl, rfl, rfl⟩, fun w H => lbits_no z w H h, fun w _ => (rlb_no z w h).mono fun y w' ⟨q, r⟩ => ⟨q, r ▸ Below.refl _ _⟩⟩
  · have hz : z = 257 + ((z - 257).toNat : Int) := by omega
    have hi : (z - 257).toNat ≤ 28 := by omega
    refine ⟨(lb (z - 257).toNat : Nat), (lb (z - 257).toNat : Nat), true, .inr ⟨_, rfl, rfl, rfl⟩, fun w H => lbits_yes _ z w H hi hz, fun w _ => ?_⟩
    have hq := rlb_yes (z - 257).toNat w hi
    rw [← hz] at hq
    exact hq.mono fun y w' ⟨q, r⟩ => ⟨q, r ▸ Below.refl _ _⟩
theorem sym_dist (z : Int) : ∃ (g k : Int) (gg : Bool), ((k = -1 ∧ g = 0 ∧ gg = false) ∨ ∃ n : Nat, k = n ∧ g = n ∧ gg = true) ∧
    (∀ w, Tab w → Calls Tryd.prog 13 #[.int .i64 z] w fun y w' => y = .returned (.tuple #[.int .i64 g, .bool gg]) ∧ Below w.heap.size w w') ∧
    (∀ w, Tab w → Calls Tryd.prog 11 #[.int .i64 z] w fun y w' => y = .returned (.int .i64 k) ∧ Below w.heap.size w w') := by
  by_cases h : z < 0 ∨ 29 < z
  · exact ⟨0, -1, false, .inl ⟨rfl, rfl, rfl⟩, fun w H => dbits_no z w H h, fun w _ => (rdb_no z w h).mono fun y w' ⟨q, r⟩ => ⟨q, r ▸ Below.refl _ _⟩⟩
  · have hz : z = (z.toNat : Int) := by omega
    have hi : z.toNat ≤ 29 := by omega
    refine ⟨(db z.toNat : Nat), (db z.toNat : Nat), true, .inr ⟨_, rfl, rfl, rfl⟩, fun w H => dbits_yes _ z w H hi hz, fun w _ => ?_⟩
    have hq := rdb_yes z.toNat w hi
    rw [← hz] at hq
    exact hq.mono fun y w' ⟨q, r⟩ => ⟨q, r ▸ Below.refl _ _⟩
theorem of_len (z : Int) (e : Nat) (he : e < 4294967296) : ∃ u : Nat,
    (∀ w, Tab w → Calls Tryd.prog 14 #[.int .i64 z, .int .u32 e] w fun y w' => y = .returned (.tuple #[.int .i64 u, .bool (decide (0 < u))]) ∧ Below w.heap.size w w') ∧
    (∀ w, Tab w → Calls Tryd.prog 16 #[.int .i64 z, .int .u32 e] w fun y w' => y = .returned (.int .i64 u) ∧ Below w.heap.size w w') := by
  by_cases h : z < 257 ∨ 285 < z
  · exact ⟨0, fun w H => lengthOf_no z e w H h, fun w _ => (rlof_no z e w h).mono fun y w' ⟨q, r⟩ => ⟨q, r ▸ Below.refl _ _⟩⟩
  · have hz : z = 257 + ((z - 257).toNat : Int) := by omega
    have hi : (z - 257).toNat ≤ 28 := by omega
    refine ⟨lof (z - 257).toNat e, fun w H => lengthOf_yes _ e z w H hi hz, fun w _ => ?_⟩
    have hq := rlof_yes (z - 257).toNat e w hi he
    rw [← hz] at hq
    exact hq
theorem of_dist (z : Int) (e : Nat) (he : e < 4294967296) : ∃ u : Nat,
    (∀ w, Tab w → Calls Tryd.prog 15 #[.int .i64 z, .int .u32 e] w fun y w' => y = .returned (.tuple #[.int .i64 u, .bool (decide (0 < u))]) ∧ Below w.heap.size w w') ∧
    (∀ w, Tab w → Calls Tryd.prog 17 #[.int .i64 z, .int .u32 e] w fun y w' => y = .returned (.int .i64 u) ∧ Below w.heap.size w w') := by
  by_cases h : z < 0 ∨ 29 < z
  · exact ⟨0, fun w H => distOf_no z e w H h, fun w _ => (rdof_no z e w h).mono fun y w' ⟨q, r⟩ => ⟨q, r ▸ Below.refl _ _⟩⟩
  · have hz : z = (z.toNat : Int) := by omega
    have hi : z.toNat ≤ 29 := by omega
    refine ⟨dof z.toNat e, fun w H => distOf_yes _ e z w H hi hz, fun w _ => ?_⟩
    have hq := rdof_yes z.toNat e w hi he
    rw [← hz] at hq
    exact hq

theorem SymbolTells_walk (a0 a1 a2 : Int) (W : World) (w0 : (Lit.int .i64 a0).wf = true) (w1 : (Lit.int .i64 a1).wf = true) (w2 : (Lit.int .u32 a2).wf = true) (H : Tab W) :
    Calls Tryd.prog 3 #[.int .i64 a0, .int .i64 a1, .int .u32 a2] W fun y w' => y = .returned (.bool true) ∧ Below W.heap.size W w' := by
  obtain ⟨e, rfl, he⟩ := u32_nat w2
  obtain ⟨g, k, gg, hk, g1, g2⟩ := sym_len a1
  obtain ⟨h, m, hh, hm, h1, h2⟩ := sym_dist a1
  obtain ⟨u, u1, u2⟩ := of_len a1 e he
  obtain ⟨v, v1, v2⟩ := of_dist a1 e he
  by_cases c1 : a0 < 1 ∨ 32768 < a0
  · refine tells_nn a0 a1 e u v g h k m gg hh W H ?_ ?_ ?_ ?_ (Lib.hid g1) (Lib.hid h1) (Lib.hid u1) (Lib.hid v1) (Lib.hid g2) (Lib.hid h2) (Lib.hid u2) (Lib.hid v2) hk hm
    · exact Lib.hid (fun w H => length_no a0 w H (by omega))
    · exact Lib.hid (fun w _ => (rlen_no a0 w (by omega)).mono fun y w' ⟨q, r⟩ => ⟨q, r ▸ Below.refl _ _⟩)
    · exact Lib.hid (fun w H => dist_no a0 w H c1)
    · exact Lib.hid (fun w _ => (rdist_no a0 w c1).mono fun y w' ⟨q, r⟩ => ⟨q, r ▸ Below.refl _ _⟩)
  · have hn : a0 = (a0.toNat : Int) := by omega
    have hn1 : 1 ≤ a0.toNat ∧ a0.toNat ≤ 32768 := by omega
    obtain ⟨n, hnn⟩ : ∃ n, a0.toNat = n := ⟨_, rfl⟩
    rw [hnn] at hn hn1
    subst hn
    clear hnn
    have hsd := (dist_in hn1).1
    have hxd : dex n < 4294967296 := by unfold dex; omega
    by_cases c2 : n < 3 ∨ 258 < n
    · refine tells_ny n a1 e (dsy n) (dex n) (db (dsy n)) u v g h k m gg hh W H hxd ?_ ?_ ?_ ?_ ?_ (Lib.hid g1) (Lib.hid h1) (Lib.hid u1) (Lib.hid v1) (Lib.hid g2) (Lib.hid h2) (Lib.hid u2) (Lib.hid v2) hk hm
      · exact Lib.hid (fun w H => length_no n w H (by omega))
      · exact Lib.hid (fun w _ => (rlen_no n w (by omega)).mono fun y w' ⟨q, r⟩ => ⟨q, r ▸ Below.refl _ _⟩)
      · exact Lib.hid (fun w H => dist_yes n w H hn1)
      · exact Lib.hid (fun w _ => rdist_yes n w hn1)
      · exact Lib.hid (fun w _ => (rdb_yes (dsy n) w hsd).mono fun y w' ⟨q, r⟩ => ⟨q, r ▸ Below.refl _ _⟩)
    · have hn3 : 3 ≤ n ∧ n ≤ 258 := by omega
      have hsl := (len_in hn3).1
      have hxl : lex n < 4294967296 := by unfold lex; omega
      refine tells_yy n a1 e (257 + lsy n) (lex n) (lb (lsy n)) (dsy n) (dex n) (db (dsy n)) u v g h k m gg hh W H hxl hxd ?_ ?_ ?_ ?_ ?_ ?_ (Lib.hid g1) (Lib.hid h1) (Lib.hid u1) (Lib.hid v1) (Lib.hid g2) (Lib.hid h2) (Lib.hid u2) (Lib.hid v2) hk hm
      · exact Lib.hid (fun w H => length_yes n w H hn3)
      · exact Lib.hid (fun w _ => rlen_yes n w hn3)
      · exact Lib.hid (fun w H => dist_yes n w H hn1)
      · exact Lib.hid (fun w _ => rdist_yes n w hn1)
      · exact Lib.hid (fun w _ => (rlb_yes (lsy n) w hsl).mono fun y w' ⟨q, r⟩ => ⟨q, r ▸ Below.refl _ _⟩)
      · exact Lib.hid (fun w _ => (rdb_yes (dsy n) w hsd).mono fun y w' ⟨q, r⟩ => ⟨q, r ▸ Below.refl _ _⟩)
end Go.Proofs.YtobcgieblidjcaaDoor
