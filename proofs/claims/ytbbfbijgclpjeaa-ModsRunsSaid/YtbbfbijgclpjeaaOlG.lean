/- ModsRuns returns true for any argument that its kinds hold. Conditions: none. -/
import Derived.Test.YtbbfbijgclpjeaaOlC
import Derived.Test.YtbbfbijgclpjeaaOlB
namespace Go.Proofs.Ytbbfbijgclpjeaa
open Go Go.RowKit M O
set_option linter.unusedVariables false
set_option linter.unusedSimpArgs false

namespace O
theorem boolInfo : (Try.prog.info? 4).map (fun i => (i.zero, i.size, i.bytes)) = some (some (.bool false), 1, 1) := by kernel_rfl
theorem madeT (w : World) (n : Nat) (hn : n ≤ 40000) : (Instr.makeSlice 57 (.int .i64 (n : Int)) (.int .i64 (n : Int))).run Try.prog w = .ok (.slice (some ⟨w.heap.size, 0, none⟩) n n) (w.alloc (.cells (madeCells #[.bool false] n) 4)) := by
  obtain ⟨i, h1, h2, h3, h4⟩ := info_of boolInfo
  exact run_make_row 57 4 i _ Try.underlying57 h1 h2 h3 rfl .i64 .i64 n (by rw [h4]; omega) (by omega) w
/-- place i is within one of the first ones -/
def cv (X : List (Nat × Nat)) (i : Nat) : Nat → Bool
  | 0 => false
  | j + 1 => cv X i j || (decide ((X.getD j (0, 0)).1 ≤ i) && decide (i < (X.getD j (0, 0)).2))
theorem cv_iff (X : List (Nat × Nat)) (i j : Nat) : cv X i j = true ↔ ∃ t, t < j ∧ (X.getD t (0, 0)).1 ≤ i ∧ i < (X.getD t (0, 0)).2 := by
  induction j with
  | zero => exact ⟨fun h => (by cases h), fun ⟨t, h, _⟩ => absurd h (by omega)⟩
  | succ j ih =>
    simp only [cv, Bool.or_eq_true, Bool.and_eq_true, decide_eq_true_eq, ih]
    constructor
    · rintro (⟨t, h1, h2⟩ | h)
      · exact ⟨t, by omega, h2⟩
      · exact ⟨j, by omega, h⟩
    · rintro ⟨t, h1, h2⟩
      by_cases q : t = j
      · subst q; exact .inr h2
      · exact .inl ⟨t, by omega, h2⟩
/-- where the last one ended -/
def ev (X : List (Nat × Nat)) : Nat → Int
  | 0 => -1
  | j + 1 => ((X.getD j (0, 0)).2 : Nat)
/-- what is known of the differences -/
structure Rn (a b : ByteArray) (X : List (Nat × Nat)) (L : List Md) : Prop where
  e : difl a b = (L, 0)
  ln : L.length = X.length
  sg : ∀ j, j < X.length → L.getD j default = O.sg b (X.getD j (0, 0))
  seg : ∀ j, j < X.length → Seg (df a b) a.size (X.getD j (0, 0))
  gap : ∀ j, j < X.length → ev X j = -1 ∨ (0 ≤ ev X j ∧ ev X j + 4 < ((X.getD j (0, 0)).1 : Nat) ∧ ev X j ≤ a.size)
  cov : ∀ k, k < a.size → df a b k = true → cv X k X.length = true
  sz : szs L ≤ 5 * cnt (df a b) a.size
theorem getD_at {α : Type} {l : List α} {d : α} {j : Nat} (h : j < l.length) : l[j]? = some (l.getD j d) := by
  rw [List.getD, List.getElem?_eq_getElem h]; rfl
theorem rn_of {a b : ByteArray} (hs : a.size = b.size) (hp : pg (a.size : Int) = true) : ∃ X, Rn a b X (dif a b) := by
  have h0 := dfs_all (D := df a b) (n := a.size) (nx (df a b) a.size 0) (nx_le 0) (fun g => nx_at g)
  refine ⟨dfs (df a b) a.size (nx (df a b) a.size 0), ?_⟩
  obtain ⟨X, hX⟩ : ∃ X, dfs (df a b) a.size (nx (df a b) a.size 0) = X := ⟨_, rfl⟩
  have hd : dif a b = X.map (O.sg b) := by rw [← hX]; rfl
  rw [hX] at h0 ⊢
  obtain ⟨a1, a2, a3, _, _⟩ := h0
  have hseg : ∀ j, j < X.length → Seg (df a b) a.size (X.getD j (0, 0)) := fun j hj => (a1 _ (List.mem_of_getElem? (getD_at hj))).1
  refine ⟨if_pos ⟨hs, hp⟩, by rw [hd, List.length_map], fun j hj => ?_, hseg, fun j hj => ?_, fun k hk hdk => ?_, dif_szs hs⟩
  · rw [hd, List.getD, List.getElem?_map, getD_at (d := (0, 0)) hj]; rfl
  · match j, hj with
    | 0, _ => exact .inl rfl
    | j + 1, hj =>
      refine .inr ⟨Int.natCast_nonneg _, ?_, ?_⟩
      · have := a3 j _ _ (getD_at (d := (0, 0)) (by omega)) (getD_at (d := (0, 0)) hj)
        show ((X.getD j (0, 0)).2 : Int) + 4 < _
        omega
      · have := (hseg j (by omega)).le
        show ((X.getD j (0, 0)).2 : Int) ≤ _
        omega
  · have hge : nx (df a b) a.size 0 ≤ k := by
      rcases Nat.lt_or_ge k (nx (df a b) a.size 0) with q | q
      · rw [nx_no (Nat.zero_le _) q] at hdk; cases hdk
      · exact q
    obtain ⟨x, hx, h1, h2⟩ := a2 k hge hk hdk
    obtain ⟨t, ht, e⟩ := List.mem_iff_getElem.1 hx
    refine (cv_iff X k X.length).2 ⟨t, ht, ?_⟩
    have : X.getD t (0, 0) = x := by rw [List.getD, List.getElem?_eq_getElem ht]; exact e
    rw [this]
    exact ⟨h1, h2⟩
theorem diff_r {a b : ByteArray} {X : List (Nat × Nat)} {L : List Md} (g : Rn a b X L) (w : World) (ha : a.size ≤ 100000000) (hb : b.size ≤ 100000000) :
    Calls Try.prog 28 #[.string a, .string b] w fun e w' => ∃ A c, e = .returned (.tuple #[.slice A X.length c, .int .i64 0]) ∧ IsMds w' A X.length L ∧ Below w.heap.size w w' := by
  refine (diff_any a b w ha hb).mono ?_
  rintro e w' ⟨A, m, c, q1, q2, _, _, q5⟩
  rw [g.e] at q1 q2
  obtain rfl : X.length = m := by rw [← g.ln]; exact q2.leng
  exact ⟨A, c, q1, q2, q5⟩
end O

set_option maxRecDepth 1000000 in
set_option maxHeartbeats 8000000 in
theorem ModsRuns_walk (a0 a1 : ByteArray) (a2 a3 : Int) (W : World) (w0 : a0.size ≤ maxLen) (w1 : a1.size ≤ maxLen) (w2 : (Lit.int .u8 a2).wf = true) (w3 : (Lit.int .u8 a3).wf = true) :
    Calls Try.prog 9 #[.string a0, .string a1, .int .u8 a2, .int .u8 a3] W fun e w' => e = .returned (.bool true) ∧ Below W.heap.size W w' := by
  unfold maxLen at w0 w1
  have HV := Lib.hid alive_any
  obtain ⟨y1, y2⟩ := u8_bounds w2
  obtain ⟨y3, y4⟩ := u8_bounds w3
  clear w2 w3
  by_cases h1 : 16384 < a0.size
  · have d1 : decide (16384 < (a0.size : Int)) = true := decide_eq_true (by omega)
    have d1' : decide (16384 < a0.size) = true := decide_eq_true h1
    clear h1
    go_enter Try.func9, Try.ntmps9
    go_wp2_with (go_at_call 11; (with_reducible refine (HV.out _).mono ?_); rintro e w4 ⟨rfl, b4⟩; have B4 := Lib.hid b4; clear b4)
    go_ret
    exact ⟨rfl, B4.out⟩
  · have d1 : decide (16384 < (a0.size : Int)) = false := decide_eq_false (by omega)
    have d1' : decide (16384 < a0.size) = false := decide_eq_false h1
    by_cases h2 : 16384 < a1.size
    · have d2 : decide (16384 < (a1.size : Int)) = true := decide_eq_true (by omega)
      have d2' : decide (16384 < a1.size) = true := decide_eq_true h2
      clear h1 h2
      go_enter Try.func9, Try.ntmps9
      go_wp2_with (go_at_call 11; (with_reducible refine (HV.out _).mono ?_); rintro e w4 ⟨rfl, b4⟩; have B4 := Lib.hid b4; clear b4)
      go_ret
      exact ⟨rfl, B4.out⟩
    · have d2 : decide (16384 < (a1.size : Int)) = false := decide_eq_false (by omega)
      have d2' : decide (16384 < a1.size) = false := decide_eq_false h2
      obtain ⟨F, rfl⟩ := Int.eq_ofNat_of_zero_le y3
      have hpp := fun w => pages_any F a0 a1 a2 w (by omega) y1 y2
      obtain ⟨hpg, hn1, hn2⟩ := pgn_pg a2
      obtain ⟨PA, hA⟩ : ∃ P, bstr (pgl (pgn a2) a0 F) = P := ⟨_, rfl⟩
      obtain ⟨PB, hB⟩ : ∃ P, bstr (pgl (pgn a2) a1 F) = P := ⟨_, rfl⟩
      have hAs : PA.size = pgn a2 := by rw [← hA, bstr_size, pgl_length]
      have hBs : PB.size = pgn a2 := by rw [← hB, bstr_size, pgl_length]
      rw [hA, hB] at hpp
      have HPP := Lib.hid hpp
      have hs : PA.size = PB.size := by omega
      rw [← hAs] at hpg hn1 hn2
      obtain ⟨X, hR⟩ := rn_of hs hpg
      obtain ⟨L, hL⟩ : ∃ L, dif PA PB = L := ⟨_, rfl⟩
      rw [hL] at hR
      have HDf := Lib.hid (fun w => diff_r hR w (by omega) (by omega))
      obtain ⟨D, hD⟩ : ∃ D, df PA PB = D := ⟨_, rfl⟩
      have HVal := Lib.hid (fun k h h' => df_val PA PB hs k h h')
      have HR := Lib.hid hR
      have hszl := hR.sz
      have hcl := cnt_le (df PA PB) PA.size
      rw [hD] at hszl hcl HVal
      have HZ := Lib.hid (fun w A c (hi : IsMds w A X.length L) => size_any A X.length c L w hi (by omega))
      obtain ⟨sz, hsz⟩ : ∃ s, szs L = s := ⟨_, rfl⟩
      rw [hsz] at hszl HZ
      have HSeg := Lib.hid (fun j hj => hR.seg j hj)
      have HCov := Lib.hid (fun k hk hd => hR.cov k hk hd)
      rw [hD] at HSeg HCov
      have HSz := Lib.hid hszl
      have HCl := Lib.hid hcl
      have HAB := Lib.hid hs
      obtain ⟨N, hN⟩ : ∃ N, X.length = N := ⟨_, rfl⟩
      have HN := Lib.hid hN
      have hNb : N ≤ 16384 := by
        rw [← hN, ← hR.ln, ← hL]
        have := dif_length hs
        omega
      have hmk := fun w => madeT w PA.size (by omega)
      rw [hN] at HDf HZ
      clear h1 h2 hpp hpg hA hB hAs hBs hL hR hD hszl hcl hsz hs hN y1 y2
      go_enter Try.func9, Try.ntmps9
      go_wp2_with (first
        | (go_at_call 27; (with_reducible refine (HPP.out _).mono ?_); rintro e w4 ⟨rfl, b4⟩; have B4 := Lib.hid b4; clear b4)
        | (go_at_call 28; (with_reducible refine (HDf.out _).mono ?_); rintro e w5 ⟨A, c, rfl, i5, b5⟩; have I5 := Lib.hid i5; have B5 := Lib.hid (B4.out.trans (b5.mono B4.out.size)); clear i5 b5))
      clear hmk
      have R0 := Lib.hid (World.rowIs_made w5 (.bool false) PA.size 4)
      have I6 := Lib.hid (I5.out.below (((Below.refl _ w5).alloc (Nat.le_refl _) (.cells (madeCells #[.bool false] PA.size) 4))))
      have B6 := Lib.hid (B5.out.alloc B5.out.size (.cells (madeCells #[.bool false] PA.size) 4))
      have K5 := Lib.hid B5.out.size
      have HBl := Lib.hid (show ∀ w, Below w5.heap.size w5 w → Below W.heap.size W w from fun w h => B5.out.trans (h.mono B5.out.size))
      go_loopw [14, 15] (fun e i wr => ∃ j : Nat, j ≤ N ∧ i = .int .i64 j ∧ e = .int .i64 (ev X j) ∧ wr.rowIs w5.heap.size 4 PA.size (fun i => .bool (cv X i j)) ∧ Below w5.heap.size w5 wr) (fun _ i _ => N - (intOf i).toNat)
      case atStart => exact ⟨0, Nat.zero_le _, rfl, rfl, R0.out, (Below.refl _ w5).alloc (Nat.le_refl _) _⟩
      case round =>
        obtain ⟨j, hj, rfl, rfl, hrow, hb⟩ := hrel
        have HRow := Lib.hid hrow
        have HBw := Lib.hid hb
        by_cases hlt : j < N
        · obtain ⟨b, o, rfl, hbl, hc⟩ := (I5.out.below hb).at (by omega)
          obtain ⟨c0, c1⟩ := hc j hlt
          have hjX : j < X.length := by rw [HN.out]; exact hlt
          rw [HR.out.sg j hjX] at c0 c1
          have hseg := HSeg.out j hjX
          have hgap := HR.out.gap j hjX
          have hcvs : ∀ i, cv X i (j + 1) = (cv X i j || (decide ((X.getD j (0, 0)).1 ≤ i) && decide (i < (X.getD j (0, 0)).2))) := fun i => rfl
          have hevs : ev X (j + 1) = ((X.getD j (0, 0)).2 : Nat) := rfl
          obtain ⟨x, hx⟩ : ∃ x, X.getD j (0, 0) = x := ⟨_, rfl⟩
          rw [hx] at c0 c1 hseg hgap hevs
          simp only [hx] at hcvs
          obtain ⟨f, t⟩ := x
          obtain ⟨s1, s2, s3, s4⟩ := hseg
          simp only at s1 s2 s3 s4 hgap hevs hcvs
          obtain ⟨T, hT⟩ : ∃ T, PB.extract f t = T := ⟨_, rfl⟩
          have hTs : T.size = t - f := by rw [← hT, ByteArray.size_extract]; have := HAB.out; omega
          change _ = some (Value.int .i64 (f : Int)) at c0
          change _ = some (Value.string (PB.extract f t)) at c1
          rw [hT] at c1
          have hfA : f < PA.size := by omega
          have hfB : f < PB.size := by have := HAB.out; omega
          obtain ⟨g, hg⟩ : ∃ g, t - 1 = g := ⟨_, rfl⟩
          rw [hg] at s4
          have hgA : g < PA.size := by omega
          have hgB : g < PB.size := by have := HAB.out; omega
          have v1 := HVal.out f hfA hfB
          have v2 := HVal.out g hgA hgB
          rw [s3] at v1
          rw [s4] at v2
          obtain ⟨xa, hxa⟩ : ∃ x, (PA[f]'hfA).toNat = x := ⟨_, rfl⟩
          obtain ⟨xb, hxb⟩ : ∃ x, (PB[f]'hfB).toNat = x := ⟨_, rfl⟩
          obtain ⟨ya, hya⟩ : ∃ x, (PA[g]'hgA).toNat = x := ⟨_, rfl⟩
          obtain ⟨yb, hyb⟩ : ∃ x, (PB[g]'hgB).toNat = x := ⟨_, rfl⟩
          rw [hxa, hxb] at v1
          rw [hya, hyb] at v2
          have n1 := bne_iff_ne.1 v1.symm
          have n2 := bne_iff_ne.1 v2.symm
          have m1 : ((xa : Int) == (xb : Int)) = false := by rw [beq_eq_false_iff_ne]; omega
          have m1' : (xa == xb) = false := by rw [beq_eq_false_iff_ne]; exact n1
          have m2 : ((ya : Int) == (yb : Int)) = false := by rw [beq_eq_false_iff_ne]; omega
          have m2' : (ya == yb) = false := by rw [beq_eq_false_iff_ne]; exact n2
          have e1 : IntKind.i64.wrap ((f : Int) + (T.size : Int)) = (t : Int) := by rw [IntWalk.i64_in _ ⟨by omega, by omega⟩]; omega
          have e2 : IntKind.i64.wrap ((t : Int) - 1) = (g : Int) := by rw [IntWalk.i64_in _ ⟨by omega, by omega⟩]; omega
          have z1 : decide ((f : Int) < 0) = false := decide_eq_false (by omega)
          have z2 : decide ((PA.size : Int) < (t : Int)) = false := decide_eq_false (by omega)
          have z2' : decide (PA.size < t) = false := decide_eq_false (by omega)
          have z3 : decide ((t : Int) ≤ (f : Int)) = false := decide_eq_false (by omega)
          have z3' : decide (t ≤ f) = false := decide_eq_false (by omega)
          have k1 : t ≤ PB.size := by have := HAB.out; omega
          have k2 : f ≤ t := by omega
          have dj : decide ((j : Int) < (N : Int)) = true := decide_eq_true (by omega)
          have dj' : decide (j < N) = true := decide_eq_true hlt
          have HCv := Lib.hid hcvs
          have HEv := Lib.hid hevs
          have K2 := Lib.hid k2
          have S2 := Lib.hid s2
          obtain ⟨E0, hE0⟩ : ∃ E, ev X j = E := ⟨_, rfl⟩
          rw [hE0] at hgap ⊢
          have hb1 : f ≤ 16384 := by omega
          have hb2 : t ≤ 16384 := by omega
          clear hc hrow hb hbl hjX hcvs hevs hx s1 s2 s3 s4 hg v1 v2 n1 n2 hTs hE0
          have hgap2 : E0 = -1 ∨ (0 ≤ E0 ∧ E0 ≤ 16384 ∧ decide (0 ≤ E0) = true ∧ decide ((f : Int) - E0 ≤ 4) = false) := by
            rcases hgap with q | ⟨q1, q2, q3⟩
            · exact .inl q
            · exact .inr ⟨q1, by omega, decide_eq_true q1, decide_eq_false (by omega)⟩
          clear hgap
          rcases hgap2 with rfl | ⟨q1, q2, q3, q4⟩
          all_goals
            go_wp2_with fail
            go_quiet (fail)
            go_wp2_with fail
            go_quiet (fail)
            go_wp2_with fail
            clear z1 z2 z2' z3 z3' m1 m1' m2 m2' e1 e2 hxa hxb hya hyb hT c0 c1 k1 k2
            go_loopw [18] (fun z wi => ∃ k : Nat, f ≤ k ∧ k ≤ t ∧ z = .int .i64 k ∧ wi.rowIs w5.heap.size 4 PA.size (fun i => .bool (cv X i j || (decide (f ≤ i) && decide (i < k)))) ∧ Below w5.heap.size w5 wi) (fun z _ => t - (intOf z).toNat)
            case atStart => exact ⟨f, Nat.le_refl _, K2.out, rfl, World.rowIs.congr (HRow.out) (fun i hi => by
              by_cases q : f ≤ i
              · rw [decide_eq_true q, decide_eq_false (show ¬ i < f by omega)]; simp
              · rw [decide_eq_false q]; simp), bel_n (bel_n HBw.out _) _⟩
            case round =>
              obtain ⟨k, hk1, hk2, rfl, hrw, hbw⟩ := hrel
              by_cases hkt : k < t
              · have hkA : k < PA.size := by have := S2.out; omega
                have hcl := World.rowIs.cell hrw hkA
                have hfz := World.rowIs.frozen hrw k
                have hset := World.rowIs.congr (World.rowIs.set hrw k (.bool true)) (g := fun i => .bool (cv X i j || (decide (f ≤ i) && decide (i < k + 1)))) (fun i hi => by
                  by_cases q : i = k
                  · rw [if_pos q, q, decide_eq_true hk1, decide_eq_true (show k < k + 1 by omega)]; simp
                  · rw [if_neg q]
                    by_cases q2 : i < k
                    · rw [decide_eq_true q2, decide_eq_true (show i < k + 1 by omega)]
                    · rw [decide_eq_false q2, decide_eq_false (show ¬ i < k + 1 by omega)])
                have HSet := Lib.hid hset
                have HBs := Lib.hid (hbw.setCell (p := ⟨w5.heap.size, k, none⟩) (Nat.le_refl _) (.bool true))
                have dk : decide ((k : Int) < (t : Int)) = true := decide_eq_true (by omega)
                have dk' : decide (k < t) = true := decide_eq_true hkt
                have HK1 := Lib.hid hk1
                clear hrw hbw hset hk1 hk2
                go_wp2_with fail
                go_roundw
                case rel => exact ⟨k + 1, by have := HK1.out; omega, by omega, by go_num, HSet.out, HBs.out⟩
                case measure => simp [intOf]; omega
              · obtain rfl : k = t := by omega
                have dk : decide ((k : Int) < (k : Int)) = false := decide_eq_false (by omega)
                have HRw := Lib.hid (World.rowIs.congr hrw (g := fun i => .bool (cv X i (j + 1))) (fun i hi => by rw [HCv.out]))
                have HBk := Lib.hid hbw
                clear hrw hbw hk1 hk2
                go_wp2_with fail
                go_roundw
                case rel => exact ⟨j + 1, by omega, by go_num, by rw [HEv.out], HRw.out, HBk.out⟩
                case measure => simp [intOf]; omega
        · obtain rfl : j = N := by omega
          have dj : decide ((j : Int) < (j : Int)) = false := decide_eq_false (by omega)
          clear hrow hb
          go_wp2_with fail
          clear dj
          go_loopw [19, 20] (fun z i wq => ∃ k : Nat, k ≤ PA.size ∧ i = .int .i64 k ∧ z = .int .i64 (cnt D k : Nat) ∧ ∃ q, wq = wr.drewN q) (fun _ i _ => PA.size - (intOf i).toNat)
          case atStart => exact ⟨0, Nat.zero_le _, rfl, rfl, 0, rfl⟩
          case round =>
            obtain ⟨k, hk, rfl, rfl, q, rfl⟩ := hrel
            have hck := cnt_le D k
            have hcs : cnt D (k + 1) = cnt D k + (if D k then 1 else 0) := rfl
            obtain ⟨cc, hcc⟩ : ∃ c, cnt D k = c := ⟨_, rfl⟩
            rw [hcc] at hck hcs ⊢
            by_cases hlt : k < PA.size
            · have hkB : k < PB.size := by have := HAB.out; omega
              have v1 := HVal.out k hlt hkB
              obtain ⟨xa, hxa⟩ : ∃ x, (PA[k]'hlt).toNat = x := ⟨_, rfl⟩
              obtain ⟨xb, hxb⟩ : ∃ x, (PB[k]'hkB).toNat = x := ⟨_, rfl⟩
              rw [hxa, hxb] at v1
              have dk : decide ((k : Int) < (PA.size : Int)) = true := decide_eq_true (by omega)
              have dk' : decide (k < PA.size) = true := decide_eq_true hlt
              cases hDk : D k with
              | true =>
                rw [hDk] at v1 hcs
                have n1 := bne_iff_ne.1 v1.symm
                have m1 : ((xa : Int) != (xb : Int)) = true := by rw [bne_iff_ne]; omega
                have m1' : (xa != xb) = true := v1.symm
                have hcl := World.rowIs.cell HRow.out hlt
                have hcov := HCov.out k hlt hDk
                rw [HN.out] at hcov
                simp only [hcov] at hcl
                have HCs := Lib.hid (show cnt D (k + 1) = cc + 1 from hcs)
                clear v1 hDk hcs hcov n1 hcc
                go_wp2_with fail
                go_quiet (fail)
                go_wp2_with fail
                go_roundw
                case rel => exact ⟨k + 1, by omega, by go_num, by rw [HCs.out]; go_num, _, rfl⟩
                case measure => simp [intOf]; omega
              | false =>
                rw [hDk] at v1 hcs
                have n1 : xa = xb := by simpa using v1.symm
                have m1 : ((xa : Int) != (xb : Int)) = false := by rw [n1]; simp
                have m1' : (xa != xb) = false := v1.symm
                have HCs := Lib.hid (show cnt D (k + 1) = cc from hcs)
                clear v1 hDk hcs n1 hcc
                go_wp2_with fail
                go_quiet (fail)
                go_wp2_with fail
                go_roundw
                case rel => exact ⟨k + 1, by omega, by go_num, by rw [HCs.out], _, rfl⟩
                case measure => simp [intOf]; omega
            · obtain rfl : k = PA.size := by omega
              have hsz := HSz.out
              rw [hcc] at hsz
              have dk : decide ((PA.size : Int) < (PA.size : Int)) = false := decide_eq_false (by omega)
              have dz : decide ((sz : Int) ≤ 5 * (cc : Int)) = true := decide_eq_true (by omega)
              have dz' : decide (sz ≤ 5 * cc) = true := decide_eq_true hsz
              have BQ := Lib.hid (bel_n HBw.out q)
              clear hcs hcc hsz
              go_wp2_with (first
                | (go_at_call 20; (with_reducible refine (HZ.out _ _ _ (I5.out.below BQ.out)).mono ?_); rintro e w8 ⟨rfl, b8⟩; have B8 := Lib.hid ((HBl.out _ BQ.out).trans (b8.mono (HBl.out _ BQ.out).size)); clear b8)
                | (go_at_call 11; (with_reducible refine (HV.out _).mono ?_); rintro e w9 ⟨rfl, b9⟩; have B9 := Lib.hid (B8.out.trans (b9.mono B8.out.size)); clear b9))
              go_ret
              exact ⟨rfl, B9.out⟩
end Go.Proofs.Ytbbfbijgclpjeaa
