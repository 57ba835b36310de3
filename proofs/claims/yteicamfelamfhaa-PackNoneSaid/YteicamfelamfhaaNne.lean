/- PackNone returns true for any counts, any limit, wherever a symbol that does not count is put (written by gen/pno.py). Conditions: none. -/
import Derived.Test.YteicamfelamfhaaOwI
import Derived.Test.YteicamfelamfhaaDrw
import Derived.Deep.QuietTactic
import Derived.BigQuiet
namespace Go.Proofs.Yteicamfelamfhaa
open Go.RowKit M
set_option linter.unusedVariables false
set_option linter.unusedSimpArgs false

theorem Is.empty {base : Nat} (w : World) (hb : base ≤ w.heap.size) (F : Nat → Int) : Is base (w.alloc (.cells #[] 3)) (.slice (some ⟨w.heap.size, 0, none⟩) 0 0) 0 F :=
  World.ownsRow_lit (e := 3) w #[] 0 hb (by decide) rfl
theorem nums_take {w : World} {A : Option Addr} {n k : Nat} {f : Nat → Int} (H : Nums w .u8 A n f) (hk : k ≤ n) : Nums w .u8 A k f := fun h0 => by
  obtain ⟨b, o, e, hb, hc⟩ := H (by omega)
  exact ⟨b, o, e, hb, fun i hi => hc i (by omega)⟩
theorem nums_cut {w : World} {b n : Nat} {f : Nat → Int} (H : Nums w .u8 (some ⟨b, 0, none⟩) n f) (k : Nat) (P : Prop) [Decidable P] (hP : P → n ≤ k) : Nums w .u8 (if P then some ⟨b, 0, none⟩ else some ⟨b, k, none⟩) (n - k) (fun i => f (k + i)) := fun h0 => by
  obtain ⟨b', o', e, hb, hcl⟩ := H (by omega)
  simp only [Option.some.injEq, Addr.mk.injEq, and_true] at e
  obtain ⟨rfl, rfl⟩ := e
  rw [if_neg (fun h => by have := hP h; omega)]
  refine ⟨b, k, rfl, hb, fun i hi => ?_⟩
  have := hcl (k + i) (by omega)
  rwa [Nat.zero_add] at this
/-- the greatest of the first n -/
def mx (f : Nat → Nat) : Nat → Nat
  | 0 => 0
  | n + 1 => max (mx f n) (f n)
theorem mx_le {f : Nat → Nat} {M : Nat} (h : ∀ i, f i ≤ M) : ∀ n, mx f n ≤ M
  | 0 => Nat.zero_le _
  | n + 1 => by have := mx_le h n; have := h n; simp only [mx]; omega
theorem mx_ge (f : Nat → Nat) : ∀ {n s : Nat}, s < n → f s ≤ mx f n
  | 0, s, h => by omega
  | n + 1, s, h => by
    simp only [mx]
    by_cases e : s = n
    · subst e; omega
    · have := mx_ge f (n := n) (s := s) (by omega); omega

theorem pnone_far (A : Option Addr) (n c : Nat) (x t : Int) (W : World) (hn : n ≤ maxLen) (h : 100 < n) :
    Calls Try.prog 7 #[.slice A n c, .int .u8 x, .int .u16 t] W fun e w' => e = .returned (.bool true) ∧ Below W.heap.size W w' := by
  have hn' : n ≤ 9223372036854775807 := by unfold maxLen at hn; omega
  have d1 : decide (100 < (n : Int)) = true := decide_eq_true (by omega)
  clear h
  go_enter Try.func7, Try.ntmps7
  go_wp2_with fail
  refine (alive_any _).mono ?_; rintro e w2 ⟨rfl, b2⟩
  go_wp2_with fail
  go_ret
  exact ⟨rfl, b2⟩

set_option maxHeartbeats 8000000 in
set_option maxRecDepth 1000000 in
theorem pnone_few (A : Option Addr) (n c x t : Nat) (y : Nat → Nat) (m : Nat) (e : Nat → Nat × Nat) (W : World) (hn : n ≤ 100) (hx : x < 256) (ht : t < 65536) (hy : ∀ i, y i ≤ 65535) (H : Nums W .u16 A n (fun i => (y i : Int))) (hl : IsLv y n m e) (hb : x % 15 + 1 < nds m) :
    Calls Try.prog 7 #[.slice A n c, .int .u8 x, .int .u16 t] W fun e w' => e = .returned (.bool true) ∧ Below W.heap.size W w' := by
  have d1 : decide (100 < (n : Int)) = false := decide_eq_false (by omega)
  have HA := Lib.hid H
  have HY := Lib.hid hy
  have HL := Lib.hid hl
  obtain ⟨L, hL⟩ : ∃ L, x % 15 + 1 = L := ⟨_, rfl⟩
  obtain ⟨k, hk⟩ : ∃ k, t % (n + 1) = k := ⟨_, rfl⟩
  rw [hL] at hb
  have HB := Lib.hid hb
  have hkn : k ≤ n := by rw [← hk]; exact Nat.le_of_lt_succ (Nat.mod_lt _ (Nat.succ_pos _))
  have v1 : (x : Int).tmod 15 = (L : Int) - 1 := by rw [Int.tmod_eq_emod_of_nonneg (by omega)]; omega
  have v2 : (x : Int) % 15 = (L : Int) - 1 := by omega
  have hkm2 : (t : Int) % ((n : Int) + 1) = (k : Int) := by rw [← hk]; rfl
  have hkm : (t : Int).tmod ((n : Int) + 1) = (k : Int) := by rw [Int.tmod_eq_emod_of_nonneg (by omega)]; exact hkm2
  have htw : IntKind.i64.wrap (t : Int) = (t : Int) := IntWalk.i64_in _ (by omega)
  have L1 : 1 ≤ L := by omega
  have L2 : L ≤ 15 := by omega
  have Y30 := Lib.hid (show ∀ i, y i ≤ 1073741824 from fun i => by have := hy i; omega)
  have P30 := Lib.hid (show ∀ i, put0 y k i ≤ 1073741824 from fun i => by
    unfold put0
    split
    · exact Y30.out _
    · split
      · omega
      · exact Y30.out _)
  have LP := Lib.hid (lv_put hkn hl)
  have hmk := fun w => madeInt w n (by omega)
  have R0 := Lib.hid (Irow.made W n)
  have R2 := Lib.hid ((Below.refl W.heap.size W).alloc (Nat.le_refl _) (.cells (madeCells #[.int .i64 0] n) 3))
  clear H hy hl hL hk hx ht hb
  go_enter Try.func7, Try.ntmps7
  go_wp2_with fail
  clear hmk
  go_loopw [9] (fun i wr => ∃ j : Nat, j ≤ n ∧ i = .int .i64 j ∧ Irow wr W.heap.size n (fun i => if i < j then (y i : Int) else 0) ∧ Below W.heap.size W wr) (fun i _ => n - (intOf i).toNat)
  case atStart => exact ⟨0, Nat.zero_le _, rfl, R0.out.congr (fun i _ => by rw [if_neg (by omega)]), R2.out⟩
  case round =>
    obtain ⟨j, hj, rfl, i1, hb⟩ := hrel
    by_cases hlt : j < n
    · obtain ⟨b, o, rfl, hbs, hc⟩ := HA.out (by omega)
      have hcell := (hb.cell hbs).trans (hc j hlt)
      have h655 := HY.out j
      have c1 := i1.cell hlt
      have f1 := i1.frozen j
      rw [if_neg (Nat.lt_irrefl _)] at c1
      have hsz1 := i1.lt
      obtain ⟨v, hv⟩ : ∃ v, y j = v := ⟨_, rfl⟩
      simp only [hv] at hcell h655
      have I1 := Lib.hid ((i1.set j (v : Int)).congr (y := fun i => if i < j + 1 then (y i : Int) else 0) (fun i _ => by
        by_cases r : i = j
        · rw [if_pos r, if_pos (by omega), r, hv]
        · rw [if_neg r]
          by_cases r2 : i < j
          · rw [if_pos r2, if_pos (by omega)]
          · rw [if_neg r2, if_neg (by omega)]))
      have B3 := Lib.hid (hb.setCell (p := ⟨W.heap.size, j, none⟩) (by simp) (.int .i64 (v : Int)))
      clear i1 hb hv hc
      go_wp2_with fail
      go_roundw
      case rel => exact ⟨j + 1, by omega, by go_num, I1.out, B3.out⟩
      case measure => simp [intOf]; omega
    · obtain rfl : n = j := by omega
      obtain ⟨w1, hw1⟩ : ∃ w1, wr = w1 := ⟨_, rfl⟩
      obtain ⟨b, hb0⟩ : ∃ b, W.heap.size = b := ⟨_, rfl⟩
      have HB0 := Lib.hid hb0
      rw [hb0] at i1
      rw [hw1] at i1 hb ⊢
      have I1 := Lib.hid (i1.congr (y := fun i => (y i : Int)) (fun i hi => by rw [if_pos hi]))
      have BW := Lib.hid hb
      have hbw : b < w1.heap.size := i1.lt
      have HC1 := Lib.hid (fun i (hi : i < n) => I1.out.cell hi)
      obtain ⟨ad, had⟩ : ∃ ad : Addr, (if n = k then some (⟨b, 0, none⟩ : Addr) else some ⟨b, k, none⟩) = some ad ∧ (∀ j, j < n - k → ad.add j = ⟨b, k + j, none⟩) := by
        by_cases e : n = k
        · exact ⟨_, by rw [if_pos e], fun j hj => by omega⟩
        · exact ⟨_, by rw [if_neg e], fun j hj => by rw [iadd_at]⟩
      have HAD := Lib.hid had.1
      have HADJ := Lib.hid had.2
      clear i1 hb had hw1
      rw [hb0]
      go_wp2_with fail
      clear hb0
      refine take_region (fun _ => True) trivial (fun h0 => ?_)
      refine take_op (i := 1) (d := some 52) (v := ?_) rfl rfl (by kernel_rfl) (by kernel_rfl) (by kernel_rfl) (fun _ _ _ h => h) (by rfl) (fun w hSw => ?_) h0 ?_
      rotate_left
      · (go_simp; (try rw [HAD.out]); (try with_reducible rfl))
      (try simp only [Act.put, List.setIfInBounds_toArray, List.set_cons_zero, List.set_cons_succ])
      refine take_op (i := 2) (d := some 53) (v := ?_) rfl rfl (by kernel_rfl) (by kernel_rfl) (by kernel_rfl) (fun _ _ _ h => h) (by rfl) (fun w hSw => ?_) h0 ?_
      rotate_left
      · (go_simp; (try rw [HAD.out]); (try with_reducible rfl))
      (try simp only [Act.put, List.setIfInBounds_toArray, List.set_cons_zero, List.set_cons_succ])
      refine take_op (i := 3) (d := some 54) (v := ?_) rfl rfl (by kernel_rfl) (by kernel_rfl) (by kernel_rfl) (fun _ _ _ h => h) (by rfl) (fun w hSw => ?_) h0 ?_
      rotate_left
      · (go_simp; (try rw [HAD.out]); (try with_reducible rfl))
      (try simp only [Act.put, List.setIfInBounds_toArray, List.set_cons_zero, List.set_cons_succ])
      refine take_op (i := 7) (d := some 58) (v := ?_) rfl rfl (by kernel_rfl) (by kernel_rfl) (by kernel_rfl) (fun _ _ _ h => h) (by rfl) (fun w hSw => ?_) h0 ?_
      rotate_left
      · (go_simp; (try rw [HAD.out]); (try with_reducible rfl))
      (try simp only [Act.put, List.setIfInBounds_toArray, List.set_cons_zero, List.set_cons_succ])
      refine take_op (i := 8) (d := some 59) (v := ?_) rfl rfl (by kernel_rfl) (by kernel_rfl) (by kernel_rfl) (fun _ _ _ h => h) (by rfl) (fun w hSw => ?_) h0 ?_
      rotate_left
      · (go_simp; (try rw [HAD.out]); (try with_reducible rfl))
      (try simp only [Act.put, List.setIfInBounds_toArray, List.set_cons_zero, List.set_cons_succ])
      refine take_op (i := 9) (d := some 60) (v := ?_) rfl rfl (by kernel_rfl) (by kernel_rfl) (by kernel_rfl) (fun _ _ _ h => h) (by rfl) (fun w hSw => ?_) h0 ?_
      rotate_left
      · (go_simp; (try rw [HAD.out]); (try with_reducible rfl))
      (try simp only [Act.put, List.setIfInBounds_toArray, List.set_cons_zero, List.set_cons_succ])
      refine wpAnyH_ready (rs := [0, 5]) (by kernel_rfl) (by simp) ?_
      refine AllReadyH.cons rfl (fun K hK => ?_) ?_
      rotate_left
      · refine AllReadyH.cons rfl (fun K hK => ?_) AllReadyH.nil
        go_simp
        refine hK.out _ _ trivial (fun h1 => ?_)
        clear hK K h0
        (try simp only [Act.put, List.setIfInBounds_toArray, List.set_cons_zero, List.set_cons_succ])
        refine wpAnyH_ready (rs := [0]) (by kernel_rfl) (by simp) ?_
        refine AllReadyH.cons rfl (fun K hK => ?_) ?_
        rotate_left
        · exact AllReadyH.nil
        go_simp
        refine hK.out _ _ trivial (fun h2 => ?_)
        clear hK K h1
        (try simp only [Act.put, List.setIfInBounds_toArray, List.set_cons_zero, List.set_cons_succ])
        refine wpAnyH_ready (rs := [4]) (by kernel_rfl) (by simp) ?_
        refine AllReadyH.cons rfl (fun K hK => ?_) ?_
        rotate_left
        · exact AllReadyH.nil
        have ba : Below w1.heap.size w1 ((w1.drew.alloc (.cells #[.int .i64 0] 3)).alloc (.cells #[] 3)) := by
          exact (((Below.refl _ _).drew).alloc (Nat.le_refl _) _).alloc (by simp) _
        have BE : Is w1.heap.size ((w1.drew.alloc (.cells #[.int .i64 0] 3)).alloc (.cells #[] 3)) (.slice (some ⟨w1.heap.size + 1, 0, none⟩) 0 0) 0 (fun s => (y s : Int)) := by
          have := Is.empty (base := w1.heap.size) (w1.drew.alloc (.cells #[.int .i64 0] 3)) (by simp) (fun s => (y s : Int))
          rw [show (w1.drew.alloc (.cells #[.int .i64 0] 3)).heap.size = w1.heap.size + 1 by simp] at this
          exact this
        have ca : ∀ j, j < k → ((w1.drew.alloc (.cells #[.int .i64 0] 3)).alloc (.cells #[] 3)).cell? ((⟨b, 0, none⟩ : Addr).add j) = some (.int .i64 (y j : Int)) := fun j hj => by
          rw [iadd_at, Nat.zero_add]; exact (ba.cell hbw).trans (HC1.out j (by omega))
        rw [if_pos (by rfl)]
        refine wp_api (d := some 55) rfl (.tmp 51) (.tmp 54) rfl w1.heap.size (.slice (some ⟨w1.heap.size + 1, 0, none⟩) 0 0) 0 (fun s => (y s : Int)) rfl BE ⟨b, 0, none⟩ k n (fun s => (y s : Int)) rfl ca (by omega) (by simp; omega) ?_
        intro v2 w2 o2 hgw2 hbw2 hkw2
        rw [Nat.zero_add] at o2
        have O2 := Lib.hid (o2.congr (G := (fun s => (y s : Int))) (fun i hi => by unfold catI; rw [if_neg (by omega)]; rfl))
        have B2 := Lib.hid (ba.trans hbw2)
        have z2 : w2.cell? ⟨w1.heap.size, 0, none⟩ = some (.int .i64 0) := by
          refine (World.cell?_of_block (hgw2.block _ (by simp <;> omega) (fun e => by have e2 : w1.heap.size = w1.heap.size + 1 := Option.some.inj e; omega))).trans ?_
          simp
        clear o2 hgw2 hbw2 hkw2 ba ca BE
        refine hK.out _ _ trivial (fun h3 => ?_)
        clear hK K h2
        (try simp only [Act.put, List.setIfInBounds_toArray, List.set_cons_zero, List.set_cons_succ])
        have z3 : ∀ j, j < 1 → w2.cell? ((⟨w1.heap.size, 0, none⟩ : Addr).add j) = some (.int .i64 0) := fun j hj => by
          obtain rfl : j = 0 := by omega
          rw [iadd_at]; exact z2
        have b3 : Below w1.heap.size w1 w2 := B2.out
        refine wpAnyH_ready (rs := [6]) (by kernel_rfl) (by simp) ?_
        refine AllReadyH.cons rfl (fun K hK => ?_) ?_
        rotate_left
        · exact AllReadyH.nil
        rw [if_pos (by rfl)]
        refine wp_api (d := some 57) rfl (.tmp 55) (.tmp 56) rfl w1.heap.size v2 k (fun s => (y s : Int)) rfl O2.out ⟨w1.heap.size, 0, none⟩ 1 1 (fun _ => 0) rfl z3 (by omega) b3.size ?_
        intro v4 w4 o4 hgw4 hbw4 hkw4
        have O4 := Lib.hid o4
        have B4 := Lib.hid (b3.trans hbw4)
        clear o4 hgw4 hbw4 hkw4 b3 z3 z2
        refine hK.out _ _ trivial (fun h4 => ?_)
        clear hK K h3
        (try simp only [Act.put, List.setIfInBounds_toArray, List.set_cons_zero, List.set_cons_succ])
        refine wpAnyH_ready (rs := [10]) (by kernel_rfl) (by simp) ?_
        refine AllReadyH.cons rfl (fun K hK => ?_) ?_
        rotate_left
        · exact AllReadyH.nil
        have c4 : ∀ j, j < n - k → w4.cell? (ad.add j) = some (.int .i64 (y (k + j) : Int)) := fun j hj => by
          rw [HADJ.out j hj]; exact (B4.out.cell hbw).trans (HC1.out (k + j) (by omega))
        rw [if_pos (by rfl)]
        refine wp_api (d := some 61) rfl (.tmp 57) (.tmp 60) rfl w1.heap.size v4 (k + 1) _ rfl O4.out ad (n - k) (n - k) (fun j => (y (k + j) : Int)) rfl c4 (by omega) B4.out.size ?_
        intro v5 w5 o5 hgw5 hbw5 hkw5
        rw [show k + 1 + (n - k) = n + 1 by omega] at o5
        obtain ⟨g5, cap5, rfl, hg5a, hg5b⟩ := o5.form (Nat.succ_pos n)
        have O5 := Lib.hid (o5.congr (G := fun s => (put0 y k s : Int)) (fun i hi => by
          unfold catI put0
          by_cases e1 : i < k
          · rw [if_pos (show i < k + 1 by omega), if_pos e1, if_pos e1]
          · by_cases e2 : i = k
            · rw [if_pos (show i < k + 1 by omega), if_neg e1, if_neg e1, if_pos e2]; rfl
            · rw [if_neg (show ¬ i < k + 1 by omega), if_neg e1, if_neg e2]
              show (y (k + (i - (k + 1))) : Int) = (y (i - 1) : Int)
              rw [show k + (i - (k + 1)) = i - 1 by omega]))
        have B5 := Lib.hid (B4.out.trans hbw5)
        clear o5 hgw5 hbw5 hkw5 c4
        refine hK.out _ _ trivial (fun h5 => ?_)
        clear hK K h4
        (try simp only [Act.put, List.setIfInBounds_toArray, List.set_cons_zero, List.set_cons_succ])
        refine take_op (i := 11) (d := some 11) (v := ?_) rfl rfl (by kernel_rfl) (by kernel_rfl) (by kernel_rfl) (fun _ _ _ h => h) (by rfl) (fun w hSw => ?_) h5 ?_
        rotate_left
        · (go_simp; (try rw [HAD.out]); (try with_reducible rfl))
        (try simp only [Act.put, List.setIfInBounds_toArray, List.set_cons_zero, List.set_cons_succ])
        refine wpAnyH_done (by kernel_rfl) ?_ _
        clear h5
        have BW5 := Lib.hid (BW.out.trans (B5.out.mono BW.out.size))
        have I5 := Lib.hid (I1.out.below B5.out I1.out.lt)
        go_wp2_with fail
        refine (lens_few (some ⟨b, 0, none⟩) n n L m y e _ (by omega) Y30.out I5.out.nums L1 L2 HL.out HB.out).mono ?_; rintro x1 w6 ⟨rfl, b6⟩
        have B6 := Lib.hid (BW5.out.trans (b6.mono BW5.out.size))
        have O6 := Lib.hid (O5.out.below b6)
        clear b6
        go_wp2_with fail
        refine (lens_few (some ⟨g5, 0, none⟩) (n + 1) cap5 L m (put0 y k) (te 1 (ups k) e) _ (by omega) P30.out O6.out.nums L1 L2 LP.out HB.out).mono ?_; rintro x1 w7 ⟨rfl, b7⟩
        have B7 := Lib.hid (B6.out.trans (b7.mono B6.out.size))
        clear b7
        go_wp2_with fail
        refine (alive_any _).mono ?_; rintro x1 w9 ⟨rfl, b9⟩
        go_wp2_with fail
        go_ret
        exact ⟨rfl, B7.out.trans (b9.mono B7.out.size)⟩
      · go_simp
        refine hK.out _ _ trivial (fun h1 => ?_)
        clear hK K h0
        (try simp only [Act.put, List.setIfInBounds_toArray, List.set_cons_zero, List.set_cons_succ])
        refine wpAnyH_ready (rs := [4, 5]) (by kernel_rfl) (by simp) ?_
        refine AllReadyH.cons rfl (fun K hK => ?_) ?_
        rotate_left
        · refine AllReadyH.cons rfl (fun K hK => ?_) AllReadyH.nil
          go_simp
          refine hK.out _ _ trivial (fun h2 => ?_)
          clear hK K h1
          (try simp only [Act.put, List.setIfInBounds_toArray, List.set_cons_zero, List.set_cons_succ])
          refine wpAnyH_ready (rs := [4]) (by kernel_rfl) (by simp) ?_
          refine AllReadyH.cons rfl (fun K hK => ?_) ?_
          rotate_left
          · exact AllReadyH.nil
          have ba : Below w1.heap.size w1 ((w1.drew.alloc (.cells #[] 3)).alloc (.cells #[.int .i64 0] 3)) := by
            exact (((Below.refl _ _).drew).alloc (Nat.le_refl _) _).alloc (by simp) _
          have ca : ∀ j, j < k → ((w1.drew.alloc (.cells #[] 3)).alloc (.cells #[.int .i64 0] 3)).cell? ((⟨b, 0, none⟩ : Addr).add j) = some (.int .i64 (y j : Int)) := fun j hj => by
            rw [iadd_at, Nat.zero_add]; exact (ba.cell hbw).trans (HC1.out j (by omega))
          rw [if_pos (by rfl)]
          refine wp_api (d := some 55) rfl (.tmp 51) (.tmp 54) rfl w1.heap.size (.slice (some ⟨w1.heap.size, 0, none⟩) 0 0) 0 (fun s => (y s : Int)) rfl ((Is.empty w1.drew (Nat.le_refl _) (fun s => (y s : Int))).alloc (.cells #[.int .i64 0] 3)) ⟨b, 0, none⟩ k n (fun s => (y s : Int)) rfl ca (by omega) (by simp; omega) ?_
          intro v2 w2 o2 hgw2 hbw2 hkw2
          rw [Nat.zero_add] at o2
          have O2 := Lib.hid (o2.congr (G := (fun s => (y s : Int))) (fun i hi => by unfold catI; rw [if_neg (by omega)]; rfl))
          have B2 := Lib.hid (ba.trans hbw2)
          have z2 : w2.cell? ⟨w1.heap.size + 1, 0, none⟩ = some (.int .i64 0) := by
            refine (World.cell?_of_block (hgw2.block _ (by simp <;> omega) (fun e => by have e2 : w1.heap.size + 1 = w1.heap.size := Option.some.inj e; omega))).trans ?_
            simp
          clear o2 hgw2 hbw2 hkw2 ba ca
          refine hK.out _ _ trivial (fun h3 => ?_)
          clear hK K h2
          (try simp only [Act.put, List.setIfInBounds_toArray, List.set_cons_zero, List.set_cons_succ])
          have z3 : ∀ j, j < 1 → w2.cell? ((⟨w1.heap.size + 1, 0, none⟩ : Addr).add j) = some (.int .i64 0) := fun j hj => by
            obtain rfl : j = 0 := by omega
            rw [iadd_at]; exact z2
          have b3 : Below w1.heap.size w1 w2 := B2.out
          refine wpAnyH_ready (rs := [6]) (by kernel_rfl) (by simp) ?_
          refine AllReadyH.cons rfl (fun K hK => ?_) ?_
          rotate_left
          · exact AllReadyH.nil
          rw [if_pos (by rfl)]
          refine wp_api (d := some 57) rfl (.tmp 55) (.tmp 56) rfl w1.heap.size v2 k (fun s => (y s : Int)) rfl O2.out ⟨w1.heap.size + 1, 0, none⟩ 1 1 (fun _ => 0) rfl z3 (by omega) b3.size ?_
          intro v4 w4 o4 hgw4 hbw4 hkw4
          have O4 := Lib.hid o4
          have B4 := Lib.hid (b3.trans hbw4)
          clear o4 hgw4 hbw4 hkw4 b3 z3 z2
          refine hK.out _ _ trivial (fun h4 => ?_)
          clear hK K h3
          (try simp only [Act.put, List.setIfInBounds_toArray, List.set_cons_zero, List.set_cons_succ])
          refine wpAnyH_ready (rs := [10]) (by kernel_rfl) (by simp) ?_
          refine AllReadyH.cons rfl (fun K hK => ?_) ?_
          rotate_left
          · exact AllReadyH.nil
          have c4 : ∀ j, j < n - k → w4.cell? (ad.add j) = some (.int .i64 (y (k + j) : Int)) := fun j hj => by
            rw [HADJ.out j hj]; exact (B4.out.cell hbw).trans (HC1.out (k + j) (by omega))
          rw [if_pos (by rfl)]
          refine wp_api (d := some 61) rfl (.tmp 57) (.tmp 60) rfl w1.heap.size v4 (k + 1) _ rfl O4.out ad (n - k) (n - k) (fun j => (y (k + j) : Int)) rfl c4 (by omega) B4.out.size ?_
          intro v5 w5 o5 hgw5 hbw5 hkw5
          rw [show k + 1 + (n - k) = n + 1 by omega] at o5
          obtain ⟨g5, cap5, rfl, hg5a, hg5b⟩ := o5.form (Nat.succ_pos n)
          have O5 := Lib.hid (o5.congr (G := fun s => (put0 y k s : Int)) (fun i hi => by
            unfold catI put0
            by_cases e1 : i < k
            · rw [if_pos (show i < k + 1 by omega), if_pos e1, if_pos e1]
            · by_cases e2 : i = k
              · rw [if_pos (show i < k + 1 by omega), if_neg e1, if_neg e1, if_pos e2]; rfl
              · rw [if_neg (show ¬ i < k + 1 by omega), if_neg e1, if_neg e2]
                show (y (k + (i - (k + 1))) : Int) = (y (i - 1) : Int)
                rw [show k + (i - (k + 1)) = i - 1 by omega]))
          have B5 := Lib.hid (B4.out.trans hbw5)
          clear o5 hgw5 hbw5 hkw5 c4
          refine hK.out _ _ trivial (fun h5 => ?_)
          clear hK K h4
          (try simp only [Act.put, List.setIfInBounds_toArray, List.set_cons_zero, List.set_cons_succ])
          refine take_op (i := 11) (d := some 11) (v := ?_) rfl rfl (by kernel_rfl) (by kernel_rfl) (by kernel_rfl) (fun _ _ _ h => h) (by rfl) (fun w hSw => ?_) h5 ?_
          rotate_left
          · (go_simp; (try rw [HAD.out]); (try with_reducible rfl))
          (try simp only [Act.put, List.setIfInBounds_toArray, List.set_cons_zero, List.set_cons_succ])
          refine wpAnyH_done (by kernel_rfl) ?_ _
          clear h5
          have BW5 := Lib.hid (BW.out.trans (B5.out.mono BW.out.size))
          have I5 := Lib.hid (I1.out.below B5.out I1.out.lt)
          go_wp2_with fail
          refine (lens_few (some ⟨b, 0, none⟩) n n L m y e _ (by omega) Y30.out I5.out.nums L1 L2 HL.out HB.out).mono ?_; rintro x1 w6 ⟨rfl, b6⟩
          have B6 := Lib.hid (BW5.out.trans (b6.mono BW5.out.size))
          have O6 := Lib.hid (O5.out.below b6)
          clear b6
          go_wp2_with fail
          refine (lens_few (some ⟨g5, 0, none⟩) (n + 1) cap5 L m (put0 y k) (te 1 (ups k) e) _ (by omega) P30.out O6.out.nums L1 L2 LP.out HB.out).mono ?_; rintro x1 w7 ⟨rfl, b7⟩
          have B7 := Lib.hid (B6.out.trans (b7.mono B6.out.size))
          clear b7
          go_wp2_with fail
          refine (alive_any _).mono ?_; rintro x1 w9 ⟨rfl, b9⟩
          go_wp2_with fail
          go_ret
          exact ⟨rfl, B7.out.trans (b9.mono B7.out.size)⟩
        · have ba : Below w1.heap.size w1 (w1.drew.alloc (.cells #[] 3)) := by
            exact ((Below.refl _ _).drew).alloc (Nat.le_refl _) _
          have ca : ∀ j, j < k → (w1.drew.alloc (.cells #[] 3)).cell? ((⟨b, 0, none⟩ : Addr).add j) = some (.int .i64 (y j : Int)) := fun j hj => by
            rw [iadd_at, Nat.zero_add]; exact (ba.cell hbw).trans (HC1.out j (by omega))
          rw [if_pos (by rfl)]
          refine wp_api (d := some 55) rfl (.tmp 51) (.tmp 54) rfl w1.heap.size (.slice (some ⟨w1.heap.size, 0, none⟩) 0 0) 0 (fun s => (y s : Int)) rfl (Is.empty w1.drew (Nat.le_refl _) (fun s => (y s : Int))) ⟨b, 0, none⟩ k n (fun s => (y s : Int)) rfl ca (by omega) (by simp) ?_
          intro v2 w2 o2 hgw2 hbw2 hkw2
          rw [Nat.zero_add] at o2
          have O2 := Lib.hid (o2.congr (G := (fun s => (y s : Int))) (fun i hi => by unfold catI; rw [if_neg (by omega)]; rfl))
          have B2 := Lib.hid (ba.trans hbw2)
          clear o2 hgw2 hbw2 hkw2 ba ca
          refine hK.out _ _ trivial (fun h2 => ?_)
          clear hK K h1
          (try simp only [Act.put, List.setIfInBounds_toArray, List.set_cons_zero, List.set_cons_succ])
          refine wpAnyH_ready (rs := [5]) (by kernel_rfl) (by simp) ?_
          refine AllReadyH.cons rfl (fun K hK => ?_) ?_
          rotate_left
          · exact AllReadyH.nil
          go_simp
          refine hK.out _ _ trivial (fun h3 => ?_)
          clear hK K h2
          (try simp only [Act.put, List.setIfInBounds_toArray, List.set_cons_zero, List.set_cons_succ])
          have z3 := one_int w2 0
          have b3 : Below w1.heap.size w1 (w2.alloc (.cells #[.int .i64 0] 3)) := B2.out.alloc B2.out.size _
          refine wpAnyH_ready (rs := [6]) (by kernel_rfl) (by simp) ?_
          refine AllReadyH.cons rfl (fun K hK => ?_) ?_
          rotate_left
          · exact AllReadyH.nil
          rw [if_pos (by rfl)]
          refine wp_api (d := some 57) rfl (.tmp 55) (.tmp 56) rfl w1.heap.size v2 k (fun s => (y s : Int)) rfl (O2.out.alloc (.cells #[.int .i64 0] 3)) ⟨w2.heap.size, 0, none⟩ 1 1 (fun _ => 0) rfl z3 (by omega) b3.size ?_
          intro v4 w4 o4 hgw4 hbw4 hkw4
          have O4 := Lib.hid o4
          have B4 := Lib.hid (b3.trans hbw4)
          clear o4 hgw4 hbw4 hkw4 b3 z3
          refine hK.out _ _ trivial (fun h4 => ?_)
          clear hK K h3
          (try simp only [Act.put, List.setIfInBounds_toArray, List.set_cons_zero, List.set_cons_succ])
          refine wpAnyH_ready (rs := [10]) (by kernel_rfl) (by simp) ?_
          refine AllReadyH.cons rfl (fun K hK => ?_) ?_
          rotate_left
          · exact AllReadyH.nil
          have c4 : ∀ j, j < n - k → w4.cell? (ad.add j) = some (.int .i64 (y (k + j) : Int)) := fun j hj => by
            rw [HADJ.out j hj]; exact (B4.out.cell hbw).trans (HC1.out (k + j) (by omega))
          rw [if_pos (by rfl)]
          refine wp_api (d := some 61) rfl (.tmp 57) (.tmp 60) rfl w1.heap.size v4 (k + 1) _ rfl O4.out ad (n - k) (n - k) (fun j => (y (k + j) : Int)) rfl c4 (by omega) B4.out.size ?_
          intro v5 w5 o5 hgw5 hbw5 hkw5
          rw [show k + 1 + (n - k) = n + 1 by omega] at o5
          obtain ⟨g5, cap5, rfl, hg5a, hg5b⟩ := o5.form (Nat.succ_pos n)
          have O5 := Lib.hid (o5.congr (G := fun s => (put0 y k s : Int)) (fun i hi => by
            unfold catI put0
            by_cases e1 : i < k
            · rw [if_pos (show i < k + 1 by omega), if_pos e1, if_pos e1]
            · by_cases e2 : i = k
              · rw [if_pos (show i < k + 1 by omega), if_neg e1, if_neg e1, if_pos e2]; rfl
              · rw [if_neg (show ¬ i < k + 1 by omega), if_neg e1, if_neg e2]
                show (y (k + (i - (k + 1))) : Int) = (y (i - 1) : Int)
                rw [show k + (i - (k + 1)) = i - 1 by omega]))
          have B5 := Lib.hid (B4.out.trans hbw5)
          clear o5 hgw5 hbw5 hkw5 c4
          refine hK.out _ _ trivial (fun h5 => ?_)
          clear hK K h4
          (try simp only [Act.put, List.setIfInBounds_toArray, List.set_cons_zero, List.set_cons_succ])
          refine take_op (i := 11) (d := some 11) (v := ?_) rfl rfl (by kernel_rfl) (by kernel_rfl) (by kernel_rfl) (fun _ _ _ h => h) (by rfl) (fun w hSw => ?_) h5 ?_
          rotate_left
          · (go_simp; (try rw [HAD.out]); (try with_reducible rfl))
          (try simp only [Act.put, List.setIfInBounds_toArray, List.set_cons_zero, List.set_cons_succ])
          refine wpAnyH_done (by kernel_rfl) ?_ _
          clear h5
          have BW5 := Lib.hid (BW.out.trans (B5.out.mono BW.out.size))
          have I5 := Lib.hid (I1.out.below B5.out I1.out.lt)
          go_wp2_with fail
          refine (lens_few (some ⟨b, 0, none⟩) n n L m y e _ (by omega) Y30.out I5.out.nums L1 L2 HL.out HB.out).mono ?_; rintro x1 w6 ⟨rfl, b6⟩
          have B6 := Lib.hid (BW5.out.trans (b6.mono BW5.out.size))
          have O6 := Lib.hid (O5.out.below b6)
          clear b6
          go_wp2_with fail
          refine (lens_few (some ⟨g5, 0, none⟩) (n + 1) cap5 L m (put0 y k) (te 1 (ups k) e) _ (by omega) P30.out O6.out.nums L1 L2 LP.out HB.out).mono ?_; rintro x1 w7 ⟨rfl, b7⟩
          have B7 := Lib.hid (B6.out.trans (b7.mono B6.out.size))
          clear b7
          go_wp2_with fail
          refine (alive_any _).mono ?_; rintro x1 w9 ⟨rfl, b9⟩
          go_wp2_with fail
          go_ret
          exact ⟨rfl, B7.out.trans (b9.mono B7.out.size)⟩

set_option maxHeartbeats 8000000 in
set_option maxRecDepth 1000000 in
theorem pnone_ok (A : Option Addr) (n c x t : Nat) (y : Nat → Nat) (m : Nat) (e : Nat → Nat × Nat) (W : World) (hn : n ≤ 100) (hx : x < 256) (ht : t < 65536) (hy : ∀ i, y i ≤ 65535) (H : Nums W .u16 A n (fun i => (y i : Int))) (hl : IsLv y n m e) (hb : nds m ≤ x % 15 + 1) :
    Calls Try.prog 7 #[.slice A n c, .int .u8 x, .int .u16 t] W fun e w' => e = .returned (.bool true) ∧ Below W.heap.size W w' := by
  have d1 : decide (100 < (n : Int)) = false := decide_eq_false (by omega)
  have HA := Lib.hid H
  have HY := Lib.hid hy
  have HL := Lib.hid hl
  obtain ⟨L, hL⟩ : ∃ L, x % 15 + 1 = L := ⟨_, rfl⟩
  obtain ⟨k, hk⟩ : ∃ k, t % (n + 1) = k := ⟨_, rfl⟩
  rw [hL] at hb
  have HB := Lib.hid hb
  have hkn : k ≤ n := by rw [← hk]; exact Nat.le_of_lt_succ (Nat.mod_lt _ (Nat.succ_pos _))
  have v1 : (x : Int).tmod 15 = (L : Int) - 1 := by rw [Int.tmod_eq_emod_of_nonneg (by omega)]; omega
  have v2 : (x : Int) % 15 = (L : Int) - 1 := by omega
  have hkm2 : (t : Int) % ((n : Int) + 1) = (k : Int) := by rw [← hk]; rfl
  have hkm : (t : Int).tmod ((n : Int) + 1) = (k : Int) := by rw [Int.tmod_eq_emod_of_nonneg (by omega)]; exact hkm2
  have htw : IntKind.i64.wrap (t : Int) = (t : Int) := IntWalk.i64_in _ (by omega)
  have L1 : 1 ≤ L := by omega
  have L2 : L ≤ 15 := by omega
  have Y30 := Lib.hid (show ∀ i, y i ≤ 1073741824 from fun i => by have := hy i; omega)
  have P30 := Lib.hid (show ∀ i, put0 y k i ≤ 1073741824 from fun i => by
    unfold put0
    split
    · exact Y30.out _
    · split
      · omega
      · exact Y30.out _)
  have LP := Lib.hid (lv_put hkn hl)
  have HB15 := Lib.hid (show nds m ≤ 15 by omega)
  have PL15 := Lib.hid (show ∀ s, pl m e 15 s ≤ 15 from fun s => pl_le hl HB15.out (by omega) s)
  have PK0 := Lib.hid (pl_put0 hkn hl hb L1)
  have PU := Lib.hid (fun s => pl_put k m e L s)
  have hmk := fun w => madeInt w n (by omega)
  have R0 := Lib.hid (Irow.made W n)
  have R2 := Lib.hid ((Below.refl W.heap.size W).alloc (Nat.le_refl _) (.cells (madeCells #[.int .i64 0] n) 3))
  clear H hy hl hL hk hx ht hb
  go_enter Try.func7, Try.ntmps7
  go_wp2_with fail
  clear hmk
  go_loopw [9] (fun i wr => ∃ j : Nat, j ≤ n ∧ i = .int .i64 j ∧ Irow wr W.heap.size n (fun i => if i < j then (y i : Int) else 0) ∧ Below W.heap.size W wr) (fun i _ => n - (intOf i).toNat)
  case atStart => exact ⟨0, Nat.zero_le _, rfl, R0.out.congr (fun i _ => by rw [if_neg (by omega)]), R2.out⟩
  case round =>
    obtain ⟨j, hj, rfl, i1, hb⟩ := hrel
    by_cases hlt : j < n
    · obtain ⟨b, o, rfl, hbs, hc⟩ := HA.out (by omega)
      have hcell := (hb.cell hbs).trans (hc j hlt)
      have h655 := HY.out j
      have c1 := i1.cell hlt
      have f1 := i1.frozen j
      rw [if_neg (Nat.lt_irrefl _)] at c1
      have hsz1 := i1.lt
      obtain ⟨v, hv⟩ : ∃ v, y j = v := ⟨_, rfl⟩
      simp only [hv] at hcell h655
      have I1 := Lib.hid ((i1.set j (v : Int)).congr (y := fun i => if i < j + 1 then (y i : Int) else 0) (fun i _ => by
        by_cases r : i = j
        · rw [if_pos r, if_pos (by omega), r, hv]
        · rw [if_neg r]
          by_cases r2 : i < j
          · rw [if_pos r2, if_pos (by omega)]
          · rw [if_neg r2, if_neg (by omega)]))
      have B3 := Lib.hid (hb.setCell (p := ⟨W.heap.size, j, none⟩) (by simp) (.int .i64 (v : Int)))
      clear i1 hb hv hc
      go_wp2_with fail
      go_roundw
      case rel => exact ⟨j + 1, by omega, by go_num, I1.out, B3.out⟩
      case measure => simp [intOf]; omega
    · obtain rfl : n = j := by omega
      obtain ⟨w1, hw1⟩ : ∃ w1, wr = w1 := ⟨_, rfl⟩
      obtain ⟨b, hb0⟩ : ∃ b, W.heap.size = b := ⟨_, rfl⟩
      have HB0 := Lib.hid hb0
      rw [hb0] at i1
      rw [hw1] at i1 hb ⊢
      have I1 := Lib.hid (i1.congr (y := fun i => (y i : Int)) (fun i hi => by rw [if_pos hi]))
      have BW := Lib.hid hb
      have hbw : b < w1.heap.size := i1.lt
      have HC1 := Lib.hid (fun i (hi : i < n) => I1.out.cell hi)
      obtain ⟨ad, had⟩ : ∃ ad : Addr, (if n = k then some (⟨b, 0, none⟩ : Addr) else some ⟨b, k, none⟩) = some ad ∧ (∀ j, j < n - k → ad.add j = ⟨b, k + j, none⟩) := by
        by_cases e : n = k
        · exact ⟨_, by rw [if_pos e], fun j hj => by omega⟩
        · exact ⟨_, by rw [if_neg e], fun j hj => by rw [iadd_at]⟩
      have HAD := Lib.hid had.1
      have HADJ := Lib.hid had.2
      clear i1 hb had hw1
      rw [hb0]
      go_wp2_with fail
      clear hb0
      refine take_region (fun _ => True) trivial (fun h0 => ?_)
      refine take_op (i := 1) (d := some 52) (v := ?_) rfl rfl (by kernel_rfl) (by kernel_rfl) (by kernel_rfl) (fun _ _ _ h => h) (by rfl) (fun w hSw => ?_) h0 ?_
      rotate_left
      · (go_simp; (try rw [HAD.out]); (try with_reducible rfl))
      (try simp only [Act.put, List.setIfInBounds_toArray, List.set_cons_zero, List.set_cons_succ])
      refine take_op (i := 2) (d := some 53) (v := ?_) rfl rfl (by kernel_rfl) (by kernel_rfl) (by kernel_rfl) (fun _ _ _ h => h) (by rfl) (fun w hSw => ?_) h0 ?_
      rotate_left
      · (go_simp; (try rw [HAD.out]); (try with_reducible rfl))
      (try simp only [Act.put, List.setIfInBounds_toArray, List.set_cons_zero, List.set_cons_succ])
      refine take_op (i := 3) (d := some 54) (v := ?_) rfl rfl (by kernel_rfl) (by kernel_rfl) (by kernel_rfl) (fun _ _ _ h => h) (by rfl) (fun w hSw => ?_) h0 ?_
      rotate_left
      · (go_simp; (try rw [HAD.out]); (try with_reducible rfl))
      (try simp only [Act.put, List.setIfInBounds_toArray, List.set_cons_zero, List.set_cons_succ])
      refine take_op (i := 7) (d := some 58) (v := ?_) rfl rfl (by kernel_rfl) (by kernel_rfl) (by kernel_rfl) (fun _ _ _ h => h) (by rfl) (fun w hSw => ?_) h0 ?_
      rotate_left
      · (go_simp; (try rw [HAD.out]); (try with_reducible rfl))
      (try simp only [Act.put, List.setIfInBounds_toArray, List.set_cons_zero, List.set_cons_succ])
      refine take_op (i := 8) (d := some 59) (v := ?_) rfl rfl (by kernel_rfl) (by kernel_rfl) (by kernel_rfl) (fun _ _ _ h => h) (by rfl) (fun w hSw => ?_) h0 ?_
      rotate_left
      · (go_simp; (try rw [HAD.out]); (try with_reducible rfl))
      (try simp only [Act.put, List.setIfInBounds_toArray, List.set_cons_zero, List.set_cons_succ])
      refine take_op (i := 9) (d := some 60) (v := ?_) rfl rfl (by kernel_rfl) (by kernel_rfl) (by kernel_rfl) (fun _ _ _ h => h) (by rfl) (fun w hSw => ?_) h0 ?_
      rotate_left
      · (go_simp; (try rw [HAD.out]); (try with_reducible rfl))
      (try simp only [Act.put, List.setIfInBounds_toArray, List.set_cons_zero, List.set_cons_succ])
      refine wpAnyH_ready (rs := [0, 5]) (by kernel_rfl) (by simp) ?_
      refine AllReadyH.cons rfl (fun K hK => ?_) ?_
      rotate_left
      · refine AllReadyH.cons rfl (fun K hK => ?_) AllReadyH.nil
        go_simp
        refine hK.out _ _ trivial (fun h1 => ?_)
        clear hK K h0
        (try simp only [Act.put, List.setIfInBounds_toArray, List.set_cons_zero, List.set_cons_succ])
        refine wpAnyH_ready (rs := [0]) (by kernel_rfl) (by simp) ?_
        refine AllReadyH.cons rfl (fun K hK => ?_) ?_
        rotate_left
        · exact AllReadyH.nil
        go_simp
        refine hK.out _ _ trivial (fun h2 => ?_)
        clear hK K h1
        (try simp only [Act.put, List.setIfInBounds_toArray, List.set_cons_zero, List.set_cons_succ])
        refine wpAnyH_ready (rs := [4]) (by kernel_rfl) (by simp) ?_
        refine AllReadyH.cons rfl (fun K hK => ?_) ?_
        rotate_left
        · exact AllReadyH.nil
        have ba : Below w1.heap.size w1 ((w1.drew.alloc (.cells #[.int .i64 0] 3)).alloc (.cells #[] 3)) := by
          exact (((Below.refl _ _).drew).alloc (Nat.le_refl _) _).alloc (by simp) _
        have BE : Is w1.heap.size ((w1.drew.alloc (.cells #[.int .i64 0] 3)).alloc (.cells #[] 3)) (.slice (some ⟨w1.heap.size + 1, 0, none⟩) 0 0) 0 (fun s => (y s : Int)) := by
          have := Is.empty (base := w1.heap.size) (w1.drew.alloc (.cells #[.int .i64 0] 3)) (by simp) (fun s => (y s : Int))
          rw [show (w1.drew.alloc (.cells #[.int .i64 0] 3)).heap.size = w1.heap.size + 1 by simp] at this
          exact this
        have ca : ∀ j, j < k → ((w1.drew.alloc (.cells #[.int .i64 0] 3)).alloc (.cells #[] 3)).cell? ((⟨b, 0, none⟩ : Addr).add j) = some (.int .i64 (y j : Int)) := fun j hj => by
          rw [iadd_at, Nat.zero_add]; exact (ba.cell hbw).trans (HC1.out j (by omega))
        rw [if_pos (by rfl)]
        refine wp_api (d := some 55) rfl (.tmp 51) (.tmp 54) rfl w1.heap.size (.slice (some ⟨w1.heap.size + 1, 0, none⟩) 0 0) 0 (fun s => (y s : Int)) rfl BE ⟨b, 0, none⟩ k n (fun s => (y s : Int)) rfl ca (by omega) (by simp; omega) ?_
        intro v2 w2 o2 hgw2 hbw2 hkw2
        rw [Nat.zero_add] at o2
        have O2 := Lib.hid (o2.congr (G := (fun s => (y s : Int))) (fun i hi => by unfold catI; rw [if_neg (by omega)]; rfl))
        have B2 := Lib.hid (ba.trans hbw2)
        have z2 : w2.cell? ⟨w1.heap.size, 0, none⟩ = some (.int .i64 0) := by
          refine (World.cell?_of_block (hgw2.block _ (by simp <;> omega) (fun e => by have e2 : w1.heap.size = w1.heap.size + 1 := Option.some.inj e; omega))).trans ?_
          simp
        clear o2 hgw2 hbw2 hkw2 ba ca BE
        refine hK.out _ _ trivial (fun h3 => ?_)
        clear hK K h2
        (try simp only [Act.put, List.setIfInBounds_toArray, List.set_cons_zero, List.set_cons_succ])
        have z3 : ∀ j, j < 1 → w2.cell? ((⟨w1.heap.size, 0, none⟩ : Addr).add j) = some (.int .i64 0) := fun j hj => by
          obtain rfl : j = 0 := by omega
          rw [iadd_at]; exact z2
        have b3 : Below w1.heap.size w1 w2 := B2.out
        refine wpAnyH_ready (rs := [6]) (by kernel_rfl) (by simp) ?_
        refine AllReadyH.cons rfl (fun K hK => ?_) ?_
        rotate_left
        · exact AllReadyH.nil
        rw [if_pos (by rfl)]
        refine wp_api (d := some 57) rfl (.tmp 55) (.tmp 56) rfl w1.heap.size v2 k (fun s => (y s : Int)) rfl O2.out ⟨w1.heap.size, 0, none⟩ 1 1 (fun _ => 0) rfl z3 (by omega) b3.size ?_
        intro v4 w4 o4 hgw4 hbw4 hkw4
        have O4 := Lib.hid o4
        have B4 := Lib.hid (b3.trans hbw4)
        clear o4 hgw4 hbw4 hkw4 b3 z3 z2
        refine hK.out _ _ trivial (fun h4 => ?_)
        clear hK K h3
        (try simp only [Act.put, List.setIfInBounds_toArray, List.set_cons_zero, List.set_cons_succ])
        refine wpAnyH_ready (rs := [10]) (by kernel_rfl) (by simp) ?_
        refine AllReadyH.cons rfl (fun K hK => ?_) ?_
        rotate_left
        · exact AllReadyH.nil
        have c4 : ∀ j, j < n - k → w4.cell? (ad.add j) = some (.int .i64 (y (k + j) : Int)) := fun j hj => by
          rw [HADJ.out j hj]; exact (B4.out.cell hbw).trans (HC1.out (k + j) (by omega))
        rw [if_pos (by rfl)]
        refine wp_api (d := some 61) rfl (.tmp 57) (.tmp 60) rfl w1.heap.size v4 (k + 1) _ rfl O4.out ad (n - k) (n - k) (fun j => (y (k + j) : Int)) rfl c4 (by omega) B4.out.size ?_
        intro v5 w5 o5 hgw5 hbw5 hkw5
        rw [show k + 1 + (n - k) = n + 1 by omega] at o5
        obtain ⟨g5, cap5, rfl, hg5a, hg5b⟩ := o5.form (Nat.succ_pos n)
        have O5 := Lib.hid (o5.congr (G := fun s => (put0 y k s : Int)) (fun i hi => by
          unfold catI put0
          by_cases e1 : i < k
          · rw [if_pos (show i < k + 1 by omega), if_pos e1, if_pos e1]
          · by_cases e2 : i = k
            · rw [if_pos (show i < k + 1 by omega), if_neg e1, if_neg e1, if_pos e2]; rfl
            · rw [if_neg (show ¬ i < k + 1 by omega), if_neg e1, if_neg e2]
              show (y (k + (i - (k + 1))) : Int) = (y (i - 1) : Int)
              rw [show k + (i - (k + 1)) = i - 1 by omega]))
        have B5 := Lib.hid (B4.out.trans hbw5)
        clear o5 hgw5 hbw5 hkw5 c4
        refine hK.out _ _ trivial (fun h5 => ?_)
        clear hK K h4
        (try simp only [Act.put, List.setIfInBounds_toArray, List.set_cons_zero, List.set_cons_succ])
        refine take_op (i := 11) (d := some 11) (v := ?_) rfl rfl (by kernel_rfl) (by kernel_rfl) (by kernel_rfl) (fun _ _ _ h => h) (by rfl) (fun w hSw => ?_) h5 ?_
        rotate_left
        · (go_simp; (try rw [HAD.out]); (try with_reducible rfl))
        (try simp only [Act.put, List.setIfInBounds_toArray, List.set_cons_zero, List.set_cons_succ])
        refine wpAnyH_done (by kernel_rfl) ?_ _
        clear h5
        have BW5 := Lib.hid (BW.out.trans (B5.out.mono BW.out.size))
        have I5 := Lib.hid (I1.out.below B5.out I1.out.lt)
        go_wp2_with fail
        refine (lens_ok (some ⟨b, 0, none⟩) n n L m y e _ (by omega) Y30.out I5.out.nums L1 L2 HL.out HB.out).mono ?_; rintro x1 w6 ⟨ga, rfl, s6, r6, b6⟩
        have B6 := Lib.hid (BW5.out.trans (b6.mono BW5.out.size))
        have O6 := Lib.hid (O5.out.below b6)
        have I6 := Lib.hid (I5.out.below b6 I5.out.lt)
        have GA := Lib.hid r6
        clear b6 s6 r6
        go_wp2_with fail
        refine (lens_ok (some ⟨g5, 0, none⟩) (n + 1) cap5 L m (put0 y k) (te 1 (ups k) e) _ (by omega) P30.out O6.out.nums L1 L2 LP.out HB.out).mono ?_; rintro x1 w7 ⟨gb, rfl, s7, r7, b7⟩
        have B7 := Lib.hid (B6.out.trans (b7.mono B6.out.size))
        have I7 := Lib.hid (I6.out.below b7 I6.out.lt)
        have GA7 := Lib.hid (GA.out.below b7 GA.out.lt)
        have GB7 := Lib.hid r7
        clear b7 s7 r7
        have z1 : w7.cell? ⟨gb, k, none⟩ = some (.int .u8 0) := by
          have := GB7.out.cell (show k < n + 1 by omega)
          rw [PK0.out] at this
          exact this
        have S1 : Hid (∀ q, Calls Try.prog 11 #[.slice (some ⟨gb, 0, none⟩) k (n + 1), .slice (some ⟨ga, 0, none⟩) k n] (w7.drewN q) fun e w' => e = .returned (.bool true) ∧ ∃ m, w' = (w7.drewN q).drewN m) := Lib.hid (fun q => sameLens_any _ _ k (n + 1) n _ _ _ (by unfold maxLen; omega) (nums_take (GB7.out.drewN q).nums (by omega)) (nums_take (GA7.out.drewN q).nums (by omega)) (fun i hi => by
          have := PU.out i
          rwa [show ups k i = i by unfold ups; rw [if_pos hi]] at this))
        obtain ⟨X6, hX6⟩ : ∃ X : Option Addr, (if n = k then some (⟨gb, 0, none⟩ : Addr) else some ⟨gb, k + 1, none⟩) = X := ⟨_, rfl⟩
        obtain ⟨X1, hX1⟩ : ∃ X : Option Addr, (if n = k then some (⟨ga, 0, none⟩ : Addr) else some ⟨ga, k, none⟩) = X := ⟨_, rfl⟩
        have S2 : Hid (∀ q, Calls Try.prog 11 #[.slice X6 (n - k) (n - k), .slice X1 (n - k) (n - k)] (w7.drewN q) fun e w' => e = .returned (.bool true) ∧ ∃ m, w' = (w7.drewN q).drewN m) := Lib.hid (fun q => by
          have u1 := nums_cut (GB7.out.drewN q).nums (k + 1) (n = k) (by omega)
          have u2 := nums_cut (GA7.out.drewN q).nums k (n = k) (by omega)
          rw [show n + 1 - (k + 1) = n - k by omega, hX6] at u1
          rw [hX1] at u2
          exact sameLens_any _ _ (n - k) (n - k) (n - k) (fun i => pl m (te 1 (ups k) e) L (k + 1 + i)) (fun i => pl m e L (k + i)) _ (by unfold maxLen; omega) u1 u2 (fun i hi => by
            have := PU.out (k + i)
            rwa [show ups k (k + i) = k + 1 + i by unfold ups; rw [if_neg (by omega)]; omega] at this))
        have hk7 : k + 1 ≤ n + 1 := by omega
        have hk8 : k < n + 1 := by omega
        have hw1 : IntKind.i64.wrap ((k : Int) + 1) = (k : Int) + 1 := IntWalk.i64_in _ (by omega)
        have hw2 : (0 : Int) ≤ (k : Int) + 1 := by omega
        have hw3 : ((k : Int) + 1).toNat = k + 1 := by omega
        go_wp2_with fail
        go_quiet ((first | (go_at_call 11; with_reducible exact Calls.quiet_of (S1.out _)) | (go_at_call 11; with_reducible exact Calls.quiet_of (S2.out _))))
        clear hw1 hw2 hw3 hk7 hk8 z1 hX6 hX1
        go_wp2_with fail
        refine (lens_ok (some ⟨b, 0, none⟩) n n 15 m y e _ (by omega) Y30.out (I7.out.drewN _).nums (by omega) (by omega) HL.out HB15.out).mono ?_; rintro x1 w8 ⟨gw, rfl, s8, r8, b8⟩
        have B8 := Lib.hid ((below_drewN B7.out _).trans (b8.mono B7.out.size))
        have I8 := Lib.hid ((I7.out.drewN _).below b8 I7.out.lt)
        have GA8 := Lib.hid ((GA7.out.drewN _).below b8 GA7.out.lt)
        have GW8 := Lib.hid r8
        clear b8 s8 r8
        go_wp2_with fail
        go_loop [18, 19] (fun x i => ∃ j : Nat, j ≤ n ∧ i = .int .i64 j ∧ x = .int .i64 (mx (pl m e 15) j)) (fun _ i => n - (intOf i).toNat)
        case atStart => exact ⟨0, Nat.zero_le _, rfl, rfl⟩
        case round =>
          obtain ⟨j, hj, rfl, rfl⟩ := hrel
          by_cases hlt : j < n
          · have c1 := GW8.out.cell hlt
            have l1 := PL15.out j
            have l2 := mx_le PL15.out j
            have st : mx (pl m e 15) (j + 1) = max (mx (pl m e 15) j) (pl m e 15 j) := rfl
            obtain ⟨p, hp⟩ : ∃ p, pl m e 15 j = p := ⟨_, rfl⟩
            obtain ⟨q, hq⟩ : ∃ q, mx (pl m e 15) j = q := ⟨_, rfl⟩
            rw [hp] at c1 l1 st
            rw [hq] at l2 st ⊢
            have ST := Lib.hid st
            have mm : max (q : Int) (p : Int) = ((max q p : Nat) : Int) := by omega
            clear hp hq st
            go_wp2_with fail
            go_round
            case rel => exact ⟨j + 1, by omega, by go_num, by rw [ST.out]⟩
            case measure => simp [intOf]; omega
          · obtain rfl : j = n := by omega
            have l2 := mx_le PL15.out j
            by_cases hf : L < mx (pl m e 15) j
            · obtain ⟨q, hq⟩ : ∃ q, mx (pl m e 15) j = q := ⟨_, rfl⟩
              rw [hq] at hf l2 ⊢
              have dq : decide (L < q) = true := decide_eq_true hf
              clear hq
              go_wp2_with fail
              refine (alive_any _).mono ?_; rintro x1 w9 ⟨rfl, b9⟩
              go_wp2_with fail
              go_ret
              exact ⟨rfl, B8.out.trans (b9.mono B8.out.size)⟩
            · have FR := Lib.hid (wl_free HL.out HB.out L1 L2 (fun s hs => Nat.le_trans (mx_ge (pl m e 15) hs) (Nat.le_of_not_lt hf)))
              obtain ⟨q, hq⟩ : ∃ q, mx (pl m e 15) j = q := ⟨_, rfl⟩
              rw [hq] at hf l2 ⊢
              have dq : decide (L < q) = false := decide_eq_false hf
              obtain ⟨w, hw⟩ : ∃ w, wl y j m e L = w := ⟨_, rfl⟩
              have PLL := Lib.hid (show ∀ s, pl m e L s ≤ 255 from fun s => by have := pl_le HL.out HB.out L1 s; omega)
              have PL255 := Lib.hid (show ∀ s, pl m e 15 s ≤ 255 from fun s => by have := PL15.out s; omega)
              have WG1 := Lib.hid (show wg (pl m e L) (fun i => (y i : Int)) (min j j) = (w : Int) by rw [Nat.min_self, (wg_sm PLL.out Y30.out j (by omega)).1, ← hw]; rfl)
              have WG2 := Lib.hid (show wg (pl m e 15) (fun i => (y i : Int)) (min j j) = (w : Int) by rw [Nat.min_self, (wg_sm PL255.out Y30.out j (by omega)).1, ← hw, FR.out]; rfl)
              have HML := Lib.hid (show j ≤ maxLen by unfold maxLen; omega)
              clear hq hw
              go_wp2_with fail
              refine (weighs_any (some ⟨ga, 0, none⟩) (some ⟨b, 0, none⟩) j j j j _ _ _ HML.out HML.out GA8.out.nums I8.out.nums PLL.out).mono ?_; rintro x1 wa ⟨rfl, b10⟩
              rw [WG1.out]
              have GW9 := Lib.hid (GW8.out.below b10 GW8.out.lt)
              have I9 := Lib.hid (I8.out.below b10 I8.out.lt)
              have B10 := Lib.hid (B8.out.trans (b10.mono B8.out.size))
              clear b10
              go_wp2_with fail
              refine (weighs_any (some ⟨gw, 0, none⟩) (some ⟨b, 0, none⟩) j j j j _ _ _ HML.out HML.out GW9.out.nums I9.out.nums PL255.out).mono ?_; rintro x1 wb ⟨rfl, b11⟩
              rw [WG2.out]
              have B11 := Lib.hid (B10.out.trans (b11.mono B10.out.size))
              clear b11
              go_wp2_with fail
              refine (alive_any _).mono ?_; rintro x1 w9 ⟨rfl, b9⟩
              go_wp2_with fail
              go_ret
              exact ⟨rfl, B11.out.trans (b9.mono B11.out.size)⟩
      · go_simp
        refine hK.out _ _ trivial (fun h1 => ?_)
        clear hK K h0
        (try simp only [Act.put, List.setIfInBounds_toArray, List.set_cons_zero, List.set_cons_succ])
        refine wpAnyH_ready (rs := [4, 5]) (by kernel_rfl) (by simp) ?_
        refine AllReadyH.cons rfl (fun K hK => ?_) ?_
        rotate_left
        · refine AllReadyH.cons rfl (fun K hK => ?_) AllReadyH.nil
          go_simp
          refine hK.out _ _ trivial (fun h2 => ?_)
          clear hK K h1
          (try simp only [Act.put, List.setIfInBounds_toArray, List.set_cons_zero, List.set_cons_succ])
          refine wpAnyH_ready (rs := [4]) (by kernel_rfl) (by simp) ?_
          refine AllReadyH.cons rfl (fun K hK => ?_) ?_
          rotate_left
          · exact AllReadyH.nil
          have ba : Below w1.heap.size w1 ((w1.drew.alloc (.cells #[] 3)).alloc (.cells #[.int .i64 0] 3)) := by
            exact (((Below.refl _ _).drew).alloc (Nat.le_refl _) _).alloc (by simp) _
          have ca : ∀ j, j < k → ((w1.drew.alloc (.cells #[] 3)).alloc (.cells #[.int .i64 0] 3)).cell? ((⟨b, 0, none⟩ : Addr).add j) = some (.int .i64 (y j : Int)) := fun j hj => by
            rw [iadd_at, Nat.zero_add]; exact (ba.cell hbw).trans (HC1.out j (by omega))
          rw [if_pos (by rfl)]
          refine wp_api (d := some 55) rfl (.tmp 51) (.tmp 54) rfl w1.heap.size (.slice (some ⟨w1.heap.size, 0, none⟩) 0 0) 0 (fun s => (y s : Int)) rfl ((Is.empty w1.drew (Nat.le_refl _) (fun s => (y s : Int))).alloc (.cells #[.int .i64 0] 3)) ⟨b, 0, none⟩ k n (fun s => (y s : Int)) rfl ca (by omega) (by simp; omega) ?_
          intro v2 w2 o2 hgw2 hbw2 hkw2
          rw [Nat.zero_add] at o2
          have O2 := Lib.hid (o2.congr (G := (fun s => (y s : Int))) (fun i hi => by unfold catI; rw [if_neg (by omega)]; rfl))
          have B2 := Lib.hid (ba.trans hbw2)
          have z2 : w2.cell? ⟨w1.heap.size + 1, 0, none⟩ = some (.int .i64 0) := by
            refine (World.cell?_of_block (hgw2.block _ (by simp <;> omega) (fun e => by have e2 : w1.heap.size + 1 = w1.heap.size := Option.some.inj e; omega))).trans ?_
            simp
          clear o2 hgw2 hbw2 hkw2 ba ca
          refine hK.out _ _ trivial (fun h3 => ?_)
          clear hK K h2
          (try simp only [Act.put, List.setIfInBounds_toArray, List.set_cons_zero, List.set_cons_succ])
          have z3 : ∀ j, j < 1 → w2.cell? ((⟨w1.heap.size + 1, 0, none⟩ : Addr).add j) = some (.int .i64 0) := fun j hj => by
            obtain rfl : j = 0 := by omega
            rw [iadd_at]; exact z2
          have b3 : Below w1.heap.size w1 w2 := B2.out
          refine wpAnyH_ready (rs := [6]) (by kernel_rfl) (by simp) ?_
          refine AllReadyH.cons rfl (fun K hK => ?_) ?_
          rotate_left
          · exact AllReadyH.nil
          rw [if_pos (by rfl)]
          refine wp_api (d := some 57) rfl (.tmp 55) (.tmp 56) rfl w1.heap.size v2 k (fun s => (y s : Int)) rfl O2.out ⟨w1.heap.size + 1, 0, none⟩ 1 1 (fun _ => 0) rfl z3 (by omega) b3.size ?_
          intro v4 w4 o4 hgw4 hbw4 hkw4
          have O4 := Lib.hid o4
          have B4 := Lib.hid (b3.trans hbw4)
          clear o4 hgw4 hbw4 hkw4 b3 z3 z2
          refine hK.out _ _ trivial (fun h4 => ?_)
          clear hK K h3
          (try simp only [Act.put, List.setIfInBounds_toArray, List.set_cons_zero, List.set_cons_succ])
          refine wpAnyH_ready (rs := [10]) (by kernel_rfl) (by simp) ?_
          refine AllReadyH.cons rfl (fun K hK => ?_) ?_
          rotate_left
          · exact AllReadyH.nil
          have c4 : ∀ j, j < n - k → w4.cell? (ad.add j) = some (.int .i64 (y (k + j) : Int)) := fun j hj => by
            rw [HADJ.out j hj]; exact (B4.out.cell hbw).trans (HC1.out (k + j) (by omega))
          rw [if_pos (by rfl)]
          refine wp_api (d := some 61) rfl (.tmp 57) (.tmp 60) rfl w1.heap.size v4 (k + 1) _ rfl O4.out ad (n - k) (n - k) (fun j => (y (k + j) : Int)) rfl c4 (by omega) B4.out.size ?_
          intro v5 w5 o5 hgw5 hbw5 hkw5
          rw [show k + 1 + (n - k) = n + 1 by omega] at o5
          obtain ⟨g5, cap5, rfl, hg5a, hg5b⟩ := o5.form (Nat.succ_pos n)
          have O5 := Lib.hid (o5.congr (G := fun s => (put0 y k s : Int)) (fun i hi => by
            unfold catI put0
            by_cases e1 : i < k
            · rw [if_pos (show i < k + 1 by omega), if_pos e1, if_pos e1]
            · by_cases e2 : i = k
              · rw [if_pos (show i < k + 1 by omega), if_neg e1, if_neg e1, if_pos e2]; rfl
              · rw [if_neg (show ¬ i < k + 1 by omega), if_neg e1, if_neg e2]
                show (y (k + (i - (k + 1))) : Int) = (y (i - 1) : Int)
                rw [show k + (i - (k + 1)) = i - 1 by omega]))
          have B5 := Lib.hid (B4.out.trans hbw5)
          clear o5 hgw5 hbw5 hkw5 c4
          refine hK.out _ _ trivial (fun h5 => ?_)
          clear hK K h4
          (try simp only [Act.put, List.setIfInBounds_toArray, List.set_cons_zero, List.set_cons_succ])
          refine take_op (i := 11) (d := some 11) (v := ?_) rfl rfl (by kernel_rfl) (by kernel_rfl) (by kernel_rfl) (fun _ _ _ h => h) (by rfl) (fun w hSw => ?_) h5 ?_
          rotate_left
          · (go_simp; (try rw [HAD.out]); (try with_reducible rfl))
          (try simp only [Act.put, List.setIfInBounds_toArray, List.set_cons_zero, List.set_cons_succ])
          refine wpAnyH_done (by kernel_rfl) ?_ _
          clear h5
          have BW5 := Lib.hid (BW.out.trans (B5.out.mono BW.out.size))
          have I5 := Lib.hid (I1.out.below B5.out I1.out.lt)
          go_wp2_with fail
          refine (lens_ok (some ⟨b, 0, none⟩) n n L m y e _ (by omega) Y30.out I5.out.nums L1 L2 HL.out HB.out).mono ?_; rintro x1 w6 ⟨ga, rfl, s6, r6, b6⟩
          have B6 := Lib.hid (BW5.out.trans (b6.mono BW5.out.size))
          have O6 := Lib.hid (O5.out.below b6)
          have I6 := Lib.hid (I5.out.below b6 I5.out.lt)
          have GA := Lib.hid r6
          clear b6 s6 r6
          go_wp2_with fail
          refine (lens_ok (some ⟨g5, 0, none⟩) (n + 1) cap5 L m (put0 y k) (te 1 (ups k) e) _ (by omega) P30.out O6.out.nums L1 L2 LP.out HB.out).mono ?_; rintro x1 w7 ⟨gb, rfl, s7, r7, b7⟩
          have B7 := Lib.hid (B6.out.trans (b7.mono B6.out.size))
          have I7 := Lib.hid (I6.out.below b7 I6.out.lt)
          have GA7 := Lib.hid (GA.out.below b7 GA.out.lt)
          have GB7 := Lib.hid r7
          clear b7 s7 r7
          have z1 : w7.cell? ⟨gb, k, none⟩ = some (.int .u8 0) := by
            have := GB7.out.cell (show k < n + 1 by omega)
            rw [PK0.out] at this
            exact this
          have S1 : Hid (∀ q, Calls Try.prog 11 #[.slice (some ⟨gb, 0, none⟩) k (n + 1), .slice (some ⟨ga, 0, none⟩) k n] (w7.drewN q) fun e w' => e = .returned (.bool true) ∧ ∃ m, w' = (w7.drewN q).drewN m) := Lib.hid (fun q => sameLens_any _ _ k (n + 1) n _ _ _ (by unfold maxLen; omega) (nums_take (GB7.out.drewN q).nums (by omega)) (nums_take (GA7.out.drewN q).nums (by omega)) (fun i hi => by
            have := PU.out i
            rwa [show ups k i = i by unfold ups; rw [if_pos hi]] at this))
          obtain ⟨X6, hX6⟩ : ∃ X : Option Addr, (if n = k then some (⟨gb, 0, none⟩ : Addr) else some ⟨gb, k + 1, none⟩) = X := ⟨_, rfl⟩
          obtain ⟨X1, hX1⟩ : ∃ X : Option Addr, (if n = k then some (⟨ga, 0, none⟩ : Addr) else some ⟨ga, k, none⟩) = X := ⟨_, rfl⟩
          have S2 : Hid (∀ q, Calls Try.prog 11 #[.slice X6 (n - k) (n - k), .slice X1 (n - k) (n - k)] (w7.drewN q) fun e w' => e = .returned (.bool true) ∧ ∃ m, w' = (w7.drewN q).drewN m) := Lib.hid (fun q => by
            have u1 := nums_cut (GB7.out.drewN q).nums (k + 1) (n = k) (by omega)
            have u2 := nums_cut (GA7.out.drewN q).nums k (n = k) (by omega)
            rw [show n + 1 - (k + 1) = n - k by omega, hX6] at u1
            rw [hX1] at u2
            exact sameLens_any _ _ (n - k) (n - k) (n - k) (fun i => pl m (te 1 (ups k) e) L (k + 1 + i)) (fun i => pl m e L (k + i)) _ (by unfold maxLen; omega) u1 u2 (fun i hi => by
              have := PU.out (k + i)
              rwa [show ups k (k + i) = k + 1 + i by unfold ups; rw [if_neg (by omega)]; omega] at this))
          have hk7 : k + 1 ≤ n + 1 := by omega
          have hk8 : k < n + 1 := by omega
          have hw1 : IntKind.i64.wrap ((k : Int) + 1) = (k : Int) + 1 := IntWalk.i64_in _ (by omega)
          have hw2 : (0 : Int) ≤ (k : Int) + 1 := by omega
          have hw3 : ((k : Int) + 1).toNat = k + 1 := by omega
          go_wp2_with fail
          go_quiet ((first | (go_at_call 11; with_reducible exact Calls.quiet_of (S1.out _)) | (go_at_call 11; with_reducible exact Calls.quiet_of (S2.out _))))
          clear hw1 hw2 hw3 hk7 hk8 z1 hX6 hX1
          go_wp2_with fail
          refine (lens_ok (some ⟨b, 0, none⟩) n n 15 m y e _ (by omega) Y30.out (I7.out.drewN _).nums (by omega) (by omega) HL.out HB15.out).mono ?_; rintro x1 w8 ⟨gw, rfl, s8, r8, b8⟩
          have B8 := Lib.hid ((below_drewN B7.out _).trans (b8.mono B7.out.size))
          have I8 := Lib.hid ((I7.out.drewN _).below b8 I7.out.lt)
          have GA8 := Lib.hid ((GA7.out.drewN _).below b8 GA7.out.lt)
          have GW8 := Lib.hid r8
          clear b8 s8 r8
          go_wp2_with fail
          go_loop [18, 19] (fun x i => ∃ j : Nat, j ≤ n ∧ i = .int .i64 j ∧ x = .int .i64 (mx (pl m e 15) j)) (fun _ i => n - (intOf i).toNat)
          case atStart => exact ⟨0, Nat.zero_le _, rfl, rfl⟩
          case round =>
            obtain ⟨j, hj, rfl, rfl⟩ := hrel
            by_cases hlt : j < n
            · have c1 := GW8.out.cell hlt
              have l1 := PL15.out j
              have l2 := mx_le PL15.out j
              have st : mx (pl m e 15) (j + 1) = max (mx (pl m e 15) j) (pl m e 15 j) := rfl
              obtain ⟨p, hp⟩ : ∃ p, pl m e 15 j = p := ⟨_, rfl⟩
              obtain ⟨q, hq⟩ : ∃ q, mx (pl m e 15) j = q := ⟨_, rfl⟩
              rw [hp] at c1 l1 st
              rw [hq] at l2 st ⊢
              have ST := Lib.hid st
              have mm : max (q : Int) (p : Int) = ((max q p : Nat) : Int) := by omega
              clear hp hq st
              go_wp2_with fail
              go_round
              case rel => exact ⟨j + 1, by omega, by go_num, by rw [ST.out]⟩
              case measure => simp [intOf]; omega
            · obtain rfl : j = n := by omega
              have l2 := mx_le PL15.out j
              by_cases hf : L < mx (pl m e 15) j
              · obtain ⟨q, hq⟩ : ∃ q, mx (pl m e 15) j = q := ⟨_, rfl⟩
                rw [hq] at hf l2 ⊢
                have dq : decide (L < q) = true := decide_eq_true hf
                clear hq
                go_wp2_with fail
                refine (alive_any _).mono ?_; rintro x1 w9 ⟨rfl, b9⟩
                go_wp2_with fail
                go_ret
                exact ⟨rfl, B8.out.trans (b9.mono B8.out.size)⟩
              · have FR := Lib.hid (wl_free HL.out HB.out L1 L2 (fun s hs => Nat.le_trans (mx_ge (pl m e 15) hs) (Nat.le_of_not_lt hf)))
                obtain ⟨q, hq⟩ : ∃ q, mx (pl m e 15) j = q := ⟨_, rfl⟩
                rw [hq] at hf l2 ⊢
                have dq : decide (L < q) = false := decide_eq_false hf
                obtain ⟨w, hw⟩ : ∃ w, wl y j m e L = w := ⟨_, rfl⟩
                have PLL := Lib.hid (show ∀ s, pl m e L s ≤ 255 from fun s => by have := pl_le HL.out HB.out L1 s; omega)
                have PL255 := Lib.hid (show ∀ s, pl m e 15 s ≤ 255 from fun s => by have := PL15.out s; omega)
                have WG1 := Lib.hid (show wg (pl m e L) (fun i => (y i : Int)) (min j j) = (w : Int) by rw [Nat.min_self, (wg_sm PLL.out Y30.out j (by omega)).1, ← hw]; rfl)
                have WG2 := Lib.hid (show wg (pl m e 15) (fun i => (y i : Int)) (min j j) = (w : Int) by rw [Nat.min_self, (wg_sm PL255.out Y30.out j (by omega)).1, ← hw, FR.out]; rfl)
                have HML := Lib.hid (show j ≤ maxLen by unfold maxLen; omega)
                clear hq hw
                go_wp2_with fail
                refine (weighs_any (some ⟨ga, 0, none⟩) (some ⟨b, 0, none⟩) j j j j _ _ _ HML.out HML.out GA8.out.nums I8.out.nums PLL.out).mono ?_; rintro x1 wa ⟨rfl, b10⟩
                rw [WG1.out]
                have GW9 := Lib.hid (GW8.out.below b10 GW8.out.lt)
                have I9 := Lib.hid (I8.out.below b10 I8.out.lt)
                have B10 := Lib.hid (B8.out.trans (b10.mono B8.out.size))
                clear b10
                go_wp2_with fail
                refine (weighs_any (some ⟨gw, 0, none⟩) (some ⟨b, 0, none⟩) j j j j _ _ _ HML.out HML.out GW9.out.nums I9.out.nums PL255.out).mono ?_; rintro x1 wb ⟨rfl, b11⟩
                rw [WG2.out]
                have B11 := Lib.hid (B10.out.trans (b11.mono B10.out.size))
                clear b11
                go_wp2_with fail
                refine (alive_any _).mono ?_; rintro x1 w9 ⟨rfl, b9⟩
                go_wp2_with fail
                go_ret
                exact ⟨rfl, B11.out.trans (b9.mono B11.out.size)⟩
        · have ba : Below w1.heap.size w1 (w1.drew.alloc (.cells #[] 3)) := by
            exact ((Below.refl _ _).drew).alloc (Nat.le_refl _) _
          have ca : ∀ j, j < k → (w1.drew.alloc (.cells #[] 3)).cell? ((⟨b, 0, none⟩ : Addr).add j) = some (.int .i64 (y j : Int)) := fun j hj => by
            rw [iadd_at, Nat.zero_add]; exact (ba.cell hbw).trans (HC1.out j (by omega))
          rw [if_pos (by rfl)]
          refine wp_api (d := some 55) rfl (.tmp 51) (.tmp 54) rfl w1.heap.size (.slice (some ⟨w1.heap.size, 0, none⟩) 0 0) 0 (fun s => (y s : Int)) rfl (Is.empty w1.drew (Nat.le_refl _) (fun s => (y s : Int))) ⟨b, 0, none⟩ k n (fun s => (y s : Int)) rfl ca (by omega) (by simp) ?_
          intro v2 w2 o2 hgw2 hbw2 hkw2
          rw [Nat.zero_add] at o2
          have O2 := Lib.hid (o2.congr (G := (fun s => (y s : Int))) (fun i hi => by unfold catI; rw [if_neg (by omega)]; rfl))
          have B2 := Lib.hid (ba.trans hbw2)
          clear o2 hgw2 hbw2 hkw2 ba ca
          refine hK.out _ _ trivial (fun h2 => ?_)
          clear hK K h1
          (try simp only [Act.put, List.setIfInBounds_toArray, List.set_cons_zero, List.set_cons_succ])
          refine wpAnyH_ready (rs := [5]) (by kernel_rfl) (by simp) ?_
          refine AllReadyH.cons rfl (fun K hK => ?_) ?_
          rotate_left
          · exact AllReadyH.nil
          go_simp
          refine hK.out _ _ trivial (fun h3 => ?_)
          clear hK K h2
          (try simp only [Act.put, List.setIfInBounds_toArray, List.set_cons_zero, List.set_cons_succ])
          have z3 := one_int w2 0
          have b3 : Below w1.heap.size w1 (w2.alloc (.cells #[.int .i64 0] 3)) := B2.out.alloc B2.out.size _
          refine wpAnyH_ready (rs := [6]) (by kernel_rfl) (by simp) ?_
          refine AllReadyH.cons rfl (fun K hK => ?_) ?_
          rotate_left
          · exact AllReadyH.nil
          rw [if_pos (by rfl)]
          refine wp_api (d := some 57) rfl (.tmp 55) (.tmp 56) rfl w1.heap.size v2 k (fun s => (y s : Int)) rfl (O2.out.alloc (.cells #[.int .i64 0] 3)) ⟨w2.heap.size, 0, none⟩ 1 1 (fun _ => 0) rfl z3 (by omega) b3.size ?_
          intro v4 w4 o4 hgw4 hbw4 hkw4
          have O4 := Lib.hid o4
          have B4 := Lib.hid (b3.trans hbw4)
          clear o4 hgw4 hbw4 hkw4 b3 z3
          refine hK.out _ _ trivial (fun h4 => ?_)
          clear hK K h3
          (try simp only [Act.put, List.setIfInBounds_toArray, List.set_cons_zero, List.set_cons_succ])
          refine wpAnyH_ready (rs := [10]) (by kernel_rfl) (by simp) ?_
          refine AllReadyH.cons rfl (fun K hK => ?_) ?_
          rotate_left
          · exact AllReadyH.nil
          have c4 : ∀ j, j < n - k → w4.cell? (ad.add j) = some (.int .i64 (y (k + j) : Int)) := fun j hj => by
            rw [HADJ.out j hj]; exact (B4.out.cell hbw).trans (HC1.out (k + j) (by omega))
          rw [if_pos (by rfl)]
          refine wp_api (d := some 61) rfl (.tmp 57) (.tmp 60) rfl w1.heap.size v4 (k + 1) _ rfl O4.out ad (n - k) (n - k) (fun j => (y (k + j) : Int)) rfl c4 (by omega) B4.out.size ?_
          intro v5 w5 o5 hgw5 hbw5 hkw5
          rw [show k + 1 + (n - k) = n + 1 by omega] at o5
          obtain ⟨g5, cap5, rfl, hg5a, hg5b⟩ := o5.form (Nat.succ_pos n)
          have O5 := Lib.hid (o5.congr (G := fun s => (put0 y k s : Int)) (fun i hi => by
            unfold catI put0
            by_cases e1 : i < k
            · rw [if_pos (show i < k + 1 by omega), if_pos e1, if_pos e1]
            · by_cases e2 : i = k
              · rw [if_pos (show i < k + 1 by omega), if_neg e1, if_neg e1, if_pos e2]; rfl
              · rw [if_neg (show ¬ i < k + 1 by omega), if_neg e1, if_neg e2]
                show (y (k + (i - (k + 1))) : Int) = (y (i - 1) : Int)
                rw [show k + (i - (k + 1)) = i - 1 by omega]))
          have B5 := Lib.hid (B4.out.trans hbw5)
          clear o5 hgw5 hbw5 hkw5 c4
          refine hK.out _ _ trivial (fun h5 => ?_)
          clear hK K h4
          (try simp only [Act.put, List.setIfInBounds_toArray, List.set_cons_zero, List.set_cons_succ])
          refine take_op (i := 11) (d := some 11) (v := ?_) rfl rfl (by kernel_rfl) (by kernel_rfl) (by kernel_rfl) (fun _ _ _ h => h) (by rfl) (fun w hSw => ?_) h5 ?_
          rotate_left
          · (go_simp; (try rw [HAD.out]); (try with_reducible rfl))
          (try simp only [Act.put, List.setIfInBounds_toArray, List.set_cons_zero, List.set_cons_succ])
          refine wpAnyH_done (by kernel_rfl) ?_ _
          clear h5
          have BW5 := Lib.hid (BW.out.trans (B5.out.mono BW.out.size))
          have I5 := Lib.hid (I1.out.below B5.out I1.out.lt)
          go_wp2_with fail
          refine (lens_ok (some ⟨b, 0, none⟩) n n L m y e _ (by omega) Y30.out I5.out.nums L1 L2 HL.out HB.out).mono ?_; rintro x1 w6 ⟨ga, rfl, s6, r6, b6⟩
          have B6 := Lib.hid (BW5.out.trans (b6.mono BW5.out.size))
          have O6 := Lib.hid (O5.out.below b6)
          have I6 := Lib.hid (I5.out.below b6 I5.out.lt)
          have GA := Lib.hid r6
          clear b6 s6 r6
          go_wp2_with fail
          refine (lens_ok (some ⟨g5, 0, none⟩) (n + 1) cap5 L m (put0 y k) (te 1 (ups k) e) _ (by omega) P30.out O6.out.nums L1 L2 LP.out HB.out).mono ?_; rintro x1 w7 ⟨gb, rfl, s7, r7, b7⟩
          have B7 := Lib.hid (B6.out.trans (b7.mono B6.out.size))
          have I7 := Lib.hid (I6.out.below b7 I6.out.lt)
          have GA7 := Lib.hid (GA.out.below b7 GA.out.lt)
          have GB7 := Lib.hid r7
          clear b7 s7 r7
          have z1 : w7.cell? ⟨gb, k, none⟩ = some (.int .u8 0) := by
            have := GB7.out.cell (show k < n + 1 by omega)
            rw [PK0.out] at this
            exact this
          have S1 : Hid (∀ q, Calls Try.prog 11 #[.slice (some ⟨gb, 0, none⟩) k (n + 1), .slice (some ⟨ga, 0, none⟩) k n] (w7.drewN q) fun e w' => e = .returned (.bool true) ∧ ∃ m, w' = (w7.drewN q).drewN m) := Lib.hid (fun q => sameLens_any _ _ k (n + 1) n _ _ _ (by unfold maxLen; omega) (nums_take (GB7.out.drewN q).nums (by omega)) (nums_take (GA7.out.drewN q).nums (by omega)) (fun i hi => by
            have := PU.out i
            rwa [show ups k i = i by unfold ups; rw [if_pos hi]] at this))
          obtain ⟨X6, hX6⟩ : ∃ X : Option Addr, (if n = k then some (⟨gb, 0, none⟩ : Addr) else some ⟨gb, k + 1, none⟩) = X := ⟨_, rfl⟩
          obtain ⟨X1, hX1⟩ : ∃ X : Option Addr, (if n = k then some (⟨ga, 0, none⟩ : Addr) else some ⟨ga, k, none⟩) = X := ⟨_, rfl⟩
          have S2 : Hid (∀ q, Calls Try.prog 11 #[.slice X6 (n - k) (n - k), .slice X1 (n - k) (n - k)] (w7.drewN q) fun e w' => e = .returned (.bool true) ∧ ∃ m, w' = (w7.drewN q).drewN m) := Lib.hid (fun q => by
            have u1 := nums_cut (GB7.out.drewN q).nums (k + 1) (n = k) (by omega)
            have u2 := nums_cut (GA7.out.drewN q).nums k (n = k) (by omega)
            rw [show n + 1 - (k + 1) = n - k by omega, hX6] at u1
            rw [hX1] at u2
            exact sameLens_any _ _ (n - k) (n - k) (n - k) (fun i => pl m (te 1 (ups k) e) L (k + 1 + i)) (fun i => pl m e L (k + i)) _ (by unfold maxLen; omega) u1 u2 (fun i hi => by
              have := PU.out (k + i)
              rwa [show ups k (k + i) = k + 1 + i by unfold ups; rw [if_neg (by omega)]; omega] at this))
          have hk7 : k + 1 ≤ n + 1 := by omega
          have hk8 : k < n + 1 := by omega
          have hw1 : IntKind.i64.wrap ((k : Int) + 1) = (k : Int) + 1 := IntWalk.i64_in _ (by omega)
          have hw2 : (0 : Int) ≤ (k : Int) + 1 := by omega
          have hw3 : ((k : Int) + 1).toNat = k + 1 := by omega
          go_wp2_with fail
          go_quiet ((first | (go_at_call 11; with_reducible exact Calls.quiet_of (S1.out _)) | (go_at_call 11; with_reducible exact Calls.quiet_of (S2.out _))))
          clear hw1 hw2 hw3 hk7 hk8 z1 hX6 hX1
          go_wp2_with fail
          refine (lens_ok (some ⟨b, 0, none⟩) n n 15 m y e _ (by omega) Y30.out (I7.out.drewN _).nums (by omega) (by omega) HL.out HB15.out).mono ?_; rintro x1 w8 ⟨gw, rfl, s8, r8, b8⟩
          have B8 := Lib.hid ((below_drewN B7.out _).trans (b8.mono B7.out.size))
          have I8 := Lib.hid ((I7.out.drewN _).below b8 I7.out.lt)
          have GA8 := Lib.hid ((GA7.out.drewN _).below b8 GA7.out.lt)
          have GW8 := Lib.hid r8
          clear b8 s8 r8
          go_wp2_with fail
          go_loop [18, 19] (fun x i => ∃ j : Nat, j ≤ n ∧ i = .int .i64 j ∧ x = .int .i64 (mx (pl m e 15) j)) (fun _ i => n - (intOf i).toNat)
          case atStart => exact ⟨0, Nat.zero_le _, rfl, rfl⟩
          case round =>
            obtain ⟨j, hj, rfl, rfl⟩ := hrel
            by_cases hlt : j < n
            · have c1 := GW8.out.cell hlt
              have l1 := PL15.out j
              have l2 := mx_le PL15.out j
              have st : mx (pl m e 15) (j + 1) = max (mx (pl m e 15) j) (pl m e 15 j) := rfl
              obtain ⟨p, hp⟩ : ∃ p, pl m e 15 j = p := ⟨_, rfl⟩
              obtain ⟨q, hq⟩ : ∃ q, mx (pl m e 15) j = q := ⟨_, rfl⟩
              rw [hp] at c1 l1 st
              rw [hq] at l2 st ⊢
              have ST := Lib.hid st
              have mm : max (q : Int) (p : Int) = ((max q p : Nat) : Int) := by omega
              clear hp hq st
              go_wp2_with fail
              go_round
              case rel => exact ⟨j + 1, by omega, by go_num, by rw [ST.out]⟩
              case measure => simp [intOf]; omega
            · obtain rfl : j = n := by omega
              have l2 := mx_le PL15.out j
              by_cases hf : L < mx (pl m e 15) j
              · obtain ⟨q, hq⟩ : ∃ q, mx (pl m e 15) j = q := ⟨_, rfl⟩
                rw [hq] at hf l2 ⊢
                have dq : decide (L < q) = true := decide_eq_true hf
                clear hq
                go_wp2_with fail
                refine (alive_any _).mono ?_; rintro x1 w9 ⟨rfl, b9⟩
                go_wp2_with fail
                go_ret
                exact ⟨rfl, B8.out.trans (b9.mono B8.out.size)⟩
              · have FR := Lib.hid (wl_free HL.out HB.out L1 L2 (fun s hs => Nat.le_trans (mx_ge (pl m e 15) hs) (Nat.le_of_not_lt hf)))
                obtain ⟨q, hq⟩ : ∃ q, mx (pl m e 15) j = q := ⟨_, rfl⟩
                rw [hq] at hf l2 ⊢
                have dq : decide (L < q) = false := decide_eq_false hf
                obtain ⟨w, hw⟩ : ∃ w, wl y j m e L = w := ⟨_, rfl⟩
                have PLL := Lib.hid (show ∀ s, pl m e L s ≤ 255 from fun s => by have := pl_le HL.out HB.out L1 s; omega)
                have PL255 := Lib.hid (show ∀ s, pl m e 15 s ≤ 255 from fun s => by have := PL15.out s; omega)
                have WG1 := Lib.hid (show wg (pl m e L) (fun i => (y i : Int)) (min j j) = (w : Int) by rw [Nat.min_self, (wg_sm PLL.out Y30.out j (by omega)).1, ← hw]; rfl)
                have WG2 := Lib.hid (show wg (pl m e 15) (fun i => (y i : Int)) (min j j) = (w : Int) by rw [Nat.min_self, (wg_sm PL255.out Y30.out j (by omega)).1, ← hw, FR.out]; rfl)
                have HML := Lib.hid (show j ≤ maxLen by unfold maxLen; omega)
                clear hq hw
                go_wp2_with fail
                refine (weighs_any (some ⟨ga, 0, none⟩) (some ⟨b, 0, none⟩) j j j j _ _ _ HML.out HML.out GA8.out.nums I8.out.nums PLL.out).mono ?_; rintro x1 wa ⟨rfl, b10⟩
                rw [WG1.out]
                have GW9 := Lib.hid (GW8.out.below b10 GW8.out.lt)
                have I9 := Lib.hid (I8.out.below b10 I8.out.lt)
                have B10 := Lib.hid (B8.out.trans (b10.mono B8.out.size))
                clear b10
                go_wp2_with fail
                refine (weighs_any (some ⟨gw, 0, none⟩) (some ⟨b, 0, none⟩) j j j j _ _ _ HML.out HML.out GW9.out.nums I9.out.nums PL255.out).mono ?_; rintro x1 wb ⟨rfl, b11⟩
                rw [WG2.out]
                have B11 := Lib.hid (B10.out.trans (b11.mono B10.out.size))
                clear b11
                go_wp2_with fail
                refine (alive_any _).mono ?_; rintro x1 w9 ⟨rfl, b9⟩
                go_wp2_with fail
                go_ret
                exact ⟨rfl, B11.out.trans (b9.mono B11.out.size)⟩

theorem PackNone_walk (a0 : Option Addr) (len0 cap0 : Nat) (z0 : List Int) (a1 a2 : Int) (w : World) (w0 : IsRow .u16 w a0 len0 cap0 z0) (w1 : (Lit.int .u8 a1).wf = true) (w2 : (Lit.int .u16 a2).wf = true) :
    Calls Try.prog 7 #[.slice a0 len0 cap0, .int .u8 a1, .int .u16 a2] w fun e w' => e = .returned (.bool true) ∧ Below w.heap.size w w' := by
  obtain ⟨hy, H⟩ := w0.nat16
  obtain ⟨x, rfl, hx⟩ := u8_nat w1
  obtain ⟨t, rfl, ht⟩ := u16_nat w2
  have hm := w0.most
  by_cases h : 100 < len0
  · exact pnone_far a0 len0 cap0 x t w (by omega) h
  · obtain ⟨m, e, hl⟩ := lv_ex (nat8 z0) len0
    by_cases hb : nds m ≤ x % 15 + 1
    · exact pnone_ok a0 len0 cap0 x t _ m e w (by omega) hx ht hy H hl hb
    · exact pnone_few a0 len0 cap0 x t _ m e w (by omega) hx ht hy H hl (by omega)
end Go.Proofs.Yteicamfelamfhaa
