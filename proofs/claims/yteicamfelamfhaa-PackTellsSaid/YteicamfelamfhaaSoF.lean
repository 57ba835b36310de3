/- stable and SortStableFunc of package slices, over leaves. Conditions: as each theorem names them. -/
import Derived.Test.YteicamfelamfhaaSoE
import Derived.Test.YteicamfelamfhaaMathW
namespace Go.Proofs.Yteicamfelamfhaa
open Go.RowKit M
set_option linter.unusedVariables false

set_option maxHeartbeats 4000000 in
set_option maxRecDepth 1000000 in
theorem stable_any (b n c : Nat) (e0 : Nat → Nat × Nat) (W : World) (hn : n ≤ 400) (hi : Inc e0 n) (H : Lfs W b n e0) :
    Calls Try.prog 37 #[.slice (some ⟨b, 0, none⟩) n c, .int .i64 n, .func (.func 29) #[] #[]] W fun x w' => x = .returned (.tuple #[]) ∧ ∃ e', Lfs w' b n e' ∧ Ord e' 0 n ∧ Mem e0 e' 0 n ∧ Kept (One b) W w' := by
  have HW := Lib.hid H
  have HI := Lib.hid hi
  have HN := Lib.hid hn
  clear H hi
  go_enter Try.func37, Try.ntmps37
  go_wp2_with fail
  go_loopw [7, 8] (fun x y wr => ∃ (a q : Nat) (e : Nat → Nat × Nat), x = .int .i64 a ∧ y = .int .i64 ((a : Int) + 20) ∧ a ≤ n ∧ Lfs wr b n e ∧ Hid (a = q * 20 ∧ Blk e0 e 20 0 a n ∧ (∀ t, a ≤ t → e t = e0 t) ∧ Kept (One b) W wr)) (fun x y _ => 401 - (intOf x).toNat)
  case atStart => exact ⟨0, 0, e0, rfl, by simp, Nat.zero_le _, HW.out, Lib.hid ⟨rfl, blk_none _ _ _ _ _, fun _ _ => rfl, Kept.refl _ _⟩⟩
  case round =>
    obtain ⟨a, q, e, rfl, rfl, q1, hl, HB⟩ := hrel
    have HL := Lib.hid hl
    clear hl
    by_cases c1 : a + 20 ≤ n
    · obtain ⟨d, hd⟩ : ∃ d, a + 20 = d := ⟨_, rfl⟩
      have e1 : (a : Int) + 20 = (d : Int) := by omega
      have hdn : d ≤ n := by omega
      have had : a ≤ d := by omega
      have HD := Lib.hid hd
      have HS := Lib.hid (show ∀ i j, a ≤ i → i < j → j < d → (e i).2 < (e j).2 from fun i j g1 g2 g3 => by
        rw [HB.out.2.2.1 i g1, HB.out.2.2.1 j (by omega)]; exact HI.out i j g2 (by omega))
      clear hd c1
      go_wp2_with fail
      refine (ins_any b n c a d e _ HN.out had hdn HS.out HL.out).mono ?_; rintro x w1 ⟨rfl, e', l1, o1, s1, k1⟩
      have L1 := Lib.hid l1
      have F1 := Lib.hid (And.intro o1 (And.intro s1 k1))
      clear l1 o1 s1 k1
      go_wp2_with fail
      go_roundw
      case rel =>
        obtain ⟨h1, h2, h3, h4⟩ := HB.out
        obtain ⟨o1, s1, k1⟩ := F1.out
        have hd := HD.out
        have hmin : min (a + 20) n = d := by omega
        refine ⟨d, q + 1, e', rfl, rfl, hdn, L1.out, Lib.hid ⟨by rw [Nat.succ_mul]; omega, ?_, fun t g => by rw [s1.out t (.inr g), h3 t (by omega)], h4.trans k1 (fun _ h => .inl h)⟩⟩
        have := blk_more (e' := e') h2 h1 (by rw [hmin]; exact o1) (fun t g => s1.out t (.inl g)) (by rw [hmin]; exact (Mem.of_eq (fun i g _ => h3 i g)).trans s1.mem)
        rwa [hd] at this
      case measure => have hd := HD.out; simp [intOf]; omega
    · have HS := Lib.hid (show ∀ i j, a ≤ i → i < j → j < n → (e i).2 < (e j).2 from fun i j g1 g2 g3 => by
        rw [HB.out.2.2.1 i g1, HB.out.2.2.1 j (by omega)]; exact HI.out i j g2 (by omega))
      have HC := Lib.hid (show n ≤ a + 20 by omega)
      have d1 : decide ((a : Int) + 20 ≤ (n : Int)) = false := decide_eq_false (by omega)
      clear c1
      go_wp2_with fail
      refine (ins_any b n c a n e _ HN.out q1 (Nat.le_refl _) HS.out HL.out).mono ?_; rintro x w1 ⟨rfl, e', l1, o1, s1, k1⟩
      have L1 := Lib.hid l1
      have K1 := Lib.hid (HB.out.2.2.2.trans k1 (fun _ h => .inl h))
      have B1 := Lib.hid (show Blk e0 e' 20 0 n n from by
        obtain ⟨h1, h2, h3, h4⟩ := HB.out
        have hmin : min (a + 20) n = n := Nat.min_eq_right HC.out
        exact blk_narrow (blk_more (e' := e') h2 h1 (by rw [hmin]; exact o1) (fun t g => s1.out t (.inl g)) (by rw [hmin]; exact (Mem.of_eq (fun i g _ => h3 i g)).trans s1.mem)) HC.out)
      clear l1 o1 s1 k1
      go_wp2_with fail
      go_loopw [6, 7, 8, 9] (fun x y z u wr => ∃ (bs : Nat) (e : Nat → Nat × Nat), x = .int .i64 bs ∧ 0 < bs ∧ bs ≤ 800 ∧ Lfs wr b n e ∧ Hid (Blk e0 e bs 0 n n ∧ Kept (One b) W wr)) (fun x y z u _ => 401 - (intOf x).toNat)
      case atStart => exact ⟨20, e', rfl, by omega, by omega, L1.out, Lib.hid ⟨B1.out, K1.out⟩⟩
      case round =>
        obtain ⟨bs, e2, rfl, r1, r2, hl, HB2⟩ := hrel
        have HL2 := Lib.hid hl
        clear hl
        by_cases c2 : bs < n
        · obtain ⟨B, hB⟩ : ∃ B, 2 * bs = B := ⟨_, rfl⟩
          have w1 : 2 * (bs : Int) = (B : Int) := by omega
          have w2 : (bs : Int) * 2 = (B : Int) := by omega
          have hBs : B ≤ 800 := by omega
          have hbB : bs < B := by omega
          have HBB := Lib.hid hB
          have HB3 := Lib.hid (show Blk e0 e2 B 0 0 n ∧ Blk e0 e2 bs 0 n n from ⟨blk_none _ _ _ _ _, HB2.out.1⟩)
          clear hB
          go_wp2_with fail
          go_loopw [7, 8] (fun x y ws => ∃ (a q : Nat) (e : Nat → Nat × Nat), x = .int .i64 a ∧ y = .int .i64 ((a : Int) + (B : Int)) ∧ a ≤ n ∧ Lfs ws b n e ∧ Hid (a = q * B ∧ Blk e0 e B 0 a n ∧ Blk e0 e bs a n n ∧ Kept (One b) W ws)) (fun x y _ => 401 - (intOf x).toNat)
          case atStart => exact ⟨0, 0, e2, rfl, by simp, Nat.zero_le _, HL2.out, Lib.hid ⟨by simp, HB3.out.1, HB3.out.2, HB2.out.2⟩⟩
          case round =>
            obtain ⟨a, q, e3, rfl, rfl, q1, hl, HB4⟩ := hrel
            have HL3 := Lib.hid hl
            clear hl
            by_cases c3 : a + B ≤ n
            · obtain ⟨d, hd⟩ : ∃ d, a + B = d := ⟨_, rfl⟩
              obtain ⟨m, hm⟩ : ∃ m, a + bs = m := ⟨_, rfl⟩
              have v1 : (a : Int) + (B : Int) = (d : Int) := by omega
              have v2 : (a : Int) + (bs : Int) = (m : Int) := by omega
              have v3 : (d : Int) + (B : Int) ≤ 2000 := by omega
              have hdn : d ≤ n := by omega
              have hmd : m < d := by omega
              have ham : a < m := by omega
              have hda : a + 1 ≤ d := by omega
              have HR := Lib.hid (show Ord e3 a m ∧ Ord e3 m d ∧ Rel e3 a m d from by
                obtain ⟨h1, h2, h3, h4⟩ := HB4.out
                have hB := HBB.out
                have := blk_rel (d := d) h3 (by rw [hB]; exact h1) r1 (by omega) (by omega) HI.out
                rwa [hm] at this)
              have HD := Lib.hid (And.intro hd hm)
              clear hd hm c3
              go_wp2_with fail
              refine (sym_any b n c a m d e3 _ HN.out ham hmd hdn HR.out.1 HR.out.2.1 HR.out.2.2 HL3.out).mono ?_; rintro x w5 ⟨rfl, e5, l5, o5, s5, k5⟩
              have L5 := Lib.hid l5
              have F5 := Lib.hid (And.intro o5 (And.intro s5 k5))
              clear l5 o5 s5 k5
              go_wp2_with fail
              go_roundw
              case rel =>
                obtain ⟨h1, h2, h3, h4⟩ := HB4.out
                obtain ⟨o5, s5, k5⟩ := F5.out
                obtain ⟨hd, hm⟩ := HD.out
                have hB := HBB.out
                have hmin : d = min (a + 2 * bs) n := by omega
                have := blk_merge (by rw [hB]; exact h2) h3 (by rw [hB]; exact h1) r1 (by omega) hmin o5 s5
                rw [hB, hd] at this
                exact ⟨d, q + 1, e5, rfl, rfl, hdn, L5.out, Lib.hid ⟨by rw [Nat.succ_mul]; omega, this.1, this.2, h4.trans k5 (fun _ h => .inl h)⟩⟩
              case measure => simp [intOf]; omega
            · obtain ⟨m, hm⟩ : ∃ m, a + bs = m := ⟨_, rfl⟩
              have v2 : (a : Int) + (bs : Int) = (m : Int) := by omega
              have d3 : decide ((a : Int) + (B : Int) ≤ (n : Int)) = false := decide_eq_false (by omega)
              have HC3 := Lib.hid (show n ≤ a + B by omega)
              by_cases c4 : m < n
              · have ham : a < m := by omega
                have HR := Lib.hid (show Ord e3 a m ∧ Ord e3 m n ∧ Rel e3 a m n from by
                  obtain ⟨h1, h2, h3, h4⟩ := HB4.out
                  have hB := HBB.out
                  have := blk_rel (d := n) h3 (by rw [hB]; exact h1) r1 (by omega) (by omega) HI.out
                  rwa [hm] at this)
                have HD := Lib.hid hm
                clear hm c3
                go_wp2_with fail
                refine (sym_any b n c a m n e3 _ HN.out ham c4 (Nat.le_refl _) HR.out.1 HR.out.2.1 HR.out.2.2 HL3.out).mono ?_; rintro x w5 ⟨rfl, e5, l5, o5, s5, k5⟩
                have L5 := Lib.hid l5
                have F5 := Lib.hid (And.intro o5 (And.intro s5 k5))
                clear l5 o5 s5 k5
                go_wp2_with fail
                go_roundw
                case rel =>
                  obtain ⟨h1, h2, h3, h4⟩ := HB4.out
                  obtain ⟨o5, s5, k5⟩ := F5.out
                  have hm := HD.out
                  have hB := HBB.out
                  have hc3 := HC3.out
                  have hmin : n = min (a + 2 * bs) n := by omega
                  have := blk_merge (by rw [hB]; exact h2) h3 (by rw [hB]; exact h1) r1 (by omega) hmin o5 s5
                  rw [hB] at this
                  exact ⟨B, e5, rfl, by omega, hBs, L5.out, Lib.hid ⟨blk_narrow this.1 hc3, h4.trans k5 (fun _ h => .inl h)⟩⟩
                case measure => simp [intOf]; omega
              · have HD := Lib.hid hm
                clear hm c3
                go_wp2_with fail
                go_roundw
                case rel =>
                  obtain ⟨h1, h2, h3, h4⟩ := HB4.out
                  have hm := HD.out
                  have hB := HBB.out
                  have := blk_last (by rw [hB]; exact h2) h3 (by rw [hB]; exact h1) r1 (by omega) q1
                  rw [hB] at this
                  exact ⟨B, e3, rfl, by omega, hBs, HL3.out, Lib.hid ⟨this, h4⟩⟩
                case measure => simp [intOf]; omega
        · have HE := Lib.hid (blk_end HB2.out.1 (by omega))
          go_wp2_with fail
          go_end0
          exact ⟨rfl, e2, HL2.out, HE.out.1, HE.out.2, HB2.out.2⟩

theorem sort_any (b n c : Nat) (e0 : Nat → Nat × Nat) (W : World) (hn : n ≤ 400) (hi : Inc e0 n) (H : Lfs W b n e0) :
    Calls Try.prog 28 #[.slice (some ⟨b, 0, none⟩) n c, .func (.func 29) #[] #[]] W fun x w' => x = .returned (.tuple #[]) ∧ ∃ e', Lfs w' b n e' ∧ Ord e' 0 n ∧ Mem e0 e' 0 n ∧ Kept (One b) W w' := by
  have HW := Lib.hid H
  have HI := Lib.hid hi
  clear H hi
  go_enter Try.func28, Try.ntmps28
  go_wp2_with fail
  refine (stable_any b n c e0 _ hn HI.out HW.out).mono ?_; rintro x w5 ⟨rfl, e5, l5, o5, s5, k5⟩
  have F5 := Lib.hid (And.intro l5 (And.intro o5 (And.intro s5 k5)))
  clear l5 o5 s5 k5
  go_wp2_with fail
  go_end0
  exact ⟨rfl, e5, F5.out⟩

theorem ins_none (c a : Nat) (cmpf : Value) (W : World) :
    Calls Try.prog 39 #[.slice none 0 c, .int .i64 0, .int .i64 0, cmpf] W fun x w' => x = .returned (.tuple #[]) ∧ W = w' := by
  go_enter Try.func39, Try.ntmps39
  go_wp2_with fail
  go_loop [8] (fun v => v = .int .i64 1) (fun _ => 0)
  case atStart => rfl
  case round =>
    obtain rfl := hrel
    go_wp2_with fail
    go_end0
    exact ⟨rfl, rfl⟩
theorem stable_none (c : Nat) (cmpf : Value) (W : World) :
    Calls Try.prog 37 #[.slice none 0 c, .int .i64 0, cmpf] W fun x w' => x = .returned (.tuple #[]) ∧ W = w' := by
  go_enter Try.func37, Try.ntmps37
  go_wp2_with fail
  go_loop [7, 8] (fun x y => x = .int .i64 0 ∧ y = .int .i64 20) (fun _ _ => 0)
  case atStart => exact ⟨rfl, rfl⟩
  case round =>
    obtain ⟨rfl, rfl⟩ := hrel
    go_wp2_with fail
    refine (ins_none c 0 cmpf _).mono ?_; rintro x w1 ⟨rfl, rfl⟩
    go_wp2_with fail
    go_loop [6] (fun x => x = .int .i64 20) (fun _ => 0)
    case atStart => rfl
    case round =>
      obtain rfl := hrel
      go_wp2_with fail
      go_end0
      exact ⟨rfl, rfl⟩
theorem sort_none (c : Nat) (cmpf : Value) (W : World) :
    Calls Try.prog 28 #[.slice none 0 c, cmpf] W fun x w' => x = .returned (.tuple #[]) ∧ W = w' := by
  go_enter Try.func28, Try.ntmps28
  go_wp2_with fail
  refine (stable_none c cmpf _).mono ?_; rintro x w1 ⟨rfl, rfl⟩
  go_wp2_with fail
  go_end0
  exact ⟨rfl, rfl⟩
end Go.Proofs.Yteicamfelamfhaa
