/- insertionSort of package slices, over leaves. Conditions: as each theorem names them. -/
import Derived.Test.YteicamfelamfhaaSoB
import Derived.Deep.RegionHeld3
import Derived.Deep.QuietTactic
namespace Go.Proofs.Yteicamfelamfhaa
open Go.RowKit M
set_option linter.unusedVariables false

/-- the closure by which leaves are held against each other -/
def lessF : Value := .func (.func 29) #[] #[]
/-- is the number below zero -/
theorem cmv_neg {x y : Nat} (h : x < y) : decide (cmv x y < 0) = true := decide_eq_true (by unfold cmv; rw [if_pos h]; omega)
theorem cmv_not {x y : Nat} (h : ¬ x < y) : decide (cmv x y < 0) = false := decide_eq_false (by unfold cmv; rw [if_neg h]; split <;> omega)

/-- where a leaf has come down to its place -/
theorem ins_stop {e e1 : Nat → Nat × Nat} {a i d j : Nat} (hi : a < i) (hd : i < d) (ho : Ord e1 a i) (hm : Same e e1 a (min i d)) (hr : ∀ t, a ≤ t → t < i → (e1 t).1 = (e1 i).1 → (e1 t).2 < (e1 i).2)
    (h1 : a ≤ j) (h2 : j ≤ i) (hj : ∀ t, j ≤ t → t < i → (e1 i).1 < (e1 t).1) (hs : j = a ∨ ¬ (e1 i).1 < (e1 (j - 1)).1) : Ord (mvd e1 j i) a (i + 1) ∧ Same e (mvd e1 j i) a (min (i + 1) d) := by
  refine ⟨mvd_ord ho hr h1 h2 hj (by omega), ?_⟩
  rw [Nat.min_eq_left (by omega)] at hm ⊢
  exact (hm.wide (Nat.le_refl _) (by omega)).trans (mvd_same e1 h1 h2 (by omega))

set_option maxHeartbeats 4000000 in
theorem ins_any (b n c a d : Nat) (e : Nat → Nat × Nat) (W : World) (hn : n ≤ 400) (had : a ≤ d) (hd : d ≤ n) (hs : ∀ i j, a ≤ i → i < j → j < d → (e i).2 < (e j).2) (H : Lfs W b n e) :
    Calls Try.prog 39 #[.slice (some ⟨b, 0, none⟩) n c, .int .i64 a, .int .i64 d, .func (.func 29) #[] #[]] W fun x w' => x = .returned (.tuple #[]) ∧ ∃ e', Lfs w' b n e' ∧ Ord e' a d ∧ Same e e' a d ∧ Kept (One b) W w' := by
  have HW := Lib.hid H
  have HS := Lib.hid hs
  clear H hs
  go_enter Try.func39, Try.ntmps39
  go_wp2_with fail
  go_loopw [8] (fun v wr => ∃ (i : Nat) (e1 : Nat → Nat × Nat), v = .int .i64 i ∧ a < i ∧ (i ≤ d ∨ i = a + 1) ∧ Lfs wr b n e1 ∧ Hid (Ord e1 a i ∧ Same e e1 a (min i d) ∧ Kept (One b) W wr)) (fun v _ => 401 - (intOf v).toNat)
  case atStart => exact ⟨a + 1, e, by go_num, by omega, .inr rfl, HW.out, Lib.hid ⟨fun i j h1 h2 h3 => by omega, Same.refl _ _ _, Kept.refl _ _⟩⟩
  case round =>
    obtain ⟨i, e1, rfl, p1, p2, hl, HI⟩ := hrel
    by_cases c1 : i < d
    · have HL := Lib.hid hl
      clear hl p2
      have HR : Hid (∀ t, a ≤ t → t < i → (e1 t).1 = (e1 i).1 → (e1 t).2 < (e1 i).2) := Lib.hid (fun t g1 g2 _ => by
        obtain ⟨ho, hm, hk⟩ := HI.out
        rw [Nat.min_eq_left (by omega)] at hm
        obtain ⟨j, j1, j2, q⟩ := hm.fro t g1 g2
        rw [q, hm.out i (.inr (Nat.le_refl _))]
        exact HS.out j i j1 j2 c1)
      go_wp2_with fail
      go_loopw [9] (fun v ws => ∃ (j : Nat), v = .int .i64 j ∧ a ≤ j ∧ j ≤ i ∧ Lfs ws b n (mvd e1 j i) ∧ Hid ((∀ t, j ≤ t → t < i → (e1 i).1 < (e1 t).1) ∧ Kept (One b) W ws)) (fun v _ => (intOf v).toNat)
      case atStart => exact ⟨i, rfl, by omega, Nat.le_refl _, HL.out.congr (fun t _ => (mvd_self e1 i t).symm), Lib.hid ⟨fun t g1 g2 => by omega, HI.out.2.2⟩⟩
      case round =>
        obtain ⟨j, rfl, q1, q2, hl, HJ⟩ := hrel
        by_cases c2 : a < j
        · obtain ⟨z, hz⟩ : ∃ z, j - 1 = z := ⟨_, rfl⟩
          obtain ⟨x1, x2, x3⟩ := hl.cells (show j < n by omega)
          obtain ⟨y1, y2, y3⟩ := hl.cells (show z < n by omega)
          have fx := hl.frozen (j * 3)
          have fx1 := hl.frozen (j * 3 + 1)
          have fx2 := hl.frozen (j * 3 + 2)
          have fy := hl.frozen (z * 3)
          have fy1 := hl.frozen (z * 3 + 1)
          have fy2 := hl.frozen (z * 3 + 2)
          have hv1 : mvd e1 j i j = e1 i := by unfold mvd; rw [if_pos rfl]
          have hv2 : mvd e1 j i z = e1 z := by unfold mvd; rw [if_neg (by omega), if_neg (by omega)]
          rw [hv1] at x1 x2
          rw [hv2] at y1 y2
          obtain ⟨u1, hu1⟩ : ∃ u, (e1 i).1 = u := ⟨_, rfl⟩
          obtain ⟨u2, hu2⟩ : ∃ u, (e1 i).2 = u := ⟨_, rfl⟩
          obtain ⟨v1, hw1⟩ : ∃ u, (e1 z).1 = u := ⟨_, rfl⟩
          obtain ⟨v2, hw2⟩ : ∃ u, (e1 z).2 = u := ⟨_, rfl⟩
          rw [hu1] at x1
          rw [hu2] at x2
          rw [hw1] at y1
          rw [hw2] at y2
          have HU := Lib.hid (And.intro hu1 (And.intro hu2 (And.intro hw1 hw2)))
          have HZ := Lib.hid hz
          have HL2 := Lib.hid hl
          have hzn : z < n := by omega
          have hjn : j < n := by omega
          have hzj : z < j := by omega
          have ez : IntKind.i64.wrap ((j : Int) - 1) = (z : Int) := by rw [IntWalk.i64_in _ (by omega)]; omega
          have ez2 : (j : Int) - 1 = (z : Int) := by omega
          have ez3 : IntKind.i64.wrap (z : Int) = (z : Int) := IntWalk.i64_in _ (by omega)
          have ez4 : ((z : Int)).toNat = z := by omega
          have ez5 : ((j : Int)).toNat = j := by omega
          obtain ⟨t, ht⟩ : ∃ t, cmv u1 v1 = t := ⟨_, rfl⟩
          have cc := fun w => less_any u1 u2 v1 v2 w
          rw [ht] at cc
          have CC := Lib.hid cc
          clear cc
          have g2 : decide (a < j) = true := decide_eq_true c2
          clear hl hv1 hv2 hu1 hu2 hw1 hw2 hz
          by_cases c3 : u1 < v1
          · have hd3 := cmv_neg c3
            rw [ht] at hd3
            clear ht
            go_wp2_with fail
            go_region_held3 (fun w' => w'.cell? ⟨b, j * 3, none⟩ = some (.int .u64 u1) ∧ w'.cell? ⟨b, j * 3 + 1, none⟩ = some (.int .i64 u2) ∧ w'.cell? ⟨b, j * 3 + 2, none⟩ = some (.pointer none) ∧ w'.cell? ⟨b, z * 3, none⟩ = some (.int .u64 v1) ∧ w'.cell? ⟨b, z * 3 + 1, none⟩ = some (.int .i64 v2) ∧ w'.cell? ⟨b, z * 3 + 2, none⟩ = some (.pointer none)) (first | exact ⟨k1, k2, k3, k4, k5, k6⟩ | exact ⟨x1, x2, x3, y1, y2, y3⟩) (first
              | ((with_reducible refine (CC.out _).mono ?_); rintro x w3 ⟨rfl, b3⟩; have k1 := (b3.cell (World.block_lt_of_cell? _ _ x1)).trans x1; have k2 := (b3.cell (World.block_lt_of_cell? _ _ x2)).trans x2; have k3 := (b3.cell (World.block_lt_of_cell? _ _ x3)).trans x3; have k4 := (b3.cell (World.block_lt_of_cell? _ _ y1)).trans y1; have k5 := (b3.cell (World.block_lt_of_cell? _ _ y2)).trans y2; have k6 := (b3.cell (World.block_lt_of_cell? _ _ y3)).trans y3; have B3 := Lib.hid b3; clear b3))
            have L3 : Lfs w3 b n (mvd e1 j i) := HL2.out.drew.below B3.out HL2.out.lt
            have K3 : Hid (Kept (One b) W w3) := Lib.hid ((HJ.out.2.drew).trans (Kept.of_below B3.out) (fun _ g => g.elim))
            have gx := L3.frozen (j * 3)
            have gx1 := L3.frozen (j * 3 + 1)
            have gx2 := L3.frozen (j * 3 + 2)
            have gy := L3.frozen (z * 3)
            have gy1 := L3.frozen (z * 3 + 1)
            have gy2 := L3.frozen (z * 3 + 2)
            have hs := (L3.swap (i := j) (j := z)).congr (e' := mvd e1 z i) (fun t _ => (swp_of (by omega) t).trans (by rw [← HZ.out]; exact mvd_step e1 (by omega) q2 t))
            have hv1 : mvd e1 j i j = e1 i := by unfold mvd; rw [if_pos rfl]
            have hv2 : mvd e1 j i z = e1 z := by unfold mvd; rw [if_neg (by omega), if_neg (by omega)]
            rw [hv1, hv2, HU.out.1, HU.out.2.1, HU.out.2.2.1, HU.out.2.2.2] at hs
            have HS3 := Lib.hid hs
            have HL3 := Lib.hid L3
            clear hs hv1 hv2 L3 x1 x2 x3 y1 y2 y3 fx fx1 fx2 fy fy1 fy2 HL2 B3
            go_wp2_with fail
            go_region
            go_wp2_with fail
            go_roundw
            case rel => exact ⟨z, rfl, by omega, by omega, HS3.out.drew, Lib.hid ⟨fun t g1 g2 => by
              by_cases q : t = z
              · rw [q, HU.out.1, HU.out.2.2.1]; exact c3
              · exact HJ.out.1 t (by have := HZ.out; omega) g2, (kept6 K3.out _ _ _ _ _ _ _ _ _ _ _ _).drew⟩⟩
            case measure => simp [intOf]; omega
          · have hd3 := cmv_not c3
            rw [ht] at hd3
            clear ht
            go_wp2_with fail
            go_region_held3 (fun w' => w'.cell? ⟨b, j * 3, none⟩ = some (.int .u64 u1) ∧ w'.cell? ⟨b, j * 3 + 1, none⟩ = some (.int .i64 u2) ∧ w'.cell? ⟨b, j * 3 + 2, none⟩ = some (.pointer none) ∧ w'.cell? ⟨b, z * 3, none⟩ = some (.int .u64 v1) ∧ w'.cell? ⟨b, z * 3 + 1, none⟩ = some (.int .i64 v2) ∧ w'.cell? ⟨b, z * 3 + 2, none⟩ = some (.pointer none)) (first | exact ⟨k1, k2, k3, k4, k5, k6⟩ | exact ⟨x1, x2, x3, y1, y2, y3⟩) (first
              | ((with_reducible refine (CC.out _).mono ?_); rintro x w3 ⟨rfl, b3⟩; have k1 := (b3.cell (World.block_lt_of_cell? _ _ x1)).trans x1; have k2 := (b3.cell (World.block_lt_of_cell? _ _ x2)).trans x2; have k3 := (b3.cell (World.block_lt_of_cell? _ _ x3)).trans x3; have k4 := (b3.cell (World.block_lt_of_cell? _ _ y1)).trans y1; have k5 := (b3.cell (World.block_lt_of_cell? _ _ y2)).trans y2; have k6 := (b3.cell (World.block_lt_of_cell? _ _ y3)).trans y3; have B3 := Lib.hid b3; clear b3))
            have L3 : Lfs w3 b n (mvd e1 j i) := HL2.out.drew.below B3.out HL2.out.lt
            have K3 : Hid (Kept (One b) W w3) := Lib.hid ((HJ.out.2.drew).trans (Kept.of_below B3.out) (fun _ g => g.elim))
            have gx := L3.frozen (j * 3)
            have gx1 := L3.frozen (j * 3 + 1)
            have gx2 := L3.frozen (j * 3 + 2)
            have gy := L3.frozen (z * 3)
            have gy1 := L3.frozen (z * 3 + 1)
            have gy2 := L3.frozen (z * 3 + 2)
            have hs := (L3.swap (i := j) (j := z)).congr (e' := mvd e1 z i) (fun t _ => (swp_of (by omega) t).trans (by rw [← HZ.out]; exact mvd_step e1 (by omega) q2 t))
            have hv1 : mvd e1 j i j = e1 i := by unfold mvd; rw [if_pos rfl]
            have hv2 : mvd e1 j i z = e1 z := by unfold mvd; rw [if_neg (by omega), if_neg (by omega)]
            rw [hv1, hv2, HU.out.1, HU.out.2.1, HU.out.2.2.1, HU.out.2.2.2] at hs
            have HS3 := Lib.hid hs
            have HL3 := Lib.hid L3
            clear hs hv1 hv2 L3 x1 x2 x3 y1 y2 y3 fx fx1 fx2 fy fy1 fy2 HL2 B3
            have ST := Lib.hid (ins_stop p1 c1 HI.out.1 HI.out.2.1 HR.out q1 q2 HJ.out.1 (.inr (by rw [HZ.out, HU.out.1, HU.out.2.2.1]; exact c3)))
            go_wp2_with fail
            go_roundw
            case rel => exact ⟨i + 1, _, by go_num, by omega, .inl (by omega), HL3.out, Lib.hid ⟨ST.out.1, ST.out.2, K3.out⟩⟩
            case measure => simp [intOf]; omega
        · have g2 : decide (a < j) = false := decide_eq_false c2
          have HL2 := Lib.hid hl
          have ST := Lib.hid (ins_stop p1 c1 HI.out.1 HI.out.2.1 HR.out q1 q2 HJ.out.1 (.inl (by omega)))
          clear hl
          go_wp2_with fail
          go_quiet (fail)
          go_wp2_with fail
          go_roundw
          case rel => exact ⟨i + 1, _, by go_num, by omega, .inl (by omega), HL2.out.drew, Lib.hid ⟨ST.out.1, ST.out.2, HJ.out.2.drewN _⟩⟩
          case measure => simp [intOf]; omega
    · have HL := Lib.hid hl
      have HD : Hid (Ord e1 a d ∧ Same e e1 a d) := Lib.hid (by
        obtain ⟨h1, h2, h3⟩ := HI.out
        rw [Nat.min_eq_right (by omega)] at h2
        exact ⟨h1.sub (Nat.le_refl _) (by omega), h2⟩)
      clear hl p2
      go_wp2_with fail
      go_end0
      exact ⟨rfl, e1, HL.out, HD.out.1, HD.out.2, HI.out.2.2⟩
end Go.Proofs.Yteicamfelamfhaa
