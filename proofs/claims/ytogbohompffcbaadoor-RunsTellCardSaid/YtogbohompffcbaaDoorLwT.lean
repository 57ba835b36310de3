/- RunsTell's walk, over what the program's functions answer. Conditions: as each theorem names them. -/
import Derived.Test.YtogbohompffcbaaDoorLwW
import Derived.Deep.RegionHeld3
namespace Go.Proofs.YtogbohompffcbaaDoor.U
open Go Go.RowKit M
set_option linter.unusedVariables false
set_option linter.unusedSimpArgs false

/-! runs of lengths are little -/
def Rok (r : Rn) : Prop := r.s ≤ 18 ∧ r.e ≤ 127
theorem zrs_ok (n : Nat) : ∀ r ∈ zrs n, Rok r := by
  induction n using Nat.strongRecOn with
  | _ n ih =>
    intro r hr
    by_cases h : 11 ≤ n
    · rw [zrs_many h, List.mem_cons] at hr
      rcases hr with rfl | hr
      · exact ⟨Nat.le_refl _, by simp only; omega⟩
      · exact ih _ (by omega) r hr
    · by_cases h3 : 3 ≤ n
      · rw [zrs_some h h3, List.mem_singleton] at hr
        subst hr
        exact ⟨by simp only; omega, by simp only; omega⟩
      · rw [zrs_few h3] at hr
        rw [List.eq_of_mem_replicate hr]
        exact ⟨by simp only; omega, by simp only; omega⟩
theorem oths_ok (v : Nat) (hv : v ≤ 15) (n : Nat) : ∀ r ∈ oths v n, Rok r := by
  induction n using Nat.strongRecOn with
  | _ n ih =>
    intro r hr
    by_cases h : 3 ≤ n
    · rw [oths_many h, List.mem_cons] at hr
      rcases hr with rfl | hr
      · exact ⟨by simp only; omega, by simp only; omega⟩
      · exact ih _ (by omega) r hr
    · rw [oths_few h] at hr
      rw [List.eq_of_mem_replicate hr]
      exact ⟨by simp only; omega, by simp only; omega⟩
theorem pk_ok : ∀ l : List Nat, (∀ v ∈ l, v ≤ 15) → ∀ r ∈ pk l, Rok r := by
  intro l
  generalize hn : l.length = n
  induction n using Nat.strongRecOn generalizing l with
  | _ n ih =>
    cases l with
    | nil => intro _ r hr; rw [pk_nil] at hr; cases hr
    | cons v l =>
      intro hl r hr
      rw [pk_cons, List.mem_append] at hr
      have hv := hl v (by simp)
      rcases hr with hr | hr
      · unfold one at hr
        split at hr
        · exact zrs_ok _ r hr
        · unfold oth at hr
          rw [List.mem_cons] at hr
          rcases hr with rfl | hr
          · exact ⟨by simp only; omega, by simp only; omega⟩
          · exact oths_ok v hv _ r hr
      · rw [List.length_cons] at hn
        exact ih (l.drop (ru v l)).length (by rw [List.length_drop]; omega) _ rfl (fun x hx => hl x (by simp [List.mem_of_mem_drop hx])) r hr
theorem unp_len {n : Nat} : ∀ (L : List Rn) (out : List Nat), (unp n out L).2.length ≤ out.length + 138 * L.length
  | [], out => by unfold unp; split <;> simp
  | r :: L, out => by
    unfold unp
    split
    · simp
    · split
      · simp
      · split
        · simp
        · have ih := unp_len (n := n) L (out ++ List.replicate (tms r) (vl out r))
          have := tms_le r
          rw [List.length_append, List.length_replicate] at ih
          rw [List.length_cons]
          omega

theorem belowN {B : Nat} {w w' : World} (hb : Below B w w') (m : Nat) : Below B w (w'.drewN m) := ⟨hb.os, hb.tape, hb.output, hb.size, hb.block⟩
/-- a list of runs, and why -/
def RnsP (W : World) (X : Int) (Y : List Rn) (e : Ending) (w' : World) : Prop := ∃ A c, e = .returned (.tuple #[.slice A Y.length c, .int .i64 X]) ∧ IsRns w' A Y.length Y ∧ Below W.heap.size W w'

set_option maxRecDepth 1000000 in
set_option maxHeartbeats 4000000 in
theorem tell_gen {T : World → Prop} (C : Cts T) (A B : Option Addr) (n c m d : Nat) (L : List Rn) (x : Int) (P : List Rn) (XP : Int) (Y : List Nat) (XY : Int) (W : World) (H : T W) (hn : n ≤ 2000) (hm : m ≤ 500) (hL : IsRns W B m L) (hP : P.length ≤ 2000) (hY : Y.length ≤ 1000000)
    (HP : Hid (∀ w, Below W.heap.size W w → Calls Tryd.prog 8 #[.slice A n c] w (RnsP w XP P)))
    (HRP : Hid (∀ w, Below W.heap.size W w → Calls Tryd.prog 9 #[.slice A n c] w (RnsP w XP P)))
    (HU : Hid (∀ w, Below W.heap.size W w → Calls Tryd.prog 10 #[.slice B m d, .int .i64 x] w (UnP w XY Y)))
    (HRU : Hid (∀ w, Below W.heap.size W w → Calls Tryd.prog 11 #[.slice B m d, .int .i64 x] w (UnP w XY Y))) :
    Calls Tryd.prog 3 #[.slice A n c, .slice B m d, .int .i64 x] W fun e w' => e = .returned (.bool true) ∧ Below W.heap.size W w' := by
  have HV := Lib.hid (heavy_any A B n c m d W (by unfold maxLen; omega) (by unfold maxLen; omega))
  rw [decide_eq_false (fun g => g.elim (fun g => by omega) (fun g => by omega))] at HV
  have HW := Lib.hid (fun w (hb : Below W.heap.size W w) => works_any C w (C.keep H hb))
  have HTM := Lib.hid (fun (s e : Nat) w (hb : Below W.heap.size W w) (h1 : s ≤ 255) (h2 : e ≤ 255) => C.times s e w (C.keep H hb) h1 h2)
  have HBT := Lib.hid (fun (s : Nat) w (hb : Below W.heap.size W w) (h1 : s ≤ 255) => C.bits s w (C.keep H hb) h1)
  have HLS := Lib.hid (fun (A1 A2 : Option Addr) (c1 c2 : Nat) (w : World) (h1 : IsBys w A1 Y.length Y) (h2 : IsBys w A2 Y.length Y) => lens_same A1 A2 Y.length c1 c2 Y w h1 h2 hY)
  have HLL := Lib.hid hL
  obtain ⟨pn, hpn⟩ : ∃ pn, P.length = pn := ⟨_, rfl⟩
  obtain ⟨yn, hyn⟩ : ∃ yn, Y.length = yn := ⟨_, rfl⟩
  unfold RnsP at HP HRP
  unfold UnP at HU HRU
  rw [hpn] at HP HRP hP
  rw [hyn] at HU HRU HLS hY
  clear C H hL hpn hyn
  go_enter Tryd.func3, Tryd.ntmps3
  go_wp2_with (first
    | (go_at_call 6; (with_reducible refine HV.out.mono ?_); rintro e w0 ⟨rfl, rfl⟩)
    | (go_at_call 8; (with_reducible refine (HP.out _ (Below.refl _ _)).mono ?_); rintro e w1 ⟨A1, c1, rfl, i1, b1⟩; have I1 := Lib.hid i1; have B1 := Lib.hid b1; clear i1 b1)
    | (go_at_call 9; (with_reducible refine (HRP.out _ B1.out).mono ?_); rintro e w2 ⟨A2, c2, rfl, i2, b2⟩; have I1' := Lib.hid (I1.out.below b2); have I2 := Lib.hid i2; have B2 := Lib.hid (B1.out.trans (b2.mono B1.out.size)); clear i2 b2)
    | (go_at_call 10; (with_reducible refine (HU.out _ B2.out).mono ?_); rintro e w3 ⟨A3, c3, rfl, i3, b3⟩; have J1 := Lib.hid (I1'.out.below b3); have J2 := Lib.hid (I2.out.below b3); have I3 := Lib.hid i3; have B3 := Lib.hid (B2.out.trans (b3.mono B2.out.size)); clear i3 b3)
    | (go_at_call 11; (with_reducible refine (HRU.out _ B3.out).mono ?_); rintro e w4 ⟨A4, c4, rfl, i4, b4⟩; have K1 := Lib.hid (J1.out.below b4); have K2 := Lib.hid (J2.out.below b4); have K3 := Lib.hid (I3.out.below b4); have I4 := Lib.hid i4; have B4 := Lib.hid (B3.out.trans (b4.mono B3.out.size)); clear i4 b4)
    | (go_at_call 12; (with_reducible refine (HLS.out _ _ _ _ _ K3.out I4.out).mono ?_); rintro e w5 ⟨rfl, q5, rfl⟩; have B5 := Lib.hid (belowN B4.out q5)))
  go_loopw [15] (fun x wr => ∃ k q : Nat, k ≤ pn ∧ x = .int .i64 k ∧ wr = w4.drewN q) (fun x _ => pn - (intOf x).toNat)
  case atStart => exact ⟨0, q5, Nat.zero_le _, rfl, rfl⟩
  case round =>
    obtain ⟨k, q, hk, rfl, rfl⟩ := hrel
    by_cases hlt : k < pn
    · have d1 : decide ((k : Int) < (pn : Int)) = true := decide_eq_true (by omega)
      have d1' : decide (k < pn) = true := decide_eq_true hlt
      obtain ⟨b, o, rfl, _, hc⟩ := K1.out.at (by omega)
      obtain ⟨b', o', rfl, _, hc'⟩ := K2.out.at (by omega)
      obtain ⟨g0, g1⟩ := hc k hlt
      obtain ⟨f0, f1⟩ := hc' k hlt
      obtain ⟨y, hy⟩ : ∃ y, P.getD k default = y := ⟨_, rfl⟩
      rw [hy] at g0 g1 f0 f1
      obtain ⟨ys, ye⟩ := y
      simp only at g0 g1 f0 f1
      clear hc hc' hy
      go_upto_region 12 with fail
      go_region
      go_wp2_with fail
      exact ⟨⟨k + 1, q + 1, by omega, by go_num, rfl⟩, by simp [intOf]; omega⟩
    · obtain rfl : k = pn := by omega
      have d1 : decide ((k : Int) < (k : Int)) = false := decide_eq_false (by omega)
      have d1' : decide (k < k) = false := decide_eq_false (by omega)
      have B6 := Lib.hid (belowN B4.out q)
      generalize w4.drewN q = w6 at B6
      clear hk
      go_wp2_with fail
      go_loopw [16] (fun x wr => ∃ j : Nat, j ≤ m ∧ x = .int .i64 j ∧ Below W.heap.size W wr) (fun x _ => m - (intOf x).toNat)
      case atStart => exact ⟨0, Nat.zero_le _, rfl, B6.out⟩
      case round =>
        obtain ⟨j, hj, rfl, hb⟩ := hrel
        have HB := Lib.hid hb
        by_cases hlt : j < m
        · have d2 : decide ((j : Int) < (m : Int)) = true := decide_eq_true (by omega)
          have d2' : decide (j < m) = true := decide_eq_true hlt
          obtain ⟨b, o, rfl, hbl, hc⟩ := HLL.out.at (by omega)
          obtain ⟨g0, g1⟩ := hc j hlt
          have hle := HLL.out.le j
          obtain ⟨y, hy⟩ : ∃ y, L.getD j default = y := ⟨_, rfl⟩
          rw [hy] at g0 g1 hle
          obtain ⟨s, e⟩ := y
          obtain ⟨hs, he⟩ := hle
          simp only at g0 g1 hs he
          have f0 := (hb.cell (p := ⟨b, o + j * 2, none⟩) hbl).trans g0
          have f1 := (hb.cell (p := ⟨b, o + j * 2 + 1, none⟩) hbl).trans g1
          have T1 := Lib.hid (fun w hb => HTM.out s e w hb hs he)
          have T2 := Lib.hid (fun w => rtimes_any s e w hs he)
          have T3 := Lib.hid (fun w hb => HBT.out s w hb hs)
          have T4 := Lib.hid (fun w => rbits_any s w hs)
          have HBL := Lib.hid hbl
          obtain ⟨t, ht⟩ : ∃ t, tms ⟨s, e⟩ = t := ⟨_, rfl⟩
          obtain ⟨ρ, hρ⟩ : ∃ ρ, rbs s = ρ := ⟨_, rfl⟩
          rw [ht] at T1 T2
          rw [hρ] at T3 T4
          have hj2 : j ≤ 500 := by omega
          clear hb hc hy ht hρ g0 g1 hs he hbl
          by_cases hneg : ρ < 0
          · have e1 : max ρ 0 = 0 := by omega
            have e2 : decide (0 ≤ ρ) = false := decide_eq_false (by omega)
            have e3 : decide (ρ < 0) = true := decide_eq_true hneg
            rw [e1, e2] at T3
            go_upto_region 19 with (first
              | (go_at_call 13; (with_reducible refine (T1.out _ HB.out).mono ?_); rintro x w7 ⟨rfl, b7⟩; have h0 := (b7.cell (p := ⟨b, o + j * 2, none⟩) (World.block_lt_of_cell? _ _ f0)).trans f0; have h1 := (b7.cell (p := ⟨b, o + j * 2 + 1, none⟩) (World.block_lt_of_cell? _ _ f1)).trans f1; have B7 := Lib.hid (HB.out.trans (b7.mono HB.out.size)); clear b7)
              | (go_at_call 14; (with_reducible refine (T3.out _ B7.out).mono ?_); rintro x w8 ⟨rfl, b8⟩; have k0 := (b8.cell (p := ⟨b, o + j * 2, none⟩) (World.block_lt_of_cell? _ _ h0)).trans h0; have k1 := (b8.cell (p := ⟨b, o + j * 2 + 1, none⟩) (World.block_lt_of_cell? _ _ h1)).trans h1; have B8 := Lib.hid (B7.out.trans (b8.mono B7.out.size)); clear b8))
            go_region_held3 (fun w' => w'.cell? ⟨b, o + j * 2, none⟩ = some (.int .u8 s) ∧ w'.cell? ⟨b, o + j * 2 + 1, none⟩ = some (.int .u8 e)) (first | exact ⟨l0, l1⟩ | exact ⟨k0, k1⟩) (first
              | (go_at_call 15; (with_reducible refine (T2.out _).mono ?_); rintro x w9 ⟨rfl, b9⟩; have l0 := (b9.cell (p := ⟨b, o + j * 2, none⟩) (World.block_lt_of_cell? _ _ k0)).trans k0; have l1 := (b9.cell (p := ⟨b, o + j * 2 + 1, none⟩) (World.block_lt_of_cell? _ _ k1)).trans k1; have B9 := Lib.hid (B8.out.drew.trans (b9.mono B8.out.size)); clear b9)
              | (go_at_call 16; (with_reducible refine (T4.out _).mono ?_); rintro x w10 ⟨rfl, rfl⟩))
            go_wp2_with fail
            exact ⟨⟨j + 1, by omega, by go_num, B9.out⟩, by simp [intOf]; omega⟩
          · have e1 : max ρ 0 = ρ := by omega
            have e2 : decide (0 ≤ ρ) = true := decide_eq_true (by omega)
            have e3 : decide (ρ < 0) = false := decide_eq_false hneg
            rw [e1, e2] at T3
            go_upto_region 19 with (first
              | (go_at_call 13; (with_reducible refine (T1.out _ HB.out).mono ?_); rintro x w7 ⟨rfl, b7⟩; have h0 := (b7.cell (p := ⟨b, o + j * 2, none⟩) (World.block_lt_of_cell? _ _ f0)).trans f0; have h1 := (b7.cell (p := ⟨b, o + j * 2 + 1, none⟩) (World.block_lt_of_cell? _ _ f1)).trans f1; have B7 := Lib.hid (HB.out.trans (b7.mono HB.out.size)); clear b7)
              | (go_at_call 14; (with_reducible refine (T3.out _ B7.out).mono ?_); rintro x w8 ⟨rfl, b8⟩; have k0 := (b8.cell (p := ⟨b, o + j * 2, none⟩) (World.block_lt_of_cell? _ _ h0)).trans h0; have k1 := (b8.cell (p := ⟨b, o + j * 2 + 1, none⟩) (World.block_lt_of_cell? _ _ h1)).trans h1; have B8 := Lib.hid (B7.out.trans (b8.mono B7.out.size)); clear b8))
            go_region_held3 (fun w' => w'.cell? ⟨b, o + j * 2, none⟩ = some (.int .u8 s) ∧ w'.cell? ⟨b, o + j * 2 + 1, none⟩ = some (.int .u8 e)) (first | exact ⟨l0, l1⟩ | exact ⟨k0, k1⟩) (first
              | (go_at_call 15; (with_reducible refine (T2.out _).mono ?_); rintro x w9 ⟨rfl, b9⟩; have l0 := (b9.cell (p := ⟨b, o + j * 2, none⟩) (World.block_lt_of_cell? _ _ k0)).trans k0; have l1 := (b9.cell (p := ⟨b, o + j * 2 + 1, none⟩) (World.block_lt_of_cell? _ _ k1)).trans k1; have B9 := Lib.hid (B8.out.drew.trans (b9.mono B8.out.size)); clear b9)
              | (go_at_call 16; (with_reducible refine (T4.out _).mono ?_); rintro x w10 ⟨rfl, rfl⟩))
            go_wp2_with fail
            exact ⟨⟨j + 1, by omega, by go_num, B9.out⟩, by simp [intOf]; omega⟩
        · obtain rfl : j = m := by omega
          have d2 : decide ((j : Int) < (j : Int)) = false := decide_eq_false (by omega)
          have d2' : decide (j < j) = false := decide_eq_false (by omega)
          clear hb
          go_wp2_with (go_at_call 7; (with_reducible refine (HW.out _ HB.out).mono ?_); rintro e w7 ⟨rfl, b7⟩; have B7 := Lib.hid (HB.out.trans (b7.mono HB.out.size)); clear b7)
          go_ret
          exact ⟨rfl, B7.out⟩
end Go.Proofs.YtogbohompffcbaaDoor.U
