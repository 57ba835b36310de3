/- The document's Tokens of layer 10, by another level than 0. Conditions: as each theorem names them. -/
import Derived.Test.YthemndeljjampaaDoorRfG
namespace Go.Proofs.YthemndeljjampaaDoor.Q
open Go Go.RowKit M
set_option linter.unusedVariables false
set_option linter.unusedSimpArgs false

theorem Owq.ty {B : Nat} {w : World} {v : Value} {L : List Tk} (h : Owq B w v L) : ∀ g, v.ownBlock = some g → ∃ cs, w.heap[g]? = some (.cells cs 38 (0, 0)) := by
  intro g hg
  rcases h.2 with ⟨rfl, _⟩ | ⟨g', cap, cur, rfl, _, hh, _⟩
  · simp [Value.ownBlock] at hg
  · simp [Value.ownBlock] at hg
    subst hg
    exact ⟨cur, hh⟩
theorem ty_ne {w : World} {g f : Nat} {cs cs' : Array Value} {T T' : TypeId} {z z' : Nat × Nat} (h : w.heap[g]? = some (.cells cs T z)) (h' : w.heap[f]? = some (.cells cs' T' z')) (hne : T ≠ T') : g ≠ f := fun e => by
  subst e
  rw [h] at h'
  injection h' with e1
  injection e1 with _ e2 _
  exact hne e2

/-- the tokens that are there, the finder, the level's row -/
structure S10 (W wr : World) (F b Rr : Nat) (s : ByteArray) (r : Lv) (v : Value) (L : List Tk) (k : Nat) : Prop where
  rf : Rf wr W.heap.size F b s k
  ow : Owq W.heap.size wr v L
  row : B3 wr 31 Rr (.int .i64 r.d) (.int .i64 r.n) (.int .i64 r.z)
  bl : Below W.heap.size W wr
  rF : Rr ≠ F
  rb : Rr ≠ b
section
variable {W wr w' : World} {F b Rr k : Nat} {s : ByteArray} {r : Lv} {v v' : Value} {L L' : List Tk}
theorem S10.apart (h : S10 W wr F b Rr s r v L k) : ∀ g, v.ownBlock = some g → g ≠ F ∧ g ≠ b ∧ g ≠ Rr := fun g hg => by
  obtain ⟨cs, hc⟩ := h.ow.ty g hg
  obtain ⟨cur, hb, _⟩ := h.rf.row
  exact ⟨ty_ne hc h.rf.fd (by decide), ty_ne hc hb (by decide), ty_ne hc h.row (by decide)⟩
theorem S10.below (h : S10 W wr F b Rr s r v L k) (hb : Below wr.heap.size wr w') : S10 W w' F b Rr s r v L k :=
  ⟨h.rf.below hb, h.ow.at fun g hg => hb.block g (h.ow.lt g hg).2, h.row.of_block (hb.block _ h.row.lt), h.bl.trans (hb.mono h.bl.size), h.rF, h.rb⟩
theorem S10.alloc (h : S10 W wr F b Rr s r v L k) (o : Obj) : S10 W (wr.alloc o) F b Rr s r v L k := h.below ((Below.refl _ _).alloc (Nat.le_refl _) o)
theorem S10.app (h : S10 W wr F b Rr s r v L k) (hg : wr.grownBy w' v.ownBlock) (ho : Owq W.heap.size w' v' L') (hb : Below W.heap.size wr w') : S10 W w' F b Rr s r v' L' k := by
  have ha := h.apart
  have hF : v.ownBlock ≠ some F := fun e => (ha F e).1 rfl
  have hB : v.ownBlock ≠ some b := fun e => (ha b e).2.1 rfl
  have hR : v.ownBlock ≠ some Rr := fun e => (ha Rr e).2.2 rfl
  exact ⟨h.rf.of_blocks (hg.block F h.rf.fd.lt fun e => hF e.symm) (hg.block b (World.rowIs.lt h.rf.row) fun e => hB e.symm), ho, h.row.of_block (hg.block Rr h.row.lt fun e => hR e.symm), h.bl.trans hb, h.rF, h.rb⟩
theorem S10.look {t : Nat} (h : S10 W wr F b Rr s r v L k) (hr : Rf w' W.heap.size F b s t) (hk : Kept (FdS F b) wr w') : S10 W w' F b Rr s r v L t :=
  ⟨hr, h.ow.at fun g hg => hk.block g (h.ow.lt g hg).2 (fun q => by have := h.apart g hg; rcases q with q | q; exact this.1 q; exact this.2.1 q), h.row.of_block (hk.block _ h.row.lt (fun q => by rcases q with q | q; exact h.rF q; exact h.rb q)), h.bl.trans (hk.below h.bl.size (fun j hj => by rcases hj with hj | hj; rw [hj]; exact h.rf.hF; rw [hj]; exact h.rf.hb)), h.rF, h.rb⟩
/-- a match's block is another one -/
theorem S10.mb {Mb : Nat} {x y : Value} (h : S10 W wr F b Rr s r v L k) (hM : B2 wr 57 Mb x y) : Mb ≠ F ∧ Mb ≠ b ∧ Mb ≠ Rr ∧ v.ownBlock ≠ some Mb := by
  obtain ⟨cur, hb, _⟩ := h.rf.row
  refine ⟨ty_ne hM h.rf.fd (by decide), ty_ne hM hb (by decide), ty_ne hM h.row (by decide), fun e => ?_⟩
  obtain ⟨cs, hc⟩ := h.ow.ty Mb e
  exact ty_ne hc hM (by decide) rfl
theorem S10.set {Mb : Nat} {x y u z : Value} (h : S10 W wr F b Rr s r v L k) (hM : B2 wr 57 Mb x y) (hW : W.heap.size ≤ Mb) : S10 W ((wr.setCell ⟨Mb, 0, none⟩ u).setCell ⟨Mb, 1, none⟩ z) F b Rr s r v L k := by
  obtain ⟨h1, h2, h3, h4⟩ := h.mb hM
  have e : ∀ g, g ≠ Mb → ((wr.setCell ⟨Mb, 0, none⟩ u).setCell ⟨Mb, 1, none⟩ z).heap[g]? = wr.heap[g]? := fun g hg => (Below.heap_setCell _ _ _ _ hg).trans (Below.heap_setCell _ _ _ _ hg)
  exact ⟨h.rf.of_blocks (e F h1.symm) (e b h2.symm), h.ow.at fun g hg => e g (fun q => h4 (by rw [hg, q])), h.row.of_block (e Rr h3.symm), (h.bl.setCell (p := ⟨Mb, 0, none⟩) hW _).setCell (p := ⟨Mb, 1, none⟩) hW _, h.rF, h.rb⟩
theorem B2.apart {Mb : Nat} {x y : Value} (h : S10 W wr F b Rr s r v L k) (hM : B2 wr 57 Mb x y) (hg : wr.grownBy w' v.ownBlock) : B2 w' 57 Mb x y :=
  hM.of_block (hg.block Mb hM.lt fun e => (h.mb hM).2.2.2 e.symm)
theorem B2.keptFd {Mb : Nat} {x y : Value} (h : S10 W wr F b Rr s r v L k) (hM : B2 wr 57 Mb x y) (hk : Kept (FdS F b) wr w') : B2 w' 57 Mb x y :=
  hM.of_block (hk.block Mb hM.lt fun q => by rcases q with q | q; exact (h.mb hM).1 q; exact (h.mb hM).2.1 q)
end
theorem lv_le (i : Nat) (hi : i ≤ 9) : (lv i).d ≤ 1000000 ∧ (lv i).n ≤ 258 ∧ (lv i).z ≤ 258 := by
  have h9 : i = 0 ∨ i = 1 ∨ i = 2 ∨ i = 3 ∨ i = 4 ∨ i = 5 ∨ i = 6 ∨ i = 7 ∨ i = 8 ∨ i = 9 := by omega
  rcases h9 with rfl | rfl | rfl | rfl | rfl | rfl | rfl | rfl | rfl | rfl <;> decide

set_option maxRecDepth 1000000 in
set_option maxHeartbeats 2000000 in
theorem rtokens_any (dict text : ByteArray) (i : Nat) (W : World) (hi : 1 ≤ i ∧ i ≤ 9) (hd : dict.size ≤ 32768) (ht : text.size ≤ 1000000) :
    Calls Tryd.prog 10 #[.string dict, .string text, .int .i64 i] W (TkP W (G (dict ++ text) (lv i) dict.size (0, 0))) := by
  have HL := Lib.hid (fun w => rlevel_any i w hi.2)
  obtain ⟨hl1, hl2, hl3⟩ := lv_le i hi.2
  obtain ⟨r, hr⟩ : ∃ r, lv i = r := ⟨_, rfl⟩
  rw [hr] at HL hl1 hl2 hl3 ⊢
  have hsz : (dict ++ text).size = dict.size + text.size := ByteArray.size_append
  have s1 : dict.size + text.size ≤ 9223372036854775807 := by omega
  have dT : decide (1048576 < (text.size : Int)) = false := decide_eq_false (by omega)
  have dT' : decide (1048576 < text.size) = false := decide_eq_false (by omega)
  have dD : decide (32768 < (dict.size : Int)) = false := decide_eq_false (by omega)
  have dD' : decide (32768 < dict.size) = false := decide_eq_false (by omega)
  have di : ((i : Int) == 0) = false := by rw [beq_eq_false_iff_ne]; omega
  have di2 : (i == 0) = false := by rw [beq_eq_false_iff_ne]; omega
  have di3 : ¬ i = 0 := by omega
  obtain ⟨s, hs⟩ : ∃ s, dict ++ text = s := ⟨_, rfl⟩
  obtain ⟨q, hq⟩ : ∃ q, dict.size = q := ⟨_, rfl⟩
  have hq1 : (dict.size : Int) = (q : Int) := by rw [hq]
  rw [hs] at hsz ⊢
  rw [hq]
  have hs2 : s.size ≤ 2000000 := by omega
  have hqs : q ≤ s.size := by omega
  obtain ⟨T, hT⟩ : ∃ T, G s r q (0, 0) = T := ⟨_, rfl⟩
  rw [hT]
  have HTL := Lib.hid (show T.length ≤ 2000000 from by rw [← hT]; have := G_len s r q (0, 0) (fun q => absurd rfl q); omega)
  have HT := Lib.hid hT
  have HQ := Lib.hid hq
  have HSZ := Lib.hid hsz
  clear hT hr hq hsz
  go_enter Tryd.func10, Tryd.ntmps10
  go_wp2_with (first
    | (go_at_call 12; (with_reducible refine (HL.out _).mono ?_); rintro e w1 ⟨rfl, b1⟩; have B1 := Lib.hid b1; clear b1)
    | (go_at_call 19; (with_reducible refine (rnew_any s _ hs2).mono ?_); rintro e w3 ⟨rfl, r3, b3⟩; have R3 := Lib.hid r3; have B3' := Lib.hid b3; clear r3 b3))
  have HS0 := Lib.hid (show S10 W w3 (w1.heap.size + 1 + 1) (w1.heap.size + 1) w1.heap.size s r (.slice none 0 0) [] 0 from by
    have h1 := R3.out
    have h2 := B3'.out
    rw [World.size_alloc] at h1 h2
    have hb3 : Below W.heap.size W w3 := (B1.out.alloc B1.out.size _).trans (h2.mono (by have := B1.out.size; omega))
    exact ⟨h1.base (by have := B1.out.size; omega), Owq.nil _ _, (h2.block w1.heap.size (by omega)).trans (new_at _ _), hb3, by omega, by omega⟩)
  clear R3 B3' dT dT' dD dD' di di2 di3 s1 HL
  go_loopw [10, 14] (fun v x wr => ∃ (k k' : Nat) (L : List Tk), k ≤ s.size ∧ x = .int .i64 k ∧ k' ≤ k ∧ S10 W wr (w1.heap.size + 1 + 1) (w1.heap.size + 1) w1.heap.size s r v L k' ∧ L ++ G s r k (0, 0) = T) (fun _ x _ => s.size - (intOf x).toNat)
  case atStart => exact ⟨q, 0, [], hqs, rfl, Nat.zero_le _, HS0.out, HT.out⟩
  case round =>
    obtain ⟨k, k', L, hk, rfl, hk', hS, hTt⟩ := hrel
    have hLl : L.length ≤ 2000000 := by have := HTL.out; rw [← hTt, List.length_append] at this; omega
    by_cases hlt : k < s.size
    · have d1 : decide ((k : Int) < (s.size : Int)) = true := decide_eq_true (by omega)
      have d1' : decide (k < s.size) = true := decide_eq_true hlt
      have a0 := hS.row.at0
      have a1 := hS.row.at1
      have a2 := hS.row.at2
      have hlk := look_any hS.rf r k 2 hk' hk hl1
      obtain ⟨X, Y, hXY⟩ : ∃ X Y, mt s r k 2 = (X, Y) := ⟨_, _, rfl⟩
      rw [hXY] at hlk
      have HLk := Lib.hid hlk
      have HS := Lib.hid hS
      have HTt := Lib.hid hTt
      have HXY := Lib.hid hXY
      have hbt := Lib.hid (byt_eq hlt)
      clear hlk hS hTt hXY
      by_cases hX : X = 0
      · have e0 : ((X : Int) == 0) = true := by rw [beq_iff_eq]; omega
        have e0' : (X == 0) = true := by rw [beq_iff_eq]; exact hX
        have hG := G_lit (s := s) (r := r) (k := k) (m := (0, 0)) hlt rfl (by rw [HXY.out]; exact hX)
        have HG := Lib.hid (show (L ++ [lit s k]) ++ G s r (k + 1) (0, 0) = T from by rw [List.append_assoc]; have := HTt.out; rw [hG] at this; exact this)
        clear hG hX
        go_wp2_with (first
          | (go_at_call 20; (with_reducible refine HLk.out.mono ?_); rintro e w4 ⟨rfl, r4, k4⟩; have HS4 := Lib.hid (HS.out.look r4 k4); clear r4 k4)
          | (at_builtin; refine wpList_tq rfl (.tmp 69) (.tmp 74) rfl W.heap.size _ L rfl ((HS4.out.alloc (.cells #[.int .i64 X, .int .i64 Y] 57)).ow.alloc _) (w4.heap.size + 1) 1 ((s[k]'hlt).toNat : Int) 0 0 rfl ⟨by simp, by simp, by simp⟩ (by omega) (by have := HS4.out.bl.size; simp; omega) ?_; intro v' w' o' g' b'; have HS5 := Lib.hid (((HS4.out.alloc (.cells #[.int .i64 X, .int .i64 Y] 57)).alloc _).app g' o' b'); clear o' g' b'))
        go_roundw
        case rel => exact ⟨k + 1, k, L ++ [lit s k], by omega, by go_num, by omega, by have := HS5.out; rw [hbt.out] at this; exact this, HG.out⟩
        case measure => (simp [intOf]; try omega)
      · have hMt := (mt_is (s := s) (r := r) (k := k) (over := 2) (by rw [HXY.out]; exact hX)).1
        rw [HXY.out] at hMt
        have hG := G_look (s := s) (r := r) (k := k) (m := (0, 0)) hlt rfl (by rw [HXY.out]; exact hX)
        rw [HXY.out] at hG
        have HG0 := Lib.hid (show L ++ G s r k (X, Y) = T from by rw [← hG]; exact HTt.out)
        have HMt0 := Lib.hid hMt
        have e0 : ((X : Int) == 0) = false := by rw [beq_eq_false_iff_ne]; omega
        have e0' : (X == 0) = false := by rw [beq_eq_false_iff_ne]; exact hX
        clear hG hMt hX
        go_wp2_with (go_at_call 20; (with_reducible refine HLk.out.mono ?_); rintro e w4 ⟨rfl, r4, k4⟩; have HS4 := Lib.hid ((HS.out.look r4 k4).alloc (.cells #[.int .i64 X, .int .i64 Y] 57)); have HB4 := Lib.hid (show B2 (w4.alloc (.cells #[.int .i64 X, .int .i64 Y] 57)) 57 w4.heap.size (.int .i64 X) (.int .i64 Y) from new_at _ _); have HWM := Lib.hid (show W.heap.size ≤ w4.heap.size from (HS.out.look r4 k4).bl.size); obtain ⟨Mb, hMb⟩ : ∃ Mb, w4.heap.size = Mb := ⟨_, rfl⟩; clear r4 k4)
        clear a0 a1 a2
        go_loopw [10, 14] (fun v x wr => ∃ (k2 k3 m1 m2 : Nat) (L2 : List Tk), k2 < s.size ∧ x = .int .i64 k2 ∧ k3 ≤ k2 + 1 ∧ S10 W wr (w1.heap.size + 1 + 1) (w1.heap.size + 1) w1.heap.size s r v L2 k3 ∧ B2 wr 57 Mb (.int .i64 m1) (.int .i64 m2) ∧ Mt s k2 (m1, m2) ∧ k ≤ k2 ∧ L2 ++ G s r k2 (m1, m2) = T) (fun _ x _ => s.size - (intOf x).toNat)
        case atStart => exact ⟨k, k, X, Y, L, hlt, rfl, by omega, HS4.out, by have := HB4.out; rw [hMb] at this; exact this, HMt0.out, Nat.le_refl _, HG0.out⟩
        case round =>
          obtain ⟨k2, k3, m1, m2, L2, hk2, rfl, hk3, hSi, hMi, hMt, hkk, hTi⟩ := hrel
          have hW4 := HWM.out
          rw [hMb] at hW4
          have hL2 : L2.length ≤ 2000000 := by have := HTL.out; rw [← hTi, List.length_append] at this; omega
          have hm3 : 3 ≤ m1 := hMt.len.1
          have hm258 : m1 ≤ 258 := hMt.len.2
          have hmf : k2 + m1 ≤ s.size := hMt.fits
          have a0 := hSi.row.at0
          have a1 := hSi.row.at1
          have a2 := hSi.row.at2
          have c0 := hMi.at0
          have c1 := hMi.at1
          have cf0 := hMi.free 0
          have cf1 := hMi.free 1
          have HSi := Lib.hid hSi
          have HM := Lib.hid hMi
          have HTi := Lib.hid hTi
          have hk2b : k2 ≤ 2000000 := by omega
          obtain ⟨kn, hkn⟩ : ∃ kn, k2 + 1 = kn := ⟨_, rfl⟩
          have ekn : (k2 : Int) + 1 = (kn : Int) := by omega
          have hm0 : (m1, m2).1 ≠ 0 := by simp only; omega
          by_cases hz : m1 < r.z
          · have z1 : decide ((m1 : Int) < (r.z : Int)) = true := decide_eq_true (by omega)
            have z1' : decide (m1 < r.z) = true := decide_eq_true hz
            by_cases h1 : kn < s.size
            · have z2 : decide ((kn : Int) < (s.size : Int)) = true := decide_eq_true (by omega)
              have z2' : decide (kn < s.size) = true := decide_eq_true h1
              have hlk2 := look_any hSi.rf r kn (m1 : Int) (by omega) (by omega) hl1
              obtain ⟨X2, Y2, hXY2⟩ : ∃ X Y, mt s r kn (m1 : Int) = (X, Y) := ⟨_, _, rfl⟩
              rw [hXY2] at hlk2
              have HLk2 := Lib.hid hlk2
              have HXY2 := Lib.hid hXY2
              have hcond : (m1, m2).1 < r.z ∧ k2 + 1 < s.size := ⟨hz, by omega⟩
              by_cases hX2 : X2 = 0
              · have q0 : ((X2 : Int) == 0) = true := by rw [beq_iff_eq]; omega
                have q0' : (X2 == 0) = true := by rw [beq_iff_eq]; exact hX2
                have hG2 := G_stay (s := s) (r := r) (k := k2) (m := (m1, m2)) hk2 hm0 hcond (by rw [hkn]; show (mt s r kn (m1 : Int)).1 = 0; rw [hXY2]; exact hX2)
                have HG := Lib.hid (show (L2 ++ [mtk (m1, m2)]) ++ G s r (k2 + m1) (0, 0) = T from by rw [List.append_assoc]; have := HTi.out; rw [hG2] at this; exact this)
                have HBd := Lib.hid (And.intro hk2 (And.intro hmf (And.intro hk3 hkn)))
                clear hG2 hX2 hcond hlk2 hXY2 hSi hMi hTi hMt hm0 hz h1 hk2 hmf hkn
                go_wp2_with (first
                  | (go_at_call 20; (with_reducible refine HLk2.out.mono ?_); rintro e w5 ⟨rfl, r5, k5⟩; have hB5 := B2.keptFd HSi.out HM.out k5; have HS5 := Lib.hid (HSi.out.look r5 k5); have n0 := hB5.at0; have n1 := hB5.at1; have na0 : ∀ o : Obj, (w5.alloc o).cell? ⟨Mb, 0, none⟩ = some (.int .i64 m1) := fun o => B2.at0 (hB5.of_block (Below.heap_alloc _ o _ hB5.lt)); have na1 : ∀ o : Obj, (w5.alloc o).cell? ⟨Mb, 1, none⟩ = some (.int .i64 m2) := fun o => B2.at1 (hB5.of_block (Below.heap_alloc _ o _ hB5.lt)); have HB5 := Lib.hid hB5; clear r5 k5 hB5)
                  | (at_builtin; refine wpList_tq rfl (.tmp 110) (.tmp 116) rfl W.heap.size _ L2 rfl ((HS5.out.alloc (.cells #[.int .i64 X2, .int .i64 Y2] 57)).ow.alloc _) (w5.heap.size + 1) 1 0 (m1 : Int) (m2 : Int) rfl ⟨by simp, by simp, by simp⟩ (by omega) (by have := (HS5.out.alloc (.cells #[.int .i64 X2, .int .i64 Y2] 57)).bl.size; simp at this ⊢; omega) ?_; intro v' w' o' g' b'; have hs5 := (HS5.out.alloc (.cells #[.int .i64 X2, .int .i64 Y2] 57)).alloc (.cells #[.int .u8 0, .int .i64 (m1 : Int), .int .i64 (m2 : Int)] 38); have hm6 := B2.apart hs5 (Mb := Mb) (x := .int .i64 m1) (y := .int .i64 m2) (old_at _ (old_at _ HB5.out)) g'; have t0 := hm6.at0; clear hm6; have HS6 := Lib.hid (((HS5.out.alloc (.cells #[.int .i64 X2, .int .i64 Y2] 57)).alloc _).app g' o' b'); clear o' g' b' hs5 na0 na1))
                go_roundw
                case rel => exact ⟨k2 + m1, kn, L2 ++ [mtk (m1, m2)], HBd.out.2.1, by go_num, by have := HBd.out; omega, HS6.out, HG.out⟩
                case measure => (have hbd := HBd.out; have hbd1 := hbd.1; have hbd2 := hbd.2.1; clear hbd; simp [intOf]; try omega)
              · have q0 : ((X2 : Int) == 0) = false := by rw [beq_eq_false_iff_ne]; omega
                have q0' : (X2 == 0) = false := by rw [beq_eq_false_iff_ne]; exact hX2
                have hbt2 := Lib.hid (byt_eq hk2)
                have hG2 := G_lazy (s := s) (r := r) (k := k2) (m := (m1, m2)) hk2 hm0 hcond (by rw [hkn]; show (mt s r kn (m1 : Int)).1 ≠ 0; rw [hXY2]; exact hX2)
                rw [hkn] at hG2
                have hG3 : G s r k2 (m1, m2) = lit s k2 :: G s r kn (X2, Y2) := by rw [hG2]; show _ :: G s r kn (mt s r kn (m1 : Int)) = _; rw [hXY2]
                have HG := Lib.hid (show (L2 ++ [lit s k2]) ++ G s r kn (X2, Y2) = T from by rw [List.append_assoc]; have := HTi.out; rw [hG3] at this; exact this)
                have HMt2 := Lib.hid (show Mt s kn (X2, Y2) from by
                  have := (mt_is (s := s) (r := r) (k := kn) (over := (m1 : Int)) (by rw [hXY2]; exact hX2)).1
                  rw [hXY2] at this; exact this)
                clear hG2 hG3 hX2 hcond hlk2 hXY2 hSi hMi hTi hMt hm0 hz
                go_wp2_with (first
                  | (go_at_call 20; (with_reducible refine HLk2.out.mono ?_); rintro e w5 ⟨rfl, r5, k5⟩; have hB5 := B2.keptFd HSi.out HM.out k5; have HS5 := Lib.hid (HSi.out.look r5 k5); have n0 := hB5.at0; have n1 := hB5.at1; have na0 : ∀ o : Obj, (w5.alloc o).cell? ⟨Mb, 0, none⟩ = some (.int .i64 m1) := fun o => B2.at0 (hB5.of_block (Below.heap_alloc _ o _ hB5.lt)); have na1 : ∀ o : Obj, (w5.alloc o).cell? ⟨Mb, 1, none⟩ = some (.int .i64 m2) := fun o => B2.at1 (hB5.of_block (Below.heap_alloc _ o _ hB5.lt)); have HB5 := Lib.hid hB5; clear r5 k5 hB5)
                  | (at_builtin; refine wpList_tq rfl (.tmp 100) (.tmp 105) rfl W.heap.size _ L2 rfl ((HS5.out.alloc (.cells #[.int .i64 X2, .int .i64 Y2] 57)).ow.alloc _) (w5.heap.size + 1) 1 ((s[k2]'hk2).toNat : Int) 0 0 rfl ⟨by simp, by simp, by simp⟩ (by omega) (by have := HS5.out.bl.size; simp; omega) ?_; intro v' w' o' g' b'; have hs6 := ((HS5.out.alloc (.cells #[.int .i64 X2, .int .i64 Y2] 57)).alloc (.cells #[.int .u8 ((s[k2]'hk2).toNat : Int), .int .i64 0, .int .i64 0] 38)); have hn6 := B2.apart hs6 (Mb := w5.heap.size) (x := .int .i64 X2) (y := .int .i64 Y2) (old_at _ (new_at w5 _)) g'; have hm6 := B2.apart hs6 (Mb := Mb) (x := .int .i64 m1) (y := .int .i64 m2) (old_at _ (old_at _ HB5.out)) g'; have u0 := hn6.at0; have u1 := hn6.at1; have t0 := hm6.at0; have t1 := hm6.at1; have tf0 := hm6.free 0; have tf1 := hm6.free 1; have HM6 := Lib.hid hm6; have HS6 := Lib.hid (hs6.app g' o' b'); clear o' g' b' hs6 hn6 hm6 na0 na1))
                go_roundw
                case rel => exact ⟨kn, kn, X2, Y2, L2 ++ [lit s k2], h1, rfl, by omega, by have := HS6.out; rw [hbt2.out] at this; exact this.set HM6.out hW4, HM6.out.set _ _, HMt2.out, by omega, HG.out⟩
                case measure => (simp [intOf]; try omega)
            · have z2 : decide ((kn : Int) < (s.size : Int)) = false := decide_eq_false (by omega)
              have z2' : decide (kn < s.size) = false := decide_eq_false h1
              have hG2 := G_take (s := s) (r := r) (k := k2) (m := (m1, m2)) hk2 hm0 (fun q => h1 (by have := q.2; omega))
              have HG := Lib.hid (show (L2 ++ [mtk (m1, m2)]) ++ G s r (k2 + m1) (0, 0) = T from by rw [List.append_assoc]; have := HTi.out; rw [hG2] at this; exact this)
              have HBd := Lib.hid (And.intro hk2 (And.intro hmf (And.intro hk3 hkn)))
              clear hG2 hSi hMi hTi hMt hm0 hz h1 hk2 hmf hkn
              go_wp2_with (at_builtin; refine wpList_tq rfl (.tmp 110) (.tmp 116) rfl W.heap.size _ L2 rfl (HSi.out.ow.alloc _) wr.heap.size 1 0 (m1 : Int) (m2 : Int) rfl ⟨by simp, by simp, by simp⟩ (by omega) (by have := HSi.out.bl.size; simp at this ⊢; omega) ?_; intro v' w' o' g' b'; have hs5 := HSi.out.alloc (.cells #[.int .u8 0, .int .i64 (m1 : Int), .int .i64 (m2 : Int)] 38); have hm6 := B2.apart hs5 (Mb := Mb) (x := .int .i64 m1) (y := .int .i64 m2) (old_at _ HM.out) g'; have t0 := hm6.at0; clear hm6; have HS6 := Lib.hid (hs5.app g' o' b'); clear o' g' b' hs5)
              go_roundw
              case rel => exact ⟨k2 + m1, k3, L2 ++ [mtk (m1, m2)], HBd.out.2.1, by go_num, by have := HBd.out; omega, HS6.out, HG.out⟩
              case measure => (have hbd := HBd.out; have hbd1 := hbd.1; have hbd2 := hbd.2.1; clear hbd; simp [intOf]; try omega)
          · have z1 : decide ((m1 : Int) < (r.z : Int)) = false := decide_eq_false (by omega)
            have z1' : decide (m1 < r.z) = false := decide_eq_false hz
            have hG2 := G_take (s := s) (r := r) (k := k2) (m := (m1, m2)) hk2 hm0 (fun q => hz q.1)
            have HG := Lib.hid (show (L2 ++ [mtk (m1, m2)]) ++ G s r (k2 + m1) (0, 0) = T from by rw [List.append_assoc]; have := HTi.out; rw [hG2] at this; exact this)
            have HBd := Lib.hid (And.intro hk2 (And.intro hmf (And.intro hk3 hkn)))
            clear hG2 hSi hMi hTi hMt hm0 hz hk2 hmf hkn
            go_wp2_with (at_builtin; refine wpList_tq rfl (.tmp 110) (.tmp 116) rfl W.heap.size _ L2 rfl (HSi.out.ow.alloc _) wr.heap.size 1 0 (m1 : Int) (m2 : Int) rfl ⟨by simp, by simp, by simp⟩ (by omega) (by have := HSi.out.bl.size; simp at this ⊢; omega) ?_; intro v' w' o' g' b'; have hs5 := HSi.out.alloc (.cells #[.int .u8 0, .int .i64 (m1 : Int), .int .i64 (m2 : Int)] 38); have hm6 := B2.apart hs5 (Mb := Mb) (x := .int .i64 m1) (y := .int .i64 m2) (old_at _ HM.out) g'; have t0 := hm6.at0; clear hm6; have HS6 := Lib.hid (hs5.app g' o' b'); clear o' g' b' hs5)
            go_roundw
            case rel => exact ⟨k2 + m1, k3, L2 ++ [mtk (m1, m2)], HBd.out.2.1, by go_num, by have := HBd.out; omega, HS6.out, HG.out⟩
            case measure => (have hbd := HBd.out; have hbd1 := hbd.1; have hbd2 := hbd.2.1; clear hbd; simp [intOf]; try omega)
    · have d1 : decide ((k : Int) < (s.size : Int)) = false := decide_eq_false (by omega)
      have d1' : decide (k < s.size) = false := decide_eq_false hlt
      rw [G_end (by omega), List.append_nil] at hTt
      have HS := Lib.hid hS
      have HTt := Lib.hid hTt
      clear hS hTt
      go_wp2_with fail
      go_ret2
      exact ⟨_, rfl, by rw [← HTt.out]; exact HS.out.ow, HS.out.bl⟩
end Go.Proofs.YthemndeljjampaaDoor.Q
