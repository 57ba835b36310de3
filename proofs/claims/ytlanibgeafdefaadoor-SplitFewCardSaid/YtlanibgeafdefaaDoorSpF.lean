import Derived.Test.YtlanibgeafdefaaDoorMSpD
import Derived.Deep.QuietTactic
import Derived.BigQuiet
import Derived.Deep.RegionHeld3
namespace Go.Proofs.YtlanibgeafdefaaDoor.V
open Go Go.RowKit M U
set_option linter.unusedVariables false
set_option linter.unusedSimpArgs false
set_option maxRecDepth 1000000
set_option maxHeartbeats 4000000 in
theorem few_good {T : World → Prop} (C : Sps T) (A : Option Addr) (n c tm : Nat) (z : List Ra) (W : World) (H : T W) (hR : IsRas W A n z) (hn : n ≤ 300) (htm : tm ≤ 65535) :
    Calls Tryd.prog 3 #[.slice A n c, .int .u16 tm] W fun e w' => e = .returned (.bool true) ∧ Below W.heap.size W w' := by
  have HM := Lib.hid (made14_any A n c tm z W hR hn htm)
  have HW := Lib.hid (fun w (b : Below W.heap.size W w) => works14 C w (C.keep H b))
  have HP := Lib.hid (fun (A' : Option Addr) (n' c' : Nat) (L : List Tk) (S : ByteArray) (w1 : World) (b : Below W.heap.size W w1) (hL : IsTks w1 A' n' L) (h1 : n' ≤ c') (h2 : n' ≤ 4300) (h3 : S.size ≤ 65536) (h4 : ∀ t ∈ L, may t = true) (h5 : Tx.szs L = S.size) => C.parts A' n' c' L S w1 (C.keep H b) hL h1 (by omega) (by omega) h4 h5)
  have HK := Lib.hid (fun (A' : Option Addr) (n' c' : Nat) (L : List Tk) (S : ByteArray) (w1 : World) (b : Below W.heap.size W w1) (hL : IsTks w1 A' n' L) (h2 : n' ≤ 4300) (h3 : S.size ≤ 65536) (h4 : ∀ t ∈ L, may t = true) (h5 : Tx.szs L = S.size) => C.kind A' n' c' L S w1 (C.keep H b) hL (by omega) (by omega) h4 h5)
  have dn : decide ((300 : Int) < (n : Int)) = false := decide_eq_false (by omega)
  have dn' : decide (300 < n) = false := decide_eq_false (by omega)
  clear C H hR
  unfold MadeP at HM
  go_enter Tryd.func3, Tryd.ntmps3
  go_upto_region 4 with (go_at_call 5; (with_reducible refine HM.out.mono ?_); rintro e w1 ⟨A', n', c', L, S, rfl, h1, h2, h3, h4, h5, b1⟩; have B1 := Lib.hid b1; have K1 := Lib.hid h1; have K2 := Lib.hid (And.intro h2 (And.intro h3 (And.intro h4 h5))); clear b1 h1 h2 h4 h5)
  have hsl : S.size ≤ 1200000 := by have h := Tx.szs_le L; have := K2.out.2.2.2; have := K1.out.leng; omega
  by_cases hbig : 32768 < S.size
  · have d1 : decide ((32768 : Int) < (S.size : Int)) = true := decide_eq_true (by omega)
    have d1' : decide (32768 < S.size) = true := decide_eq_true hbig
    clear hbig h3
    go_wp2_with (go_at_call 4; (with_reducible refine (HW.out _ B1.out).mono ?_); rintro e w2 ⟨rfl, b2⟩; have B2 := Lib.hid (B1.out.trans (b2.mono B1.out.size)); clear b2)
    go_ret
    exact ⟨rfl, B2.out⟩
  · have d1 : decide ((32768 : Int) < (S.size : Int)) = false := decide_eq_false (by omega)
    have d1' : decide (32768 < S.size) = false := decide_eq_false hbig
    have HPa := Lib.hid (HP.out A' n' c' L S w1 B1.out K1.out K2.out.1 K2.out.2.1 (by omega) K2.out.2.2.1 K2.out.2.2.2)
    have hpc := pts_count L S
    have hpl := pvs_length L S
    have hlen := K1.out.leng
    rw [hlen] at hpc
    have HAt := Lib.hid (fun i (hi : i < (pts L S).length) => prt_at K2.out.2.2.2 i hi)
    have hend := Chn.fin (pts_chn L S)
    have hfew := pts_few L S
    obtain ⟨N, hN⟩ : ∃ N, (pts L S).length = N := ⟨_, rfl⟩
    rw [hN] at hpc hpl HAt hend
    have hN43 : N ≤ 4301 := by have h4 : cnk n' ≤ 4300 := by unfold cnk; omega
                               omega
    have hS3 : S.size ≤ 32768 := by omega
    have hn4 : n' ≤ 4300 := h3
    have f1 : ((N : Int) == 0) = false := by rw [beq_eq_false_iff_ne]; omega
    have f1' : decide (N = 0) = false := decide_eq_false (by omega)
    have HEnd := Lib.hid hend
    have HLn := Lib.hid hlen
    have HPl := Lib.hid hpl
    obtain ⟨b4, hb4⟩ : ∃ b4, decide ((n' : Int) ≤ 1024) = b4 := ⟨_, rfl⟩
    have f2 : b4 = true → ((N : Int) != 1) = false := fun h => by
      rw [← hb4, decide_eq_true_eq] at h
      have := hfew (by omega)
      rw [this] at hN
      rw [bne_eq_false_iff_eq, ← hN]; rfl
    have HF2 := Lib.hid f2
    clear hbig h3 hpc hpl hend hfew hN f2 hlen
    obtain ⟨PV, hPV⟩ : ∃ PV, pvs L S (pts L S) = PV := ⟨_, rfl⟩
    rw [hPV] at HPa HPl
    have HPV := Lib.hid hPV
    clear hPV
    go_upto_region 7 with (go_at_call 6; (with_reducible refine HPa.out.mono ?_); rintro e w3 ⟨v1, rfl, o1, b2⟩; have D3 := Lib.hid b2; have O3 := Lib.hid o1; clear b2 o1)
    obtain ⟨A1, c1, hv1⟩ := O3.out.form'
    rw [HPl.out] at hv1
    subst hv1
    have B3 := Lib.hid (B1.out.trans (D3.out.mono B1.out.size))
    have hl0 : szt L 0 = 0 := szt_zero L
    have HGo : ∀ (bb : Bool), True := fun _ => trivial
    cases b4
    · clear HGo
      go_wp2_with fail
      go_loopw [9, 10] (fun y x wr => ∃ i : Nat, i ≤ N ∧ x = .int .i64 i ∧ y = .int .i64 (szt L (bd 0 (pts L S) i) : Nat) ∧ Below w3.heap.size w3 wr) (fun _ x _ => N - (intOf x).toNat)
      case atStart => exact ⟨0, Nat.zero_le _, rfl, by rw [bd_zero, hl0]; rfl, Below.refl _ _⟩
      case round =>
        obtain ⟨i, hi, rfl, rfl, hb⟩ := hrel
        have HB := Lib.hid hb
        by_cases hlt : i < N
        · have d2 : decide ((i : Int) < (N : Int)) = true := decide_eq_true (by omega)
          have d2' : decide (i < N) = true := decide_eq_true hlt
          have o3 := O3.out.below hb
          obtain ⟨g1, c1', hg1, hc1⟩ := o3.form (by rw [HPl.out]; omega)
          simp only [Value.slice.injEq] at hg1
          obtain ⟨rfl, -, rfl⟩ := hg1
          obtain ⟨f, t, x, y, g, kk, kb, hp⟩ := HAt.out i hlt
          have hq := hp.at'
          rw [HPV.out] at hq
          obtain ⟨x0, x1, x2, x3⟩ := o3.cell HPl.out hq
          simp only at x0 x1 x2 x3
          rw [hp.fi, hp.xf]
          have HPr := Lib.hid hp
          have hft := hp.ft
          have htn := hp.tn
          rw [HLn.out] at htn
          have hxg := hp.xg
          have hys := hp.ys
          have HKd := Lib.hid (fun (w5 : World) (X : Option Addr) (cx : Nat) (b : Below W.heap.size W w5) (hX : IsTks w5 X (t - f) (seg L f t)) => (show Calls Tryd.prog 7 #[.slice X (t - f) cx, .string (S.extract x y)] w5 (fun e w' => e = .returned (.tuple #[.int .u8 kk, .int .i64 kb, .int .i64 0]) ∧ Below w5.heap.size w5 w') from by
            have h := HK.out X (t - f) cx (seg L f t) (S.extract x y) w5 b hX (by omega) (by rw [ByteArray.size_extract]; omega) (fun u hu => K2.out.2.2.1 u (seg_mem hu)) (by rw [ByteArray.size_extract]; have := szs_seg L HPr.out.ft; rw [HPr.out.xf, HPr.out.yt] at this; omega)
            have e1 : (kd (seg L f t) (S.extract x y)).1 = kk := by rw [← HPr.out.kk']; unfold kp; rw [HPr.out.xf, HPr.out.yt]
            have e2 : (kd (seg L f t) (S.extract x y)).2 = kb := by rw [← HPr.out.kb']; unfold kp; rw [HPr.out.xf, HPr.out.yt]
            rw [e1, e2] at h
            exact h))
          have t1 : decide ((f : Int) < 0) = false := decide_eq_false (by omega)
          have t2 : decide ((t : Int) < (f : Int)) = false := decide_eq_false (by omega)
          have t2' : decide (t < f) = false := decide_eq_false (by omega)
          have t3 : decide ((n' : Int) < (t : Int)) = false := decide_eq_false (by omega)
          have t3' : decide (n' < t) = false := decide_eq_false (by omega)
          have t4 : decide ((g : Int) < 0) = false := decide_eq_false (by omega)
          have t5 : decide ((S.size : Int) - (x : Int) < (g : Int)) = false := decide_eq_false (by omega)
          have hxy : (x : Int) + (g : Int) = (y : Int) := by omega
          have hw1 : IntKind.i64.wrap (y : Int) = (y : Int) := by rw [IntKind.wrap_i64]; omega
          have e5 : ((kk : Int) != (kk : Int)) = false := by rw [bne_eq_false_iff_eq]
          have hx3 : x ≤ 32768 := by omega
          have hg3 : g ≤ 32768 := by omega
          have hy3 : y ≤ 32768 := by omega
          have hxy2 : x ≤ y := by omega
          have htc : t ≤ c' := by have := K2.out.1; omega
          have hf4 : f ≤ 4300 := by omega
          have ht4 : t ≤ 4300 := by omega
          have hi4 : i ≤ 4301 := by omega
          have B4 := Lib.hid (B3.out.trans (HB.out.mono B3.out.size))
          obtain ⟨X, hX⟩ : ∃ X, (if c' = f then A' else Option.map (fun x => x.add (f * 3)) A') = X := ⟨_, rfl⟩
          have HIs := Lib.hid (fun (w5 : World) (b : Below w3.heap.size w3 w5) => (show IsTks w5 X (t - f) (seg L f t) from by
            rw [← hX]
            exact ((K1.out.below D3.out).below b).sub K2.out.1 HPr.out.ft (by have := HPr.out.tn; rw [HLn.out] at this; exact this)))
          clear o3 hq hb hc1 hp hxg htn
          go_upto_region 16 with fail
          have bq : Below wr.heap.size wr (wr.alloc (.cells #[.int .i64 f, .int .i64 t, .int .i64 g, .int .u8 kk] 33)) := (Below.refl _ _).alloc (Nat.le_refl _) _
          have C5 := Lib.hid (HB.out.trans (bq.mono HB.out.size))
          have B5 := Lib.hid (B4.out.trans (bq.mono B4.out.size))
          have s0 : ∀ i, (wr.alloc (.cells #[.int .i64 f, .int .i64 t, .int .i64 g, .int .u8 kk] 33)).cell? ⟨wr.heap.size, i, none⟩ = (#[.int .i64 f, .int .i64 t, .int .i64 g, .int .u8 kk] : Array Value)[i]? := fun i => by simp
          have r0 : (wr.alloc (.cells #[.int .i64 f, .int .i64 t, .int .i64 g, .int .u8 kk] 33)).heap.size = wr.heap.size + 1 := by simp
          obtain ⟨Y, hY⟩ : ∃ Y, wr.heap.size = Y := ⟨_, rfl⟩
          rw [hY] at s0 r0
          rw [hY]
          obtain ⟨wq, hwq⟩ : ∃ wq, (wr.alloc (.cells #[.int .i64 f, .int .i64 t, .int .i64 g, .int .u8 kk] 33)) = wq := ⟨_, rfl⟩
          rw [hwq] at C5 B5 s0 r0 ⊢
          have p0 : wq.cell? ⟨Y, 0, none⟩ = some (.int .i64 f) := s0 0
          have p1 : wq.cell? ⟨Y, 1, none⟩ = some (.int .i64 t) := s0 1
          have p2 : wq.cell? ⟨Y, 2, none⟩ = some (.int .i64 g) := s0 2
          have p3 : wq.cell? ⟨Y, 3, none⟩ = some (.int .u8 kk) := s0 3
          have hYq : Y < wq.heap.size := by omega
          clear s0 r0 bq hwq hY x0 x1 x2 x3
          go_region_held3 (fun w' => w'.cell? ⟨Y, 0, none⟩ = some (.int .i64 f) ∧ w'.cell? ⟨Y, 1, none⟩ = some (.int .i64 t) ∧ w'.cell? ⟨Y, 2, none⟩ = some (.int .i64 g)) (first | exact ⟨l0, l1, l2⟩ | exact ⟨p0, p1, p2⟩) (first | (go_at_call 7; (with_reducible refine (HKd.out _ _ _ (by first | exact B5.out | exact B5.out.drew) (by first | exact HIs.out _ C5.out | exact HIs.out _ C5.out.drew)).mono ?_); rintro e w6 ⟨rfl, b6'⟩; have D6 := Lib.hid ((by first | exact (Below.refl _ wq).trans b6' | exact (Below.refl _ wq).drew.trans b6') : Below wq.heap.size wq w6); have l0 := (D6.out.cell (p := ⟨Y, 0, none⟩) hYq).trans p0; have l1 := (D6.out.cell (p := ⟨Y, 1, none⟩) hYq).trans p1; have l2 := (D6.out.cell (p := ⟨Y, 2, none⟩) hYq).trans p2; clear b6'))
          have q0 := (D6.out.cell (p := ⟨Y, 0, none⟩) hYq).trans p0
          have q2 := (D6.out.cell (p := ⟨Y, 2, none⟩) hYq).trans p2
          have q3 := (D6.out.cell (p := ⟨Y, 3, none⟩) hYq).trans p3
          have C6 := Lib.hid (C5.out.trans (D6.out.mono C5.out.size))
          clear p0 p1 p2 p3 l0 l1 l2 hX
          go_wp2_with fail
          go_roundw
          case rel => exact ⟨i + 1, by omega, by go_num, by rw [HPr.out.ti, HPr.out.yt], C6.out⟩
          case measure => (simp [intOf]; try omega)
        · obtain rfl : i = N := by omega
          have d2 : decide ((i : Int) < (i : Int)) = false := decide_eq_false (by omega)
          have d2' : decide (i < i) = false := decide_eq_false (by omega)
          have B4 := Lib.hid (B3.out.trans (hb.mono B3.out.size))
          rw [HEnd.out, szt_all (Nat.le_refl _), K2.out.2.2.2]
          have e6 : ((S.size : Int) == (S.size : Int)) = true := by rw [beq_iff_eq]
          clear hb
          go_wp2_with (go_at_call 4; (with_reducible refine (HW.out _ B4.out).mono ?_); rintro e w5 ⟨rfl, b5⟩; have B5 := Lib.hid (B4.out.trans (b5.mono B4.out.size)); clear b5)
          go_ret
          exact ⟨rfl, B5.out⟩
    · have f3 := HF2.out rfl
      clear HGo
      go_wp2_with fail
      go_loopw [9, 10] (fun y x wr => ∃ i : Nat, i ≤ N ∧ x = .int .i64 i ∧ y = .int .i64 (szt L (bd 0 (pts L S) i) : Nat) ∧ Below w3.heap.size w3 wr) (fun _ x _ => N - (intOf x).toNat)
      case atStart => exact ⟨0, Nat.zero_le _, rfl, by rw [bd_zero, hl0]; rfl, Below.refl _ _⟩
      case round =>
        obtain ⟨i, hi, rfl, rfl, hb⟩ := hrel
        have HB := Lib.hid hb
        by_cases hlt : i < N
        · have d2 : decide ((i : Int) < (N : Int)) = true := decide_eq_true (by omega)
          have d2' : decide (i < N) = true := decide_eq_true hlt
          have o3 := O3.out.below hb
          obtain ⟨g1, c1', hg1, hc1⟩ := o3.form (by rw [HPl.out]; omega)
          simp only [Value.slice.injEq] at hg1
          obtain ⟨rfl, -, rfl⟩ := hg1
          obtain ⟨f, t, x, y, g, kk, kb, hp⟩ := HAt.out i hlt
          have hq := hp.at'
          rw [HPV.out] at hq
          obtain ⟨x0, x1, x2, x3⟩ := o3.cell HPl.out hq
          simp only at x0 x1 x2 x3
          rw [hp.fi, hp.xf]
          have HPr := Lib.hid hp
          have hft := hp.ft
          have htn := hp.tn
          rw [HLn.out] at htn
          have hxg := hp.xg
          have hys := hp.ys
          have HKd := Lib.hid (fun (w5 : World) (X : Option Addr) (cx : Nat) (b : Below W.heap.size W w5) (hX : IsTks w5 X (t - f) (seg L f t)) => (show Calls Tryd.prog 7 #[.slice X (t - f) cx, .string (S.extract x y)] w5 (fun e w' => e = .returned (.tuple #[.int .u8 kk, .int .i64 kb, .int .i64 0]) ∧ Below w5.heap.size w5 w') from by
            have h := HK.out X (t - f) cx (seg L f t) (S.extract x y) w5 b hX (by omega) (by rw [ByteArray.size_extract]; omega) (fun u hu => K2.out.2.2.1 u (seg_mem hu)) (by rw [ByteArray.size_extract]; have := szs_seg L HPr.out.ft; rw [HPr.out.xf, HPr.out.yt] at this; omega)
            have e1 : (kd (seg L f t) (S.extract x y)).1 = kk := by rw [← HPr.out.kk']; unfold kp; rw [HPr.out.xf, HPr.out.yt]
            have e2 : (kd (seg L f t) (S.extract x y)).2 = kb := by rw [← HPr.out.kb']; unfold kp; rw [HPr.out.xf, HPr.out.yt]
            rw [e1, e2] at h
            exact h))
          have t1 : decide ((f : Int) < 0) = false := decide_eq_false (by omega)
          have t2 : decide ((t : Int) < (f : Int)) = false := decide_eq_false (by omega)
          have t2' : decide (t < f) = false := decide_eq_false (by omega)
          have t3 : decide ((n' : Int) < (t : Int)) = false := decide_eq_false (by omega)
          have t3' : decide (n' < t) = false := decide_eq_false (by omega)
          have t4 : decide ((g : Int) < 0) = false := decide_eq_false (by omega)
          have t5 : decide ((S.size : Int) - (x : Int) < (g : Int)) = false := decide_eq_false (by omega)
          have hxy : (x : Int) + (g : Int) = (y : Int) := by omega
          have hw1 : IntKind.i64.wrap (y : Int) = (y : Int) := by rw [IntKind.wrap_i64]; omega
          have e5 : ((kk : Int) != (kk : Int)) = false := by rw [bne_eq_false_iff_eq]
          have hx3 : x ≤ 32768 := by omega
          have hg3 : g ≤ 32768 := by omega
          have hy3 : y ≤ 32768 := by omega
          have hxy2 : x ≤ y := by omega
          have htc : t ≤ c' := by have := K2.out.1; omega
          have hf4 : f ≤ 4300 := by omega
          have ht4 : t ≤ 4300 := by omega
          have hi4 : i ≤ 4301 := by omega
          have B4 := Lib.hid (B3.out.trans (HB.out.mono B3.out.size))
          obtain ⟨X, hX⟩ : ∃ X, (if c' = f then A' else Option.map (fun x => x.add (f * 3)) A') = X := ⟨_, rfl⟩
          have HIs := Lib.hid (fun (w5 : World) (b : Below w3.heap.size w3 w5) => (show IsTks w5 X (t - f) (seg L f t) from by
            rw [← hX]
            exact ((K1.out.below D3.out).below b).sub K2.out.1 HPr.out.ft (by have := HPr.out.tn; rw [HLn.out] at this; exact this)))
          clear o3 hq hb hc1 hp hxg htn
          go_upto_region 16 with fail
          have bq : Below wr.heap.size wr (wr.alloc (.cells #[.int .i64 f, .int .i64 t, .int .i64 g, .int .u8 kk] 33)) := (Below.refl _ _).alloc (Nat.le_refl _) _
          have C5 := Lib.hid (HB.out.trans (bq.mono HB.out.size))
          have B5 := Lib.hid (B4.out.trans (bq.mono B4.out.size))
          have s0 : ∀ i, (wr.alloc (.cells #[.int .i64 f, .int .i64 t, .int .i64 g, .int .u8 kk] 33)).cell? ⟨wr.heap.size, i, none⟩ = (#[.int .i64 f, .int .i64 t, .int .i64 g, .int .u8 kk] : Array Value)[i]? := fun i => by simp
          have r0 : (wr.alloc (.cells #[.int .i64 f, .int .i64 t, .int .i64 g, .int .u8 kk] 33)).heap.size = wr.heap.size + 1 := by simp
          obtain ⟨Y, hY⟩ : ∃ Y, wr.heap.size = Y := ⟨_, rfl⟩
          rw [hY] at s0 r0
          rw [hY]
          obtain ⟨wq, hwq⟩ : ∃ wq, (wr.alloc (.cells #[.int .i64 f, .int .i64 t, .int .i64 g, .int .u8 kk] 33)) = wq := ⟨_, rfl⟩
          rw [hwq] at C5 B5 s0 r0 ⊢
          have p0 : wq.cell? ⟨Y, 0, none⟩ = some (.int .i64 f) := s0 0
          have p1 : wq.cell? ⟨Y, 1, none⟩ = some (.int .i64 t) := s0 1
          have p2 : wq.cell? ⟨Y, 2, none⟩ = some (.int .i64 g) := s0 2
          have p3 : wq.cell? ⟨Y, 3, none⟩ = some (.int .u8 kk) := s0 3
          have hYq : Y < wq.heap.size := by omega
          clear s0 r0 bq hwq hY x0 x1 x2 x3
          go_region_held3 (fun w' => w'.cell? ⟨Y, 0, none⟩ = some (.int .i64 f) ∧ w'.cell? ⟨Y, 1, none⟩ = some (.int .i64 t) ∧ w'.cell? ⟨Y, 2, none⟩ = some (.int .i64 g)) (first | exact ⟨l0, l1, l2⟩ | exact ⟨p0, p1, p2⟩) (first | (go_at_call 7; (with_reducible refine (HKd.out _ _ _ (by first | exact B5.out | exact B5.out.drew) (by first | exact HIs.out _ C5.out | exact HIs.out _ C5.out.drew)).mono ?_); rintro e w6 ⟨rfl, b6'⟩; have D6 := Lib.hid ((by first | exact (Below.refl _ wq).trans b6' | exact (Below.refl _ wq).drew.trans b6') : Below wq.heap.size wq w6); have l0 := (D6.out.cell (p := ⟨Y, 0, none⟩) hYq).trans p0; have l1 := (D6.out.cell (p := ⟨Y, 1, none⟩) hYq).trans p1; have l2 := (D6.out.cell (p := ⟨Y, 2, none⟩) hYq).trans p2; clear b6'))
          have q0 := (D6.out.cell (p := ⟨Y, 0, none⟩) hYq).trans p0
          have q2 := (D6.out.cell (p := ⟨Y, 2, none⟩) hYq).trans p2
          have q3 := (D6.out.cell (p := ⟨Y, 3, none⟩) hYq).trans p3
          have C6 := Lib.hid (C5.out.trans (D6.out.mono C5.out.size))
          clear p0 p1 p2 p3 l0 l1 l2 hX
          go_wp2_with fail
          go_roundw
          case rel => exact ⟨i + 1, by omega, by go_num, by rw [HPr.out.ti, HPr.out.yt], C6.out⟩
          case measure => (simp [intOf]; try omega)
        · obtain rfl : i = N := by omega
          have d2 : decide ((i : Int) < (i : Int)) = false := decide_eq_false (by omega)
          have d2' : decide (i < i) = false := decide_eq_false (by omega)
          have B4 := Lib.hid (B3.out.trans (hb.mono B3.out.size))
          rw [HEnd.out, szt_all (Nat.le_refl _), K2.out.2.2.2]
          have e6 : ((S.size : Int) == (S.size : Int)) = true := by rw [beq_iff_eq]
          clear hb
          go_wp2_with (go_at_call 4; (with_reducible refine (HW.out _ B4.out).mono ?_); rintro e w5 ⟨rfl, b5⟩; have B5 := Lib.hid (B4.out.trans (b5.mono B4.out.size)); clear b5)
          go_ret
          exact ⟨rfl, B5.out⟩
theorem few_heavy {T : World → Prop} (C : Sps T) (A : Option Addr) (n c tm : Nat) (W : World) (H : T W) (hn : n ≤ maxLen) (hv : 300 < n) :
    Calls Tryd.prog 3 #[.slice A n c, .int .u16 tm] W fun e w' => e = .returned (.bool true) ∧ Below W.heap.size W w' := by
  unfold maxLen at hn
  have HW := Lib.hid (works14 C W H)
  have dn : decide ((300 : Int) < (n : Int)) = true := decide_eq_true (by omega)
  have dn' : decide (300 < n) = true := decide_eq_true hv
  clear C H hv
  go_enter Tryd.func3, Tryd.ntmps3
  go_wp2_with (go_at_call 4; (with_reducible refine HW.out.mono ?_); rintro e w7 ⟨rfl, b7⟩; have B7 := Lib.hid b7; clear b7)
  go_ret
  exact ⟨rfl, B7.out⟩
theorem few_law {T : World → Prop} (C : Sps T) (A : Option Addr) (n c tm : Nat) (z : List Ra) (W : World) (H : T W) (hR : IsRas W A n z) (htm : tm ≤ 65535) :
    Calls Tryd.prog 3 #[.slice A n c, .int .u16 tm] W fun e w' => e = .returned (.bool true) ∧ Below W.heap.size W w' := by
  by_cases hv : 300 < n
  · exact few_heavy C A n c tm W H hR.most hv
  · exact few_good C A n c tm z W H hR (by omega) htm
end Go.Proofs.YtlanibgeafdefaaDoor.V
