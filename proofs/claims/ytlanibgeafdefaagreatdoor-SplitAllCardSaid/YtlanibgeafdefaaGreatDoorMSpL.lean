/- Texts of one place, one behind the other: SpL, SpE. -/
import Derived.Test.YtlanibgeafdefaaGreatDoorSpA
import Derived.Test.YtlanibgeafdefaaGreatDoorSpD
import Derived.Test.YtlanibgeafdefaaGreatDoorMDrw
import Derived.Deep.QuietTactic
import Derived.BigQuiet
import Derived.Deep.RegionHeld3
namespace Go.Proofs.YtlanibgeafdefaaGreatDoor.V
open Go Go.RowKit M U
set_option linter.unusedVariables false
set_option linter.unusedSimpArgs false
set_option maxRecDepth 1000000
def bd : Nat → List (Nat × Nat) → Nat → Nat
  | a, _, 0 => a
  | a, [], _ + 1 => a
  | _, q :: l, i + 1 => bd q.2 l i
theorem bd_zero (a : Nat) (l : List (Nat × Nat)) : bd a l 0 = a := by cases l <;> rfl
theorem Chn.at : ∀ {l : List (Nat × Nat)} {a b : Nat}, Chn a l b → ∀ i, i < l.length → l[i]? = some (bd a l i, bd a l (i + 1)) ∧ bd a l i ≤ bd a l (i + 1)
  | [], _, _, _, i, hi => absurd hi (by simp)
  | q :: l, a, b, h, 0, _ => by
    obtain ⟨h1, h2, h3⟩ := h
    refine ⟨?_, ?_⟩
    · show some q = some (a, bd q.2 l 0)
      rw [bd_zero, ← h1]
    · show a ≤ bd q.2 l 0
      rw [bd_zero]; exact h2
  | q :: l, a, b, h, i + 1, hi => by
    obtain ⟨h1, h2, h3⟩ := h
    exact Chn.at h3 i (by simpa using hi)
theorem Chn.fin : ∀ {l : List (Nat × Nat)} {a b : Nat}, Chn a l b → bd a l l.length = b
  | [], _, _, h => h
  | q :: l, a, b, h => (show bd q.2 l l.length = b from Chn.fin (l := l) h.2.2)
theorem Chn.le_end : ∀ {l : List (Nat × Nat)} {a b : Nat}, Chn a l b → ∀ i, bd a l i ≤ b
  | [], a, b, h, i => by cases i <;> exact Nat.le_of_eq h
  | q :: l, a, b, h, 0 => Chn.le h
  | q :: l, a, b, h, i + 1 => (show bd q.2 l i ≤ b from Chn.le_end (l := l) h.2.2 i)
structure Prtn (L : List Tk) (S : ByteArray) (i f t x y g kk kb : Nat) : Prop where
  at' : (pvs L S (pts L S))[i]? = some ⟨f, t, g, kk⟩
  ft : f ≤ t
  tn : t ≤ L.length
  xg : x + g = y
  ys : y ≤ S.size
  xf : szt L f = x
  yt : szt L t = y
  fi : bd 0 (pts L S) i = f
  ti : bd 0 (pts L S) (i + 1) = t
  kk' : (kp L S f t).1 = kk
  kb' : (kp L S f t).2 = kb
  some' : 0 < L.length → f < t
theorem prt_at {L : List Tk} {S : ByteArray} (hz : Tx.szs L = S.size) (i : Nat) (hi : i < (pts L S).length) : ∃ f t x y g kk kb, Prtn L S i f t x y g kk kb := by
  obtain ⟨h1, h2⟩ := Chn.at (pts_chn L S) i hi
  have h3 := Chn.le_end (pts_chn L S) (i + 1)
  refine ⟨_, _, _, _, szt L (bd 0 (pts L S) (i + 1)) - szt L (bd 0 (pts L S) i), _, _, ⟨?_, h2, h3, ?_, ?_, rfl, rfl, rfl, rfl, rfl, rfl, ?_⟩⟩
  · unfold pvs
    rw [List.getElem?_map, h1]
    rfl
  · have := szt_mono L h2; omega
  · rw [← hz, ← szt_all (Nat.le_refl L.length)]; exact szt_mono L h3
  · exact fun h => pts_some L S h _ (List.mem_of_getElem? h1)
theorem pvs_length (L : List Tk) (S : ByteArray) : (pvs L S (pts L S)).length = (pts L S).length := by unfold pvs; rw [List.length_map]
theorem pts_count (L : List Tk) (S : ByteArray) : 1 ≤ (pts L S).length ∧ (pts L S).length ≤ cnk L.length + 1 := by
  refine ⟨?_, prt_length _ _ _⟩
  unfold pts prt
  rw [List.length_append]
  simp
end Go.Proofs.YtlanibgeafdefaaGreatDoor.V

namespace Go.Proofs.YtlanibgeafdefaaGreatDoor.V
open Go Go.RowKit M U
set_option linter.unusedVariables false
set_option linter.unusedSimpArgs false
set_option maxRecDepth 1000000
set_option maxHeartbeats 4000000 in
theorem all_good {T : World → Prop} (C : Sps T) (A : Option Addr) (n c tm : Nat) (z : List Ra) (W : World) (H : T W) (hR : IsRas W A n z) (hn : n ≤ 300) (htm : tm ≤ 65535) :
    Calls Tryz.prog 5 #[.slice A n c, .int .u16 tm] W fun e w' => e = .returned (.bool true) ∧ Below W.heap.size W w' := by
  have HM := Lib.hid (made14_any A n c tm z W hR hn htm)
  have HW := Lib.hid (fun w (b : Below W.heap.size W w) => works14 C w (C.keep H b))
  have HP := Lib.hid (fun (A' : Option Addr) (n' c' : Nat) (L : List Tk) (S : ByteArray) (w1 : World) (b : Below W.heap.size W w1) (hL : IsTks w1 A' n' L) (h1 : n' ≤ c') (h2 : n' ≤ 4300) (h3 : S.size ≤ 65536) (h4 : ∀ t ∈ L, may t = true) (h5 : Tx.szs L = S.size) => C.parts A' n' c' L S w1 (C.keep H b) hL h1 (by omega) (by omega) h4 h5)
  have _HK := Lib.hid (fun (A' : Option Addr) (n' c' : Nat) (L : List Tk) (S : ByteArray) (w1 : World) (b : Below W.heap.size W w1) (hL : IsTks w1 A' n' L) (h2 : n' ≤ 4300) (h3 : S.size ≤ 65536) (h4 : ∀ t ∈ L, may t = true) (h5 : Tx.szs L = S.size) => C.kind A' n' c' L S w1 (C.keep H b) hL (by omega) (by omega) h4 h5)
  have dn : decide ((300 : Int) < (n : Int)) = false := decide_eq_false (by omega)
  have dn' : decide (300 < n) = false := decide_eq_false (by omega)
  clear C H hR
  unfold MadeP at HM
  go_enter Tryz.func5, Tryz.ntmps5
  go_upto_region 4 with (go_at_call 12; (with_reducible refine HM.out.mono ?_); rintro e w1 ⟨A', n', c', L, S, rfl, h1, h2, h3, h4, h5, b1⟩; have B1 := Lib.hid b1; have K1 := Lib.hid h1; have K2 := Lib.hid (And.intro h2 (And.intro h3 (And.intro h4 h5))); clear b1 h1 h2 h4 h5)
  have hsl : S.size ≤ 1200000 := by have h := Tx.szs_le L; have := K2.out.2.2.2; have := K1.out.leng; omega
  by_cases hbig : 65536 < S.size
  · have d1 : decide ((65536 : Int) < (S.size : Int)) = true := decide_eq_true (by omega)
    have d1' : decide (65536 < S.size) = true := decide_eq_true hbig
    clear hbig h3
    go_wp2_with (go_at_call 6; (with_reducible refine (HW.out _ B1.out).mono ?_); rintro e w2 ⟨rfl, b2⟩; have B2 := Lib.hid (B1.out.trans (b2.mono B1.out.size)); clear b2)
    go_ret
    exact ⟨rfl, B2.out⟩
  · have d1 : decide ((65536 : Int) < (S.size : Int)) = false := decide_eq_false (by omega)
    have d1' : decide (65536 < S.size) = false := decide_eq_false hbig
    have HPa := Lib.hid (HP.out A' n' c' L S w1 B1.out K1.out K2.out.1 K2.out.2.1 (by omega) K2.out.2.2.1 K2.out.2.2.2)
    have hpc := pts_count L S
    have hpl := pvs_length L S
    have hlen := K1.out.leng
    rw [hlen] at hpc
    have HAt := Lib.hid (fun i (hi : i < (pts L S).length) => prt_at K2.out.2.2.2 i hi)
    have hend := Chn.fin (pts_chn L S)
    have hfew := pts_few L S
    obtain ⟨N, hN⟩ : ∃ N, (pts L S).length = N := ⟨_, rfl⟩
    rw [hN] at hpc hpl HAt hend
    have hN43 : N ≤ 4301 := by have h4 : cnk n' ≤ 4300 := by unfold cnk; omega
                               omega
    have hS3 : S.size ≤ 65536 := by omega
    have hn4 : n' ≤ 4300 := h3
    have f1 : ((N : Int) == 0) = false := by rw [beq_eq_false_iff_ne]; omega
    have f1' : decide (N = 0) = false := decide_eq_false (by omega)
    have HNl := Lib.hid hN
    have HBd := Lib.hid (fun i (hi : i ≤ N) => (show pbits (kp L S) ((pts L S).take i) ≤ 6000000 * i from by
      induction i with
      | zero => exact Nat.le_refl _
      | succ i ih =>
        have h1 := ih (by omega)
        obtain ⟨f, t, x, y, g, kk, kb, hp⟩ := HAt.out i (by omega)
        have hc := (Chn.at (pts_chn L S) i (by omega)).1
        rw [hp.fi, hp.ti] at hc
        have h2 : (kp L S f t).2 ≤ 6000000 := kd_le (by rw [ByteArray.size_extract]; omega) (by rw [seg_length hp.tn]; have := hp.tn; omega) (fun x hx => K2.out.2.2.1 x (seg_mem hx))
        rw [List.take_add_one, hc, pbits_append]
        show _ + ((kp L S f t).2 + 0) ≤ _
        omega))
    have HEnd := Lib.hid hend
    have HLn := Lib.hid hlen
    have HPl := Lib.hid hpl
    have HBt := Lib.hid (pts_bits L S)
    clear hbig h3 hpc hpl hend hfew hN hlen
    obtain ⟨PV, hPV⟩ : ∃ PV, pvs L S (pts L S) = PV := ⟨_, rfl⟩
    rw [hPV] at HPa HPl
    have HPV := Lib.hid hPV
    clear hPV
    go_upto_region 7 with (go_at_call 10; (with_reducible refine HPa.out.mono ?_); rintro e w3 ⟨v1, rfl, o1, b2⟩; have D3 := Lib.hid b2; have O3 := Lib.hid o1; clear b2 o1)
    obtain ⟨A1, c1, hv1⟩ := O3.out.form'
    rw [HPl.out] at hv1
    subst hv1
    have B3 := Lib.hid (B1.out.trans (D3.out.mono B1.out.size))
    have hl0 : szt L 0 = 0 := szt_zero L
    have HSz9 := Lib.hid (fun (f t : Nat) (hf : f ≤ t) (ht : t ≤ n') (X : Option Addr) (cx : Nat) (w' : World) (hx : IsTks w' X (t - f) (seg L f t)) => (show Calls Tryz.prog 14 #[.slice X (t - f : Nat) cx] w' (fun e w2 => e = .returned (.int .i64 ((Tx.szs (seg L f t) : Nat) : Int)) ∧ Below w'.heap.size w' w2) from
      Tx.rsize_any X (t - f) cx (seg L f t) w' hx (by omega)))
    have HSz13 := Lib.hid (fun (f t k : Nat) (hk : k ≤ 2) (hf : f ≤ t) (ht : t ≤ n') (one : ByteArray) (ho : one.size ≤ 70000) (X : Option Addr) (cx : Nat) (w' : World) (hx : IsTks w' X (t - f) (seg L f t)) => (show Calls Tryz.prog 15 #[.int .u8 k, .slice X (t - f : Nat) cx, .string one, .int .i64 0] w' (fun e w2 => e = .returned (.int .i64 ((b3 (seg L f t) one k : Nat) : Int)) ∧ Below w'.heap.size w' w2) from
      sizem_any k hk X (t - f) cx (seg L f t) one 0 w' (fun _ => ho) (fun w2 b2 => hx.below b2) (by omega) (fun _ x hx => K2.out.2.2.1 x (seg_mem hx)) (Nat.le_trans (bkm_len k _ one false (0 % 8) (fun _ => ho) (by rw [seg_length (by rw [HLn.out]; exact ht)]; omega) (fun _ x hx => K2.out.2.2.1 x (seg_mem hx))) (by omega))))
    have HKi := Lib.hid (fun (f t : Nat) (hf : f ≤ t) (ht : t ≤ n') (X : Option Addr) (cx : Nat) (w' : World) (hx : IsTks w' X (t - f) (seg L f t)) => (show Calls Tryz.prog 11 #[.slice X (t - f : Nat) cx, .string (S.extract (szt L f) (szt L t))] w' (fun e w2 => e = .returned (.tuple #[.int .u8 ((kp L S f t).1 : Nat), .int .i64 ((kp L S f t).2 : Nat)]) ∧ Below w'.heap.size w' w2) from
      rkind14_any X (t - f) cx (seg L f t) _ w' hx (by omega) (by rw [ByteArray.size_extract]; omega) (fun x hx => K2.out.2.2.1 x (seg_mem hx))))
    have HKB := Lib.hid (fun (f t : Nat) (ht : t ≤ n') => (show (kp L S f t).2 ≤ 6000000 from kd_le (by rw [ByteArray.size_extract]; omega) (by rw [seg_length (by rw [HLn.out]; exact ht)]; omega) (fun x hx => K2.out.2.2.1 x (seg_mem hx))))
    by_cases hn0 : n' = 0
    · have hn00 : n' ≤ 0 := by omega
      clear hn0
      go_wp2_with fail
      go_loopw [9, 10, 11, 12] (fun v y u x wr => ∃ i : Nat, i ≤ N ∧ x = .int .i64 i ∧ v = .int .i64 (bd 0 (pts L S) i : Nat) ∧ y = .int .i64 (szt L (bd 0 (pts L S) i) : Nat) ∧ u = .int .i64 (pbits (kp L S) ((pts L S).take i) : Nat) ∧ Below w3.heap.size w3 wr) (fun _ _ _ x _ => N - (intOf x).toNat)
      case atStart => exact ⟨0, Nat.zero_le _, rfl, by rw [bd_zero]; rfl, by rw [bd_zero, hl0]; rfl, rfl, Below.refl _ _⟩
      case round =>
        obtain ⟨i, hi, rfl, rfl, rfl, rfl, hb⟩ := hrel
        have HB := Lib.hid hb
        by_cases hlt : i < N
        · have d2 : decide ((i : Int) < (N : Int)) = true := decide_eq_true (by omega)
          have d2' : decide (i < N) = true := decide_eq_true hlt
          have o3 := O3.out.below hb
          obtain ⟨g1, c1', hg1, hc1⟩ := o3.form (by rw [HPl.out]; omega)
          simp only [Value.slice.injEq] at hg1
          obtain ⟨rfl, -, rfl⟩ := hg1
          obtain ⟨f, t, x, y, g, kk, kb, hp⟩ := HAt.out i hlt
          have hq := hp.at'
          rw [HPV.out] at hq
          obtain ⟨x0, x1, x2, x3⟩ := o3.cell HPl.out hq
          simp only at x0 x1 x2 x3
          rw [hp.fi, hp.xf]
          have HPr := Lib.hid hp
          have hft := hp.ft
          have htn := hp.tn
          rw [HLn.out] at htn
          have hxg := hp.xg
          have hys := hp.ys
          have HS9 := Lib.hid (fun (X : Option Addr) (cx : Nat) {w5 : World} (hX : IsTks w5 X (t - f) (seg L f t)) => (show Calls Tryz.prog 14 #[.slice X (t - f) cx] w5 (fun e w' => e = .returned (.int .i64 g) ∧ Below w5.heap.size w5 w') from by
            have h := HSz9.out f t hft htn X cx w5 hX
            have e1 : Tx.szs (seg L f t) = g := by have := szs_seg L HPr.out.ft; rw [HPr.out.xf, HPr.out.yt] at this; omega
            rw [e1] at h
            exact h))
          obtain ⟨one, hone⟩ : ∃ one, S.extract x y = one := ⟨_, rfl⟩
          have hos : one.size ≤ 65536 := by rw [← hone, ByteArray.size_extract]; omega
          have hkd : (kd (seg L f t) one).1 = kk ∧ (kd (seg L f t) one).2 = kb := by
            refine ⟨?_, ?_⟩
            · rw [← HPr.out.kk', ← hone]; unfold kp; rw [HPr.out.xf, HPr.out.yt]
            · rw [← HPr.out.kb', ← hone]; unfold kp; rw [HPr.out.xf, HPr.out.yt]
          have hkk2 : kk ≤ 2 := by rw [← hkd.1]; exact kd_kind _ _
          have hkb3 : b3 (seg L f t) one kk = kb := by rw [← hkd.1, ← hkd.2]; exact (kd_bits _ _).symm
          have hkb6 : kb ≤ 6000000 := by rw [← HPr.out.kb']; exact HKB.out f t htn
          have HLe := Lib.hid (fun k (hk : k ≤ 2) => (show kb ≤ b3 (seg L f t) one k from by rw [← hkd.2]; exact kd_least _ _ hk))
          have HOwn := Lib.hid (fun (X : Option Addr) (cx : Nat) {w5 : World} (hX : IsTks w5 X (t - f) (seg L f t)) => (show Calls Tryz.prog 15 #[.int .u8 kk, .slice X (t - f) cx, .string one, .int .i64 0] w5 (fun e w' => e = .returned (.int .i64 kb) ∧ Below w5.heap.size w5 w') from by
            have h := HSz13.out f t kk hkk2 hft htn one (by omega) X cx w5 hX
            rw [hkb3] at h
            exact h))
          have HAny := Lib.hid (fun (k : Nat) (hk : k ≤ 2) (X : Option Addr) (cx : Nat) {w5 : World} (hX : IsTks w5 X (t - f) (seg L f t)) => HSz13.out f t k hk hft htn one (by omega) X cx w5 hX)
          have HB3 := Lib.hid (fun k => (show b3 (seg L f t) one k ≤ 6000000 from b3_le (by omega) (by rw [seg_length (by rw [HLn.out]; exact htn)]; omega) (fun x hx => K2.out.2.2.1 x (seg_mem hx))))
          have hpb : pbits (kp L S) ((pts L S).take (i + 1)) = pbits (kp L S) ((pts L S).take i) + kb := by
            have hi2 : i < (pts L S).length := by rw [HNl.out]; exact hlt
            have h1 := (Chn.at (pts_chn L S) i hi2).1
            rw [hp.fi, hp.ti] at h1
            rw [List.take_add_one, h1, pbits_append]
            show _ + ((kp L S f t).2 + 0) = _
            rw [hp.kb', Nat.add_zero]
          have hbb := HBd.out i (by omega)
          obtain ⟨bi, hbi⟩ : ∃ bi, pbits (kp L S) ((pts L S).take i) = bi := ⟨_, rfl⟩
          rw [hbi] at hpb hbb ⊢
          have HPb := Lib.hid hpb
          have t0 : ((f : Int) != (f : Int)) = false := by rw [bne_eq_false_iff_eq]
          have t2 : decide ((t : Int) < (f : Int)) = false := decide_eq_false (by omega)
          have t2' : decide (t < f) = false := decide_eq_false (by omega)
          have t3 : decide ((n' : Int) < (t : Int)) = false := decide_eq_false (by omega)
          have t3' : decide (n' < t) = false := decide_eq_false (by omega)
          have t4 : decide ((2 : Int) < (kk : Int)) = false := decide_eq_false (by omega)
          have t4' : decide (2 < kk) = false := decide_eq_false (by omega)
          have t5 : ((g : Int) != (g : Int)) = false := by rw [bne_eq_false_iff_eq]
          have z1 : decide ((0 : Int) < (n' : Int)) = false := decide_eq_false (by omega)
          have z1' : decide (0 < n') = false := decide_eq_false (by omega)
          have z2 : ((t : Int) == (f : Int)) = true := by rw [beq_iff_eq]; omega
          have hxy : (x : Int) + (g : Int) = (y : Int) := by omega
          have hx3 : x ≤ 65536 := by omega
          have hg3 : g ≤ 65536 := by omega
          have hy3 : y ≤ 65536 := by omega
          have hxy2 : x ≤ y := by omega
          have htc : t ≤ c' := by have := K2.out.1; omega
          have hf4 : f ≤ 4300 := by omega
          have ht4 : t ≤ 4300 := by omega
          have hi4 : i ≤ 4301 := by omega
          have B4 := Lib.hid (B3.out.trans (HB.out.mono B3.out.size))
          obtain ⟨X, hX⟩ : ∃ X, (if c' = f then A' else Option.map (fun x => x.add (f * 3)) A') = X := ⟨_, rfl⟩
          have HIs := Lib.hid (fun (w5 : World) (b : Below w3.heap.size w3 w5) => (show IsTks w5 X (t - f) (seg L f t) from by
            rw [← hX]
            exact ((K1.out.below D3.out).below b).sub K2.out.1 HPr.out.ft (by have := HPr.out.tn; rw [HLn.out] at this; exact this)))
          clear o3 hq hb hc1 hp hxg htn hkd hkb3 hpb hbi
          go_upto_region 14 with fail
          have bq : Below wr.heap.size wr (wr.alloc (.cells #[.int .i64 f, .int .i64 t, .int .i64 g, .int .u8 kk] 42)) := (Below.refl _ _).alloc (Nat.le_refl _) _
          have C5 := Lib.hid (HB.out.trans (bq.mono HB.out.size))
          have s0 : ∀ i, (wr.alloc (.cells #[.int .i64 f, .int .i64 t, .int .i64 g, .int .u8 kk] 42)).cell? ⟨wr.heap.size, i, none⟩ = (#[.int .i64 f, .int .i64 t, .int .i64 g, .int .u8 kk] : Array Value)[i]? := fun i => by simp
          have r0 : (wr.alloc (.cells #[.int .i64 f, .int .i64 t, .int .i64 g, .int .u8 kk] 42)).heap.size = wr.heap.size + 1 := by simp
          obtain ⟨Y, hY⟩ : ∃ Y, wr.heap.size = Y := ⟨_, rfl⟩
          rw [hY] at s0 r0
          rw [hY]
          obtain ⟨wq, hwq⟩ : ∃ wq, (wr.alloc (.cells #[.int .i64 f, .int .i64 t, .int .i64 g, .int .u8 kk] 42)) = wq := ⟨_, rfl⟩
          rw [hwq] at C5 s0 r0 ⊢
          have p0 : wq.cell? ⟨Y, 0, none⟩ = some (.int .i64 f) := s0 0
          have p1 : wq.cell? ⟨Y, 1, none⟩ = some (.int .i64 t) := s0 1
          have p2 : wq.cell? ⟨Y, 2, none⟩ = some (.int .i64 g) := s0 2
          have p3 : wq.cell? ⟨Y, 3, none⟩ = some (.int .u8 kk) := s0 3
          have hYq : Y < wq.heap.size := by omega
          clear s0 r0 bq hwq hY x0 x1 x2 x3
          go_region_held3 (fun w' => w'.cell? ⟨Y, 0, none⟩ = some (.int .i64 f) ∧ w'.cell? ⟨Y, 1, none⟩ = some (.int .i64 t) ∧ w'.cell? ⟨Y, 2, none⟩ = some (.int .i64 g) ∧ w'.cell? ⟨Y, 3, none⟩ = some (.int .u8 kk)) (first | exact ⟨p0, p1, p2, p3⟩ | exact ⟨l0, l1, l2, l3⟩) (first | (go_at_call 14; (with_reducible refine (HS9.out _ _ (by first | exact HIs.out _ C5.out | exact HIs.out _ C5.out.drew)).mono ?_); rintro e w6 ⟨rfl, b6'⟩; have D6 := Lib.hid ((by first | exact (Below.refl _ wq).trans b6' | exact (Below.refl _ wq).drew.trans b6') : Below wq.heap.size wq w6); have l0 := (D6.out.cell (p := ⟨Y, 0, none⟩) hYq).trans p0; have l1 := (D6.out.cell (p := ⟨Y, 1, none⟩) hYq).trans p1; have l2 := (D6.out.cell (p := ⟨Y, 2, none⟩) hYq).trans p2; have l3 := (D6.out.cell (p := ⟨Y, 3, none⟩) hYq).trans p3; clear b6'))
          have m0 := (D6.out.cell (p := ⟨Y, 0, none⟩) hYq).trans p0
          have m1 := (D6.out.cell (p := ⟨Y, 1, none⟩) hYq).trans p1
          have m2 := (D6.out.cell (p := ⟨Y, 2, none⟩) hYq).trans p2
          have m3 := (D6.out.cell (p := ⟨Y, 3, none⟩) hYq).trans p3
          have hY6 : Y < w6.heap.size := Nat.lt_of_lt_of_le hYq D6.out.size
          have C6 := Lib.hid (C5.out.trans (D6.out.mono C5.out.size))
          clear p0 p1 p2 p3 HS9
          go_upto_region 17 with fail
          go_region_held3 (fun w' => w'.cell? ⟨Y, 1, none⟩ = some (.int .i64 t) ∧ w'.cell? ⟨Y, 3, none⟩ = some (.int .u8 kk)) (first | exact ⟨k1, k3⟩ | exact ⟨m1, m3⟩) (first | (go_at_call 15; (with_reducible refine (HOwn.out _ _ (by first | exact HIs.out _ C6.out | exact HIs.out _ C6.out.drew)).mono ?_); rintro e w7 ⟨rfl, b7'⟩; have D7 := Lib.hid ((by first | exact (Below.refl _ w6).trans b7' | exact (Below.refl _ w6).drew.trans b7') : Below w6.heap.size w6 w7); have k1 := (D7.out.cell (p := ⟨Y, 1, none⟩) hY6).trans m1; have k3 := (D7.out.cell (p := ⟨Y, 3, none⟩) hY6).trans m3; clear b7'))
          have n1 := (D7.out.cell (p := ⟨Y, 1, none⟩) hY6).trans m1
          have n2 := (D7.out.cell (p := ⟨Y, 2, none⟩) hY6).trans m2
          have hY7 : Y < w7.heap.size := Nat.lt_of_lt_of_le hY6 D7.out.size
          have C7 := Lib.hid (C6.out.trans (D7.out.mono C6.out.size))
          clear m0 m1 m2 m3 k1 k3 HOwn
          go_wp2_with fail
          go_loopw [16] (fun x wr => ∃ k : Nat, k ≤ 3 ∧ x = .int .u8 k ∧ Below w7.heap.size w7 wr) (fun x _ => 3 - (intOf x).toNat)
          case atStart => exact ⟨0, Nat.zero_le _, rfl, Below.refl _ _⟩
          case round =>
            obtain ⟨k, hk, rfl, hb7⟩ := hrel
            have u1 := (hb7.cell (p := ⟨Y, 1, none⟩) hY7).trans n1
            have u2 := (hb7.cell (p := ⟨Y, 2, none⟩) hY7).trans n2
            have C8 := Lib.hid (C7.out.trans (hb7.mono C7.out.size))
            have HB7 := Lib.hid hb7
            by_cases hk3 : k < 3
            · have d3 : decide ((k : Int) < 3) = true := decide_eq_true (by omega)
              have d3' : decide (k < 3) = true := decide_eq_true hk3
              have HA := Lib.hid (fun (X : Option Addr) (cx : Nat) {w5 : World} (hX : IsTks w5 X (t - f) (seg L f t)) => HAny.out k (by omega) X cx hX)
              have hle := HLe.out k (by omega)
              have hb6 := HB3.out k
              obtain ⟨bk, hbk⟩ : ∃ bk, b3 (seg L f t) one k = bk := ⟨_, rfl⟩
              rw [hbk] at HA hle hb6
              have d4 : decide ((bk : Int) < (kb : Int)) = false := decide_eq_false (by omega)
              have d4' : decide (bk < kb) = false := decide_eq_false (by omega)
              have HJ := Lib.hid (show k + 1 ≤ 3 from hk3)
              clear hk3 hbk hle hb7
              go_wp2_with (go_at_call 15; (with_reducible refine (HA.out _ _ (HIs.out _ C8.out)).mono ?_); rintro e w8 ⟨rfl, b8⟩; have D8 := Lib.hid (HB7.out.trans (b8.mono HB7.out.size)); clear b8)
              go_roundw
              case rel => exact ⟨k + 1, HJ.out, by go_num, D8.out⟩
              case measure => (have := HJ.out; simp [intOf]; try omega)
            · obtain rfl : k = 3 := by omega
              clear hk3 hb7
              go_wp2_with fail
              go_roundw
              case rel => exact ⟨i + 1, by omega, by go_num, by rw [HPr.out.ti], by rw [HPr.out.ti, HPr.out.yt], by rw [HPb.out]; go_num, C8.out⟩
              case measure => (simp [intOf]; try omega)
        · obtain rfl : i = N := by omega
          have d2 : decide ((i : Int) < (i : Int)) = false := decide_eq_false (by omega)
          have d2' : decide (i < i) = false := decide_eq_false (by omega)
          have B4 := Lib.hid (B3.out.trans (hb.mono B3.out.size))
          have HB := Lib.hid (D3.out.trans (hb.mono D3.out.size))
          have hti : (pts L S).take i = pts L S := List.take_of_length_le (by rw [HNl.out]; exact Nat.le_refl _)
          have hbd := HBd.out i (Nat.le_refl _)
          rw [hti] at hbd
          rw [HEnd.out, szt_all (Nat.le_refl _), K2.out.2.2.2, hti, HLn.out]
          obtain ⟨PB, hPB⟩ : ∃ PB, pbits (kp L S) (pts L S) = PB := ⟨_, rfl⟩
          have hBt := HBt.out
          rw [hPB] at hbd hBt ⊢
          have HBt2 := Lib.hid hBt
          clear hb hti hPB hBt
          obtain ⟨n4, hn4e⟩ : ∃ n4, cnk n' = n4 := ⟨_, rfl⟩
          rw [HLn.out, hn4e] at HBt2
          have hc4 : n4 ≤ 5 := by rw [← hn4e]; unfold cnk; omega
          have HN4 := Lib.hid hn4e
          have HCb := Lib.hid (fun k (hk : k ≤ n4 + 1) => (show cbits (kp L S) (cut n') k ≤ 6000000 * k from by
            induction k with
            | zero => exact Nat.le_refl _
            | succ k ih =>
              have h1 := ih (by omega)
              have h2 := HKB.out (cut n' k) (cut n' (k + 1)) (by unfold cut; omega)
              rw [cbits]
              omega))
          clear hn4e
          obtain ⟨w9, hw9⟩ : ∃ w9, w9 = wr := ⟨_, rfl⟩
          subst hw9
          go_wp2_with fail
          go_loopw [17, 18, 19] (fun u m x wr => ∃ k : Nat, k ≤ n4 + 1 ∧ x = .int .i64 (1024 * k : Nat) ∧ m = .int .i64 (szt L (cut n' k) : Nat) ∧ u = .int .i64 (cbits (kp L S) (cut n') k : Nat) ∧ Below w9.heap.size w9 wr) (fun _ _ x _ => 1024 * (n4 + 1) - (intOf x).toNat)
          case atStart => exact ⟨0, Nat.zero_le _, rfl, by rw [cut_zero, hl0]; rfl, rfl, Below.refl _ _⟩
          case round =>
            obtain ⟨k, hk, rfl, rfl, rfl, hb⟩ := hrel
            have HB9 := Lib.hid hb
            have D9 := Lib.hid (HB.out.trans (hb.mono HB.out.size))
            have hcb := HCb.out k hk
            by_cases hkn : k ≤ n4
            · obtain ⟨a, ha⟩ : ∃ a, cut n' k = a := ⟨_, rfl⟩
              obtain ⟨b, hbe⟩ : ∃ b, cut n' (k + 1) = b := ⟨_, rfl⟩
              have hak : a = 1024 * k ∧ (n' = 0 → k = 0) ∧ (0 < n' → a < n') := by
                by_cases h0 : n' = 0
                · have : n4 = 0 := by rw [← HN4.out]; unfold cnk; omega
                  refine ⟨by rw [← ha]; unfold cut; omega, fun _ => by omega, fun h => absurd h (by omega)⟩
                · obtain ⟨h1, h2⟩ := cut_some (n := n') (i := k) (by rw [HN4.out]; exact hkn) (by omega)
                  rw [ha] at h1 h2
                  exact ⟨h2, fun h => absurd h h0, fun _ => h1⟩
              have hbn : b ≤ n' := by rw [← hbe]; unfold cut; omega
              have hab : a ≤ b := by rw [← ha, ← hbe]; exact cut_mono _ _
              have hbm : b = min (a + 1024) n' := by rw [← hbe, hak.1]; unfold cut; omega
              have m1 : min ((a : Int) + 1024) (n' : Int) = (b : Int) := by omega
              have m2 : (if (n' : Int) < (a : Int) + 1024 then (n' : Int) else (a : Int) + 1024) = (b : Int) := by split <;> omega
              have hcs : cbits (kp L S) (cut n') (k + 1) = cbits (kp L S) (cut n') k + (kp L S a b).2 := by rw [cbits, ha, hbe]
              have hzs := szs_seg L hab
              have hzn : szt L b ≤ S.size := by rw [← K2.out.2.2.2, ← szt_all (Nat.le_refl L.length)]; exact szt_mono L (by rw [HLn.out]; exact hbn)
              have HS1 := Lib.hid (HSz9.out a b hab hbn)
              have HK1 := Lib.hid (HKi.out a b hab hbn)
              have hkb7 := HKB.out a b hbn
              rw [ha]
              rw [← hak.1]
              obtain ⟨x, hx⟩ : ∃ x, szt L a = x := ⟨_, rfl⟩
              obtain ⟨y, hy⟩ : ∃ y, szt L b = y := ⟨_, rfl⟩
              obtain ⟨z, hze⟩ : ∃ z, Tx.szs (seg L a b) = z := ⟨_, rfl⟩
              obtain ⟨kk, hkk⟩ : ∃ kk, (kp L S a b).1 = kk := ⟨_, rfl⟩
              obtain ⟨kb, hkb⟩ : ∃ kb, (kp L S a b).2 = kb := ⟨_, rfl⟩
              rw [hkb] at hcs hkb7
              rw [hkk, hkb, hx, hy] at HK1
              rw [hx, hy, hze] at hzs
              rw [hy] at hzn
              rw [hze] at HS1
              rw [hx]
              obtain ⟨cb, hcbe⟩ : ∃ cb, cbits (kp L S) (cut n') k = cb := ⟨_, rfl⟩
              rw [hcbe] at hcs hcb ⊢
              have HCs := Lib.hid hcs
              have hxz : (x : Int) + (z : Int) = (y : Int) := by omega
              have hw1 : IntKind.i64.wrap (y : Int) = (y : Int) := by rw [IntKind.wrap_i64]; omega
              have hx7 : x ≤ 70000 := by omega
              have hz7 : z ≤ 70000 := by omega
              have hy7 : y ≤ 70000 := by omega
              have hxy : x ≤ y := by omega
              have hbc : b ≤ c' := by have := K2.out.1; omega
              have ha4 : a ≤ 5000 := by omega
              have hcb7 : cb ≤ 40000000 := by omega
              obtain ⟨X, hX⟩ : ∃ X, (if c' = a then A' else Option.map (fun x => x.add (a * 3)) A') = X := ⟨_, rfl⟩
              have HIs := Lib.hid (fun (w5 : World) (b5 : Below w1.heap.size w1 w5) => (show IsTks w5 X (b - a) (seg L a b) from by
                rw [← hX]
                exact (K1.out.below b5).sub K2.out.1 hab hbn))
              have HJ := Lib.hid (show k + 1 ≤ n4 + 1 ∧ 1024 * (k + 1) = a + 1024 ∧ szt L (cut n' (k + 1)) = y from ⟨by omega, by omega, by rw [hbe, hy]⟩)
              obtain ⟨q1, hq1⟩ : ∃ q1, decide ((a : Int) < (n' : Int)) = q1 := ⟨_, rfl⟩
              have hq2 : q1 = false → ((a : Int) == 0) = true := fun h => by
                rw [← hq1, decide_eq_false_iff_not] at h
                rw [beq_iff_eq]
                by_cases h0 : n' = 0
                · have := hak.2.1 h0; omega
                · have := hak.2.2 (by omega); omega
              have HQ := Lib.hid hq2
              have hq1' : decide (a < n') = q1 := by rw [← hq1]; by_cases h : a < n' <;> simp [h]
              clear hak hbm hzs hcs hx hy hze hkk hkb hcbe ha hbe hb hkn hq2
              cases q1
              · have hz0 := HQ.out rfl
                go_upto_region 33 with (go_at_call 14; (with_reducible refine (HS1.out _ _ _ (HIs.out _ D9.out)).mono ?_); rintro e w10 ⟨rfl, b10⟩; have D10 := Lib.hid (D9.out.trans (b10.mono D9.out.size)); have E10 := Lib.hid (HB9.out.trans (b10.mono HB9.out.size)); clear b10)
                go_region_law (rw [if_pos (by rfl)]; go_simp; (with_reducible refine (HK1.out _ _ _ ((HIs.out _ D10.out).below (Below.refl _ _).drew)).mono ?_); rintro e w11 ⟨rfl, b11'⟩; have b11 := (Below.refl _ w10).drew.trans b11'; have E11 := Lib.hid (E10.out.trans (b11.mono E10.out.size)); clear b11 b11'; dsimp only)
                clear hX hxy hw1 hab hbc
                go_wp2_with fail
                go_roundw
                case rel => exact ⟨k + 1, HJ.out.1, by rw [HJ.out.2.1]; go_num, by rw [HJ.out.2.2], by rw [HCs.out]; go_num, E11.out⟩
                case measure => (have := HJ.out; simp [intOf]; try omega)
              · clear HQ
                go_upto_region 33 with (go_at_call 14; (with_reducible refine (HS1.out _ _ _ (HIs.out _ D9.out)).mono ?_); rintro e w10 ⟨rfl, b10⟩; have D10 := Lib.hid (D9.out.trans (b10.mono D9.out.size)); have E10 := Lib.hid (HB9.out.trans (b10.mono HB9.out.size)); clear b10)
                go_region_law (rw [if_pos (by rfl)]; go_simp; (with_reducible refine (HK1.out _ _ _ ((HIs.out _ D10.out).below (Below.refl _ _).drew)).mono ?_); rintro e w11 ⟨rfl, b11'⟩; have b11 := (Below.refl _ w10).drew.trans b11'; have E11 := Lib.hid (E10.out.trans (b11.mono E10.out.size)); clear b11 b11'; dsimp only)
                clear hX hxy hw1 hab hbc
                go_wp2_with fail
                go_roundw
                case rel => exact ⟨k + 1, HJ.out.1, by rw [HJ.out.2.1]; go_num, by rw [HJ.out.2.2], by rw [HCs.out]; go_num, E11.out⟩
                case measure => (have := HJ.out; simp [intOf]; try omega)
            · obtain rfl : k = n4 + 1 := by omega
              have hfin : cut n' (n4 + 1) = n' := by rw [← HN4.out]; exact cut_end n'
              have hge : n' ≤ 1024 * (n4 + 1) := by rw [← HN4.out]; unfold cnk; omega
              obtain ⟨CB, hCB⟩ : ∃ CB, cbits (kp L S) (cut n') (n4 + 1) = CB := ⟨_, rfl⟩
              have hpc := HBt2.out
              rw [hCB] at hpc hcb ⊢
              rw [hfin]
              obtain ⟨I, hI⟩ : ∃ I, 1024 * (n4 + 1) = I := ⟨_, rfl⟩
              rw [hI] at hge ⊢
              obtain ⟨M, hM⟩ : ∃ M, szt L n' = M := ⟨_, rfl⟩
              rw [hM]
              have d5 : decide ((I : Int) < (n' : Int)) = false := decide_eq_false (by omega)
              have d5' : decide (I < n') = false := decide_eq_false (by omega)
              have d6 : ((I : Int) == 0) = false := by rw [beq_eq_false_iff_ne]; omega
              have d6' : decide (I = 0) = false := decide_eq_false (by omega)
              have d7 : decide ((PB : Int) ≤ (CB : Int)) = true := decide_eq_true (by omega)
              have d7' : decide (PB ≤ CB) = true := decide_eq_true hpc
              have e6 : ((S.size : Int) == (S.size : Int)) = true := by rw [beq_iff_eq]
              have e7 : ((n' : Int) == (n' : Int)) = true := by rw [beq_iff_eq]
              have B10 := Lib.hid (B4.out.trans (hb.mono B4.out.size))
              clear hb hge hI hM hCB hcb hpc hfin hkn
              go_wp2_with (go_at_call 6; (with_reducible refine (HW.out _ B10.out).mono ?_); rintro e w5 ⟨rfl, b5⟩; have B5 := Lib.hid (B10.out.trans (b5.mono B10.out.size)); clear b5)
              go_ret
              exact ⟨rfl, B5.out⟩
    · have hn01 : 0 < n' := by omega
      clear hn0
      go_wp2_with fail
      go_loopw [9, 10, 11, 12] (fun v y u x wr => ∃ i : Nat, i ≤ N ∧ x = .int .i64 i ∧ v = .int .i64 (bd 0 (pts L S) i : Nat) ∧ y = .int .i64 (szt L (bd 0 (pts L S) i) : Nat) ∧ u = .int .i64 (pbits (kp L S) ((pts L S).take i) : Nat) ∧ Below w3.heap.size w3 wr) (fun _ _ _ x _ => N - (intOf x).toNat)
      case atStart => exact ⟨0, Nat.zero_le _, rfl, by rw [bd_zero]; rfl, by rw [bd_zero, hl0]; rfl, rfl, Below.refl _ _⟩
      case round =>
        obtain ⟨i, hi, rfl, rfl, rfl, rfl, hb⟩ := hrel
        have HB := Lib.hid hb
        by_cases hlt : i < N
        · have d2 : decide ((i : Int) < (N : Int)) = true := decide_eq_true (by omega)
          have d2' : decide (i < N) = true := decide_eq_true hlt
          have o3 := O3.out.below hb
          obtain ⟨g1, c1', hg1, hc1⟩ := o3.form (by rw [HPl.out]; omega)
          simp only [Value.slice.injEq] at hg1
          obtain ⟨rfl, -, rfl⟩ := hg1
          obtain ⟨f, t, x, y, g, kk, kb, hp⟩ := HAt.out i hlt
          have hq := hp.at'
          rw [HPV.out] at hq
          obtain ⟨x0, x1, x2, x3⟩ := o3.cell HPl.out hq
          simp only at x0 x1 x2 x3
          rw [hp.fi, hp.xf]
          have HPr := Lib.hid hp
          have hft := hp.ft
          have htn := hp.tn
          rw [HLn.out] at htn
          have hxg := hp.xg
          have hys := hp.ys
          have HS9 := Lib.hid (fun (X : Option Addr) (cx : Nat) {w5 : World} (hX : IsTks w5 X (t - f) (seg L f t)) => (show Calls Tryz.prog 14 #[.slice X (t - f) cx] w5 (fun e w' => e = .returned (.int .i64 g) ∧ Below w5.heap.size w5 w') from by
            have h := HSz9.out f t hft htn X cx w5 hX
            have e1 : Tx.szs (seg L f t) = g := by have := szs_seg L HPr.out.ft; rw [HPr.out.xf, HPr.out.yt] at this; omega
            rw [e1] at h
            exact h))
          obtain ⟨one, hone⟩ : ∃ one, S.extract x y = one := ⟨_, rfl⟩
          have hos : one.size ≤ 65536 := by rw [← hone, ByteArray.size_extract]; omega
          have hkd : (kd (seg L f t) one).1 = kk ∧ (kd (seg L f t) one).2 = kb := by
            refine ⟨?_, ?_⟩
            · rw [← HPr.out.kk', ← hone]; unfold kp; rw [HPr.out.xf, HPr.out.yt]
            · rw [← HPr.out.kb', ← hone]; unfold kp; rw [HPr.out.xf, HPr.out.yt]
          have hkk2 : kk ≤ 2 := by rw [← hkd.1]; exact kd_kind _ _
          have hkb3 : b3 (seg L f t) one kk = kb := by rw [← hkd.1, ← hkd.2]; exact (kd_bits _ _).symm
          have hkb6 : kb ≤ 6000000 := by rw [← HPr.out.kb']; exact HKB.out f t htn
          have HLe := Lib.hid (fun k (hk : k ≤ 2) => (show kb ≤ b3 (seg L f t) one k from by rw [← hkd.2]; exact kd_least _ _ hk))
          have HOwn := Lib.hid (fun (X : Option Addr) (cx : Nat) {w5 : World} (hX : IsTks w5 X (t - f) (seg L f t)) => (show Calls Tryz.prog 15 #[.int .u8 kk, .slice X (t - f) cx, .string one, .int .i64 0] w5 (fun e w' => e = .returned (.int .i64 kb) ∧ Below w5.heap.size w5 w') from by
            have h := HSz13.out f t kk hkk2 hft htn one (by omega) X cx w5 hX
            rw [hkb3] at h
            exact h))
          have HAny := Lib.hid (fun (k : Nat) (hk : k ≤ 2) (X : Option Addr) (cx : Nat) {w5 : World} (hX : IsTks w5 X (t - f) (seg L f t)) => HSz13.out f t k hk hft htn one (by omega) X cx w5 hX)
          have HB3 := Lib.hid (fun k => (show b3 (seg L f t) one k ≤ 6000000 from b3_le (by omega) (by rw [seg_length (by rw [HLn.out]; exact htn)]; omega) (fun x hx => K2.out.2.2.1 x (seg_mem hx))))
          have hpb : pbits (kp L S) ((pts L S).take (i + 1)) = pbits (kp L S) ((pts L S).take i) + kb := by
            have hi2 : i < (pts L S).length := by rw [HNl.out]; exact hlt
            have h1 := (Chn.at (pts_chn L S) i hi2).1
            rw [hp.fi, hp.ti] at h1
            rw [List.take_add_one, h1, pbits_append]
            show _ + ((kp L S f t).2 + 0) = _
            rw [hp.kb', Nat.add_zero]
          have hbb := HBd.out i (by omega)
          obtain ⟨bi, hbi⟩ : ∃ bi, pbits (kp L S) ((pts L S).take i) = bi := ⟨_, rfl⟩
          rw [hbi] at hpb hbb ⊢
          have HPb := Lib.hid hpb
          have t0 : ((f : Int) != (f : Int)) = false := by rw [bne_eq_false_iff_eq]
          have t2 : decide ((t : Int) < (f : Int)) = false := decide_eq_false (by omega)
          have t2' : decide (t < f) = false := decide_eq_false (by omega)
          have t3 : decide ((n' : Int) < (t : Int)) = false := decide_eq_false (by omega)
          have t3' : decide (n' < t) = false := decide_eq_false (by omega)
          have t4 : decide ((2 : Int) < (kk : Int)) = false := decide_eq_false (by omega)
          have t4' : decide (2 < kk) = false := decide_eq_false (by omega)
          have t5 : ((g : Int) != (g : Int)) = false := by rw [bne_eq_false_iff_eq]
          have z3 : ((t : Int) == (f : Int)) = false := by rw [beq_eq_false_iff_ne]; have := hp.some' (by rw [HLn.out]; omega); omega
          have z3' : decide (t = f) = false := decide_eq_false (by have := hp.some' (by rw [HLn.out]; omega); omega)
          have hxy : (x : Int) + (g : Int) = (y : Int) := by omega
          have hx3 : x ≤ 65536 := by omega
          have hg3 : g ≤ 65536 := by omega
          have hy3 : y ≤ 65536 := by omega
          have hxy2 : x ≤ y := by omega
          have htc : t ≤ c' := by have := K2.out.1; omega
          have hf4 : f ≤ 4300 := by omega
          have ht4 : t ≤ 4300 := by omega
          have hi4 : i ≤ 4301 := by omega
          have B4 := Lib.hid (B3.out.trans (HB.out.mono B3.out.size))
          obtain ⟨X, hX⟩ : ∃ X, (if c' = f then A' else Option.map (fun x => x.add (f * 3)) A') = X := ⟨_, rfl⟩
          have HIs := Lib.hid (fun (w5 : World) (b : Below w3.heap.size w3 w5) => (show IsTks w5 X (t - f) (seg L f t) from by
            rw [← hX]
            exact ((K1.out.below D3.out).below b).sub K2.out.1 HPr.out.ft (by have := HPr.out.tn; rw [HLn.out] at this; exact this)))
          clear o3 hq hb hc1 hp hxg htn hkd hkb3 hpb hbi
          go_upto_region 14 with fail
          have bq : Below wr.heap.size wr (wr.alloc (.cells #[.int .i64 f, .int .i64 t, .int .i64 g, .int .u8 kk] 42)) := (Below.refl _ _).alloc (Nat.le_refl _) _
          have C5 := Lib.hid (HB.out.trans (bq.mono HB.out.size))
          have s0 : ∀ i, (wr.alloc (.cells #[.int .i64 f, .int .i64 t, .int .i64 g, .int .u8 kk] 42)).cell? ⟨wr.heap.size, i, none⟩ = (#[.int .i64 f, .int .i64 t, .int .i64 g, .int .u8 kk] : Array Value)[i]? := fun i => by simp
          have r0 : (wr.alloc (.cells #[.int .i64 f, .int .i64 t, .int .i64 g, .int .u8 kk] 42)).heap.size = wr.heap.size + 1 := by simp
          obtain ⟨Y, hY⟩ : ∃ Y, wr.heap.size = Y := ⟨_, rfl⟩
          rw [hY] at s0 r0
          rw [hY]
          obtain ⟨wq, hwq⟩ : ∃ wq, (wr.alloc (.cells #[.int .i64 f, .int .i64 t, .int .i64 g, .int .u8 kk] 42)) = wq := ⟨_, rfl⟩
          rw [hwq] at C5 s0 r0 ⊢
          have p0 : wq.cell? ⟨Y, 0, none⟩ = some (.int .i64 f) := s0 0
          have p1 : wq.cell? ⟨Y, 1, none⟩ = some (.int .i64 t) := s0 1
          have p2 : wq.cell? ⟨Y, 2, none⟩ = some (.int .i64 g) := s0 2
          have p3 : wq.cell? ⟨Y, 3, none⟩ = some (.int .u8 kk) := s0 3
          have hYq : Y < wq.heap.size := by omega
          clear s0 r0 bq hwq hY x0 x1 x2 x3
          refine take_region (fun w' => w'.cell? ⟨Y, 0, none⟩ = some (.int .i64 f) ∧ w'.cell? ⟨Y, 1, none⟩ = some (.int .i64 t) ∧ w'.cell? ⟨Y, 2, none⟩ = some (.int .i64 g) ∧ w'.cell? ⟨Y, 3, none⟩ = some (.int .u8 kk)) ⟨p0, p1, p2, p3⟩ (fun h0 => ?_)
          refine take_op (i := 0) (d := some 61) (v := ?_) rfl rfl (by kernel_rfl) (by kernel_rfl) (by kernel_rfl) (fun _ _ _ h => h) (by rfl) (fun w hSw => ?_) h0 ?_; rotate_left; (focus ((try dsimp only at hSw); go_simp; (try with_reducible rfl))); (try simp only [Act.put, List.setIfInBounds_toArray, List.set_cons_zero, List.set_cons_succ])
          refine take_op (i := 1) (d := some 62) (v := ?_) rfl rfl (by kernel_rfl) (by kernel_rfl) (by kernel_rfl) (fun _ _ _ h => h) (by rfl) (fun w hSw => ?_) h0 ?_; rotate_left; (focus ((try dsimp only at hSw); go_simp; (try with_reducible rfl))); (try simp only [Act.put, List.setIfInBounds_toArray, List.set_cons_zero, List.set_cons_succ])
          refine take_op (i := 2) (d := some 63) (v := ?_) rfl rfl (by kernel_rfl) (by kernel_rfl) (by kernel_rfl) (fun _ _ _ h => h) (by rfl) (fun w hSw => ?_) h0 ?_; rotate_left; (focus ((try dsimp only at hSw); go_simp; (try with_reducible rfl))); (try simp only [Act.put, List.setIfInBounds_toArray, List.set_cons_zero, List.set_cons_succ])
          refine take_op (i := 3) (d := some 64) (v := ?_) rfl rfl (by kernel_rfl) (by kernel_rfl) (by kernel_rfl) (fun _ _ _ h => h) (by rfl) (fun w hSw => ?_) h0 ?_; rotate_left; (focus ((try dsimp only at hSw); go_simp; (try with_reducible rfl))); (try simp only [Act.put, List.setIfInBounds_toArray, List.set_cons_zero, List.set_cons_succ])
          refine take_op (i := 4) (d := some 65) (v := ?_) rfl rfl (by kernel_rfl) (by kernel_rfl) (by kernel_rfl) (fun _ _ _ h => h) (by rfl) (fun w hSw => ?_) h0 ?_; rotate_left; (focus ((try dsimp only at hSw); go_simp; (try with_reducible rfl))); (try simp only [Act.put, List.setIfInBounds_toArray, List.set_cons_zero, List.set_cons_succ])
          refine take_op (i := 5) (d := some 66) (v := ?_) rfl rfl (by kernel_rfl) (by kernel_rfl) (by kernel_rfl) (fun _ _ _ h => h) (by rfl) (fun w hSw => ?_) h0 ?_; rotate_left; (focus ((try dsimp only at hSw); go_simp; (try with_reducible rfl))); (try simp only [Act.put, List.setIfInBounds_toArray, List.set_cons_zero, List.set_cons_succ])
          refine take_op (i := 6) (d := some 67) (v := ?_) rfl rfl (by kernel_rfl) (by kernel_rfl) (by kernel_rfl) (fun _ _ _ h => h) (by rfl) (fun w hSw => ?_) h0 ?_; rotate_left; (focus ((try dsimp only at hSw); go_simp; (try with_reducible rfl))); (try simp only [Act.put, List.setIfInBounds_toArray, List.set_cons_zero, List.set_cons_succ])
          refine take_op (i := 7) (d := some 68) (v := ?_) rfl rfl (by kernel_rfl) (by kernel_rfl) (by kernel_rfl) (fun _ _ _ h => h) (by rfl) (fun w hSw => ?_) h0 ?_; rotate_left; (focus ((try dsimp only at hSw); go_simp; (try with_reducible rfl))); (try simp only [Act.put, List.setIfInBounds_toArray, List.set_cons_zero, List.set_cons_succ])
          refine take_op (i := 8) (d := some 69) (v := ?_) rfl rfl (by kernel_rfl) (by kernel_rfl) (by kernel_rfl) (fun _ _ _ h => h) (by rfl) (fun w hSw => ?_) h0 ?_; rotate_left; (focus ((try dsimp only at hSw); go_simp; (try with_reducible rfl))); (try simp only [Act.put, List.setIfInBounds_toArray, List.set_cons_zero, List.set_cons_succ])
          refine take_op (i := 9) (d := some 70) (v := ?_) rfl rfl (by kernel_rfl) (by kernel_rfl) (by kernel_rfl) (fun _ _ _ h => h) (by rfl) (fun w hSw => ?_) h0 ?_; rotate_left; (focus ((try dsimp only at hSw); go_simp; (try with_reducible rfl))); (try simp only [Act.put, List.setIfInBounds_toArray, List.set_cons_zero, List.set_cons_succ])
          refine take_op (i := 10) (d := some 71) (v := ?_) rfl rfl (by kernel_rfl) (by kernel_rfl) (by kernel_rfl) (fun _ _ _ h => h) (by rfl) (fun w hSw => ?_) h0 ?_; rotate_left; (focus ((try dsimp only at hSw); go_simp; (try with_reducible rfl))); (try simp only [Act.put, List.setIfInBounds_toArray, List.set_cons_zero, List.set_cons_succ])
          refine take_op (i := 11) (d := some 72) (v := ?_) rfl rfl (by kernel_rfl) (by kernel_rfl) (by kernel_rfl) (fun _ _ _ h => h) (by rfl) (fun w hSw => ?_) h0 ?_; rotate_left; (focus ((try dsimp only at hSw); go_simp; (try with_reducible rfl))); (try simp only [Act.put, List.setIfInBounds_toArray, List.set_cons_zero, List.set_cons_succ])
          refine take_op (i := 12) (d := some 73) (v := ?_) rfl rfl (by kernel_rfl) (by kernel_rfl) (by kernel_rfl) (fun _ _ _ h => h) (by rfl) (fun w hSw => ?_) h0 ?_; rotate_left; (focus ((try dsimp only at hSw); go_simp; (try with_reducible rfl))); (try simp only [Act.put, List.setIfInBounds_toArray, List.set_cons_zero, List.set_cons_succ])
          refine take_op (i := 13) (d := some 74) (v := ?_) rfl rfl (by kernel_rfl) (by kernel_rfl) (by kernel_rfl) (fun _ _ _ h => h) (by rfl) (fun w hSw => ?_) h0 ?_; rotate_left; (focus ((try dsimp only at hSw); go_simp; (try with_reducible rfl))); (try simp only [Act.put, List.setIfInBounds_toArray, List.set_cons_zero, List.set_cons_succ])
          refine take_op (i := 14) (d := some 75) (v := ?_) rfl rfl (by kernel_rfl) (by kernel_rfl) (by kernel_rfl) (fun _ _ _ h => h) (by rfl) (fun w hSw => ?_) h0 ?_; rotate_left; (focus ((try dsimp only at hSw); go_simp; (try with_reducible rfl))); (try simp only [Act.put, List.setIfInBounds_toArray, List.set_cons_zero, List.set_cons_succ])
          refine take_op (i := 15) (d := some 76) (v := ?_) rfl rfl (by kernel_rfl) (by kernel_rfl) (by kernel_rfl) (fun _ _ _ h => h) (by rfl) (fun w hSw => ?_) h0 ?_; rotate_left; (focus ((try dsimp only at hSw); go_simp; (try with_reducible rfl))); (try simp only [Act.put, List.setIfInBounds_toArray, List.set_cons_zero, List.set_cons_succ])
          refine take_op (i := 16) (d := some 77) (v := ?_) rfl rfl (by kernel_rfl) (by kernel_rfl) (by kernel_rfl) (fun _ _ _ h => h) (by rfl) (fun w hSw => ?_) h0 ?_; rotate_left; (focus ((try dsimp only at hSw); go_simp; (try with_reducible rfl))); (try simp only [Act.put, List.setIfInBounds_toArray, List.set_cons_zero, List.set_cons_succ])
          refine take_op (i := 17) (d := some 78) (v := ?_) rfl rfl (by kernel_rfl) (by kernel_rfl) (by kernel_rfl) (fun _ _ _ h => h) (by rfl) (fun w hSw => ?_) h0 ?_; rotate_left; (focus ((try dsimp only at hSw); go_simp; (try with_reducible rfl))); (try simp only [Act.put, List.setIfInBounds_toArray, List.set_cons_zero, List.set_cons_succ])
          refine take_op (i := 18) (d := some 79) (v := ?_) rfl rfl (by kernel_rfl) (by kernel_rfl) (by kernel_rfl) (fun _ _ _ h => h) (by rfl) (fun w hSw => ?_) h0 ?_; rotate_left; (focus ((try dsimp only at hSw); go_simp; (try with_reducible rfl))); (try simp only [Act.put, List.setIfInBounds_toArray, List.set_cons_zero, List.set_cons_succ])
          refine take_op (i := 19) (d := some 80) (v := ?_) rfl rfl (by kernel_rfl) (by kernel_rfl) (by kernel_rfl) (fun _ _ _ h => h) (by rfl) (fun w hSw => ?_) h0 ?_; rotate_left; (focus ((try dsimp only at hSw); go_simp; (try with_reducible rfl))); (try simp only [Act.put, List.setIfInBounds_toArray, List.set_cons_zero, List.set_cons_succ])
          refine take_op (i := 20) (d := some 81) (v := ?_) rfl rfl (by kernel_rfl) (by kernel_rfl) (by kernel_rfl) (fun _ _ _ h => h) (by rfl) (fun w hSw => ?_) h0 ?_; rotate_left; (focus ((try dsimp only at hSw); go_simp; (try with_reducible rfl))); (try simp only [Act.put, List.setIfInBounds_toArray, List.set_cons_zero, List.set_cons_succ])
          refine take_op (i := 21) (d := some 82) (v := ?_) rfl rfl (by kernel_rfl) (by kernel_rfl) (by kernel_rfl) (fun _ _ _ h => h) (by rfl) (fun w hSw => ?_) h0 ?_; rotate_left; (focus ((try dsimp only at hSw); go_simp; (try with_reducible rfl))); (try simp only [Act.put, List.setIfInBounds_toArray, List.set_cons_zero, List.set_cons_succ])
          refine take_op (i := 22) (d := some 83) (v := ?_) rfl rfl (by kernel_rfl) (by kernel_rfl) (by kernel_rfl) (fun _ _ _ h => h) (by rfl) (fun w hSw => ?_) h0 ?_; rotate_left; (focus ((try dsimp only at hSw); go_simp; (try with_reducible rfl))); (try simp only [Act.put, List.setIfInBounds_toArray, List.set_cons_zero, List.set_cons_succ])
          refine take_no (i := 23) (d := some 84) rfl rfl (by kernel_rfl) (by kernel_rfl) (by kernel_rfl) (fun _ _ _ h => h) (by rfl) h0 ?_; (try simp only [Act.put, List.setIfInBounds_toArray, List.set_cons_zero, List.set_cons_succ])
          refine take_no (i := 24) (d := some 85) rfl rfl (by kernel_rfl) (by kernel_rfl) (by kernel_rfl) (fun _ _ _ h => h) (by rfl) h0 ?_; (try simp only [Act.put, List.setIfInBounds_toArray, List.set_cons_zero, List.set_cons_succ])
          refine take_no (i := 25) (d := some 86) rfl rfl (by kernel_rfl) (by kernel_rfl) (by kernel_rfl) (fun _ _ _ h => h) (by rfl) h0 ?_; (try simp only [Act.put, List.setIfInBounds_toArray, List.set_cons_zero, List.set_cons_succ])
          refine take_op (i := 26) (d := some 87) (v := ?_) rfl rfl (by kernel_rfl) (by kernel_rfl) (by kernel_rfl) (fun _ _ _ h => h) (by rfl) (fun w hSw => ?_) h0 ?_; rotate_left; (focus ((try dsimp only at hSw); go_simp; (try with_reducible rfl))); (try simp only [Act.put, List.setIfInBounds_toArray, List.set_cons_zero, List.set_cons_succ])
          refine take_op (i := 27) (d := some 88) (v := ?_) rfl rfl (by kernel_rfl) (by kernel_rfl) (by kernel_rfl) (fun _ _ _ h => h) (by rfl) (fun w hSw => ?_) h0 ?_; rotate_left; (focus ((try dsimp only at hSw); go_simp; (try with_reducible rfl))); (try simp only [Act.put, List.setIfInBounds_toArray, List.set_cons_zero, List.set_cons_succ])
          refine take_op (i := 28) (d := some 89) (v := ?_) rfl rfl (by kernel_rfl) (by kernel_rfl) (by kernel_rfl) (fun _ _ _ h => h) (by rfl) (fun w hSw => ?_) h0 ?_; rotate_left; (focus ((try dsimp only at hSw); go_simp; (try with_reducible rfl))); (try simp only [Act.put, List.setIfInBounds_toArray, List.set_cons_zero, List.set_cons_succ])
          refine take_op (i := 29) (d := some 90) (v := ?_) rfl rfl (by kernel_rfl) (by kernel_rfl) (by kernel_rfl) (fun _ _ _ h => h) (by rfl) (fun w hSw => ?_) h0 ?_; rotate_left; (focus ((try dsimp only at hSw); go_simp; (try with_reducible rfl))); (try simp only [Act.put, List.setIfInBounds_toArray, List.set_cons_zero, List.set_cons_succ])
          refine take_op (i := 30) (d := some 91) (v := ?_) rfl rfl (by kernel_rfl) (by kernel_rfl) (by kernel_rfl) (fun _ _ _ h => h) (by rfl) (fun w hSw => ?_) h0 ?_; rotate_left; (focus ((try dsimp only at hSw); go_simp; (try with_reducible rfl))); (try simp only [Act.put, List.setIfInBounds_toArray, List.set_cons_zero, List.set_cons_succ])
          refine take_op (i := 31) (d := some 92) (v := ?_) rfl rfl (by kernel_rfl) (by kernel_rfl) (by kernel_rfl) (fun _ _ _ h => h) (by rfl) (fun w hSw => ?_) h0 ?_; rotate_left; (focus ((try dsimp only at hSw); go_simp; (try with_reducible rfl))); (try simp only [Act.put, List.setIfInBounds_toArray, List.set_cons_zero, List.set_cons_succ])
          refine take_op (i := 32) (d := some 93) (v := ?_) rfl rfl (by kernel_rfl) (by kernel_rfl) (by kernel_rfl) (fun _ _ _ h => h) (by rfl) (fun w hSw => ?_) h0 ?_; rotate_left; (focus ((try dsimp only at hSw); go_simp; (try with_reducible rfl))); (try simp only [Act.put, List.setIfInBounds_toArray, List.set_cons_zero, List.set_cons_succ])
          refine take_op (i := 33) (d := some 94) (v := ?_) rfl rfl (by kernel_rfl) (by kernel_rfl) (by kernel_rfl) (fun _ _ _ h => h) (by rfl) (fun w hSw => ?_) h0 ?_; rotate_left; (focus ((try dsimp only at hSw); go_simp; (try with_reducible rfl))); (try simp only [Act.put, List.setIfInBounds_toArray, List.set_cons_zero, List.set_cons_succ])
          refine take_op (i := 34) (d := some 95) (v := ?_) rfl rfl (by kernel_rfl) (by kernel_rfl) (by kernel_rfl) (fun _ _ _ h => h) (by rfl) (fun w hSw => ?_) h0 ?_; rotate_left; (focus ((try dsimp only at hSw); go_simp; (try with_reducible rfl))); (try simp only [Act.put, List.setIfInBounds_toArray, List.set_cons_zero, List.set_cons_succ])
          refine take_op (i := 35) (d := some 96) (v := ?_) rfl rfl (by kernel_rfl) (by kernel_rfl) (by kernel_rfl) (fun _ _ _ h => h) (by rfl) (fun w hSw => ?_) h0 ?_; rotate_left; (focus ((try dsimp only at hSw); go_simp; (try with_reducible rfl))); (try simp only [Act.put, List.setIfInBounds_toArray, List.set_cons_zero, List.set_cons_succ])
          refine take_op (i := 36) (d := some 97) (v := ?_) rfl rfl (by kernel_rfl) (by kernel_rfl) (by kernel_rfl) (fun _ _ _ h => h) (by rfl) (fun w hSw => ?_) h0 ?_; rotate_left; (focus ((try dsimp only at hSw); go_simp; (try with_reducible rfl))); (try simp only [Act.put, List.setIfInBounds_toArray, List.set_cons_zero, List.set_cons_succ])
          refine take_op (i := 37) (d := some 98) (v := ?_) rfl rfl (by kernel_rfl) (by kernel_rfl) (by kernel_rfl) (fun _ _ _ h => h) (by rfl) (fun w hSw => ?_) h0 ?_; rotate_left; (focus ((try dsimp only at hSw); go_simp; (try with_reducible rfl))); (try simp only [Act.put, List.setIfInBounds_toArray, List.set_cons_zero, List.set_cons_succ])
          refine take_op (i := 38) (d := some 99) (v := ?_) rfl rfl (by kernel_rfl) (by kernel_rfl) (by kernel_rfl) (fun _ _ _ h => h) (by rfl) (fun w hSw => ?_) h0 ?_; rotate_left; (focus ((try dsimp only at hSw); go_simp; (try with_reducible rfl))); (try simp only [Act.put, List.setIfInBounds_toArray, List.set_cons_zero, List.set_cons_succ])
          refine take_op (i := 39) (d := some 100) (v := ?_) rfl rfl (by kernel_rfl) (by kernel_rfl) (by kernel_rfl) (fun _ _ _ h => h) (by rfl) (fun w hSw => ?_) h0 ?_; rotate_left; (focus ((try dsimp only at hSw); go_simp; (try with_reducible rfl))); (try simp only [Act.put, List.setIfInBounds_toArray, List.set_cons_zero, List.set_cons_succ])
          refine take_op (i := 40) (d := some 101) (v := ?_) rfl rfl (by kernel_rfl) (by kernel_rfl) (by kernel_rfl) (fun _ _ _ h => h) (by rfl) (fun w hSw => ?_) h0 ?_; rotate_left; (focus ((try dsimp only at hSw); go_simp; (try with_reducible rfl))); (try simp only [Act.put, List.setIfInBounds_toArray, List.set_cons_zero, List.set_cons_succ])
          refine take_call (i := 41) (by kernel_rfl) rfl (fun K hK => ?_)
          go_simp
          refine (HS9.out _ _ (by first | exact HIs.out _ C5.out | exact HIs.out _ C5.out.drew)).mono ?_
          rintro e w6 ⟨rfl, b6'⟩
          have D6 := Lib.hid ((by first | exact (Below.refl _ wq).trans b6' | exact (Below.refl _ wq).drew.trans b6') : Below wq.heap.size wq w6)
          have l0 := (D6.out.cell (p := ⟨Y, 0, none⟩) hYq).trans p0
          have l1 := (D6.out.cell (p := ⟨Y, 1, none⟩) hYq).trans p1
          have l2 := (D6.out.cell (p := ⟨Y, 2, none⟩) hYq).trans p2
          have l3 := (D6.out.cell (p := ⟨Y, 3, none⟩) hYq).trans p3
          clear b6'
          refine hK.out _ _ ⟨l0, l1, l2, l3⟩ (fun h1 => ?_)
          clear hK K h0
          (try simp only [Act.put, List.setIfInBounds_toArray, List.set_cons_zero, List.set_cons_succ])
          refine take_op (i := 42) (d := some 103) (v := ?_) rfl rfl (by kernel_rfl) (by kernel_rfl) (by kernel_rfl) (fun _ _ _ h => h) (by rfl) (fun w hSw => ?_) h1 ?_; rotate_left; (focus ((try dsimp only at hSw); go_simp; (try with_reducible rfl))); (try simp only [Act.put, List.setIfInBounds_toArray, List.set_cons_zero, List.set_cons_succ])
          refine take_op (i := 43) (d := some 104) (v := ?_) rfl rfl (by kernel_rfl) (by kernel_rfl) (by kernel_rfl) (fun _ _ _ h => h) (by rfl) (fun w hSw => ?_) h1 ?_; rotate_left; (focus ((try dsimp only at hSw); go_simp; (try with_reducible rfl))); (try simp only [Act.put, List.setIfInBounds_toArray, List.set_cons_zero, List.set_cons_succ])
          refine wpAnyH_done (by kernel_rfl) ?_ _
          have m0 := (D6.out.cell (p := ⟨Y, 0, none⟩) hYq).trans p0
          have m1 := (D6.out.cell (p := ⟨Y, 1, none⟩) hYq).trans p1
          have m2 := (D6.out.cell (p := ⟨Y, 2, none⟩) hYq).trans p2
          have m3 := (D6.out.cell (p := ⟨Y, 3, none⟩) hYq).trans p3
          have hY6 : Y < w6.heap.size := Nat.lt_of_lt_of_le hYq D6.out.size
          have C6 := Lib.hid (C5.out.trans (D6.out.mono C5.out.size))
          clear p0 p1 p2 p3 HS9
          go_upto_region 17 with fail
          go_region_held3 (fun w' => w'.cell? ⟨Y, 1, none⟩ = some (.int .i64 t) ∧ w'.cell? ⟨Y, 3, none⟩ = some (.int .u8 kk)) (first | exact ⟨k1, k3⟩ | exact ⟨m1, m3⟩) (first | (go_at_call 15; (with_reducible refine (HOwn.out _ _ (by first | exact HIs.out _ C6.out | exact HIs.out _ C6.out.drew)).mono ?_); rintro e w7 ⟨rfl, b7'⟩; have D7 := Lib.hid ((by first | exact (Below.refl _ w6).trans b7' | exact (Below.refl _ w6).drew.trans b7') : Below w6.heap.size w6 w7); have k1 := (D7.out.cell (p := ⟨Y, 1, none⟩) hY6).trans m1; have k3 := (D7.out.cell (p := ⟨Y, 3, none⟩) hY6).trans m3; clear b7'))
          have n1 := (D7.out.cell (p := ⟨Y, 1, none⟩) hY6).trans m1
          have n2 := (D7.out.cell (p := ⟨Y, 2, none⟩) hY6).trans m2
          have hY7 : Y < w7.heap.size := Nat.lt_of_lt_of_le hY6 D7.out.size
          have C7 := Lib.hid (C6.out.trans (D7.out.mono C6.out.size))
          clear m0 m1 m2 m3 k1 k3 HOwn
          go_wp2_with fail
          go_loopw [16] (fun x wr => ∃ k : Nat, k ≤ 3 ∧ x = .int .u8 k ∧ Below w7.heap.size w7 wr) (fun x _ => 3 - (intOf x).toNat)
          case atStart => exact ⟨0, Nat.zero_le _, rfl, Below.refl _ _⟩
          case round =>
            obtain ⟨k, hk, rfl, hb7⟩ := hrel
            have u1 := (hb7.cell (p := ⟨Y, 1, none⟩) hY7).trans n1
            have u2 := (hb7.cell (p := ⟨Y, 2, none⟩) hY7).trans n2
            have C8 := Lib.hid (C7.out.trans (hb7.mono C7.out.size))
            have HB7 := Lib.hid hb7
            by_cases hk3 : k < 3
            · have d3 : decide ((k : Int) < 3) = true := decide_eq_true (by omega)
              have d3' : decide (k < 3) = true := decide_eq_true hk3
              have HA := Lib.hid (fun (X : Option Addr) (cx : Nat) {w5 : World} (hX : IsTks w5 X (t - f) (seg L f t)) => HAny.out k (by omega) X cx hX)
              have hle := HLe.out k (by omega)
              have hb6 := HB3.out k
              obtain ⟨bk, hbk⟩ : ∃ bk, b3 (seg L f t) one k = bk := ⟨_, rfl⟩
              rw [hbk] at HA hle hb6
              have d4 : decide ((bk : Int) < (kb : Int)) = false := decide_eq_false (by omega)
              have d4' : decide (bk < kb) = false := decide_eq_false (by omega)
              have HJ := Lib.hid (show k + 1 ≤ 3 from hk3)
              clear hk3 hbk hle hb7
              go_wp2_with (go_at_call 15; (with_reducible refine (HA.out _ _ (HIs.out _ C8.out)).mono ?_); rintro e w8 ⟨rfl, b8⟩; have D8 := Lib.hid (HB7.out.trans (b8.mono HB7.out.size)); clear b8)
              go_roundw
              case rel => exact ⟨k + 1, HJ.out, by go_num, D8.out⟩
              case measure => (have := HJ.out; simp [intOf]; try omega)
            · obtain rfl : k = 3 := by omega
              clear hk3 hb7
              go_wp2_with fail
              go_roundw
              case rel => exact ⟨i + 1, by omega, by go_num, by rw [HPr.out.ti], by rw [HPr.out.ti, HPr.out.yt], by rw [HPb.out]; go_num, C8.out⟩
              case measure => (simp [intOf]; try omega)
        · obtain rfl : i = N := by omega
          have d2 : decide ((i : Int) < (i : Int)) = false := decide_eq_false (by omega)
          have d2' : decide (i < i) = false := decide_eq_false (by omega)
          have B4 := Lib.hid (B3.out.trans (hb.mono B3.out.size))
          have HB := Lib.hid (D3.out.trans (hb.mono D3.out.size))
          have hti : (pts L S).take i = pts L S := List.take_of_length_le (by rw [HNl.out]; exact Nat.le_refl _)
          have hbd := HBd.out i (Nat.le_refl _)
          rw [hti] at hbd
          rw [HEnd.out, szt_all (Nat.le_refl _), K2.out.2.2.2, hti, HLn.out]
          obtain ⟨PB, hPB⟩ : ∃ PB, pbits (kp L S) (pts L S) = PB := ⟨_, rfl⟩
          have hBt := HBt.out
          rw [hPB] at hbd hBt ⊢
          have HBt2 := Lib.hid hBt
          clear hb hti hPB hBt
          obtain ⟨n4, hn4e⟩ : ∃ n4, cnk n' = n4 := ⟨_, rfl⟩
          rw [HLn.out, hn4e] at HBt2
          have hc4 : n4 ≤ 5 := by rw [← hn4e]; unfold cnk; omega
          have HN4 := Lib.hid hn4e
          have HCb := Lib.hid (fun k (hk : k ≤ n4 + 1) => (show cbits (kp L S) (cut n') k ≤ 6000000 * k from by
            induction k with
            | zero => exact Nat.le_refl _
            | succ k ih =>
              have h1 := ih (by omega)
              have h2 := HKB.out (cut n' k) (cut n' (k + 1)) (by unfold cut; omega)
              rw [cbits]
              omega))
          clear hn4e
          obtain ⟨w9, hw9⟩ : ∃ w9, w9 = wr := ⟨_, rfl⟩
          subst hw9
          go_wp2_with fail
          go_loopw [17, 18, 19] (fun u m x wr => ∃ k : Nat, k ≤ n4 + 1 ∧ x = .int .i64 (1024 * k : Nat) ∧ m = .int .i64 (szt L (cut n' k) : Nat) ∧ u = .int .i64 (cbits (kp L S) (cut n') k : Nat) ∧ Below w9.heap.size w9 wr) (fun _ _ x _ => 1024 * (n4 + 1) - (intOf x).toNat)
          case atStart => exact ⟨0, Nat.zero_le _, rfl, by rw [cut_zero, hl0]; rfl, rfl, Below.refl _ _⟩
          case round =>
            obtain ⟨k, hk, rfl, rfl, rfl, hb⟩ := hrel
            have HB9 := Lib.hid hb
            have D9 := Lib.hid (HB.out.trans (hb.mono HB.out.size))
            have hcb := HCb.out k hk
            by_cases hkn : k ≤ n4
            · obtain ⟨a, ha⟩ : ∃ a, cut n' k = a := ⟨_, rfl⟩
              obtain ⟨b, hbe⟩ : ∃ b, cut n' (k + 1) = b := ⟨_, rfl⟩
              have hak : a = 1024 * k ∧ (n' = 0 → k = 0) ∧ (0 < n' → a < n') := by
                by_cases h0 : n' = 0
                · have : n4 = 0 := by rw [← HN4.out]; unfold cnk; omega
                  refine ⟨by rw [← ha]; unfold cut; omega, fun _ => by omega, fun h => absurd h (by omega)⟩
                · obtain ⟨h1, h2⟩ := cut_some (n := n') (i := k) (by rw [HN4.out]; exact hkn) (by omega)
                  rw [ha] at h1 h2
                  exact ⟨h2, fun h => absurd h h0, fun _ => h1⟩
              have hbn : b ≤ n' := by rw [← hbe]; unfold cut; omega
              have hab : a ≤ b := by rw [← ha, ← hbe]; exact cut_mono _ _
              have hbm : b = min (a + 1024) n' := by rw [← hbe, hak.1]; unfold cut; omega
              have m1 : min ((a : Int) + 1024) (n' : Int) = (b : Int) := by omega
              have m2 : (if (n' : Int) < (a : Int) + 1024 then (n' : Int) else (a : Int) + 1024) = (b : Int) := by split <;> omega
              have hcs : cbits (kp L S) (cut n') (k + 1) = cbits (kp L S) (cut n') k + (kp L S a b).2 := by rw [cbits, ha, hbe]
              have hzs := szs_seg L hab
              have hzn : szt L b ≤ S.size := by rw [← K2.out.2.2.2, ← szt_all (Nat.le_refl L.length)]; exact szt_mono L (by rw [HLn.out]; exact hbn)
              have HS1 := Lib.hid (HSz9.out a b hab hbn)
              have HK1 := Lib.hid (HKi.out a b hab hbn)
              have hkb7 := HKB.out a b hbn
              rw [ha]
              rw [← hak.1]
              obtain ⟨x, hx⟩ : ∃ x, szt L a = x := ⟨_, rfl⟩
              obtain ⟨y, hy⟩ : ∃ y, szt L b = y := ⟨_, rfl⟩
              obtain ⟨z, hze⟩ : ∃ z, Tx.szs (seg L a b) = z := ⟨_, rfl⟩
              obtain ⟨kk, hkk⟩ : ∃ kk, (kp L S a b).1 = kk := ⟨_, rfl⟩
              obtain ⟨kb, hkb⟩ : ∃ kb, (kp L S a b).2 = kb := ⟨_, rfl⟩
              rw [hkb] at hcs hkb7
              rw [hkk, hkb, hx, hy] at HK1
              rw [hx, hy, hze] at hzs
              rw [hy] at hzn
              rw [hze] at HS1
              rw [hx]
              obtain ⟨cb, hcbe⟩ : ∃ cb, cbits (kp L S) (cut n') k = cb := ⟨_, rfl⟩
              rw [hcbe] at hcs hcb ⊢
              have HCs := Lib.hid hcs
              have hxz : (x : Int) + (z : Int) = (y : Int) := by omega
              have hw1 : IntKind.i64.wrap (y : Int) = (y : Int) := by rw [IntKind.wrap_i64]; omega
              have hx7 : x ≤ 70000 := by omega
              have hz7 : z ≤ 70000 := by omega
              have hy7 : y ≤ 70000 := by omega
              have hxy : x ≤ y := by omega
              have hbc : b ≤ c' := by have := K2.out.1; omega
              have ha4 : a ≤ 5000 := by omega
              have hcb7 : cb ≤ 40000000 := by omega
              obtain ⟨X, hX⟩ : ∃ X, (if c' = a then A' else Option.map (fun x => x.add (a * 3)) A') = X := ⟨_, rfl⟩
              have HIs := Lib.hid (fun (w5 : World) (b5 : Below w1.heap.size w1 w5) => (show IsTks w5 X (b - a) (seg L a b) from by
                rw [← hX]
                exact (K1.out.below b5).sub K2.out.1 hab hbn))
              have HJ := Lib.hid (show k + 1 ≤ n4 + 1 ∧ 1024 * (k + 1) = a + 1024 ∧ szt L (cut n' (k + 1)) = y from ⟨by omega, by omega, by rw [hbe, hy]⟩)
              obtain ⟨q1, hq1⟩ : ∃ q1, decide ((a : Int) < (n' : Int)) = q1 := ⟨_, rfl⟩
              have hq2 : q1 = false → ((a : Int) == 0) = true := fun h => by
                rw [← hq1, decide_eq_false_iff_not] at h
                rw [beq_iff_eq]
                by_cases h0 : n' = 0
                · have := hak.2.1 h0; omega
                · have := hak.2.2 (by omega); omega
              have HQ := Lib.hid hq2
              have hq1' : decide (a < n') = q1 := by rw [← hq1]; by_cases h : a < n' <;> simp [h]
              clear hak hbm hzs hcs hx hy hze hkk hkb hcbe ha hbe hb hkn hq2
              cases q1
              · have hz0 := HQ.out rfl
                go_upto_region 33 with (go_at_call 14; (with_reducible refine (HS1.out _ _ _ (HIs.out _ D9.out)).mono ?_); rintro e w10 ⟨rfl, b10⟩; have D10 := Lib.hid (D9.out.trans (b10.mono D9.out.size)); have E10 := Lib.hid (HB9.out.trans (b10.mono HB9.out.size)); clear b10)
                go_region_law (rw [if_pos (by rfl)]; go_simp; (with_reducible refine (HK1.out _ _ _ ((HIs.out _ D10.out).below (Below.refl _ _).drew)).mono ?_); rintro e w11 ⟨rfl, b11'⟩; have b11 := (Below.refl _ w10).drew.trans b11'; have E11 := Lib.hid (E10.out.trans (b11.mono E10.out.size)); clear b11 b11'; dsimp only)
                clear hX hxy hw1 hab hbc
                go_wp2_with fail
                go_roundw
                case rel => exact ⟨k + 1, HJ.out.1, by rw [HJ.out.2.1]; go_num, by rw [HJ.out.2.2], by rw [HCs.out]; go_num, E11.out⟩
                case measure => (have := HJ.out; simp [intOf]; try omega)
              · clear HQ
                go_upto_region 33 with (go_at_call 14; (with_reducible refine (HS1.out _ _ _ (HIs.out _ D9.out)).mono ?_); rintro e w10 ⟨rfl, b10⟩; have D10 := Lib.hid (D9.out.trans (b10.mono D9.out.size)); have E10 := Lib.hid (HB9.out.trans (b10.mono HB9.out.size)); clear b10)
                go_region_law (rw [if_pos (by rfl)]; go_simp; (with_reducible refine (HK1.out _ _ _ ((HIs.out _ D10.out).below (Below.refl _ _).drew)).mono ?_); rintro e w11 ⟨rfl, b11'⟩; have b11 := (Below.refl _ w10).drew.trans b11'; have E11 := Lib.hid (E10.out.trans (b11.mono E10.out.size)); clear b11 b11'; dsimp only)
                clear hX hxy hw1 hab hbc
                go_wp2_with fail
                go_roundw
                case rel => exact ⟨k + 1, HJ.out.1, by rw [HJ.out.2.1]; go_num, by rw [HJ.out.2.2], by rw [HCs.out]; go_num, E11.out⟩
                case measure => (have := HJ.out; simp [intOf]; try omega)
            · obtain rfl : k = n4 + 1 := by omega
              have hfin : cut n' (n4 + 1) = n' := by rw [← HN4.out]; exact cut_end n'
              have hge : n' ≤ 1024 * (n4 + 1) := by rw [← HN4.out]; unfold cnk; omega
              obtain ⟨CB, hCB⟩ : ∃ CB, cbits (kp L S) (cut n') (n4 + 1) = CB := ⟨_, rfl⟩
              have hpc := HBt2.out
              rw [hCB] at hpc hcb ⊢
              rw [hfin]
              obtain ⟨I, hI⟩ : ∃ I, 1024 * (n4 + 1) = I := ⟨_, rfl⟩
              rw [hI] at hge ⊢
              obtain ⟨M, hM⟩ : ∃ M, szt L n' = M := ⟨_, rfl⟩
              rw [hM]
              have d5 : decide ((I : Int) < (n' : Int)) = false := decide_eq_false (by omega)
              have d5' : decide (I < n') = false := decide_eq_false (by omega)
              have d6 : ((I : Int) == 0) = false := by rw [beq_eq_false_iff_ne]; omega
              have d6' : decide (I = 0) = false := decide_eq_false (by omega)
              have d7 : decide ((PB : Int) ≤ (CB : Int)) = true := decide_eq_true (by omega)
              have d7' : decide (PB ≤ CB) = true := decide_eq_true hpc
              have e6 : ((S.size : Int) == (S.size : Int)) = true := by rw [beq_iff_eq]
              have e7 : ((n' : Int) == (n' : Int)) = true := by rw [beq_iff_eq]
              have B10 := Lib.hid (B4.out.trans (hb.mono B4.out.size))
              clear hb hge hI hM hCB hcb hpc hfin hkn
              go_wp2_with (go_at_call 6; (with_reducible refine (HW.out _ B10.out).mono ?_); rintro e w5 ⟨rfl, b5⟩; have B5 := Lib.hid (B10.out.trans (b5.mono B10.out.size)); clear b5)
              go_ret
              exact ⟨rfl, B5.out⟩
theorem all_heavy {T : World → Prop} (C : Sps T) (A : Option Addr) (n c tm : Nat) (W : World) (H : T W) (hn : n ≤ maxLen) (hv : 300 < n) :
    Calls Tryz.prog 5 #[.slice A n c, .int .u16 tm] W fun e w' => e = .returned (.bool true) ∧ Below W.heap.size W w' := by
  unfold maxLen at hn
  have HW := Lib.hid (works14 C W H)
  have dn : decide ((300 : Int) < (n : Int)) = true := decide_eq_true (by omega)
  have dn' : decide (300 < n) = true := decide_eq_true hv
  clear C H hv
  go_enter Tryz.func5, Tryz.ntmps5
  go_wp2_with (go_at_call 6; (with_reducible refine HW.out.mono ?_); rintro e w7 ⟨rfl, b7⟩; have B7 := Lib.hid b7; clear b7)
  go_ret
  exact ⟨rfl, B7.out⟩
theorem all_law {T : World → Prop} (C : Sps T) (A : Option Addr) (n c tm : Nat) (z : List Ra) (W : World) (H : T W) (hR : IsRas W A n z) (htm : tm ≤ 65535) :
    Calls Tryz.prog 5 #[.slice A n c, .int .u16 tm] W fun e w' => e = .returned (.bool true) ∧ Below W.heap.size W w' := by
  by_cases hv : 300 < n
  · exact all_heavy C A n c tm W H hR.most hv
  · exact all_good C A n c tm z W H hR (by omega) htm
end Go.Proofs.YtlanibgeafdefaaGreatDoor.V
