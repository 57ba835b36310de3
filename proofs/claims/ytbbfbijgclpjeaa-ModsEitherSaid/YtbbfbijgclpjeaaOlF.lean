/- ModsLast returns true for any argument that its kinds hold. Conditions: none. -/
import Derived.Test.YtbbfbijgclpjeaaOlB
namespace Go.Proofs.Ytbbfbijgclpjeaa
open Go Go.RowKit M O
set_option linter.unusedVariables false
set_option linter.unusedSimpArgs false

namespace O
theorem apply_is (T : ByteArray) (A : Option Addr) (n c : Nat) (L : List Md) (w : World) (h : IsMds w A n L) (hT : T.size ≤ 100000000) {X : List UInt8} {E : Int} (he : apl T.data.toList L = (X, E)) :
    Calls Try.prog 14 #[.string T, .slice A n c] w fun e w' => e = .returned (.tuple #[.string (bstr X), .int .i64 E]) ∧ Below w.heap.size w w' := by
  have := apply_any T A n c L w h hT
  rw [he] at this
  exact this
theorem apl_ok {t : List UInt8} {L : List Md} {n : Nat} (ht : t.length = n) (hp : pg (n : Int) = true) (h : oks (n : Int) L = true) : apl t L = (app t L, 0) := by unfold apl; rw [ht, hp, h]; rfl
theorem apl_no {t : List UInt8} {L : List Md} {n : Nat} (ht : t.length = n) (hp : pg (n : Int) = true) (h : oks (n : Int) L = false) : apl t L = ([], 2) := by unfold apl; rw [ht, hp, h]; rfl
theorem put_whole {t : List UInt8} {s : ByteArray} (h : s.size = t.length) : app t [⟨0, s⟩] = s.data.toList := by
  show t.take 0 ++ s.data.toList ++ t.drop (0 + s.size) = _
  rw [List.take_zero, List.nil_append, List.drop_of_length_le (by omega), List.append_nil]
theorem wnt_snoc (c : Option UInt8) (k : Nat) {L : List Md} {j : Nat} (h : j < L.length) : wnt c k (L.take (j + 1)) = wnt (wnt c k (L.take j)) k [L.getD j default] := by
  rw [List.take_succ_eq_append_getElem h, wnt_append, List.getD, List.getElem?_eq_getElem h]
  rfl
theorem get_some (s : ByteArray) (k : Nat) (h : k < s.size) : s.data.toList[k]? = some (s[k]'h) := by
  rw [List.getElem?_eq_getElem (by rw [size_list]; exact h)]
  exact congrArg some (byte_at s k h)
theorem pages0 (c : Nat) (s t : ByteArray) (W : World) (hc : c < 256) :
    Calls Try.prog 27 #[.string s, .string t, .int .u8 0, .int .u8 c] W fun e w' => e = .returned (.tuple #[.string (bstr (pgl 1024 s c)), .string (bstr (pgl 1024 t c))]) ∧ Below W.heap.size W w' := pages_any c s t 0 W hc (by omega) (by omega)
end O

set_option maxRecDepth 1000000 in
set_option maxHeartbeats 8000000 in
theorem ModsLast_main (a0 : ByteArray) (a1 : Option Addr) (len1 cap1 : Nat) (z1 : List Md) (K F : Nat) (W : World) (w1 : IsMds W a1 len1 z1) (h0 : a0.size ≤ 1024) (hlg : lng z1 = false) (hK : K ≤ 65535) (hF : F < 256) :
    Calls Try.prog 8 #[.string a0, .slice a1 len1 cap1, .int .u16 K, .int .u8 F] W fun e w' => e = .returned (.bool true) ∧ Below W.heap.size W w' := by
  have HV := Lib.hid alive_any
  have hLg := long_any a1 len1 cap1 z1 W w1
  rw [hlg] at hLg
  have HLg := Lib.hid hLg
  obtain ⟨t1, t2⟩ := lng_no hlg
  have d0 : decide (1024 < (a0.size : Int)) = false := decide_eq_false (by omega)
  have d0' : decide (1024 < a0.size) = false := decide_eq_false (by omega)
  have hpp := fun w => pages0 F a0 a0 w hF
  obtain ⟨PA, hA⟩ : ∃ P, bstr (pgl 1024 a0 F) = P := ⟨_, rfl⟩
  have hAs : PA.size = 1024 := by rw [← hA, bstr_size, pgl_length]
  rw [hA] at hpp
  have HPP := Lib.hid hpp
  have hl := w1.leng
  have hAl : PA.data.toList.length = 1024 := by rw [size_list]; exact hAs
  have hm := w1.most
  unfold maxLen at hm
  cases hok : oks 1024 z1 with
  | false =>
    have HAp := Lib.hid (show ∀ w, IsMds w a1 len1 z1 → Calls Try.prog 14 #[.string PA, .slice a1 len1 cap1] w fun e w' => e = .returned (.tuple #[.string ⟨#[]⟩, .int .i64 2]) ∧ Below w.heap.size w w' from fun w hi => apply_is PA a1 len1 cap1 z1 w hi (by omega) (apl_no (n := 1024) hAl (by decide) hok))
    have HH := Lib.hid w1
    have HL := Lib.hid hl
    have HK := Lib.hid hok
    clear hLg hlg t1 t2 hpp hA hAs hl w1 hAl hok h0
    go_enter Try.func8, Try.ntmps8
    go_wp2_with (first
      | (go_at_call 10; (with_reducible refine HLg.out.mono ?_); rintro e w' ⟨rfl, rfl⟩)
      | (go_at_call 27; (with_reducible refine (HPP.out _).mono ?_); rintro e w4 ⟨rfl, b4⟩; have B4 := Lib.hid b4; clear b4)
      | (go_at_call 14; (with_reducible refine (HAp.out _ (HH.out.below B4.out)).mono ?_); rintro e w5 ⟨rfl, b5⟩; have B5 := Lib.hid (B4.out.trans (b5.mono B4.out.size)); clear b5))
    go_loopw [13] (fun i wr => ∃ k : Nat, k ≤ len1 ∧ i = .int .i64 k ∧ (∀ j, j < k → may 1024 (z1.getD j default) = true) ∧ Below W.heap.size W wr) (fun i _ => len1 - (intOf i).toNat)
    case atStart => exact ⟨0, Nat.zero_le _, rfl, fun j hj => absurd hj (by omega), B5.out⟩
    case round =>
      obtain ⟨k, hk, rfl, hp, hb⟩ := hrel
      have HP := Lib.hid hp
      have HB := Lib.hid hb
      by_cases hlt : k < len1
      · obtain ⟨b, o, rfl, hbl, hc⟩ := (HH.out.below hb).at (by omega)
        obtain ⟨c0, c1⟩ := hc k hlt
        have hg := good_at HH.out hlt
        obtain ⟨m, hm'⟩ : ∃ m, z1.getD k default = m := ⟨_, rfl⟩
        rw [hm'] at c0 c1 hg
        have HM := Lib.hid hm'
        obtain ⟨p, s⟩ := m
        simp only at c0 c1
        have HA := Lib.hid (fun w => may_any 1024 p s w hg.s)
        have d1 : decide ((k : Int) < (len1 : Int)) = true := decide_eq_true (by omega)
        have d1' : decide (k < len1) = true := decide_eq_true hlt
        clear hc hm' hp hb hg hbl
        cases hq : may 1024 ⟨p, s⟩ with
        | true =>
          rw [hq] at HA
          have HQ := Lib.hid hq
          clear hq
          go_wp2_with (go_at_call 16; (with_reducible refine (HA.out _).mono ?_); rintro e w6 ⟨rfl, b6⟩; have B6 := Lib.hid (HB.out.trans (b6.mono HB.out.size)); clear b6)
          go_roundw
          case rel => exact ⟨k + 1, by omega, by go_num, fun j hj => (by
            by_cases c : j = k
            · subst c; rw [HM.out]; exact HQ.out
            · exact HP.out j (by omega)), B6.out⟩
          case measure => simp [intOf]; omega
        | false =>
          rw [hq] at HA
          clear hq
          go_wp2_with (first
            | (go_at_call 16; (with_reducible refine (HA.out _).mono ?_); rintro e w6 ⟨rfl, b6⟩; have B6 := Lib.hid (HB.out.trans (b6.mono HB.out.size)); clear b6)
            | (go_at_call 11; (with_reducible refine (HV.out _).mono ?_); rintro e w7 ⟨rfl, b7⟩; have B7 := Lib.hid (B6.out.trans (b7.mono B6.out.size)); clear b7))
          go_ret
          exact ⟨rfl, B7.out⟩
      · obtain rfl : k = len1 := by omega
        have := oks_of (N := 1024) HL.out (fun j hj => hp j hj)
        rw [HK.out] at this
        cases this
  | true =>
    obtain ⟨BP, hBP⟩ : ∃ P, bstr (app PA.data.toList z1) = P := ⟨_, rfl⟩
    have hBl := app_length (N := 1024) z1 PA.data.toList hAl hok
    have hBs : BP.size = 1024 := by rw [← hBP, bstr_size]; exact hBl
    have hBd : BP.data.toList = app PA.data.toList z1 := by rw [← hBP]; rfl
    have HAp := Lib.hid (show ∀ w, IsMds w a1 len1 z1 → Calls Try.prog 14 #[.string PA, .slice a1 len1 cap1] w fun e w' => e = .returned (.tuple #[.string BP, .int .i64 0]) ∧ Below w.heap.size w w' from fun w hi => by
      rw [← hBP]; exact apply_is PA a1 len1 cap1 z1 w hi (by omega) (apl_ok (n := 1024) hAl (by decide) hok))
    have hmw : Md.ok ⟨0, PA⟩ := ok_of (by decide) (by omega)
    have HAw := Lib.hid (show ∀ w : World, Calls Try.prog 14 #[.string BP, .slice (some ⟨w.heap.size, 0, none⟩) 1 1] (w.alloc (.cells #[.int .i64 0, .string PA] 34)) fun e w' => e = .returned (.tuple #[.string PA, .int .i64 0]) ∧ Below (w.alloc (.cells #[.int .i64 0, .string PA] 34)).heap.size (w.alloc (.cells #[.int .i64 0, .string PA] 34)) w' from fun w => by
      have hmy : oks ((1024 : Nat) : Int) [⟨0, PA⟩] = true := oks_iff.2 fun m hm => by
        rw [List.mem_singleton.1 hm]
        exact may_iff.2 ⟨by decide, Int.le_refl 0, by show 0 < PA.size; omega, by show (0 : Int) + PA.size ≤ _; omega⟩
      have := apply_is BP (some ⟨w.heap.size, 0, none⟩) 1 1 [⟨0, PA⟩] _ (IsMds.lit1 w 0 PA hmw) (by omega) (apl_ok (n := 1024) (by rw [size_list]; exact hBs) (by decide) hmy)
      rwa [put_whole (by rw [size_list]; omega), bstr_data] at this)
    obtain ⟨k, hk⟩ : ∃ k, K % 1024 = k := ⟨_, rfl⟩
    have hkA : k < PA.size := by omega
    have hkB : k < BP.size := by omega
    have hgA := get_some PA k hkA
    have hgB := get_some BP k hkB
    obtain ⟨ua, hua⟩ : ∃ u, PA[k]'hkA = u := ⟨_, rfl⟩
    obtain ⟨ub, hub⟩ : ∃ u, BP[k]'hkB = u := ⟨_, rfl⟩
    rw [hua] at hgA
    rw [hub, hBd, app_get (N := 1024) z1 _ hAl hok, hgA] at hgB
    obtain ⟨xa, hxa⟩ : ∃ x, ua.toNat = x := ⟨_, rfl⟩
    obtain ⟨xb, hxb⟩ : ∃ x, ub.toNat = x := ⟨_, rfl⟩
    have ea : (PA[k]'hkA).toNat = xa := by rw [hua]; exact hxa
    have eb : (BP[k]'hkB).toNat = xb := by rw [hub]; exact hxb
    have HGB := Lib.hid hgB
    have HXA := Lib.hid hxa
    have HXB := Lib.hid hxb
    have e1 : (K : Int) % 1024 = (k : Int) := by omega
    have e2 : (K : Int).tmod 1024 = (k : Int) := by rw [Int.tmod_eq_emod_of_nonneg (by omega)]; exact e1
    have hk1 : k < 1024 := by omega
    have HH := Lib.hid w1
    have HL := Lib.hid hl
    have HQ := Lib.hid hok
    have t4 : ((BP.size : Int) != 1024) = false := by rw [hBs]; rfl
    have t4' : (BP.size != 1024) = false := by rw [hBs]; rfl
    have bsz : BP.size ≤ 1024 := by omega
    have asz : PA.size ≤ 1024 := by omega
    clear hLg hlg t1 t2 hpp hA hl w1 hAl hok h0 hBP hBl hBd hgA hgB hua hub hxa hxb hk hmw hAs hBs
    go_enter Try.func8, Try.ntmps8
    go_wp2_with (first
      | (go_at_call 10; (with_reducible refine HLg.out.mono ?_); rintro e w' ⟨rfl, rfl⟩)
      | (go_at_call 27; (with_reducible refine (HPP.out _).mono ?_); rintro e w4 ⟨rfl, b4⟩; have B4 := Lib.hid b4; clear b4)
      | (go_at_call 14; (with_reducible refine (HAp.out _ (HH.out.below B4.out)).mono ?_); rintro e w5 ⟨rfl, b5⟩; have B5 := Lib.hid (B4.out.trans (b5.mono B4.out.size)); clear b5))
    go_loopw [13] (fun i wr => ∃ k : Nat, k ≤ len1 ∧ i = .int .i64 k ∧ Below W.heap.size W wr) (fun i _ => len1 - (intOf i).toNat)
    case atStart => exact ⟨0, Nat.zero_le _, rfl, B5.out⟩
    case round =>
      obtain ⟨j, hj, rfl, hb⟩ := hrel
      have HB := Lib.hid hb
      by_cases hlt : j < len1
      · obtain ⟨b, o, rfl, hbl, hc⟩ := (HH.out.below hb).at (by omega)
        obtain ⟨c0, c1⟩ := hc j hlt
        have hg := good_at HH.out hlt
        have hmy := oks_at HQ.out (k := j) (by rw [HL.out]; exact hlt)
        obtain ⟨m, hm'⟩ : ∃ m, z1.getD j default = m := ⟨_, rfl⟩
        rw [hm'] at c0 c1 hg hmy
        obtain ⟨p, s⟩ := m
        simp only at c0 c1
        have hA := fun w => may_any 1024 p s w hg.s
        rw [hmy] at hA
        have HA := Lib.hid hA
        have d1 : decide ((j : Int) < (len1 : Int)) = true := decide_eq_true (by omega)
        have d1' : decide (j < len1) = true := decide_eq_true hlt
        clear hc hm' hb hg hbl hA hmy
        go_wp2_with (go_at_call 16; (with_reducible refine (HA.out _).mono ?_); rintro e w6 ⟨rfl, b6⟩; have B6 := Lib.hid (HB.out.trans (b6.mono HB.out.size)); clear b6)
        go_roundw
        case rel => exact ⟨j + 1, by omega, by go_num, B6.out⟩
        case measure => simp [intOf]; omega
      · obtain rfl : j = len1 := by omega
        have d1 : decide ((j : Int) < (j : Int)) = false := decide_eq_false (by omega)
        clear hb
        go_wp2_with fail
        clear e1 e2 t4 t4' ea
        go_loopw [15, 16] (fun x i wq => ∃ (t : Nat) (u : UInt8), t ≤ j ∧ i = .int .i64 t ∧ x = .int .u8 (u.toNat : Nat) ∧ wnt (some ua) k (z1.take t) = some u ∧ Below W.heap.size W wq) (fun _ i _ => j - (intOf i).toNat)
        case atStart => exact ⟨0, ua, Nat.zero_le _, rfl, by rw [HXA.out], rfl, HB.out⟩
        case round =>
          obtain ⟨t, u, ht, rfl, rfl, hw, hb⟩ := hrel
          have HBt := Lib.hid hb
          obtain ⟨xu, hxu⟩ : ∃ x, u.toNat = x := ⟨_, rfl⟩
          have HXU := Lib.hid hxu
          rw [hxu]
          by_cases hlt : t < j
          · obtain ⟨b, o, rfl, hbl, hc⟩ := (HH.out.below hb).at (by omega)
            obtain ⟨c0, c1⟩ := hc t hlt
            have hmy := oks_at HQ.out (k := t) (by rw [HL.out]; exact hlt)
            have hst := wnt_snoc (some ua) k (L := z1) (j := t) (by rw [HL.out]; exact hlt)
            obtain ⟨m, hm'⟩ : ∃ m, z1.getD t default = m := ⟨_, rfl⟩
            rw [hm'] at c0 c1 hmy hst
            obtain ⟨p, s⟩ := m
            obtain ⟨y1, y2, y3, y4⟩ := may_iff.1 hmy
            simp only at c0 c1 y2 y3 y4
            obtain ⟨P, rfl⟩ := Int.eq_ofNat_of_zero_le y2
            have hst2 : wnt (some ua) k (z1.take (t + 1)) = if P ≤ k ∧ k < P + s.size then s.data.toList[k - P]? else some u := by rw [hst, hw]; rfl
            have d1 : decide ((t : Int) < (j : Int)) = true := decide_eq_true (by omega)
            have d1' : decide (t < j) = true := decide_eq_true hlt
            have P1 : P ≤ 1024 := by omega
            have s1 : s.size ≤ 1024 := by omega
            have hj2 : t ≤ 9223372036854775806 := by omega
            by_cases hA : P ≤ k
            · have dA : decide ((P : Int) ≤ (k : Int)) = true := decide_eq_true (by omega)
              have dA' : decide (P ≤ k) = true := decide_eq_true hA
              obtain ⟨q, hq⟩ : ∃ q, k - P = q := ⟨_, rfl⟩
              have e7 : IntKind.i64.wrap ((k : Int) - (P : Int)) = (q : Int) := by rw [IntWalk.i64_in _ ⟨by omega, by omega⟩]; omega
              have e8 : (k : Int) - (P : Int) = (q : Int) := by omega
              by_cases hC : q < s.size
              · rw [if_pos ⟨hA, by omega⟩, hq, get_some s q hC] at hst2
                obtain ⟨us, hus⟩ : ∃ u, s[q]'hC = u := ⟨_, rfl⟩
                rw [hus] at hst2
                obtain ⟨xs, hxs⟩ : ∃ x, us.toNat = x := ⟨_, rfl⟩
                have e9 : (s[q]'hC).toNat = xs := by rw [hus]; exact hxs
                have HXS := Lib.hid hxs
                have HST := Lib.hid hst2
                have dC : decide ((q : Int) < (s.size : Int)) = true := decide_eq_true (by omega)
                have dC' : decide (q < s.size) = true := decide_eq_true hC
                clear hc hm' hb hbl hmy hst hst2 y1 y2 y3 y4 hw hq hus hxs hxu hA
                go_wp2_with fail
                go_quiet (fail)
                go_wp2_with fail
                go_quiet (fail)
                go_wp2_with fail
                go_roundw
                case rel => exact ⟨t + 1, us, by omega, by go_num, by rw [HXS.out], HST.out, bel_n HBt.out _⟩
                case measure => simp [intOf]; omega
              · rw [if_neg (by omega)] at hst2
                have HST := Lib.hid hst2
                have dC : decide ((q : Int) < (s.size : Int)) = false := decide_eq_false (by omega)
                have dC' : decide (q < s.size) = false := decide_eq_false hC
                clear hc hm' hb hbl hmy hst hst2 y1 y2 y3 y4 hw hq hxu hA hC
                go_wp2_with fail
                go_quiet (fail)
                go_wp2_with fail
                go_roundw
                case rel => exact ⟨t + 1, u, by omega, by go_num, by rw [HXU.out], HST.out, bel_n HBt.out _⟩
                case measure => simp [intOf]; omega
            · have dA : decide ((P : Int) ≤ (k : Int)) = false := decide_eq_false (by omega)
              have dA' : decide (P ≤ k) = false := decide_eq_false hA
              rw [if_neg (fun g => hA g.1)] at hst2
              have HST := Lib.hid hst2
              clear hc hm' hb hbl hmy hst hst2 y1 y2 y3 y4 hw hxu hA
              go_wp2_with fail
              go_quiet (fail)
              go_wp2_with fail
              go_roundw
              case rel => exact ⟨t + 1, u, by omega, by go_num, by rw [HXU.out], HST.out, bel_n HBt.out _⟩
              case measure => simp [intOf]; omega
          · obtain rfl : t = j := by omega
            rw [List.take_of_length_le (by rw [HL.out]; exact Nat.le_refl _), HGB.out] at hw
            injection hw with hw
            obtain rfl : xb = xu := by rw [← HXB.out, ← HXU.out, hw]
            have d1 : decide ((t : Int) < (t : Int)) = false := decide_eq_false (by omega)
            clear hb hw hxu
            go_wp2_with (first
              | (go_at_call 14; (with_reducible refine (HAw.out _).mono ?_); rintro e w8 ⟨rfl, b8⟩; have B8 := Lib.hid ((HBt.out.alloc HBt.out.size _).trans (b8.mono (by have := HBt.out.size; simp; omega))); clear b8)
              | (go_at_call 11; (with_reducible refine (HV.out _).mono ?_); rintro e w9 ⟨rfl, b9⟩; have B9 := Lib.hid (B8.out.trans (b9.mono B8.out.size)); clear b9))
            go_ret
            exact ⟨rfl, B9.out⟩
set_option maxRecDepth 1000000 in
set_option maxHeartbeats 4000000 in
theorem ModsLast_walk (a0 : ByteArray) (a1 : Option Addr) (len1 cap1 : Nat) (z1 : List Md) (a2 a3 : Int) (W : World) (w0 : a0.size ≤ maxLen) (w1 : IsMds W a1 len1 z1) (w2 : (Lit.int .u16 a2).wf = true) (w3 : (Lit.int .u8 a3).wf = true) :
    Calls Try.prog 8 #[.string a0, .slice a1 len1 cap1, .int .u16 a2, .int .u8 a3] W fun e w' => e = .returned (.bool true) ∧ Below W.heap.size W w' := by
  unfold maxLen at w0
  have HV := Lib.hid alive_any
  have hLg := long_any a1 len1 cap1 z1 W w1
  have y12 : 0 ≤ a2 ∧ a2 ≤ 65535 := by simpa [Lit.wf, IntKind.min, IntKind.max, IntKind.signed, IntKind.bits] using w2
  obtain ⟨y1, y2⟩ := y12
  obtain ⟨y3, y4⟩ := u8_bounds w3
  clear w2 w3
  by_cases h0 : 1024 < a0.size
  · have d0 : decide (1024 < (a0.size : Int)) = true := decide_eq_true (by omega)
    have d0' : decide (1024 < a0.size) = true := decide_eq_true h0
    clear h0 w1 hLg
    go_enter Try.func8, Try.ntmps8
    go_wp2_with (go_at_call 11; (with_reducible refine (HV.out _).mono ?_); rintro e w4 ⟨rfl, b4⟩; have B4 := Lib.hid b4; clear b4)
    go_ret
    exact ⟨rfl, B4.out⟩
  · cases hlg : lng z1 with
    | true =>
      rw [hlg] at hLg
      have HLg := Lib.hid hLg
      have d0 : decide (1024 < (a0.size : Int)) = false := decide_eq_false (by omega)
      have d0' : decide (1024 < a0.size) = false := decide_eq_false h0
      clear h0 w1 hLg hlg
      go_enter Try.func8, Try.ntmps8
      go_wp2_with (first
        | (go_at_call 10; (with_reducible refine HLg.out.mono ?_); rintro e w' ⟨rfl, rfl⟩)
        | (go_at_call 11; (with_reducible refine (HV.out _).mono ?_); rintro e w4 ⟨rfl, b4⟩; have B4 := Lib.hid b4; clear b4))
      go_ret
      exact ⟨rfl, B4.out⟩
    | false =>
      obtain ⟨K, rfl⟩ := Int.eq_ofNat_of_zero_le y1
      obtain ⟨F, rfl⟩ := Int.eq_ofNat_of_zero_le y3
      exact ModsLast_main a0 a1 len1 cap1 z1 K F W w1 (by omega) hlg (by omega) (by omega)
end Go.Proofs.Ytbbfbijgclpjeaa
