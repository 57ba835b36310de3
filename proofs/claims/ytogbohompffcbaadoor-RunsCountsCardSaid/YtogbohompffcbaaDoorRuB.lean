/- The document's zeros and others (layer 12). Conditions: as each theorem names them. -/
import Derived.Test.YtogbohompffcbaaDoorRuA
namespace Go.Proofs.YtogbohompffcbaaDoor.U
open Go Go.RowKit M
set_option linter.unusedVariables false
set_option linter.unusedSimpArgs false

/-- what a call that puts runs behind others answers -/
def MoreR (B : Nat) (w : World) (T : List Rn) (e : Ending) (w' : World) : Prop := ∃ v', e = .returned v' ∧ Owr B w' v' T ∧ Below B w w'

set_option maxRecDepth 1000000 in
set_option maxHeartbeats 1000000 in
theorem rzeros_any (B : Nat) (v : Value) (L : List Rn) (n : Nat) (w : World) (h : Owr B w v L) (hB : B ≤ w.heap.size) (hn : L.length + n ≤ 1000000) : Calls Tryd.prog 21 #[v, .int .i64 n] w (MoreR B w (L ++ zrs n)) := by
  obtain ⟨T, hT⟩ : ∃ T, L ++ zrs n = T := ⟨_, rfl⟩
  have hTl : T.length ≤ 1000000 := by rw [← hT, List.length_append]; have := zrs_len n; omega
  rw [hT]
  have HO := Lib.hid h
  have HT := Lib.hid hT
  have HTL := Lib.hid hTl
  have HBw := Lib.hid hB
  have hn2 : n ≤ 1000000 := by omega
  clear h hT hTl hB hn
  go_enter Tryd.func21, Tryd.ntmps21
  go_wp2_with fail
  go_loopw [0, 1] (fun v x wr => ∃ (L1 : List Rn) (m : Nat), x = .int .i64 m ∧ Owr B wr v L1 ∧ L1 ++ zrs m = T ∧ m ≤ n ∧ Below B w wr) (fun _ x _ => (intOf x).toNat)
  case atStart => exact ⟨L, n, rfl, HO.out, HT.out, Nat.le_refl _, Below.refl _ _⟩
  case round =>
    obtain ⟨L1, m, rfl, hO1, hT1, hm, hb1⟩ := hrel
    have hLb : L1.length ≤ 2000000 := by have := congrArg List.length hT1; rw [List.length_append] at this; have := HTL.out; omega
    have HO1 := Lib.hid hO1
    have HB1 := Lib.hid hb1
    by_cases h11 : 11 ≤ m
    · have d1 : decide (11 ≤ (m : Int)) = true := decide_eq_true (by omega)
      have d1' : decide (11 ≤ m) = true := decide_eq_true h11
      obtain ⟨k, hk⟩ : ∃ k, min m 138 = k := ⟨_, rfl⟩
      have k1 : (if (m : Int) < 138 then (m : Int) else 138) = (k : Int) := by split <;> omega
      have k2 : (if (138 : Int) < (m : Int) then (138 : Int) else (m : Int)) = (k : Int) := by split <;> omega
      have k3 : (if m < 138 then (m : Int) else 138) = (k : Int) := by split <;> omega
      have k4 : (if 138 < m then (138 : Int) else (m : Int)) = (k : Int) := by split <;> omega
      obtain ⟨x, hx⟩ : ∃ x, k - 11 = x := ⟨_, rfl⟩
      have ex : (k : Int) - 11 = (x : Int) := by omega
      have hx1 : x ≤ 127 := by omega
      have hkb : k ≤ 138 := by omega
      obtain ⟨m', hm'⟩ : ∃ m', m - k = m' := ⟨_, rfl⟩
      have em : (m : Int) - (k : Int) = (m' : Int) := by omega
      have HT2 := Lib.hid (show (L1 ++ [⟨18, x⟩]) ++ zrs m' = T from by
        rw [List.append_assoc]
        rw [zrs_many h11, hk, hx, hm'] at hT1
        exact hT1)
      have HM := Lib.hid (show m' < m ∧ m' ≤ n from by omega)
      clear hO1 hb1 hT1 h11 hk hx hm'
      go_wp2_with (at_builtin; refine wpList_ar rfl (.tmp 10) (.tmp 15) rfl B _ L1 rfl (HO1.out.alloc _) wr.heap.size 1 18 x rfl ⟨by simp, by simp⟩ (by omega) (by have := HB1.out.size; have := HBw.out; simp; omega) ?_; intro v' w' o' g' b'; have HO3 := Lib.hid o'; have HB3 := Lib.hid ((HB1.out.alloc (Nat.le_trans HBw.out HB1.out.size) _).trans b'); clear o' g' b')
      go_roundw
      case rel => exact ⟨_, m', rfl, HO3.out, HT2.out, HM.out.2, HB3.out⟩
      case measure => (have := HM.out.1; simp [intOf]; try omega)
    · have d1 : decide (11 ≤ (m : Int)) = false := decide_eq_false (by omega)
      have d1' : decide (11 ≤ m) = false := decide_eq_false h11
      by_cases h3 : 3 ≤ m
      · have d2 : decide (3 ≤ (m : Int)) = true := decide_eq_true (by omega)
        have d2' : decide (3 ≤ m) = true := decide_eq_true h3
        obtain ⟨x, hx⟩ : ∃ x, m - 3 = x := ⟨_, rfl⟩
        have ex : (m : Int) - 3 = (x : Int) := by omega
        have hx1 : x ≤ 127 := by omega
        have HT2 := Lib.hid (show L1 ++ [⟨17, x⟩] = T from by rw [zrs_some h11 h3, hx] at hT1; exact hT1)
        have hmb : m ≤ 10 := by omega
        clear hO1 hb1 hT1 h11 h3 hx
        go_wp2_with (at_builtin; refine wpList_ar rfl (.tmp 22) (.tmp 27) rfl B _ L1 rfl (HO1.out.alloc _) wr.heap.size 1 17 x rfl ⟨by simp, by simp⟩ (by omega) (by have := HB1.out.size; have := HBw.out; simp; omega) ?_; intro v' w' o' g' b'; have HO3 := Lib.hid o'; have HB3 := Lib.hid ((HB1.out.alloc (Nat.le_trans HBw.out HB1.out.size) _).trans b'); clear o' g' b')
        go_loopw [0, 1] (fun v x wr2 => ∃ (L2 : List Rn) (m2 : Nat), x = .int .i64 m2 ∧ Owr B wr2 v L2 ∧ L2 ++ List.replicate m2 ⟨0, 0⟩ = T ∧ m2 ≤ 10 ∧ Below B w wr2) (fun _ x _ => (intOf x).toNat)
        case atStart => exact ⟨_, 0, rfl, HO3.out, by rw [HT2.out]; simp, by omega, HB3.out⟩
        case round =>
          obtain ⟨L2, m2, rfl, hO2, hT2, hm2, hb2⟩ := hrel
          have hLb : L2.length ≤ 2000000 := by have := congrArg List.length hT2; rw [List.length_append] at this; have := HTL.out; omega
          have HO2 := Lib.hid hO2
          have HB2 := Lib.hid hb2
          by_cases hp : 0 < m2
          · have p1 : decide (0 < (m2 : Int)) = true := decide_eq_true (by omega)
            have p1' : decide (0 < m2) = true := decide_eq_true hp
            obtain ⟨m3, rfl⟩ : ∃ m3, m2 = m3 + 1 := ⟨m2 - 1, by omega⟩
            have HT3 := Lib.hid (show (L2 ++ [⟨0, 0⟩]) ++ List.replicate m3 ⟨0, 0⟩ = T from by rw [List.append_assoc]; rw [List.replicate_succ] at hT2; exact hT2)
            clear hO2 hb2 hT2
            go_wp2_with (at_builtin; refine wpList_ar rfl (.tmp 31) (.tmp 33) rfl B _ L2 rfl (HO2.out.alloc _) wr.heap.size 1 0 0 rfl ⟨by simp, by simp⟩ (by omega) (by have := HB2.out.size; have := HBw.out; simp; omega) ?_; intro v' w' o' g' b'; have HO3 := Lib.hid o'; have HB3 := Lib.hid ((HB2.out.alloc (Nat.le_trans HBw.out HB2.out.size) _).trans b'); clear o' g' b')
            go_roundw
            case rel => exact ⟨_, m3, by go_num, HO3.out, HT3.out, by omega, HB3.out⟩
            case measure => (simp [intOf]; try omega)
          · obtain rfl : m2 = 0 := by omega
            have p1 : decide (0 < ((0 : Nat) : Int)) = false := by decide
            have HT3 := Lib.hid (show L2 = T from by rw [← hT2]; simp)
            clear hO2 hb2 hT2
            go_wp2_with fail
            go_ret
            exact ⟨_, rfl, by rw [← HT3.out]; exact HO2.out, HB2.out⟩
      · have d2 : decide (3 ≤ (m : Int)) = false := decide_eq_false (by omega)
        have d2' : decide (3 ≤ m) = false := decide_eq_false h3
        have HT2 := Lib.hid (show L1 ++ List.replicate m ⟨0, 0⟩ = T from by rw [zrs_few h3] at hT1; exact hT1)
        have HM := Lib.hid (show m ≤ 10 by omega)
        clear hO1 hb1 hT1 h11 h3
        go_wp2_with fail
        go_loopw [0, 1] (fun v x wr2 => ∃ (L2 : List Rn) (m2 : Nat), x = .int .i64 m2 ∧ Owr B wr2 v L2 ∧ L2 ++ List.replicate m2 ⟨0, 0⟩ = T ∧ m2 ≤ 10 ∧ Below B w wr2) (fun _ x _ => (intOf x).toNat)
        case atStart => exact ⟨_, m, rfl, HO1.out, HT2.out, HM.out, HB1.out⟩
        case round =>
          obtain ⟨L2, m2, rfl, hO2, hT2, hm2, hb2⟩ := hrel
          have hLb : L2.length ≤ 2000000 := by have := congrArg List.length hT2; rw [List.length_append] at this; have := HTL.out; omega
          have HO2 := Lib.hid hO2
          have HB2 := Lib.hid hb2
          by_cases hp : 0 < m2
          · have p1 : decide (0 < (m2 : Int)) = true := decide_eq_true (by omega)
            have p1' : decide (0 < m2) = true := decide_eq_true hp
            obtain ⟨m3, rfl⟩ : ∃ m3, m2 = m3 + 1 := ⟨m2 - 1, by omega⟩
            have HT3 := Lib.hid (show (L2 ++ [⟨0, 0⟩]) ++ List.replicate m3 ⟨0, 0⟩ = T from by rw [List.append_assoc]; rw [List.replicate_succ] at hT2; exact hT2)
            clear hO2 hb2 hT2
            go_wp2_with (at_builtin; refine wpList_ar rfl (.tmp 31) (.tmp 33) rfl B _ L2 rfl (HO2.out.alloc _) wr.heap.size 1 0 0 rfl ⟨by simp, by simp⟩ (by omega) (by have := HB2.out.size; have := HBw.out; simp; omega) ?_; intro v' w' o' g' b'; have HO3 := Lib.hid o'; have HB3 := Lib.hid ((HB2.out.alloc (Nat.le_trans HBw.out HB2.out.size) _).trans b'); clear o' g' b')
            go_roundw
            case rel => exact ⟨_, m3, by go_num, HO3.out, HT3.out, by omega, HB3.out⟩
            case measure => (simp [intOf]; try omega)
          · obtain rfl : m2 = 0 := by omega
            have p1 : decide (0 < ((0 : Nat) : Int)) = false := by decide
            have HT3 := Lib.hid (show L2 = T from by rw [← hT2]; simp)
            clear hO2 hb2 hT2
            go_wp2_with fail
            go_ret
            exact ⟨_, rfl, by rw [← HT3.out]; exact HO2.out, HB2.out⟩

set_option maxRecDepth 1000000 in
set_option maxHeartbeats 1000000 in
theorem rothers_any (B : Nat) (v : Value) (L : List Rn) (c n : Nat) (w : World) (h : Owr B w v L) (hB : B ≤ w.heap.size) (hc : c ≤ 255) (hn1 : 1 ≤ n) (hn : L.length + n ≤ 1000000) : Calls Tryd.prog 22 #[v, .int .u8 c, .int .i64 n] w (MoreR B w (L ++ oth c n)) := by
  obtain ⟨T, hT⟩ : ∃ T, L ++ oth c n = T := ⟨_, rfl⟩
  have hTl : T.length ≤ 1000000 := by rw [← hT, List.length_append]; unfold oth; rw [List.length_cons]; have := oths_len c (n - 1); omega
  rw [hT]
  have HO := Lib.hid h
  have HT := Lib.hid (show (L ++ [⟨c, 0⟩]) ++ oths c (n - 1) = T from by rw [List.append_assoc]; unfold oth at hT; exact hT)
  have HTL := Lib.hid hTl
  have HBw := Lib.hid hB
  have hLb0 : L.length ≤ 2000000 := by omega
  obtain ⟨n0, hn0⟩ : ∃ n0, n - 1 = n0 := ⟨_, rfl⟩
  have en : (n : Int) - 1 = (n0 : Int) := by omega
  have hn2 : n0 ≤ 1000000 := by omega
  rw [hn0] at HT
  clear h hT hTl hB hn hn1 hn0
  go_enter Tryd.func22, Tryd.ntmps22
  go_wp2_with (at_builtin; refine wpList_ar rfl (.tmp 8) (.tmp 11) rfl B _ L rfl (HO.out.alloc _) w.heap.size 1 c 0 rfl ⟨by simp, by simp⟩ (by omega) (by have := HBw.out; simp; omega) ?_; intro v' w' o' g' b'; have HO0 := Lib.hid o'; have HB0 := Lib.hid (((Below.refl B w).alloc HBw.out _).trans b'); clear o' g' b')
  go_loopw [0, 2] (fun v x wr => ∃ (L1 : List Rn) (m : Nat), x = .int .i64 m ∧ Owr B wr v L1 ∧ L1 ++ oths c m = T ∧ m ≤ n0 ∧ Below B w wr) (fun _ x _ => (intOf x).toNat)
  case atStart => exact ⟨_, n0, rfl, HO0.out, HT.out, Nat.le_refl _, HB0.out⟩
  case round =>
    obtain ⟨L1, m, rfl, hO1, hT1, hm, hb1⟩ := hrel
    have hLb : L1.length ≤ 2000000 := by have := congrArg List.length hT1; rw [List.length_append] at this; have := HTL.out; omega
    have HO1 := Lib.hid hO1
    have HB1 := Lib.hid hb1
    by_cases h3 : 3 ≤ m
    · have d1 : decide (3 ≤ (m : Int)) = true := decide_eq_true (by omega)
      have d1' : decide (3 ≤ m) = true := decide_eq_true h3
      obtain ⟨k, hk⟩ : ∃ k, min m 6 = k := ⟨_, rfl⟩
      have k1 : (if (m : Int) < 6 then (m : Int) else 6) = (k : Int) := by split <;> omega
      have k2 : (if (6 : Int) < (m : Int) then (6 : Int) else (m : Int)) = (k : Int) := by split <;> omega
      have k3 : (if m < 6 then (m : Int) else 6) = (k : Int) := by split <;> omega
      have k4 : (if 6 < m then (6 : Int) else (m : Int)) = (k : Int) := by split <;> omega
      obtain ⟨x, hx⟩ : ∃ x, k - 3 = x := ⟨_, rfl⟩
      have ex : (k : Int) - 3 = (x : Int) := by omega
      have hx1 : x ≤ 127 := by omega
      have hkb : k ≤ 6 := by omega
      obtain ⟨m', hm'⟩ : ∃ m', m - k = m' := ⟨_, rfl⟩
      have em : (m : Int) - (k : Int) = (m' : Int) := by omega
      have HT2 := Lib.hid (show (L1 ++ [⟨16, x⟩]) ++ oths c m' = T from by
        rw [List.append_assoc]
        rw [oths_many h3, hk, hx, hm'] at hT1
        exact hT1)
      have HM := Lib.hid (show m' < m ∧ m' ≤ n0 from by omega)
      clear hO1 hb1 hT1 h3 hk hx hm'
      go_wp2_with (at_builtin; refine wpList_ar rfl (.tmp 19) (.tmp 24) rfl B _ L1 rfl (HO1.out.alloc _) wr.heap.size 1 16 x rfl ⟨by simp, by simp⟩ (by omega) (by have := HB1.out.size; have := HBw.out; simp; omega) ?_; intro v' w' o' g' b'; have HO3 := Lib.hid o'; have HB3 := Lib.hid ((HB1.out.alloc (Nat.le_trans HBw.out HB1.out.size) _).trans b'); clear o' g' b')
      go_roundw
      case rel => exact ⟨_, m', rfl, HO3.out, HT2.out, HM.out.2, HB3.out⟩
      case measure => (have := HM.out.1; simp [intOf]; try omega)
    · have d1 : decide (3 ≤ (m : Int)) = false := decide_eq_false (by omega)
      have d1' : decide (3 ≤ m) = false := decide_eq_false h3
      have HT2 := Lib.hid (show L1 ++ List.replicate m ⟨c, 0⟩ = T from by rw [oths_few h3] at hT1; exact hT1)
      have HM := Lib.hid (show m ≤ 10 by omega)
      clear hO1 hb1 hT1 h3
      go_wp2_with fail
      go_loopw [0, 2] (fun v x wr2 => ∃ (L2 : List Rn) (m2 : Nat), x = .int .i64 m2 ∧ Owr B wr2 v L2 ∧ L2 ++ List.replicate m2 ⟨c, 0⟩ = T ∧ m2 ≤ 10 ∧ Below B w wr2) (fun _ x _ => (intOf x).toNat)
      case atStart => exact ⟨_, m, rfl, HO1.out, HT2.out, HM.out, HB1.out⟩
      case round =>
        obtain ⟨L2, m2, rfl, hO2, hT2, hm2, hb2⟩ := hrel
        have hLb : L2.length ≤ 2000000 := by have := congrArg List.length hT2; rw [List.length_append] at this; have := HTL.out; omega
        have HO2 := Lib.hid hO2
        have HB2 := Lib.hid hb2
        by_cases hp : 0 < m2
        · have p1 : decide (0 < (m2 : Int)) = true := decide_eq_true (by omega)
          have p1' : decide (0 < m2) = true := decide_eq_true hp
          obtain ⟨m3, rfl⟩ : ∃ m3, m2 = m3 + 1 := ⟨m2 - 1, by omega⟩
          have HT3 := Lib.hid (show (L2 ++ [⟨c, 0⟩]) ++ List.replicate m3 ⟨c, 0⟩ = T from by rw [List.append_assoc]; rw [List.replicate_succ] at hT2; exact hT2)
          clear hO2 hb2 hT2
          go_wp2_with (at_builtin; refine wpList_ar rfl (.tmp 31) (.tmp 34) rfl B _ L2 rfl (HO2.out.alloc _) wr.heap.size 1 c 0 rfl ⟨by simp, by simp⟩ (by omega) (by have := HB2.out.size; have := HBw.out; simp; omega) ?_; intro v' w' o' g' b'; have HO3 := Lib.hid o'; have HB3 := Lib.hid ((HB2.out.alloc (Nat.le_trans HBw.out HB2.out.size) _).trans b'); clear o' g' b')
          go_roundw
          case rel => exact ⟨_, m3, by go_num, HO3.out, HT3.out, by omega, HB3.out⟩
          case measure => (simp [intOf]; try omega)
        · obtain rfl : m2 = 0 := by omega
          have p1 : decide (0 < ((0 : Nat) : Int)) = false := by decide
          have HT3 := Lib.hid (show L2 = T from by rw [← hT2]; simp)
          clear hO2 hb2 hT2
          go_wp2_with fail
          go_ret
          exact ⟨_, rfl, by rw [← HT3.out]; exact HO2.out, HB2.out⟩
end Go.Proofs.YtogbohompffcbaaDoor.U
