/- The walk of BitwRoom: it returns true for any arguments that their kinds hold. Conditions: none. -/
import Derived.Test.YtilogllncjlkfaaHvy
import Derived.Test.YtilogllncjlkfaaDuq
import Derived.Test.YtilogllncjlkfaaMathR
namespace Go.Proofs.Ytilogllncjlkfaa
open Go.RowKit M
set_option linter.unusedVariables false

theorem szs_mem {c : Cl} : ∀ {l : List Cl}, c ∈ l → c.s.size ≤ szs l
  | x :: r, h => by
    have e : szs (x :: r) = x.s.size + szs r := by simp [szs]
    rcases List.mem_cons.1 h with rfl | g
    · omega
    · have := szs_mem g; omega
theorem light {cs : List Cl} (h : heavyB cs = false) : szs cs ≤ 4096 ∧ cs.length ≤ 300 := by
  have := of_decide_eq_false h
  omega

set_option maxHeartbeats 4000000 in
set_option maxRecDepth 100000 in
theorem room_go (m : Nat) (ao : Option Addr) (len cap : Nat) (cs : List Cl) (w : World) (hm : m ≤ 255) (hl : IsCalls w ao len cs) (hh : heavyB cs = false) :
    Calls Try.prog 7 #[.int .u8 m, .slice ao len cap] w fun e w' => e = .returned (.bool true) ∧ Below w.heap.size w w' := by
  have HL := Lib.hid hl
  have HH := Lib.hid hh
  have hlm : len ≤ 9223372036854775807 := hl.most
  clear hl hh
  go_enter Try.func7, Try.ntmps7
  go_wp2_with fail
  refine (heavy_any HL.out false HH.out).mono ?_; rintro e w' ⟨rfl, rfl⟩
  go_wp2_with fail
  refine (new_any (m : Int) _ (Nat.le_refl _)).mono ?_; rintro e w1 ⟨rfl, k1, r1, l1⟩
  go_wp2_with fail
  refine (new_any 65536 _ k1.size).mono ?_; rintro e w2 ⟨rfl, k2, r2, l2⟩
  have d0 := duo_new (Nat.le_refl _) k1 r1 l1 k2 r2
  rw [show max 0 (m : Int) = (m : Int) by omega] at d0
  generalize hpb : w1.heap.size = pb at *
  generalize hpa : w.heap.size = pa at *
  have D1 : Hid (Duo w2 pa pa pb m 65536 0 0 0 0 ∧ Below pa w w2) := d0
  have HPA := Lib.hid hpa
  clear hpb hpa k1 r1 l1 k2 r2 l2 d0
  go_wp2_with fail
  go_loopw [7] (fun i wr => ∃ (k V L : Nat), k ≤ len ∧ i = .int .i64 k ∧ (L + 7) / 8 ≤ m ∧ Duo wr pa pa pb m 65536 V L V L ∧ Below pa w wr) (fun i _ => len - (intOf i).toNat)
  case atStart => exact ⟨0, 0, 0, Nat.zero_le _, rfl, Nat.zero_le _, D1.out.1, D1.out.2⟩
  case round =>
    obtain ⟨k, V, L, hk, rfl, hLm, hd, hb⟩ := hrel
    have DD := Lib.hid hd
    have HB := Lib.hid hb
    have HC := Lib.hid (HL.out.below (by rw [HPA.out]; exact hb))
    clear hd hb D1
    by_cases hlt : k < len
    · have hlt' : decide (k < len) = true := decide_eq_true hlt
      have hkl : k < cs.length := by rw [HC.out.leng]; exact hlt
      have hc := HC.out.good cs[k] (List.getElem_mem hkl)
      have hmem := List.getElem_mem hkl
      rcases HC.out.cells with h0 | ⟨b, o, rfl, hbw, hcell⟩
      · omega
      · have hcs := hcell k cs[k] (List.getElem?_eq_getElem hkl)
        generalize cs[k] = c at *
        have q0 := hcs.d
        have q1 := hcs.n
        have q2 := hcs.z
        have q3 := hcs.s
        have c0 := hc.d
        have c1 := hc.n
        have c2 := hc.z
        have c3 := hc.s
        clear hcs hc hcell
        have hs4 : c.s.size ≤ 4096 := Nat.le_trans (szs_mem hmem) (light HH.out).1
        have hL9 : L ≤ 2040 := by omega
        obtain ⟨E, V1, L1, hE⟩ : ∃ E V1 L1, callR m V L c.d c.n c.z c.s = (E, V1, L1) := ⟨_, _, _, rfl⟩
        obtain ⟨F, V2, L2, hF⟩ : ∃ F V2 L2, callR 65536 V L c.d c.n c.z c.s = (F, V2, L2) := ⟨_, _, _, rfl⟩
        have RR := Lib.hid (room_step m V L c.d c.n c.z c.s hm hLm hs4 E V1 L1 hE F V2 L2 hF)
        obtain ⟨d2, b2⟩ := DD.out.duq (.cells #[.int .u8 c.d, .int .u64 c.n, .int .i64 c.z, .string c.s] 32)
        have p0 : (wr.alloc (.cells #[.int .u8 c.d, .int .u64 c.n, .int .i64 c.z, .string c.s] 32)).cell? ⟨wr.heap.size, 0, none⟩ = some (.int .u8 c.d) := by simp
        have p1 : (wr.alloc (.cells #[.int .u8 c.d, .int .u64 c.n, .int .i64 c.z, .string c.s] 32)).cell? ⟨wr.heap.size, 1, none⟩ = some (.int .u64 c.n) := by simp
        have p2 : (wr.alloc (.cells #[.int .u8 c.d, .int .u64 c.n, .int .i64 c.z, .string c.s] 32)).cell? ⟨wr.heap.size, 2, none⟩ = some (.int .i64 c.z) := by simp
        have p3 : (wr.alloc (.cells #[.int .u8 c.d, .int .u64 c.n, .int .i64 c.z, .string c.s] 32)).cell? ⟨wr.heap.size, 3, none⟩ = some (.string c.s) := by simp
        have D2 := Lib.hid d2
        have B2 := Lib.hid (HB.out.trans b2)
        have HE := Lib.hid hE
        have HF := Lib.hid hF
        clear d2 b2 hE hF hmem
        rcases (show c.d % 8 = 5 ∨ c.d % 8 = 6 ∨ c.d % 8 = 7 ∨ (c.d % 8 ≠ 5 ∧ c.d % 8 ≠ 6 ∧ c.d % 8 ≠ 7) by omega) with h5 | h6 | h7 | ⟨g5, g6, g7⟩
        · have s5 : (c.d % 8 == 5) = true := by simp [h5]
          have ha := Lib.hid ((callR_5 h5).symm.trans HE.out)
          have hb := Lib.hid ((callR_5 h5).symm.trans HF.out)
          clear h5
          go_wp2_with fail
          refine (duq_align_a D2.out (by omega) E V1 L1 ha.out).mono ?_; rintro e w3 ⟨rfl, d3, f3⟩
          have D3 := Lib.hid d3
          have F3 := Lib.hid f3
          have B3 := Lib.hid (B2.out.trans f3.1)
          have t0 := (f3.cell 0).trans p0
          have t1 := (f3.cell 1).trans p1
          have t2 := (f3.cell 2).trans p2
          have t3 := (f3.cell 3).trans p3
          clear d3 f3
          go_wp2_with fail
          refine (duq_align_b D3.out (by omega) F V2 L2 hb.out).mono ?_; rintro e w4 ⟨rfl, d4, f4⟩
          have D4 := Lib.hid d4.duo
          have B4 := Lib.hid (B3.out.trans f4.1)
          clear d4 f4 t0 t1 t2 t3
          clear p0 p1 p2 p3 q0 q1 q2 q3
          rcases RR.out with ⟨e1, e2, e3, e4⟩ | ⟨e1, e2, e3, e4, e5⟩
          · subst e1 e2
            have hgt : (m : Int) < (((L2 + 7) / 8 : Nat) : Int) := by omega
            obtain ⟨TL, hTL⟩ : ∃ TL, (L2 + 7) / 8 = TL := ⟨_, rfl⟩
            rw [hTL] at hgt
            have hts : (textR V2 L2).size = TL := (text_size V2 L2).trans hTL
            generalize hT : textR V2 L2 = T2 at *
            have HT := Lib.hid hT
            clear e3 hTL hT
            go_wp2_with fail
            refine (duo_text_b D4.out (by omega)).mono ?_; rintro e w5 ⟨rfl, d5, b5⟩
            rw [HT.out]
            have D5 := Lib.hid d5
            have B5 := Lib.hid (B4.out.trans b5)
            clear d5 b5
            go_wp2_with fail
            refine (alive_any _).mono ?_; rintro e w6 ⟨rfl, b6⟩
            have B6 := Lib.hid (B5.out.trans (b6.mono D5.out.base))
            clear b6
            go_wp2_with fail
            go_ret
            exact ⟨rfl, by rw [HPA.out]; exact B6.out⟩
          · subst e2 e3 e4
            have hne : (F == 4) = false := by simp [e1]
            obtain ⟨TL, hTL⟩ : ∃ TL, (L2 + 7) / 8 = TL := ⟨_, rfl⟩
            have hle : (TL : Int) ≤ (m : Int) := by omega
            have hts : (textR V2 L2).size = TL := (text_size V2 L2).trans hTL
            generalize hT : textR V2 L2 = T1 at *
            have HT := Lib.hid hT
            have H5 := Lib.hid e5
            have hL2 : L2 ≤ 100000 := by omega
            clear e1 hTL hT e5
            go_wp2_with fail
            refine (duo_text_a D4.out (by omega)).mono ?_; rintro e w5 ⟨rfl, d5, b5⟩
            rw [HT.out]
            have D5 := Lib.hid d5
            have B5 := Lib.hid (B4.out.trans b5)
            clear d5 b5
            go_wp2_with fail
            refine (duo_text_b D5.out (by omega)).mono ?_; rintro e w6 ⟨rfl, d6, b6⟩
            rw [HT.out]
            have D6 := Lib.hid d6
            have B6 := Lib.hid (B5.out.trans b6)
            clear d6 b6
            go_wp2_with fail
            refine (duo_len_a D6.out (by omega)).mono ?_; rintro e w7 ⟨rfl, d7, b7⟩
            have D7 := Lib.hid d7
            have B7 := Lib.hid (B6.out.trans b7)
            clear d7 b7
            go_wp2_with fail
            refine (duo_len_b D7.out (by omega)).mono ?_; rintro e w8 ⟨rfl, d8, b8⟩
            have D8 := Lib.hid d8
            have B8 := Lib.hid (B7.out.trans b8)
            clear d8 b8
            go_wp2_with fail
            refine (duo_text_b D8.out (by omega)).mono ?_; rintro e w9 ⟨rfl, d9, b9⟩
            rw [HT.out]
            have D9 := Lib.hid d9
            have B9 := Lib.hid (B8.out.trans b9)
            clear d9 b9
            go_wp2_with fail
            go_roundw
            case rel => exact ⟨k + 1, V2, L2, by omega, by go_num, H5.out, D9.out, B9.out⟩
            case measure => simp [intOf]; omega
        · have s5 : (c.d % 8 == 5) = false := by simp [h6]
          have s6 : (c.d % 8 == 6) = true := by simp [h6]
          have ha := Lib.hid ((callR_67 (.inl h6)).symm.trans HE.out)
          have hb := Lib.hid ((callR_67 (.inl h6)).symm.trans HF.out)
          clear h6
          go_wp2_with fail
          refine (duq_bytes_a D2.out c.s (by omega) (by omega) E V1 L1 ha.out).mono ?_; rintro e w3 ⟨rfl, d3, f3⟩
          have D3 := Lib.hid d3
          have F3 := Lib.hid f3
          have B3 := Lib.hid (B2.out.trans f3.1)
          have t0 := (f3.cell 0).trans p0
          have t1 := (f3.cell 1).trans p1
          have t2 := (f3.cell 2).trans p2
          have t3 := (f3.cell 3).trans p3
          clear d3 f3
          go_wp2_with fail
          refine (duq_bytes_b D3.out c.s (by omega) (by omega) F V2 L2 hb.out).mono ?_; rintro e w4 ⟨rfl, d4, f4⟩
          have D4 := Lib.hid d4.duo
          have B4 := Lib.hid (B3.out.trans f4.1)
          clear d4 f4 t0 t1 t2 t3
          clear p0 p1 p2 p3 q0 q1 q2 q3
          rcases RR.out with ⟨e1, e2, e3, e4⟩ | ⟨e1, e2, e3, e4, e5⟩
          · subst e1 e2
            have hgt : (m : Int) < (((L2 + 7) / 8 : Nat) : Int) := by omega
            obtain ⟨TL, hTL⟩ : ∃ TL, (L2 + 7) / 8 = TL := ⟨_, rfl⟩
            rw [hTL] at hgt
            have hts : (textR V2 L2).size = TL := (text_size V2 L2).trans hTL
            generalize hT : textR V2 L2 = T2 at *
            have HT := Lib.hid hT
            clear e3 hTL hT
            go_wp2_with fail
            refine (duo_text_b D4.out (by omega)).mono ?_; rintro e w5 ⟨rfl, d5, b5⟩
            rw [HT.out]
            have D5 := Lib.hid d5
            have B5 := Lib.hid (B4.out.trans b5)
            clear d5 b5
            go_wp2_with fail
            refine (alive_any _).mono ?_; rintro e w6 ⟨rfl, b6⟩
            have B6 := Lib.hid (B5.out.trans (b6.mono D5.out.base))
            clear b6
            go_wp2_with fail
            go_ret
            exact ⟨rfl, by rw [HPA.out]; exact B6.out⟩
          · subst e2 e3 e4
            have hne : (F == 4) = false := by simp [e1]
            obtain ⟨TL, hTL⟩ : ∃ TL, (L2 + 7) / 8 = TL := ⟨_, rfl⟩
            have hle : (TL : Int) ≤ (m : Int) := by omega
            have hts : (textR V2 L2).size = TL := (text_size V2 L2).trans hTL
            generalize hT : textR V2 L2 = T1 at *
            have HT := Lib.hid hT
            have H5 := Lib.hid e5
            have hL2 : L2 ≤ 100000 := by omega
            clear e1 hTL hT e5
            go_wp2_with fail
            refine (duo_text_a D4.out (by omega)).mono ?_; rintro e w5 ⟨rfl, d5, b5⟩
            rw [HT.out]
            have D5 := Lib.hid d5
            have B5 := Lib.hid (B4.out.trans b5)
            clear d5 b5
            go_wp2_with fail
            refine (duo_text_b D5.out (by omega)).mono ?_; rintro e w6 ⟨rfl, d6, b6⟩
            rw [HT.out]
            have D6 := Lib.hid d6
            have B6 := Lib.hid (B5.out.trans b6)
            clear d6 b6
            go_wp2_with fail
            refine (duo_len_a D6.out (by omega)).mono ?_; rintro e w7 ⟨rfl, d7, b7⟩
            have D7 := Lib.hid d7
            have B7 := Lib.hid (B6.out.trans b7)
            clear d7 b7
            go_wp2_with fail
            refine (duo_len_b D7.out (by omega)).mono ?_; rintro e w8 ⟨rfl, d8, b8⟩
            have D8 := Lib.hid d8
            have B8 := Lib.hid (B7.out.trans b8)
            clear d8 b8
            go_wp2_with fail
            refine (duo_text_b D8.out (by omega)).mono ?_; rintro e w9 ⟨rfl, d9, b9⟩
            rw [HT.out]
            have D9 := Lib.hid d9
            have B9 := Lib.hid (B8.out.trans b9)
            clear d9 b9
            go_wp2_with fail
            go_roundw
            case rel => exact ⟨k + 1, V2, L2, by omega, by go_num, H5.out, D9.out, B9.out⟩
            case measure => simp [intOf]; omega
        · have s5 : (c.d % 8 == 5) = false := by simp [h7]
          have s6 : (c.d % 8 == 6) = false := by simp [h7]
          have s7 : (c.d % 8 == 7) = true := by simp [h7]
          have ha := Lib.hid ((callR_67 (.inr h7)).symm.trans HE.out)
          have hb := Lib.hid ((callR_67 (.inr h7)).symm.trans HF.out)
          clear h7
          go_wp2_with fail
          refine (duq_bytes_a D2.out c.s (by omega) (by omega) E V1 L1 ha.out).mono ?_; rintro e w3 ⟨rfl, d3, f3⟩
          have D3 := Lib.hid d3
          have F3 := Lib.hid f3
          have B3 := Lib.hid (B2.out.trans f3.1)
          have t0 := (f3.cell 0).trans p0
          have t1 := (f3.cell 1).trans p1
          have t2 := (f3.cell 2).trans p2
          have t3 := (f3.cell 3).trans p3
          clear d3 f3
          go_wp2_with fail
          refine (duq_bytes_b D3.out c.s (by omega) (by omega) F V2 L2 hb.out).mono ?_; rintro e w4 ⟨rfl, d4, f4⟩
          have D4 := Lib.hid d4.duo
          have B4 := Lib.hid (B3.out.trans f4.1)
          clear d4 f4 t0 t1 t2 t3
          clear p0 p1 p2 p3 q0 q1 q2 q3
          rcases RR.out with ⟨e1, e2, e3, e4⟩ | ⟨e1, e2, e3, e4, e5⟩
          · subst e1 e2
            have hgt : (m : Int) < (((L2 + 7) / 8 : Nat) : Int) := by omega
            obtain ⟨TL, hTL⟩ : ∃ TL, (L2 + 7) / 8 = TL := ⟨_, rfl⟩
            rw [hTL] at hgt
            have hts : (textR V2 L2).size = TL := (text_size V2 L2).trans hTL
            generalize hT : textR V2 L2 = T2 at *
            have HT := Lib.hid hT
            clear e3 hTL hT
            go_wp2_with fail
            refine (duo_text_b D4.out (by omega)).mono ?_; rintro e w5 ⟨rfl, d5, b5⟩
            rw [HT.out]
            have D5 := Lib.hid d5
            have B5 := Lib.hid (B4.out.trans b5)
            clear d5 b5
            go_wp2_with fail
            refine (alive_any _).mono ?_; rintro e w6 ⟨rfl, b6⟩
            have B6 := Lib.hid (B5.out.trans (b6.mono D5.out.base))
            clear b6
            go_wp2_with fail
            go_ret
            exact ⟨rfl, by rw [HPA.out]; exact B6.out⟩
          · subst e2 e3 e4
            have hne : (F == 4) = false := by simp [e1]
            obtain ⟨TL, hTL⟩ : ∃ TL, (L2 + 7) / 8 = TL := ⟨_, rfl⟩
            have hle : (TL : Int) ≤ (m : Int) := by omega
            have hts : (textR V2 L2).size = TL := (text_size V2 L2).trans hTL
            generalize hT : textR V2 L2 = T1 at *
            have HT := Lib.hid hT
            have H5 := Lib.hid e5
            have hL2 : L2 ≤ 100000 := by omega
            clear e1 hTL hT e5
            go_wp2_with fail
            refine (duo_text_a D4.out (by omega)).mono ?_; rintro e w5 ⟨rfl, d5, b5⟩
            rw [HT.out]
            have D5 := Lib.hid d5
            have B5 := Lib.hid (B4.out.trans b5)
            clear d5 b5
            go_wp2_with fail
            refine (duo_text_b D5.out (by omega)).mono ?_; rintro e w6 ⟨rfl, d6, b6⟩
            rw [HT.out]
            have D6 := Lib.hid d6
            have B6 := Lib.hid (B5.out.trans b6)
            clear d6 b6
            go_wp2_with fail
            refine (duo_len_a D6.out (by omega)).mono ?_; rintro e w7 ⟨rfl, d7, b7⟩
            have D7 := Lib.hid d7
            have B7 := Lib.hid (B6.out.trans b7)
            clear d7 b7
            go_wp2_with fail
            refine (duo_len_b D7.out (by omega)).mono ?_; rintro e w8 ⟨rfl, d8, b8⟩
            have D8 := Lib.hid d8
            have B8 := Lib.hid (B7.out.trans b8)
            clear d8 b8
            go_wp2_with fail
            refine (duo_text_b D8.out (by omega)).mono ?_; rintro e w9 ⟨rfl, d9, b9⟩
            rw [HT.out]
            have D9 := Lib.hid d9
            have B9 := Lib.hid (B8.out.trans b9)
            clear d9 b9
            go_wp2_with fail
            go_roundw
            case rel => exact ⟨k + 1, V2, L2, by omega, by go_num, H5.out, D9.out, B9.out⟩
            case measure => simp [intOf]; omega
        · have s5 : (c.d % 8 == 5) = false := by simp [g5]
          have s6 : (c.d % 8 == 6) = false := by simp [g6]
          have s7 : (c.d % 8 == 7) = false := by simp [g7]
          have ha := Lib.hid ((callR_0 g5 (by omega)).symm.trans HE.out)
          have hb := Lib.hid ((callR_0 g5 (by omega)).symm.trans HF.out)
          clear g5 g6 g7
          go_wp2_with fail
          refine (duq_bits_a D2.out c.n c.z c1.1 (by omega) E V1 L1 ha.out).mono ?_; rintro e w3 ⟨rfl, d3, f3⟩
          have D3 := Lib.hid d3
          have F3 := Lib.hid f3
          have B3 := Lib.hid (B2.out.trans f3.1)
          have t0 := (f3.cell 0).trans p0
          have t1 := (f3.cell 1).trans p1
          have t2 := (f3.cell 2).trans p2
          have t3 := (f3.cell 3).trans p3
          clear d3 f3
          go_wp2_with fail
          refine (duq_bits_b D3.out c.n c.z c1.1 (by omega) F V2 L2 hb.out).mono ?_; rintro e w4 ⟨rfl, d4, f4⟩
          have D4 := Lib.hid d4.duo
          have B4 := Lib.hid (B3.out.trans f4.1)
          clear d4 f4 t0 t1 t2 t3
          clear p0 p1 p2 p3 q0 q1 q2 q3
          rcases RR.out with ⟨e1, e2, e3, e4⟩ | ⟨e1, e2, e3, e4, e5⟩
          · subst e1 e2
            have hgt : (m : Int) < (((L2 + 7) / 8 : Nat) : Int) := by omega
            obtain ⟨TL, hTL⟩ : ∃ TL, (L2 + 7) / 8 = TL := ⟨_, rfl⟩
            rw [hTL] at hgt
            have hts : (textR V2 L2).size = TL := (text_size V2 L2).trans hTL
            generalize hT : textR V2 L2 = T2 at *
            have HT := Lib.hid hT
            clear e3 hTL hT
            go_wp2_with fail
            refine (duo_text_b D4.out (by omega)).mono ?_; rintro e w5 ⟨rfl, d5, b5⟩
            rw [HT.out]
            have D5 := Lib.hid d5
            have B5 := Lib.hid (B4.out.trans b5)
            clear d5 b5
            go_wp2_with fail
            refine (alive_any _).mono ?_; rintro e w6 ⟨rfl, b6⟩
            have B6 := Lib.hid (B5.out.trans (b6.mono D5.out.base))
            clear b6
            go_wp2_with fail
            go_ret
            exact ⟨rfl, by rw [HPA.out]; exact B6.out⟩
          · subst e2 e3 e4
            have hne : (F == 4) = false := by simp [e1]
            obtain ⟨TL, hTL⟩ : ∃ TL, (L2 + 7) / 8 = TL := ⟨_, rfl⟩
            have hle : (TL : Int) ≤ (m : Int) := by omega
            have hts : (textR V2 L2).size = TL := (text_size V2 L2).trans hTL
            generalize hT : textR V2 L2 = T1 at *
            have HT := Lib.hid hT
            have H5 := Lib.hid e5
            have hL2 : L2 ≤ 100000 := by omega
            clear e1 hTL hT e5
            go_wp2_with fail
            refine (duo_text_a D4.out (by omega)).mono ?_; rintro e w5 ⟨rfl, d5, b5⟩
            rw [HT.out]
            have D5 := Lib.hid d5
            have B5 := Lib.hid (B4.out.trans b5)
            clear d5 b5
            go_wp2_with fail
            refine (duo_text_b D5.out (by omega)).mono ?_; rintro e w6 ⟨rfl, d6, b6⟩
            rw [HT.out]
            have D6 := Lib.hid d6
            have B6 := Lib.hid (B5.out.trans b6)
            clear d6 b6
            go_wp2_with fail
            refine (duo_len_a D6.out (by omega)).mono ?_; rintro e w7 ⟨rfl, d7, b7⟩
            have D7 := Lib.hid d7
            have B7 := Lib.hid (B6.out.trans b7)
            clear d7 b7
            go_wp2_with fail
            refine (duo_len_b D7.out (by omega)).mono ?_; rintro e w8 ⟨rfl, d8, b8⟩
            have D8 := Lib.hid d8
            have B8 := Lib.hid (B7.out.trans b8)
            clear d8 b8
            go_wp2_with fail
            refine (duo_text_b D8.out (by omega)).mono ?_; rintro e w9 ⟨rfl, d9, b9⟩
            rw [HT.out]
            have D9 := Lib.hid d9
            have B9 := Lib.hid (B8.out.trans b9)
            clear d9 b9
            go_wp2_with fail
            go_roundw
            case rel => exact ⟨k + 1, V2, L2, by omega, by go_num, H5.out, D9.out, B9.out⟩
            case measure => simp [intOf]; omega
    · obtain rfl : k = len := by omega
      have hlt' : decide (k < k) = false := decide_eq_false (by omega)
      clear hlt hk
      go_wp2_with fail
      refine (alive_any _).mono ?_; rintro e w15 ⟨rfl, b15⟩
      have B15 := Lib.hid (HB.out.trans (b15.mono DD.out.base))
      clear b15
      go_wp2_with fail
      go_ret
      exact ⟨rfl, by rw [HPA.out]; exact B15.out⟩

theorem BitwRoom_walk (a0 : Int) (a1 : Option Addr) (len1 cap1 : Nat) (z1 : List Cl) (w : World) (w0 : (Lit.int .u8 a0).wf = true) (w1 : IsCalls w a1 len1 z1) :
    Calls Try.prog 7 #[.int .u8 a0, .slice a1 len1 cap1] w fun e w' => e = .returned (.bool true) ∧ Below w.heap.size w w' := by
  have h0 := u8_bounds w0
  obtain ⟨m, rfl⟩ := Int.eq_ofNat_of_zero_le h0.1
  cases hh : heavyB z1 with
  | false => exact room_go m a1 len1 cap1 z1 w (by omega) w1 hh
  | true =>
    have HH := Lib.hid hh
    have H1 := Lib.hid w1
    clear hh w1 h0
    go_enter Try.func7, Try.ntmps7
    go_wp2_with fail
    refine (heavy_any H1.out true HH.out).mono ?_; rintro e w' ⟨rfl, rfl⟩
    go_wp2_with fail
    refine (alive_any _).mono ?_; rintro e w' ⟨rfl, hb⟩
    go_wp2_with fail
    go_ret
    exact ⟨rfl, hb⟩
end Go.Proofs.Ytilogllncjlkfaa
