/- SumsApart returns true for any arguments that their kinds hold. Conditions: none. -/
import Derived.Test.YtoloamlodmefkaaSmD
import Derived.Test.YtoloamlodmefkaaMathX
import Derived.Lib.ConvBytes
import Derived.Laws.IdiomStrings
namespace Go.Proofs.Ytoloamlodmefkaa
open Go.RowKit M
set_option linter.unusedVariables false

/-- The world behind the conversion of a string to bytes. -/
theorem bytes_below (w : World) (e : TypeId) (s : ByteArray) : Below w.heap.size w (Lib.bytesWorld w e s) :=
  ⟨rfl, rfl, rfl, by rw [Lib.bytesWorld_size]; omega, fun k hk => Lib.bytesWorld_at_old w e s k hk⟩

theorem apart_far (s : ByteArray) (a1 a2 : Int) (w : World) (h : 16384 < s.size) :
    Calls Try.prog 5 #[.string s, .int .u16 a1, .int .u8 a2] w fun e w' => e = .returned (.bool true) ∧ Below w.heap.size w w' := by
  go_enter Try.func5, Try.ntmps5
  go_wp2_with fail
  refine (alive_any _).mono ?_; rintro e w9 ⟨rfl, b9⟩
  go_wp2_with fail
  go_ret
  exact ⟨rfl, b9⟩
theorem apart_none (s : ByteArray) (a1 a2 : Int) (w : World) (h : s.size = 0) :
    Calls Try.prog 5 #[.string s, .int .u16 a1, .int .u8 a2] w fun e w' => e = .returned (.bool true) ∧ Below w.heap.size w w' := by
  have h1 : ((s.size : Int) == 0) = true := by rw [h]; rfl
  have h2 : s.size ≤ 16384 := by omega
  clear h
  go_enter Try.func5, Try.ntmps5
  go_wp2_with fail
  refine (alive_any _).mono ?_; rintro e w9 ⟨rfl, b9⟩
  go_wp2_with fail
  go_ret
  exact ⟨rfl, b9⟩

set_option maxHeartbeats 1000000 in
theorem apart_yes (s : ByteArray) (n y : Nat) (w : World) (h : s.size ≤ 16384) (h0 : s.size ≠ 0) (hn : n < 65536) (hy : y < 256) :
    Calls Try.prog 5 #[.string s, .int .u16 n, .int .u8 y] w fun e w' => e = .returned (.bool true) ∧ Below w.heap.size w w' := by
  have h1 : ((s.size : Int) == 0) = false := by rw [beq_eq_false_iff_ne]; omega
  obtain ⟨j, hj⟩ : ∃ j, n % s.size = j := ⟨_, rfl⟩
  have hjs : j < s.size := by rw [← hj]; exact Nat.mod_lt _ (by omega)
  have hm : (n : Int) % (s.size : Int) = (j : Int) := by rw [← hj]; rfl
  have hm2 : (n : Int).tmod (s.size : Int) = (j : Int) := by rw [Int.tmod_eq_emod_of_nonneg (by omega)]; exact hm
  obtain ⟨b, hb⟩ : ∃ b : Nat, s[j].toNat = b := ⟨_, rfl⟩
  have hb1 : b < 256 := by rw [← hb]; exact byte_lt s j hjs
  have hx := xor8 b y hb1 hy
  have hc := xor_lt8 hb1 hy
  obtain ⟨c, hcc⟩ : ∃ c, b ^^^ y = c := ⟨_, rfl⟩
  rw [hcc] at hx hc
  have hcv := Lib.run_convert_string_bytes (P := Try.prog) w 9 34 5 s Try.underlying9 Try.underlying34 Try.underlying5
  have hcell := Lib.bytesWorld_cell w 5 s
  have hB := bytes_below w 5 s
  have hfz : (Lib.bytesWorld w 5 s).frozen? ⟨w.heap.size, j, none⟩ = false := by
    have hl : ¬ (Lib.bytesCells w 5 s).size ≤ j := by
      unfold Lib.bytesCells
      rw [Array.size_append, Array.size_map]
      have : s.data.size = s.size := rfl
      omega
    simp [World.frozen?, Lib.bytesWorld_at_new, hl]
  obtain ⟨W1, hW⟩ : ∃ W1, Lib.bytesWorld w 5 s = W1 := ⟨_, rfl⟩
  rw [hW] at hcv hcell hB hfz
  clear hW
  have hsj : ∀ i (hi : i < s.size), (s.data.toList.getD i 0).toNat = s[i].toNat := by
    intro i hi
    have hl : i < s.data.toList.length := by rw [Array.length_toList]; exact hi
    rw [List.getD, List.getElem?_eq_getElem hl]
    rfl
  have hc1 : W1.cell? ⟨w.heap.size, j, none⟩ = some (.int .u8 b) := by rw [hcell j hjs, hsj j hjs, hb]
  have hbk : ∀ cp, (convert 34 9 (.slice (some ⟨w.heap.size, 0, none⟩) s.size cp)).run Try.prog (W1.setCell ⟨w.heap.size, j, none⟩ (.int .u8 c)) = .ok (.string (put1 s j c)) (W1.setCell ⟨w.heap.size, j, none⟩ (.int .u8 c)) := by
    intro cp
    have hl : (s.data.toList.set j (UInt8.ofNat c)).length = s.size := by rw [List.length_set, Array.length_toList]; rfl
    have := run_convert_bytes_back (P := Try.prog) (W1.setCell ⟨w.heap.size, j, none⟩ (.int .u8 c)) 34 9 5 ⟨w.heap.size, 0, none⟩ cp (s.data.toList.set j (UInt8.ofNat c)) Try.underlying34 Try.underlying5 Try.underlying9 (fun i hi => by
      rw [hl] at hi
      have ha : (⟨w.heap.size, 0, none⟩ : Addr).add i = ⟨w.heap.size, i, none⟩ := by rw [Addr.add_mid, Nat.zero_add]
      rw [ha]
      by_cases e : i = j
      · subst e
        rw [World.cell?_setCell_same _ _ _ hc1, List.getElem_set_self, UInt8.toNat_ofNat', Nat.mod_eq_of_lt hc]
      · rw [World.cell?_setCell_other _ _ _ _ (by intro g; injection g with g1 g2; exact e g2.symm), hcell i hi, hsj i hi, List.getElem_set_ne (fun g => e g.symm)]
        rfl)
    rw [hl] at this
    exact this
  have hB2 := hB.setCell (p := ⟨w.heap.size, j, none⟩) (Nat.le_refl _) (.int .u8 (c : Int))
  have hiff : c = s[j].toNat ↔ y = 0 := by rw [hb, ← hcc]; exact xor_self_iff b y
  have hA := apart_bool _ _ y ((apart_adl s j c hjs hc).trans hiff)
  have hC := apart_bool _ _ y ((apart_crc s j c hjs hc).trans hiff)
  have hts := put1_size s j c
  have HB2 := Lib.hid hB2
  obtain ⟨t, ht⟩ : ∃ t, put1 s j c = t := ⟨_, rfl⟩
  obtain ⟨E, hE⟩ : ∃ E, ((y : Int) == 0) = E := ⟨_, rfl⟩
  rw [ht] at hbk hA hC hts
  rw [hE] at hA hC
  have HA := Lib.hid hA
  have HC := Lib.hid hC
  have hms : s.size ≤ maxLen := by unfold maxLen; omega
  have hmt : t.size ≤ maxLen := by rw [hts]; exact hms
  have HMS := Lib.hid hms
  have HMT := Lib.hid hmt
  clear hj hb hcc hcell hB hsj hB2 hiff ht hA hC hts hms hmt
  go_enter Try.func5, Try.ntmps5
  go_wp2_with fail
  refine (adler_any _ _ HMS.out).mono ?_; rintro e w' ⟨rfl, rfl⟩
  go_wp2_with fail
  refine (adler_any _ _ HMT.out).mono ?_; rintro e w' ⟨rfl, rfl⟩
  have hA := HA.out
  go_wp2_with fail
  refine (crc_any _ _ HMS.out).mono ?_; rintro e w2 ⟨rfl, b2⟩
  go_wp2_with fail
  refine (crc_any _ _ HMT.out).mono ?_; rintro e w3 ⟨rfl, b3⟩
  have hC := HC.out
  go_wp2_with fail
  refine (alive_any _).mono ?_; rintro e w4 ⟨rfl, b4⟩
  go_wp2_with fail
  go_ret
  have s1 := HB2.out.size
  exact ⟨rfl, ((HB2.out.trans (b2.mono s1)).trans (b3.mono (Nat.le_trans s1 b2.size))).trans (b4.mono (Nat.le_trans (Nat.le_trans s1 b2.size) b3.size))⟩

theorem u8_nat {a : Int} (h : (Lit.int .u8 a).wf = true) : ∃ n : Nat, a = n ∧ n < 256 := by
  have g : 0 ≤ a ∧ a ≤ 255 := by simpa [Lit.wf, IntKind.min, IntKind.max, IntKind.signed, IntKind.bits] using h
  exact ⟨a.toNat, by omega, by omega⟩
theorem u16_nat {a : Int} (h : (Lit.int .u16 a).wf = true) : ∃ n : Nat, a = n ∧ n < 65536 := by
  have g : 0 ≤ a ∧ a ≤ 65535 := by simpa [Lit.wf, IntKind.min, IntKind.max, IntKind.signed, IntKind.bits] using h
  exact ⟨a.toNat, by omega, by omega⟩
theorem u32_nat {a : Int} (h : (Lit.int .u32 a).wf = true) : ∃ n : Nat, a = n ∧ n < big32 := by
  have g : 0 ≤ a ∧ a ≤ 4294967295 := by simpa [Lit.wf, IntKind.min, IntKind.max, IntKind.signed, IntKind.bits] using h
  exact ⟨a.toNat, by omega, by unfold big32; omega⟩
theorem u64_nat {a : Int} (h : (Lit.int .u64 a).wf = true) : ∃ n : Nat, a = n ∧ n < 18446744073709551616 := by
  have g : 0 ≤ a ∧ a ≤ 18446744073709551615 := by simpa [Lit.wf, IntKind.min, IntKind.max, IntKind.signed, IntKind.bits] using h
  exact ⟨a.toNat, by omega, by omega⟩

theorem SumsApart_walk (a0 : ByteArray) (a1 a2 : Int) (w : World) (w0 : a0.size ≤ maxLen) (w1 : (Lit.int .u16 a1).wf = true) (w2 : (Lit.int .u8 a2).wf = true) :
    Calls Try.prog 5 #[.string a0, .int .u16 a1, .int .u8 a2] w fun e w' => e = .returned (.bool true) ∧ Below w.heap.size w w' := by
  obtain ⟨n, rfl, hn⟩ := u16_nat w1
  obtain ⟨y, rfl, hy⟩ := u8_nat w2
  by_cases h : a0.size ≤ 16384
  · by_cases h0 : a0.size = 0
    · exact apart_none a0 n y w h0
    · exact apart_yes a0 n y w h h0 hn hy
  · exact apart_far a0 n y w (by omega)

end Go.Proofs.Ytoloamlodmefkaa
