import Derived.Test.YtlanibgeafdefaaGreatDoorMRsB
import Derived.Deep.RegionHeld3
import Derived.LoopNIn
namespace Go.Proofs.YtlanibgeafdefaaGreatDoor.Y
open Go Go.RowKit M
set_option linter.unusedVariables false
set_option maxRecDepth 1000000
set_option linter.unusedSimpArgs false
structure Fnd (L : Nat → Nat) (c n i : Nat) : Prop where
  le : i ≤ c
  lo : i = 0 ∨ L (i - 1) ≤ n
  hi : i = c ∨ n < L i
def SchPost (L : Nat → Nat) (c n : Nat) (W : World) (e : Ending) (w' : World) : Prop := ∃ i : Nat, e = .returned (.int .i64 i) ∧ Fnd L c n i ∧ Below W.heap.size W w'
set_option maxRecDepth 1000000 in
set_option maxHeartbeats 1000000 in
theorem search_any (br bn a c l m g n : Nat) (W : World) (hl : l ≤ 3) (hg : g = 1 ∨ g = 2) (hc : c ≤ 32) (H : Bx W br bn a c l m g n) :
    Calls Tryz.prog 131 #[.int .i64 c, .func (.func 129) #[] #[.pointer (some ⟨br, 0, none⟩), .pointer (some ⟨bn, 0, none⟩)]] W (SchPost (lt l g) c n W) := by
  have HC := Lib.hid (fun (w : World) (p : Nat) (hp : p < 32) (h : Bx w br bn a c l m g n) => beyond_any br bn a c l m g n p w hl hg hp h)
  have HH := Lib.hid H
  have HL := Lib.hid H.lt
  clear H hl hg
  go_enter Tryz.func131, Tryz.ntmps131
  go_wp2_with fail
  go_loopw [5, 6] (fun i j w => ∃ a d : Nat, i = .int .i64 a ∧ j = .int .i64 d ∧ a ≤ d ∧ d ≤ c ∧ (a = 0 ∨ lt l g (a - 1) ≤ n) ∧ (d = c ∨ n < lt l g d) ∧ Below W.heap.size W w) (fun i j _ => ((intOf j) - (intOf i)).toNat)
  case atStart => exact ⟨0, c, rfl, rfl, by omega, Nat.le_refl _, .inl rfl, .inl rfl, Below.refl _ _⟩
  case round =>
    obtain ⟨a, d, rfl, rfl, h1, h2, h3, h4, hb⟩ := hrel
    have H3 := Lib.hid h3
    have H4 := Lib.hid h4
    have HB := Lib.hid hb
    clear h3 h4 hb
    by_cases hlt : a < d
    · obtain ⟨h, hh⟩ : ∃ h, (a + d) / 2 = h := ⟨_, rfl⟩
      have hh1 : a ≤ h := by omega
      have hh2 : h < d := by omega
      have hh3 : h < 32 := by omega
      have e1 : ((a : Int) + (d : Int)) / 2 = (h : Int) := by omega
      clear hh
      obtain ⟨v, hv⟩ : ∃ v, lt l g h = v := ⟨_, rfl⟩
      have HV := Lib.hid hv
      have HB1 := Lib.hid (HC.out _ h hh3 (HH.out.below HB.out HL.out.1 HL.out.2))
      rw [hv] at HB1
      clear hv
      go_wp2_with (go_at_call 129; (with_reducible refine HB1.out.mono ?_); rintro e w1 ⟨rfl, b1⟩; have B1 := Lib.hid (HB.out.trans (b1.mono HB.out.size)); clear b1)
      · rename_i q
        have q' : v ≤ n := by simpa using q
        exact ⟨⟨h + 1, d, by go_num, rfl, by omega, by omega, .inr (by rw [Nat.add_sub_cancel, HV.out]; exact q'), H4.out, B1.out⟩, by simp only [intOf]; omega⟩
      · rename_i q
        have q' : n < v := by simpa using q
        exact ⟨⟨a, h, rfl, rfl, by omega, by omega, H3.out, .inr (by rw [HV.out]; exact q'), B1.out⟩, by simp only [intOf]; omega⟩
    · obtain rfl : a = d := by omega
      go_wp2_with fail
      go_ret
      exact ⟨a, rfl, ⟨h2, H3.out, H4.out⟩, HB.out⟩
structure Plc (L : Nat → Nat) (c n i : Nat) : Prop where
  lt : i < c
  lo : L i ≤ n
  hi : i + 1 = c ∨ n < L (i + 1)
theorem Fnd.plc {L : Nat → Nat} {c n i : Nat} (h : Fnd L c n i) (hc : 0 < c) (h0 : L 0 ≤ n) : ∃ j, i = j + 1 ∧ Plc L c n j := by
  match i, h with
  | 0, h =>
    rcases h.hi with e | e
    · omega
    · omega
  | j + 1, h =>
    refine ⟨j, rfl, ⟨by have := h.le; omega, ?_, h.hi⟩⟩
    rcases h.lo with e | e
    · omega
    · exact e
set_option maxRecDepth 1000000 in
set_option maxHeartbeats 1000000 in
theorem symbolOf_yes (a c l m g n : Nat) (W : World) (ha : a ≤ 257) (hc0 : 0 < c) (hc : c ≤ 32) (hl : l ≤ 3) (hg : g = 1 ∨ g = 2) (hm : m ≤ 32768) (hn : l ≤ n ∧ n ≤ m) :
    Calls Tryz.prog 120 #[.agg #[.int .i64 a, .int .i64 c, .int .i64 l, .int .i64 m, .int .i64 g], .int .i64 n] W fun e w' => ∃ i, Plc (lt l g) c n i ∧ e = .returned (.tuple #[.int .i64 (a + i : Nat), .int .u32 (n - lt l g i : Nat), .int .i64 (bt g i : Nat), .bool true]) ∧ Below W.heap.size W w' := by
  obtain ⟨hn1, hn2⟩ := hn
  have d0 : decide ((n : Int) < (l : Int)) = false := decide_eq_false (by omega)
  have d0' : decide (n < l) = false := decide_eq_false (by omega)
  have d1 : decide ((m : Int) < (n : Int)) = false := decide_eq_false (by omega)
  have d1' : decide (m < n) = false := decide_eq_false (by omega)
  have hl0 : lt l g 0 ≤ n := by unfold lt; simp; exact hn1
  have HS := Lib.hid (fun (br bn : Nat) (W : World) (h : Bx W br bn a c l m g n) => search_any br bn a c l m g n W hl hg hc h)
  have HLA := Lib.hid (fun (p : Nat) (w : World) (hp : p < 32) => leastAt_any a c l m g p w hl hg hp)
  have HBA := Lib.hid (fun (p : Nat) (w : World) (hp : p < 32) => bitsAt_any a c l m g p w hg hp)
  have HL0 := Lib.hid hl0
  have HG := Lib.hid hg
  clear hl0 hg
  go_enter Tryz.func120, Tryz.ntmps120
  go_wp2_with (go_at_call 131; (with_reducible refine (HS.out W.heap.size (W.heap.size + 1) _ ⟨by simp, by simp, by simp, by simp, by simp, by simp⟩).mono ?_); rintro e w1 ⟨i0, rfl, hf, b1⟩; obtain ⟨i, rfl, hp⟩ := hf.plc hc0 HL0.out; have hi := hp.lt; have hi32 : i < 32 := (by omega); clear hf)
  have hb1 : Below W.heap.size W w1 := (((Below.refl _ _).alloc (Nat.le_refl _) _).alloc (by simp) _).trans (b1.mono (by simp; omega))
  have HX : Bx w1 W.heap.size (W.heap.size + 1) a c l m g n := (show Bx ((W.alloc (.cells #[.int .i64 a, .int .i64 c, .int .i64 l, .int .i64 m, .int .i64 g] 201)).alloc (.cells #[.int .i64 n] 3)) W.heap.size (W.heap.size + 1) a c l m g n from ⟨by simp, by simp, by simp, by simp, by simp, by simp⟩).below b1 (by simp; omega) (by simp)
  obtain ⟨e0, e1, e2, e3, e4, e5⟩ := HX
  have B1 := Lib.hid hb1
  have HP := Lib.hid hp
  obtain ⟨u, hu⟩ : ∃ u, lt l g i = u := ⟨_, rfl⟩
  obtain ⟨z, hz⟩ : ∃ z, bt g i = z := ⟨_, rfl⟩
  have LA := Lib.hid (fun w => HLA.out i w hi32)
  have BA := Lib.hid (fun w => HBA.out i w hi32)
  rw [hu] at LA
  rw [hz] at BA
  have hun : u ≤ n := by rw [← hu]; exact hp.lo
  have v1 : IntKind.i64.wrap ((a : Int) + i) = ((a + i : Nat) : Int) := by rw [IntKind.wrap_i64]; omega
  have v2 : IntKind.i64.wrap ((n : Int) - u) = ((n - u : Nat) : Int) := by rw [IntKind.wrap_i64]; omega
  have v3 : IntKind.u32.wrap ((n - u : Nat) : Int) = ((n - u : Nat) : Int) := by rw [IntKind.wrap_u32]; omega
  have HU := Lib.hid hu
  have HZ := Lib.hid hz
  have V1 := Lib.hid v1
  have V2 := Lib.hid v2
  have V3 := Lib.hid v3
  clear hb1 hp hu hz b1 HS HLA HBA HL0 v1 v2 v3
  go_region_held3 (fun w' => w'.cell? ⟨W.heap.size, 0, none⟩ = some (.int .i64 a) ∧ w'.cell? ⟨W.heap.size, 1, none⟩ = some (.int .i64 c) ∧ w'.cell? ⟨W.heap.size, 2, none⟩ = some (.int .i64 l) ∧ w'.cell? ⟨W.heap.size, 3, none⟩ = some (.int .i64 m) ∧ w'.cell? ⟨W.heap.size, 4, none⟩ = some (.int .i64 g) ∧ w'.cell? ⟨W.heap.size + 1, 0, none⟩ = some (.int .i64 n)) (first | exact ⟨g0, g1, g2, g3, g4, g5⟩ | exact ⟨f0, f1, f2, f3, f4, f5⟩ | exact ⟨e0, e1, e2, e3, e4, e5⟩) (first
    | (go_at_call 130; (with_reducible refine (LA.out _).mono ?_); rintro e w2 ⟨rfl, b2⟩; have f0 := (b2.cell (World.block_lt_of_cell? _ _ e0)).trans e0; have f1 := (b2.cell (World.block_lt_of_cell? _ _ e1)).trans e1; have f2 := (b2.cell (World.block_lt_of_cell? _ _ e2)).trans e2; have f3 := (b2.cell (World.block_lt_of_cell? _ _ e3)).trans e3; have f4 := (b2.cell (World.block_lt_of_cell? _ _ e4)).trans e4; have f5 := (b2.cell (World.block_lt_of_cell? _ _ e5)).trans e5; have B2 := Lib.hid (B1.out.drew.trans (b2.mono B1.out.size)); clear b2)
    | (go_at_call 132; (with_reducible refine (BA.out _).mono ?_); rintro e w3 ⟨rfl, b3⟩; have g0 := (b3.cell (World.block_lt_of_cell? _ _ f0)).trans f0; have g1 := (b3.cell (World.block_lt_of_cell? _ _ f1)).trans f1; have g2 := (b3.cell (World.block_lt_of_cell? _ _ f2)).trans f2; have g3 := (b3.cell (World.block_lt_of_cell? _ _ f3)).trans f3; have g4 := (b3.cell (World.block_lt_of_cell? _ _ f4)).trans f4; have g5 := (b3.cell (World.block_lt_of_cell? _ _ f5)).trans f5; have B3 := Lib.hid (B2.out.trans (b3.mono B2.out.size)); clear b3))
  go_wp2_with fail
  refine bodyPost_ret (v := .tuple #[.int .i64 (IntKind.i64.wrap ((a : Int) + i)), .int .u32 (IntKind.u32.wrap (IntKind.i64.wrap ((n : Int) - u))), .int .i64 z, .bool true]) (by simp [results, Tryz.results120, go_sem]) rfl ⟨i, HP.out, ?_, B3.out⟩
  rw [V1.out, V2.out, V3.out, HU.out, HZ.out]
end Go.Proofs.YtlanibgeafdefaaGreatDoor.Y
