/- What New of package huff answers where there is no table, and what cellAt, find and Look answer. Conditions: as each theorem names them. -/
import Derived.Test.YtnkkccieidlacaaHfD
namespace Go.Proofs.Ytnkkccieidlacaa
open Go.RowKit M
set_option linter.unusedVariables false
set_option linter.unusedSimpArgs false

/-- the error that New answers -/
def nerr (l : Nat → Nat) (n : Nat) (x : Int) : Nat := if ¬ (1 ≤ x ∧ x ≤ 15) ∨ kind l n = 5 then 2 else if kind l n = 4 ∨ kind l n = 3 then 7 else 0
theorem nerr_ok {l : Nat → Nat} {n : Nat} {x : Int} (h : nerr l n x = 0) : (1 ≤ x ∧ x ≤ 15) ∧ Tbl l n := by
  unfold nerr at h
  have := kind_le l n
  by_cases a : ¬ (1 ≤ x ∧ x ≤ 15) ∨ kind l n = 5
  · rw [if_pos a] at h; omega
  · rw [if_neg a] at h
    by_cases b : kind l n = 4 ∨ kind l n = 3
    · rw [if_pos b] at h; omega
    · unfold Tbl; omega

theorem new_first_any (A : Option Addr) (n c : Nat) (x : Int) (W : World) (hx : ¬ (1 ≤ x ∧ x ≤ 15)) :
    Calls Try.prog 9 #[.slice A n c, .int .i64 x] W fun e w' => e = .returned (.tuple #[.pointer none, .int .i64 2]) ∧ w' = W := by
  by_cases h : x < 1
  · go_enter Try.func9, Try.ntmps9
    go_wp2_with fail
    go_ret2
    exact ⟨rfl, rfl⟩
  · have h2 : 15 < x := by omega
    go_enter Try.func9, Try.ntmps9
    go_wp2_with fail
    go_ret2
    exact ⟨rfl, rfl⟩
theorem new_codes_any (A : Option Addr) (n c : Nat) (l : Nat → Nat) (f : Nat) (W : World) (hn : n ≤ maxLen) (hl : ∀ i, l i ≤ 255) (H : Nums W .u8 A n (fun i => (l i : Int))) (h1 : 1 ≤ f) (hf : f ≤ 15) (E : Nat) (hE : erc l n = E) (h0 : E ≠ 0) :
    Calls Try.prog 9 #[.slice A n c, .int .i64 f] W fun e w' => e = .returned (.tuple #[.pointer none, .int .i64 E]) ∧ Below W.heap.size W w' := by
  have HW := Lib.hid (writes_any A n c l W hn hl H)
  rw [hE] at HW
  have hz : outn l n = 0 := by unfold outn; rw [hE, if_neg h0]
  rw [hz] at HW
  have d0 : ((E : Int) == 0) = false := by rw [beq_eq_false_iff_ne]; omega
  have d1 : ((E : Int) != 0) = true := by rw [bne_iff_ne]; omega
  clear hz H hl
  go_enter Try.func9, Try.ntmps9
  go_wp2_with fail
  refine HW.out.mono ?_; rintro e w1 ⟨A1, c1, rfl, hc1, hc2, hcd, b1, _⟩
  have B1 := Lib.hid b1
  clear b1 hcd
  go_wp2_with fail
  go_ret2
  exact ⟨rfl, B1.out⟩
theorem new_less_any (A : Option Addr) (n c : Nat) (l : Nat → Nat) (f : Nat) (W : World) (hn : n ≤ maxLen) (hl : ∀ i, l i ≤ 255) (H : Nums W .u8 A n (fun i => (l i : Int))) (h1 : 1 ≤ f) (hf : f ≤ 15) (hk : kind l n = 3) :
    Calls Try.prog 9 #[.slice A n c, .int .i64 f] W fun e w' => e = .returned (.tuple #[.pointer none, .int .i64 7]) ∧ Below W.heap.size W w' := by
  have HW := Lib.hid (writes_any A n c l W hn hl H)
  have he : erc l n = 0 := by
    rcases erc_of (l := l) (n := n) with ⟨a, _⟩ | ⟨a, _⟩ | ⟨_, _, a, b⟩
    · omega
    · omega
    · exact a
  rw [he] at HW
  have HH := Lib.hid H
  have HL := Lib.hid hl
  have HK := Lib.hid hk
  clear he H hl hk
  go_enter Try.func9, Try.ntmps9
  go_wp2_with fail
  refine HW.out.mono ?_; rintro e w1 ⟨A1, c1, rfl, hc1, hc2, hcd, b1, _⟩
  have B1 := Lib.hid b1
  clear b1 hcd
  go_wp2_with fail
  refine (kind_any A n c l _ hn HL.out (HH.out.below B1.out)).mono ?_; rintro e w2 ⟨rfl, b2⟩
  rw [HK.out]
  have B2 := Lib.hid (B1.out.trans (b2.mono B1.out.size))
  clear b2
  go_wp2_with fail
  go_ret2
  exact ⟨rfl, B2.out⟩
theorem new_no_any (A : Option Addr) (n c : Nat) (l : Nat → Nat) (x : Int) (W : World) (hn : n ≤ maxLen) (hl : ∀ i, l i ≤ 255) (H : Nums W .u8 A n (fun i => (l i : Int))) (h : nerr l n x ≠ 0) :
    Calls Try.prog 9 #[.slice A n c, .int .i64 x] W fun e w' => e = .returned (.tuple #[.pointer none, .int .i64 (nerr l n x : Nat)]) ∧ Below W.heap.size W w' := by
  by_cases hx : 1 ≤ x ∧ x ≤ 15
  · obtain ⟨f, rfl⟩ := Int.eq_ofNat_of_zero_le (show 0 ≤ x by omega)
    have h1 : 1 ≤ f := by omega
    have h2 : f ≤ 15 := by omega
    rcases erc_of (l := l) (n := n) with ⟨a, e, _⟩ | ⟨a, e, _⟩ | ⟨a, b, e, _⟩
    · have : nerr l n (f : Int) = 2 := by unfold nerr; rw [if_pos (.inr a)]
      rw [this]; exact new_codes_any A n c l f W hn hl H h1 h2 2 e (by decide)
    · have : nerr l n (f : Int) = 7 := by unfold nerr; rw [if_neg (by omega), if_pos (.inl a)]
      rw [this]; exact new_codes_any A n c l f W hn hl H h1 h2 7 e (by decide)
    · by_cases k3 : kind l n = 3
      · have : nerr l n (f : Int) = 7 := by unfold nerr; rw [if_neg (by omega), if_pos (.inr k3)]
        rw [this]; exact new_less_any A n c l f W hn hl H h1 h2 k3
      · exfalso; apply h; unfold nerr; rw [if_neg (by omega), if_neg (by omega)]
  · have : nerr l n x = 2 := by unfold nerr; rw [if_pos (.inl hx)]
    rw [this]
    exact (new_first_any A n c x W hx).mono fun e w' ⟨a, b⟩ => ⟨a, by rw [b]; exact Below.refl _ _⟩

/-! a cell -/
set_option maxRecDepth 1000000 in
theorem cellAt_none (X : Nat) (W : World) (hX : X < big) :
    Calls Try.prog 55 #[.slice none 0 0, .int .u64 X] W fun e w' => e = .returned (.agg #[.int .u16 0, .int .u8 0]) ∧ Below W.heap.size W w' := by
  have HR := Lib.hid (R2.new W 82 (.int .u16 0) (.int .u8 0))
  go_enter Try.func55, Try.ntmps55
  go_wp2_with fail
  exact bodyPost_ret (v := .agg #[.int .u16 0, .int .u8 0]) (results_cell_row rfl _ _ W.heap.size _ _ _ _ rfl HR.out.row Try.underlying82 rfl cellSize) rfl ⟨rfl, (Below.refl _ _).alloc (Nat.le_refl _) _⟩
set_option maxRecDepth 1000000 in
theorem cellAt_some (g z X : Nat) (F : Nat → Nat × Nat) (W : World) (hX : X < big) (hz : z ≤ 15) (H : Hrow W g (2 ^ z) F) :
    Calls Try.prog 55 #[.slice (some ⟨g, 0, none⟩) (2 ^ z) (2 ^ z), .int .u64 X] W fun e w' => e = .returned (.agg #[.int .u16 (F (X % 2 ^ z)).1, .int .u8 (F (X % 2 ^ z)).2]) ∧ Below W.heap.size W w' := by
  have hm := and_mask X z hX (by omega)
  have hlt : X % 2 ^ z < 2 ^ z := Nat.mod_lt _ (Nat.two_pow_pos z)
  have hZ15 : 2 ^ z ≤ 2 ^ 15 := Nat.pow_le_pow_right (by omega) hz
  have hZ1 : 1 ≤ 2 ^ z := Nat.one_le_two_pow
  have c1 := H.cell1 hlt
  have c2 := H.cell2 hlt
  obtain ⟨Z, hZ⟩ : ∃ Z, 2 ^ z = Z := ⟨_, rfl⟩
  have hmk : ((Z : Int) - 1) = (mk z : Int) := by unfold mk; rw [hZ]; omega
  obtain ⟨M, hM⟩ : ∃ M, mk z = M := ⟨_, rfl⟩
  rw [hZ] at c1 c2 hm hlt hZ15 hZ1 ⊢
  rw [hM] at hm hmk
  obtain ⟨y, hy⟩ : ∃ y, X % Z = y := ⟨_, rfl⟩
  rw [hy] at c1 c2 hm hlt ⊢
  obtain ⟨a, ha⟩ : ∃ a, (F y).1 = a := ⟨_, rfl⟩
  obtain ⟨b, hb⟩ : ∃ b, (F y).2 = b := ⟨_, rfl⟩
  rw [ha] at c1 ⊢
  rw [hb] at c2 ⊢
  have d0 : ((Z : Int) == 0) = false := by rw [beq_eq_false_iff_ne]; omega
  have hgl := H.lt
  have hMb : 0 ≤ (M : Int) ∧ (M : Int) ≤ 32768 := by omega
  have hyy : ((y : Int)).toNat = y := by omega
  have e1 := cell_more c1 (.cells #[.int .u16 0, .int .u8 0] 82)
  have e2 := cell_more c2 (.cells #[.int .u16 0, .int .u8 0] 82)
  have HR := Lib.hid (R2.new W 82 (.int .u16 a) (.int .u8 b))
  clear hZ hM hy ha hb H hX hZ15
  go_enter Try.func55, Try.ntmps55
  go_wp2_with fail
  exact bodyPost_ret (v := .agg #[.int .u16 a, .int .u8 b]) (results_cell_row rfl _ _ W.heap.size _ _ _ _ rfl HR.out.row Try.underlying82 rfl cellSize) rfl ⟨rfl, (Below.refl _ _).alloc (Nat.le_refl _) _⟩

theorem Hp.drew {w : World} {T p m N n f k : Nat} {G : Nat → Nat → Nat} {D : DataW Value} {l : Nat → Nat} (h : Hp w T p m G N D l n f k) : Hp w.drew T p m G N D l n f k := ⟨h.c0, h.c1, h.own, h.dic, h.rows, h.one, h.apart⟩

set_option maxRecDepth 1000000 in
set_option maxHeartbeats 1000000 in
theorem find_any (T p m N n f X : Nat) (G : Nat → Nat → Nat) (D : DataW Value) (l : Nat → Nat) (W : World) (hfit : Fit l n) (h1 : 1 ≤ f) (hf : f ≤ 15) (hX : X < big) (H : Hp W T p m G N D l n f n) :
    Calls Try.prog 38 #[.pointer (some ⟨p, 0, none⟩), .int .u64 X] W fun e w' => e = .returned (.agg #[.int .u16 (fnd l n X n).1, .int .u8 (fnd l n X n).2]) ∧ Below W.heap.size W w' := by
  have hr0 := sz_root (l := l) (n := n) h1 n
  have HH := Lib.hid H
  have hp0 := H.c0
  have hp1 := H.c1
  have hlk0 : ∀ w, Hp w T p m G N D l n f n → (Instr.lookup 68 (.map (some m)) (.agg #[.int .u64 0, .int .i64 0]) false).run Try.prog w = .ok (.slice (some ⟨G 0 0, 0, none⟩) (2 ^ f) (2 ^ f)) w := fun w h => by
    have := lookS h.own h.dic (b := 0) (s := 0) (by omega) (by omega)
    rw [hr0] at this
    exact this
  have HA := Lib.hid (fun w (h : Hp w T p m G N D l n f n) => cellAt_some (G 0 0) f X (fun x => cv l n f 0 0 x n) w hX hf (h.rows 0 0 f hr0))
  have hpl : p < W.heap.size := World.block_lt_of_cell? _ _ hp0
  have H1 : Hp (W.alloc (.cells #[.int .u16 0, .int .u8 0] 82)) T p m G N D l n f n := H.below ((Below.refl _ _).alloc (Nat.le_refl _) _)
  have l1 := hlk0 _ H1
  have p11 := H1.c1
  have HH1 := Lib.hid H1
  have B1 := Lib.hid ((Below.refl W.heap.size W).alloc (Nat.le_refl _) (.cells #[.int .u16 0, .int .u8 0] 82))
  have R1 := Lib.hid (R2.new W 82 (.int .u16 0) (.int .u8 0))
  obtain ⟨c1, hc1⟩ : ∃ c1, (cv l n f 0 0 (X % 2 ^ f) n).1 = c1 := ⟨_, rfl⟩
  obtain ⟨c2, hc2⟩ : ∃ c2, (cv l n f 0 0 (X % 2 ^ f) n).2 = c2 := ⟨_, rfl⟩
  have hcs := cv_small (l := l) (f := f) (b := 0) (s := 0) (x := X % 2 ^ f) hfit.1 (Nat.le_refl n)
  rw [hc1, hc2] at HA hcs
  obtain ⟨F, hF⟩ : ∃ F, 2 ^ f = F := ⟨_, rfl⟩
  obtain ⟨g0, hg0⟩ : ∃ g0, G 0 0 = g0 := ⟨_, rfl⟩
  rw [hF, hg0] at HA l1
  obtain ⟨a, ha⟩ : ∃ a, (fnd l n X n).1 = a := ⟨_, rfl⟩
  obtain ⟨d, hd⟩ : ∃ d, (fnd l n X n).2 = d := ⟨_, rfl⟩
  rw [ha, hd]
  clear hlk0 H H1
  go_enter Try.func38, Try.ntmps38
  go_wp2_with fail
  refine (HA.out _ HH1.out).mono ?_; rintro e w3 ⟨rfl, b3⟩
  have H3 := Lib.hid (HH1.out.below b3)
  have B3 := Lib.hid (B1.out.trans (b3.mono B1.out.size))
  have R3 := Lib.hid (R1.out.below b3 R1.out.lt)
  clear b3 l1 p11
  by_cases hc0 : c2 = 0
  · have d0 : decide (0 < (c2 : Int)) = false := decide_eq_false (by omega)
    have d1 : decide (0 < c2) = false := decide_eq_false (by omega)
    have HF := Lib.hid (fun w => firstOf_any X f w hX (by omega))
    have hq : X / 2 ^ f < big := Nat.lt_of_le_of_lt (Nat.div_le_self _ _) hX
    obtain ⟨V, hlk, HC⟩ : ∃ V, (∀ w, w.ownsMap Try.prog 74 redS m N D → (Instr.lookup 68 (.map (some m)) (.agg #[.int .u64 (X % 2 ^ f : Nat), .int .i64 f]) false).run Try.prog w = .ok V w) ∧
        Hid (∀ w, Hp w T p m G N D l n f n → Calls Try.prog 55 #[V, .int .u64 (X / 2 ^ f : Nat)] w fun e w' => e = .returned (.agg #[.int .u16 (fnd l n X n).1, .int .u8 (fnd l n X n).2]) ∧ Below w.heap.size w w') := by
      have hb : X % 2 ^ f < 2 ^ f := Nat.mod_lt _ (Nat.two_pow_pos f)
      have hb2 : 2 ^ f ≤ 2 ^ 15 := Nat.pow_le_pow_right (by omega) hf
      refine ⟨slo ((sz l n f (X % 2 ^ f) f n).map fun z => (G (X % 2 ^ f) f, 2 ^ z)), fun w h => lookS h HH.out.dic (b := X % 2 ^ f) (s := f) (by omega) (by omega), Lib.hid (fun w h => ?_)⟩
      cases hs : sz l n f (X % 2 ^ f) f n with
      | none =>
        rw [fnd_none h1 (by rw [hc2]; exact hc0) hs]
        exact cellAt_none _ w hq
      | some mz =>
        rw [fnd_further hfit h1 (by rw [hc2]; exact hc0) hs]
        exact cellAt_some _ mz _ (fun x => cv l n f (X % 2 ^ f) f x n) w hq (sz_le hf n hfit.1.2 mz hs) (h.rows _ _ mz hs)
    obtain ⟨y, hy⟩ : ∃ y, X % 2 ^ f = y := ⟨_, rfl⟩
    obtain ⟨v, hv⟩ : ∃ v, X / 2 ^ f = v := ⟨_, rfl⟩
    have hshr : (X : Int) / 2 ^ f = (v : Int) := by rw [← hv]; push_cast; rfl
    rw [hy] at hlk HF
    rw [hv, ha, hd] at HC
    clear hF
    go_wp2_with fail
    have B5 := B3.out.alloc B3.out.size (.cells #[.int .u16 c1, .int .u8 0] 82)
    have H5 := H3.out.below ((Below.refl w3.heap.size w3).alloc (Nat.le_refl _) (.cells #[.int .u16 c1, .int .u8 0] 82))
    have R5 := R3.out.alloc (.cells #[.int .u16 c1, .int .u8 0] 82)
    generalize w3.alloc (.cells #[.int .u16 c1, .int .u8 0] 82) = w5 at B5 H5 R5 ⊢
    refine take_region (fun w' => w'.cell? ⟨p, 0, none⟩ = some (.int .i64 f) ∧ w'.cell? ⟨p, 1, none⟩ = some (.map (some m)) ∧ (Instr.lookup 68 (.map (some m)) (.agg #[.int .u64 y, .int .i64 f]) false).run Try.prog w' = .ok V w') ⟨H5.c0, H5.c1, hlk _ H5.drew.own⟩ (fun h0 => ?_)
    first
    | (refine take_no (i := 0) (d := some 18) rfl rfl (by kernel_rfl) (by kernel_rfl) (by kernel_rfl) (fun _ _ _ h => h) (by rfl) h0 ?_; (try simp only [Act.put, List.setIfInBounds_toArray, List.set_cons_zero, List.set_cons_succ]))
    | (refine take_op (i := 0) (d := some 18) (v := ?_) rfl rfl (by kernel_rfl) (by kernel_rfl) (by kernel_rfl) (fun _ _ _ h => h) (by rfl) (fun w hSw => ?_) h0 ?_; rotate_left; (focus ((try dsimp only at hSw); go_simp; (try with_reducible rfl))); (try simp only [Act.put, List.setIfInBounds_toArray, List.set_cons_zero, List.set_cons_succ]))
    first
    | (refine take_no (i := 1) (d := some 19) rfl rfl (by kernel_rfl) (by kernel_rfl) (by kernel_rfl) (fun _ _ _ h => h) (by rfl) h0 ?_; (try simp only [Act.put, List.setIfInBounds_toArray, List.set_cons_zero, List.set_cons_succ]))
    | (refine take_op (i := 1) (d := some 19) (v := ?_) rfl rfl (by kernel_rfl) (by kernel_rfl) (by kernel_rfl) (fun _ _ _ h => h) (by rfl) (fun w hSw => ?_) h0 ?_; rotate_left; (focus ((try dsimp only at hSw); go_simp; (try with_reducible rfl))); (try simp only [Act.put, List.setIfInBounds_toArray, List.set_cons_zero, List.set_cons_succ]))
    first
    | (refine take_no (i := 2) (d := some 20) rfl rfl (by kernel_rfl) (by kernel_rfl) (by kernel_rfl) (fun _ _ _ h => h) (by rfl) h0 ?_; (try simp only [Act.put, List.setIfInBounds_toArray, List.set_cons_zero, List.set_cons_succ]))
    | (refine take_op (i := 2) (d := some 20) (v := ?_) rfl rfl (by kernel_rfl) (by kernel_rfl) (by kernel_rfl) (fun _ _ _ h => h) (by rfl) (fun w hSw => ?_) h0 ?_; rotate_left; (focus ((try dsimp only at hSw); go_simp; (try with_reducible rfl))); (try simp only [Act.put, List.setIfInBounds_toArray, List.set_cons_zero, List.set_cons_succ]))
    first
    | (refine take_no (i := 3) (d := some 21) rfl rfl (by kernel_rfl) (by kernel_rfl) (by kernel_rfl) (fun _ _ _ h => h) (by rfl) h0 ?_; (try simp only [Act.put, List.setIfInBounds_toArray, List.set_cons_zero, List.set_cons_succ]))
    | (refine take_op (i := 3) (d := some 21) (v := ?_) rfl rfl (by kernel_rfl) (by kernel_rfl) (by kernel_rfl) (fun _ _ _ h => h) (by rfl) (fun w hSw => ?_) h0 ?_; rotate_left; (focus ((try dsimp only at hSw); go_simp; (try with_reducible rfl))); (try simp only [Act.put, List.setIfInBounds_toArray, List.set_cons_zero, List.set_cons_succ]))
    first
    | (refine take_no (i := 4) (d := some 22) rfl rfl (by kernel_rfl) (by kernel_rfl) (by kernel_rfl) (fun _ _ _ h => h) (by rfl) h0 ?_; (try simp only [Act.put, List.setIfInBounds_toArray, List.set_cons_zero, List.set_cons_succ]))
    | (refine take_op (i := 4) (d := some 22) (v := ?_) rfl rfl (by kernel_rfl) (by kernel_rfl) (by kernel_rfl) (fun _ _ _ h => h) (by rfl) (fun w hSw => ?_) h0 ?_; rotate_left; (focus ((try dsimp only at hSw); go_simp; (try with_reducible rfl))); (try simp only [Act.put, List.setIfInBounds_toArray, List.set_cons_zero, List.set_cons_succ]))
    first
    | (refine take_no (i := 5) (d := some 23) rfl rfl (by kernel_rfl) (by kernel_rfl) (by kernel_rfl) (fun _ _ _ h => h) (by rfl) h0 ?_; (try simp only [Act.put, List.setIfInBounds_toArray, List.set_cons_zero, List.set_cons_succ]))
    | (refine take_op (i := 5) (d := some 23) (v := ?_) rfl rfl (by kernel_rfl) (by kernel_rfl) (by kernel_rfl) (fun _ _ _ h => h) (by rfl) (fun w hSw => ?_) h0 ?_; rotate_left; (focus ((try dsimp only at hSw); go_simp; (try with_reducible rfl))); (try simp only [Act.put, List.setIfInBounds_toArray, List.set_cons_zero, List.set_cons_succ]))
    first
    | (refine take_no (i := 6) (d := some 24) rfl rfl (by kernel_rfl) (by kernel_rfl) (by kernel_rfl) (fun _ _ _ h => h) (by rfl) h0 ?_; (try simp only [Act.put, List.setIfInBounds_toArray, List.set_cons_zero, List.set_cons_succ]))
    | (refine take_op (i := 6) (d := some 24) (v := ?_) rfl rfl (by kernel_rfl) (by kernel_rfl) (by kernel_rfl) (fun _ _ _ h => h) (by rfl) (fun w hSw => ?_) h0 ?_; rotate_left; (focus ((try dsimp only at hSw); go_simp; (try with_reducible rfl))); (try simp only [Act.put, List.setIfInBounds_toArray, List.set_cons_zero, List.set_cons_succ]))
    first
    | (refine take_no (i := 7) (d := some 25) rfl rfl (by kernel_rfl) (by kernel_rfl) (by kernel_rfl) (fun _ _ _ h => h) (by rfl) h0 ?_; (try simp only [Act.put, List.setIfInBounds_toArray, List.set_cons_zero, List.set_cons_succ]))
    | (refine take_op (i := 7) (d := some 25) (v := ?_) rfl rfl (by kernel_rfl) (by kernel_rfl) (by kernel_rfl) (fun _ _ _ h => h) (by rfl) (fun w hSw => ?_) h0 ?_; rotate_left; (focus ((try dsimp only at hSw); go_simp; (try with_reducible rfl))); (try simp only [Act.put, List.setIfInBounds_toArray, List.set_cons_zero, List.set_cons_succ]))
    first
    | (refine take_no (i := 8) (d := some 26) rfl rfl (by kernel_rfl) (by kernel_rfl) (by kernel_rfl) (fun _ _ _ h => h) (by rfl) h0 ?_; (try simp only [Act.put, List.setIfInBounds_toArray, List.set_cons_zero, List.set_cons_succ]))
    | (refine take_op (i := 8) (d := some 26) (v := ?_) rfl rfl (by kernel_rfl) (by kernel_rfl) (by kernel_rfl) (fun _ _ _ h => h) (by rfl) (fun w hSw => ?_) h0 ?_; rotate_left; (focus ((try dsimp only at hSw); go_simp; (try with_reducible rfl))); (try simp only [Act.put, List.setIfInBounds_toArray, List.set_cons_zero, List.set_cons_succ]))
    first
    | (refine take_no (i := 11) (d := some 29) rfl rfl (by kernel_rfl) (by kernel_rfl) (by kernel_rfl) (fun _ _ _ h => h) (by rfl) h0 ?_; (try simp only [Act.put, List.setIfInBounds_toArray, List.set_cons_zero, List.set_cons_succ]))
    | (refine take_op (i := 11) (d := some 29) (v := ?_) rfl rfl (by kernel_rfl) (by kernel_rfl) (by kernel_rfl) (fun _ _ _ h => h) (by rfl) (fun w hSw => ?_) h0 ?_; rotate_left; (focus ((try dsimp only at hSw); go_simp; (try with_reducible rfl))); (try simp only [Act.put, List.setIfInBounds_toArray, List.set_cons_zero, List.set_cons_succ]))
    first
    | (refine take_no (i := 12) (d := some 30) rfl rfl (by kernel_rfl) (by kernel_rfl) (by kernel_rfl) (fun _ _ _ h => h) (by rfl) h0 ?_; (try simp only [Act.put, List.setIfInBounds_toArray, List.set_cons_zero, List.set_cons_succ]))
    | (refine take_op (i := 12) (d := some 30) (v := ?_) rfl rfl (by kernel_rfl) (by kernel_rfl) (by kernel_rfl) (fun _ _ _ h => h) (by rfl) (fun w hSw => ?_) h0 ?_; rotate_left; (focus ((try dsimp only at hSw); go_simp; (try with_reducible rfl))); (try simp only [Act.put, List.setIfInBounds_toArray, List.set_cons_zero, List.set_cons_succ]))
    first
    | (refine take_no (i := 13) (d := some 31) rfl rfl (by kernel_rfl) (by kernel_rfl) (by kernel_rfl) (fun _ _ _ h => h) (by rfl) h0 ?_; (try simp only [Act.put, List.setIfInBounds_toArray, List.set_cons_zero, List.set_cons_succ]))
    | (refine take_op (i := 13) (d := some 31) (v := ?_) rfl rfl (by kernel_rfl) (by kernel_rfl) (by kernel_rfl) (fun _ _ _ h => h) (by rfl) (fun w hSw => ?_) h0 ?_; rotate_left; (focus ((try dsimp only at hSw); go_simp; (try with_reducible rfl))); (try simp only [Act.put, List.setIfInBounds_toArray, List.set_cons_zero, List.set_cons_succ]))
    first
    | (refine take_no (i := 14) (d := some 32) rfl rfl (by kernel_rfl) (by kernel_rfl) (by kernel_rfl) (fun _ _ _ h => h) (by rfl) h0 ?_; (try simp only [Act.put, List.setIfInBounds_toArray, List.set_cons_zero, List.set_cons_succ]))
    | (refine take_op (i := 14) (d := some 32) (v := ?_) rfl rfl (by kernel_rfl) (by kernel_rfl) (by kernel_rfl) (fun _ _ _ h => h) (by rfl) (fun w hSw => ?_) h0 ?_; rotate_left; (focus ((try dsimp only at hSw); go_simp; (try with_reducible rfl))); (try simp only [Act.put, List.setIfInBounds_toArray, List.set_cons_zero, List.set_cons_succ]))
    first
    | (refine take_no (i := 15) (d := some 33) rfl rfl (by kernel_rfl) (by kernel_rfl) (by kernel_rfl) (fun _ _ _ h => h) (by rfl) h0 ?_; (try simp only [Act.put, List.setIfInBounds_toArray, List.set_cons_zero, List.set_cons_succ]))
    | (refine take_op (i := 15) (d := some 33) (v := ?_) rfl rfl (by kernel_rfl) (by kernel_rfl) (by kernel_rfl) (fun _ _ _ h => h) (by rfl) (fun w hSw => ?_) h0 ?_; rotate_left; (focus ((try dsimp only at hSw); go_simp; (try with_reducible rfl))); (try simp only [Act.put, List.setIfInBounds_toArray, List.set_cons_zero, List.set_cons_succ]))
    first
    | (refine take_no (i := 16) (d := some 34) rfl rfl (by kernel_rfl) (by kernel_rfl) (by kernel_rfl) (fun _ _ _ h => h) (by rfl) h0 ?_; (try simp only [Act.put, List.setIfInBounds_toArray, List.set_cons_zero, List.set_cons_succ]))
    | (refine take_op (i := 16) (d := some 34) (v := ?_) rfl rfl (by kernel_rfl) (by kernel_rfl) (by kernel_rfl) (fun _ _ _ h => h) (by rfl) (fun w hSw => ?_) h0 ?_; rotate_left; (focus ((try dsimp only at hSw); go_simp; (try with_reducible rfl))); (try simp only [Act.put, List.setIfInBounds_toArray, List.set_cons_zero, List.set_cons_succ]))
    refine take_call (i := 9) (by kernel_rfl) rfl (fun K hK => ?_)
    go_simp
    refine (HF.out _).mono ?_; rintro e w6 ⟨rfl, b6⟩
    have H6 := H5.drew.below b6
    have r6 := R5.drew.below b6 R5.drew.lt
    have B6 := B5.drew.trans (b6.mono B5.drew.size)
    have l6 := hlk w6 H6.own
    refine hK.out _ _ ⟨H6.c0, H6.c1, l6⟩ (fun h1 => ?_)
    clear hK K h0
    (try simp only [Act.put, List.setIfInBounds_toArray, List.set_cons_zero, List.set_cons_succ])
    first
    | (refine take_no (i := 10) (d := some 28) rfl rfl (by kernel_rfl) (by kernel_rfl) (by kernel_rfl) (fun _ _ _ h => h) (by rfl) h1 ?_; (try simp only [Act.put, List.setIfInBounds_toArray, List.set_cons_zero, List.set_cons_succ]))
    | (refine take_op (i := 10) (d := some 28) (v := ?_) rfl rfl (by kernel_rfl) (by kernel_rfl) (by kernel_rfl) (fun _ _ _ h => h) (by rfl) (fun w hSw => ?_) h1 ?_; rotate_left; (focus ((try dsimp only at hSw); go_simp; (try with_reducible rfl))); (try simp only [Act.put, List.setIfInBounds_toArray, List.set_cons_zero, List.set_cons_succ]))
    refine take_call (i := 17) (by kernel_rfl) rfl (fun K hK => ?_)
    go_simp
    refine (HC.out _ H6).mono ?_; rintro e w7 ⟨rfl, b7⟩
    have H7 := H6.below b7
    have r7 := r6.below b7 r6.lt
    have B7 := B6.trans (b7.mono B6.size)
    have l7 := hlk w7 H7.own
    refine hK.out _ _ ⟨H7.c0, H7.c1, l7⟩ (fun h2 => ?_)
    clear hK K h1
    (try simp only [Act.put, List.setIfInBounds_toArray, List.set_cons_zero, List.set_cons_succ])
    refine take_call (i := 18) (by kernel_rfl) rfl (fun K hK => ?_)
    go_simp
    have p4 : p ≠ W.heap.size := by have := World.block_lt_of_cell? _ _ HH.out.c0; simp at this; omega
    have m4 : m ≠ W.heap.size := by have := HH.out.own.lt; omega
    have v0 := r7.at0
    have v1 := r7.at1
    have z0 := r7.frozen 0
    have z1 := r7.frozen 1
    go_simp
    have H8 := hlk _ ((H7.own.setCell (a := ⟨W.heap.size, 0, none⟩) m4 (.int .u16 a)).setCell (a := ⟨W.heap.size, 1, none⟩) m4 (.int .u8 d))
    refine hK.out _ _ ⟨cell_set (cell_set H7.c0 p4 _) p4 _, cell_set (cell_set H7.c1 p4 _) p4 _, H8⟩ (fun h3 => ?_)
    clear hK K h2
    (try simp only [Act.put, List.setIfInBounds_toArray, List.set_cons_zero, List.set_cons_succ])
    refine wpAnyH_done (by kernel_rfl) ?_ _
    have HP := Lib.hid (r7.put (.int .u16 a) (.int .u8 d))
    have B8 := Lib.hid ((B7.setCell (p := ⟨W.heap.size, 0, none⟩) (Nat.le_refl _) (.int .u16 a)).setCell (p := ⟨W.heap.size, 1, none⟩) (Nat.le_refl _) (.int .u8 d))
    clear h3 H8 v0 v1 z0 z1 H6 H7 r6 r7 B6 B7 l6 l7 hlk
    go_wp2_with fail
    exact bodyPost_ret (v := .agg #[.int .u16 a, .int .u8 d]) (results_cell_row rfl _ _ _ _ _ _ _ rfl HP.out.row Try.underlying82 rfl cellSize) rfl ⟨rfl, B8.out⟩
  · have d0 : decide (0 < (c2 : Int)) = true := decide_eq_true (by omega)
    have d1 : decide (0 < c2) = true := decide_eq_true (by omega)
    have hfn := fnd_first hfit h1 (show (cv l n f 0 0 (X % 2 ^ f) n).2 ≠ 0 by rw [hc2]; exact hc0)
    have ea : a = c1 := by rw [← ha, hfn, hc1]
    have ed : d = c2 := by rw [← hd, hfn, hc2]
    subst ea ed
    have v0 := (R3.out.alloc (.cells #[.int .u16 a, .int .u8 d] 82)).at0
    have v1 := (R3.out.alloc (.cells #[.int .u16 a, .int .u8 d] 82)).at1
    have z0 := (R3.out.alloc (.cells #[.int .u16 a, .int .u8 d] 82)).frozen 0
    have z1 := (R3.out.alloc (.cells #[.int .u16 a, .int .u8 d] 82)).frozen 1
    have HP := Lib.hid ((R3.out.alloc (.cells #[.int .u16 a, .int .u8 d] 82)).put (.int .u16 a) (.int .u8 d))
    clear hfn
    go_wp2_with fail
    exact bodyPost_ret (v := .agg #[.int .u16 a, .int .u8 d]) (results_cell_row rfl _ _ _ _ _ _ _ rfl HP.out.row Try.underlying82 rfl cellSize) rfl ⟨rfl, ((B3.out.alloc B3.out.size _).setCell (Nat.le_refl _) _).setCell (Nat.le_refl _) _⟩
end Go.Proofs.Ytnkkccieidlacaa
