/- What Diff of package mods answers. Conditions: as each theorem names them. -/
import Derived.Test.YtbbfbijgclpjeaaOdL
import Derived.Test.YtbbfbijgclpjeaaOdF
import Derived.RegionIn
import Derived.Shelf.RegionOpen
namespace Go.Proofs.Ytbbfbijgclpjeaa.O
open Go Go.RowKit M
set_option linter.unusedVariables false
set_option linter.unusedSimpArgs false
attribute [local go_sem] Oper.semAt_some

theorem differences_any (a b : ByteArray) (w : World) : Calls Try.prog 37 #[.string a, .string b] w fun e w' =>
    e = .returned (.func (.func 43) #[] #[.pointer (some ⟨w.heap.size, 0, none⟩), .pointer (some ⟨w.heap.size + 1, 0, none⟩)]) ∧ w' = (w.alloc (.cells #[.string a] 9)).alloc (.cells #[.string b] 9) := by
  go_enter Try.func37, Try.ntmps37
  go_wp2
  go_ret
  exact ⟨by simp, rfl⟩
/-- the iterator's contract -/
theorem diff_stops (m Ba Bb R M n₁ N : Nat) (a b : ByteArray) (hm : 1 ≤ m) (hs : a.size = b.size) (hn : a.size ≤ 100000000) (hN : (dif a b).length ≤ N) (hA1 : Ba < n₁) (hA2 : Ba ≠ R) (hA3 : Ba ≠ M) (hB1 : Bb < n₁) (hB2 : Bb ≠ R) (hB3 : Bb ≠ M) (w : World) (hn1 : n₁ ≤ w.heap.size)
    (hBa : w.cell? ⟨Ba, 0, none⟩ = some (.string a)) (hBb : w.cell? ⟨Bb, 0, none⟩ = some (.string b)) :
    SeqStopsK Fence.wide m Try.prog 43 #[.pointer (some ⟨Ba, 0, none⟩), .pointer (some ⟨Bb, 0, none⟩)] (encS b) (Kept (Sx R M n₁)) (fun ys => ys.map (sg b) = dif a b) (fun _ => True) N w := fun l J Jx W hW hJ _ hY h0 =>
  diff1_in m l Ba Bb R M n₁ N a b hm hs hn hN hA1 hA2 hA3 hB1 hB2 hB3 W (Nat.le_trans hn1 hW.size) J Jx hJ hY ((hW.cell (p := ⟨Ba, 0, none⟩) (by show Ba < _; omega)).trans hBa) ((hW.cell (p := ⟨Bb, 0, none⟩) (by show Bb < _; omega)).trans hBb) h0
theorem one_cell {W : World} {T : TypeId} {g : Nat} {a : Value} (h : W.heap[g]? = some (.cells #[a] T (0, 0))) : W.cell? ⟨g, 0, none⟩ = some a := by simp [World.cell?, h]
theorem one_free {W : World} {T : TypeId} {g : Nat} {a : Value} (h : W.heap[g]? = some (.cells #[a] T (0, 0))) : W.frozen? ⟨g, 0, none⟩ = false := by simp [World.frozen?, h]
theorem one_set {W : World} {T : TypeId} {g : Nat} {a : Value} (h : W.heap[g]? = some (.cells #[a] T (0, 0))) (b : Value) : (W.setCell ⟨g, 0, none⟩ b).heap[g]? = some (.cells #[b] T (0, 0)) := by
  rw [setCell_eq_setRow W g 0 #[a] T (0, 0) b h]
  exact setRow_heap W g #[a] #[b] T (0, 0) h
theorem set_far {W : World} {g k : Nat} (v : Value) (h : k ≠ g) : (W.setCell ⟨g, 0, none⟩ v).heap[k]? = W.heap[k]? := Below.heap_setCell _ _ _ _ h

/-- append of a modification, inside a fence, and where it lies -/
theorem wpListIn_md {F : Fence} {n : Nat} {ops : Array Oper} {rest : List Oper} {o : Oper} {a : Act} {w : World} {Q : Exit → Act → World → Prop} (hgd : o.guard = none) (s x : Operand)
    (ho : o.op = .call { callee := .builtin .append, args := #[s, x], argTypes := #[22, 22] }) (B : Nat) (v : Value) (L : List Md) (hs : a.eval s = v) (h : Owm B w v L) (b c : Nat) (p : Int) (t : ByteArray)
    (hx : a.eval x = .slice (some ⟨b, 0, none⟩) 1 c) (hc : w.cell? ⟨b, 0, none⟩ = some (.int .i64 p) ∧ w.cell? ⟨b, 1, none⟩ = some (.string t)) (hL : L.length ≤ 900000) (hB : B ≤ w.heap.size)
    (m : Nat) (hm : L.length = m)
    (hK : ∀ g cap w', Owm B w' (.slice (some ⟨g, 0, none⟩) (m + 1) cap) (L ++ [⟨p, t⟩]) → w.grownBy w' v.ownBlock → wpListIn F n Try.prog ops Q rest (a.put o.dst (.slice (some ⟨g, 0, none⟩) (m + 1) cap)) w') : wpListIn F n Try.prog ops Q (o :: rest) a w := by
  refine wpListIn_plain hgd fun K hK' => ?_
  obtain ⟨i, h1, h2, h3, h4⟩ := info_of modInfo
  obtain ⟨g, cap, w', r1, r2, r3, r4, _⟩ := run_append_lies (P := Try.prog) w 22 o.type B 34 i _ 2 24 Try.underlying22 h1 h2 h3 h4 rfl (by decide) v L.length (clm L) h ⟨b, 0, none⟩ 1 c (clm [⟨p, t⟩]) rfl
      (lies_clm (one_lies hc)) (clm_one _) (by decide) (by unfold maxLen; omega) (by omega) hB _ rfl
  unfold Oper.wpIn
  refine ⟨?_, ?_⟩
  · simp [Oper.about, ho, resolve, Target.leads, Sem.run_pure]
  · rw [Oper.semAt_plain F _ _ (by rw [ho]; intro c hc'; cases hc')]
    simp [execOp, ho, resolve, invoke, builtin, hs, hx, r1, Result.andThen]
    subst hm
    refine hK' _ _ (hK g cap w' ?_ r3)
    unfold Owm
    rw [List.length_append, clm_append]; exact r2

/-! between two rounds of the iterator -/
def MidD (w2 : World) (n₀ n₁ : Nat) (b : ByteArray) (pre : List (Nat × Nat)) (W : World) : Prop :=
  (∃ v, W.heap[n₀]? = some (.cells #[v] 22 (0, 0)) ∧ Owm n₁ W v (pre.map (sg b))) ∧ Kept (Sx n₀ n₀ n₁) w2 W
theorem MidD.own {w2 : World} {n₀ n₁ : Nat} {b : ByteArray} (h0 : n₀ < n₁) : OwnFrom n₁ (MidD w2 n₀ n₁ b) := fun pre W W' row hs hg hr => by
  obtain ⟨⟨v, h1, h2⟩, h4⟩ := hs
  refine ⟨⟨v, ?_, h2.at fun g e => ?_⟩, h4.grown hg (fun r e => .inl (.inr (.inr (hr r e).1)))⟩
  · exact (hg.block n₀ (Array.getElem?_eq_some_iff.1 h1).1 (fun e => by have := (hr n₀ e.symm).1; omega)).trans h1
  · refine hg.block g (h2.lt g e).2 (fun e' => ?_)
    obtain ⟨_, o, ho, hc⟩ := hr g e'.symm
    obtain ⟨cs, hcs⟩ := h2.ty g e
    rw [ho] at hcs
    cases hcs
    cases hc
/-- the difference of a round, in its block -/
def AxD (n₁ : Nat) (b : ByteArray) (f : Nat × Nat → Nat → Act) (x : Nat × Nat) (a' : Act) (W : World) : Prop :=
  ∃ Bx, n₁ ≤ Bx ∧ W.heap[Bx]? = some (.cells #[.int .i64 (x.1 : Int), .string (b.extract x.1 x.2)] 34 (0, 0)) ∧ a' = f x Bx
theorem AxD.own {n₁ : Nat} {b : ByteArray} {f : Nat × Nat → Nat → Act} {x : Nat × Nat} {a' : Act} : OwnFrom n₁ (fun (_ : Unit) W => AxD n₁ b f x a' W) := fun _ W W' row hs hg hr => by
  obtain ⟨Bx, h1, h2, h3⟩ := hs
  refine ⟨Bx, h1, (hg.block Bx (Array.getElem?_eq_some_iff.1 h2).1 (fun e => ?_)).trans h2, h3⟩
  obtain ⟨_, o, ho, hc⟩ := hr Bx e.symm
  rw [h2] at ho
  cases ho
  cases hc
/-- what Diff leaves -/
def difl (a b : ByteArray) : List Md × Int := if a.size = b.size ∧ pg (a.size : Int) = true then (dif a b, 0) else ([], 2)
def Dfd (W : World) (a b : ByteArray) (e : Ending) (w' : World) : Prop :=
  ∃ A n c, e = .returned (.tuple #[.slice A n c, .int .i64 (difl a b).2]) ∧ IsMds w' A n (difl a b).1 ∧ n ≤ 100000 ∧ n ≤ c ∧ Below W.heap.size W w'
theorem Dfd.bad {W w : World} {a b : ByteArray} (h : ¬ (a.size = b.size ∧ pg (a.size : Int) = true)) (hb : Below W.heap.size W w) : Dfd W a b (.returned (.tuple #[.slice none 0 0, .int .i64 2])) w := by
  have e : difl a b = ([], 2) := if_neg h
  exact ⟨none, 0, 0, by rw [e], by rw [e]; exact IsMds.nil _ _, Nat.zero_le _, Nat.le_refl _, hb⟩
theorem dif_ok {a b : ByteArray} (hs : a.size = b.size) (hp : pg (a.size : Int) = true) : ∀ m ∈ dif a b, m.ok := fun m hm => may_ok (dif_may hs hp m hm)

set_option maxRecDepth 1000000 in
set_option maxHeartbeats 2000000 in
theorem diff_bad (a b : ByteArray) (w : World) (h : ¬ (a.size = b.size ∧ pg (a.size : Int) = true)) (ha : a.size ≤ 100000000) (hb : b.size ≤ 100000000) :
    Calls Try.prog 28 #[.string a, .string b] w (Dfd w a b) := by
  have HP := Lib.hid (page_any (a.size : Int))
  have HE := Lib.hid (fun w' => Dfd.bad (W := w) (w := w') h)
  refine (callsIn_wide (n := 5)).1 ?_
  refine callsIn_of_wp Try.func28 rfl trivial ?_ rfl
  simp only [Try.ntmps28, List.size_toArray, List.length_cons, List.length_nil, Nat.reduceAdd, Nat.reduceSub, Array.replicate_succ, Array.replicate_zero, List.push_toArray, List.append_toArray, List.nil_append, List.cons_append]
  by_cases hs : a.size = b.size
  · have hp : pg (a.size : Int) = false := by
      cases q : pg (a.size : Int) with
      | false => rfl
      | true => exact absurd ⟨hs, q⟩ h
    rw [hp] at HP
    have d1 : ((a.size : Int) != (b.size : Int)) = false := by rw [hs]; simp
    have d2 : (a.size != b.size) = false := by rw [hs]; simp
    clear h hs hp
    gi_wp2_with (refine ⟨trivial, ?_⟩; gi_at_call 18; (with_reducible refine (callsIn_wide.2 (HP.out _)).mono ?_); rintro e w' ⟨rfl, rfl⟩)
    go_ret2
    exact HE.out _ (Below.refl _ _)
  · have d1 : ((a.size : Int) != (b.size : Int)) = true := by rw [bne_iff_ne]; omega
    have d2 : (a.size != b.size) = true := by rw [bne_iff_ne]; exact hs
    clear h hs
    gi_wp2
    refine ⟨trivial, ?_⟩
    gi_wp2
    go_ret2
    exact HE.out _ (Below.refl _ _)

set_option maxRecDepth 1000000 in
set_option maxHeartbeats 2000000 in
theorem diff_good (a b : ByteArray) (w : World) (hs : a.size = b.size) (hp : pg (a.size : Int) = true) :
    Calls Try.prog 28 #[.string a, .string b] w (Dfd w a b) := by
  have hn := pg_le hp
  have hdl := dif_length hs
  have HP := Lib.hid (page_any (a.size : Int))
  rw [hp] at HP
  have HDi := Lib.hid (fun w => differences_any a b w)
  have HFin := Lib.hid (show ∀ w' v, Owm (w.heap.size + 1 + 1 + 1) w' v (dif a b) → Below w.heap.size w w' → Dfd w a b (.returned (.tuple #[v, .int .i64 0])) w' from fun w' v ho hb => by
    have e : difl a b = (dif a b, 0) := if_pos ⟨hs, hp⟩
    obtain ⟨A, c, rfl, hI⟩ := ho.mds (dif_ok hs hp) (by unfold maxLen; omega)
    have hcap : (dif a b).length ≤ c := by
      rcases ho.2 with ⟨g1, g2⟩ | ⟨g, cap, cur, g1, _, _, g2, _⟩
      · rw [g2]; exact Nat.zero_le _
      · cases g1; exact g2
    exact ⟨A, _, c, by rw [e], by rw [e]; exact hI, by omega, hcap, hb⟩)
  have d1 : ((a.size : Int) != (b.size : Int)) = false := by rw [hs]; simp
  have d2 : (a.size != b.size) = false := by rw [hs]; simp
  have HS := Lib.hid hs
  have HN := Lib.hid hn
  have HDL := Lib.hid hdl
  clear hp hn hs hdl
  refine (callsIn_wide (n := 5)).1 ?_
  refine callsIn_of_wp_marks Try.func28 rfl trivial ?_ rfl
  simp only [Try.ntmps28, List.size_toArray, List.length_cons, List.length_nil, Nat.reduceAdd, Nat.reduceSub, Array.replicate_succ, Array.replicate_zero, List.push_toArray, List.append_toArray, List.nil_append, List.cons_append]
  gi_wp2_with (refine ⟨trivial, ?_⟩; first
    | (gi_at_call 18; (with_reducible refine (callsIn_wide.2 (HP.out _)).mono ?_); rintro e w' ⟨rfl, rfl⟩)
    | (gi_at_call 37; (with_reducible refine (callsIn_wide.2 (HDi.out _)).mono ?_); rintro e w' ⟨rfl, rfl⟩))
  obtain ⟨n₀, hn0⟩ : ∃ n₀, w.heap.size = n₀ := ⟨_, rfl⟩
  have HN0 := Lib.hid hn0
  have e1 : (w.alloc (.cells #[.slice none 0 0] 22)).heap.size = n₀ + 1 := by rw [World.size_alloc, hn0]
  have e2 : ((w.alloc (.cells #[.slice none 0 0] 22)).alloc (.cells #[.string a] 9)).heap.size = n₀ + 1 + 1 := by rw [World.size_alloc, e1]
  have g0 := new_at w (.cells #[.slice none 0 0] 22)
  have g1 := new_at (w.alloc (.cells #[.slice none 0 0] 22)) (.cells #[.string a] 9)
  have g2 := new_at ((w.alloc (.cells #[.slice none 0 0] 22)).alloc (.cells #[.string a] 9)) (.cells #[.string b] 9)
  rw [hn0] at g0
  rw [e1] at g1
  rw [e2] at g2
  have g0' := old_at (.cells #[.string b] 9) (old_at (.cells #[.string a] 9) g0)
  have g1' := old_at (.cells #[.string b] 9) g1
  have hz2 : (((w.alloc (.cells #[.slice none 0 0] 22)).alloc (.cells #[.string a] 9)).alloc (.cells #[.string b] 9)).heap.size = n₀ + 1 + 1 + 1 := by rw [World.size_alloc, e2]
  have hb2 : Below n₀ w (((w.alloc (.cells #[.slice none 0 0] 22)).alloc (.cells #[.string a] 9)).alloc (.cells #[.string b] 9)) := (((Below.refl _ w).alloc (by omega) _).alloc (by omega) _).alloc (by omega) _
  rw [hn0] at HFin ⊢
  obtain ⟨w2, hw2⟩ : ∃ w2, ((w.alloc (.cells #[.slice none 0 0] 22)).alloc (.cells #[.string a] 9)).alloc (.cells #[.string b] 9) = w2 := ⟨_, rfl⟩
  rw [hw2] at hz2 hb2 g0' g1' g2 ⊢
  clear hw2 g0 g1 e1 e2 hn0
  have HB2 := Lib.hid hb2
  have hn02 : n₀ < w2.heap.size := by omega
  have hn0w : w.heap.size = n₀ := HN0.out
  have HFd := Lib.hid (show ∀ W, Kept (Sx n₀ n₀ w2.heap.size) w2 W → Below n₀ w W from fun W hk =>
    HB2.out.trans (hk.below (by omega) (fun j hj => by rcases hj with hj | hj | hj <;> omega)))
  rw [hz2.symm] at HFin
  have HFin2 := Lib.hid HFin.out
  have ib1 : n₀ + 1 < w2.heap.size := by omega
  have ib2 : n₀ + 1 + 1 < w2.heap.size := by omega
  clear hb2 hz2 hn0w HFin
  refine wpIn_rangeFunc_ownH rfl (by omega) (gf := 43) (lb := #[.pointer (some ⟨n₀ + 1, 0, none⟩), .pointer (some ⟨n₀ + 1 + 1, 0, none⟩)]) rfl trivial (enters_of Try.func43 (by kernel_rfl) rfl)
    (diff_stops 4 (n₀ + 1) (n₀ + 1 + 1) n₀ n₀ w2.heap.size 100000 a b (by omega) HS.out (by have := HN.out; omega) (by have := HDL.out; have := HN.out; omega) ib1 (by omega) (by omega) ib2 (by omega) (by omega) w2 (Nat.le_refl _) (one_cell g1') (one_cell g2))
    (fun h k => keptSx_t h k) (fun W l o o' hl h _ _ => keptSx_b W l o o' hl h) (Below.refl _ _) (fun _ => rfl)
    (MidD w2 n₀ w2.heap.size b) (fun _ _ _ => False) (MidD.own hn02) (fun _ _ _ _ _ hs _ _ => hs)
    ⟨⟨_, g0', Owm.nil _ _⟩, Kept.refl _ _⟩
    (AxD w2.heap.size b (fun x Bx => { tmps := #[.string a, .string b, undef, undef, .slice none 0 0, .int .i64 0, .pointer (some ⟨n₀, 0, none⟩), .pointer (some ⟨Bx, 0, none⟩), .string a, .int .i64 a.size, .string b, .int .i64 b.size, .bool false, .bool false, .string a, .int .i64 a.size, .bool true, .bool false, .bool false, .string a, .string b, .func (.func 43) #[] #[.pointer (some ⟨n₀ + 1, 0, none⟩), .pointer (some ⟨n₀ + 1 + 1, 0, none⟩)], .agg #[.int .i64 (x.1 : Int), .string (b.extract x.1 x.2)], undef, undef, undef, undef, undef], defers := [] }))
    (fun x a' => AxD.own)
    ?assign ?body ?done ?stop
  case assign =>
    rintro l pre x W K ⟨⟨v, hm1, hm2⟩, hm3⟩ hK
    unfold encS
    have HK := Lib.hid (fun (a' : Act) (W' : World) (h1 : KeepsFrom w2.heap.size W W') (h2 : Kept (Sx n₀ n₀ w2.heap.size) W W') (h3 : MidD w2 n₀ w2.heap.size b pre W') h4 => hK a' W' h1 h2 h3 h4)
    clear hK
    obtain ⟨x1, x2⟩ := x
    simp only
    obtain ⟨T, hT⟩ : ∃ T, b.extract x1 x2 = T := ⟨_, rfl⟩
    have HT := Lib.hid hT
    rw [hT]
    have H1 := Lib.hid hm1
    have H2 := Lib.hid hm2
    have H3 := Lib.hid hm3
    clear hm1 hm2 hm3 hT
    gi_wp2
    exact HK.out _ _ ((KeepsOthers.alloc _ _).from _) ((Kept.refl _ _).alloc _) ⟨⟨v, old_at _ H1.out, H2.out.alloc _⟩, H3.out.alloc _⟩ ⟨W.heap.size, H3.out.size, by simp only [HT.out]; exact new_at _ _, by simp only [HT.out]⟩
  case body =>
    rintro l' pre x a' W hl' ⟨r, hr⟩ ⟨⟨v, hm1, hm2⟩, hm3⟩ ⟨Bx, hBx, hR, rfl⟩ hlt
    obtain ⟨x1, x2⟩ := x
    dsimp only at hR ⊢
    obtain ⟨T, hT⟩ : ∃ T, b.extract x1 x2 = T := ⟨_, rfl⟩
    have HT := Lib.hid (show (pre ++ [(x1, x2)]).map (sg b) = pre.map (sg b) ++ [⟨(x1 : Int), T⟩] by rw [List.map_append, ← hT]; rfl)
    rw [hT] at hR ⊢
    clear hT
    have c0 : W.cell? ⟨Bx, 0, none⟩ = some (.int .i64 (x1 : Int)) := by rw [Lib.cell_of_heap hR]; rfl
    have c1 : W.cell? ⟨Bx, 1, none⟩ = some (.string T) := by rw [Lib.cell_of_heap hR]; rfl
    have s0 := one_cell hm1
    have f0 := one_free hm1
    have hlen : (pre.map (sg b)).length = pre.length := List.length_map ..
    obtain ⟨m, hm⟩ : ∃ m, pre.length = m := ⟨_, rfl⟩
    rw [hm] at hlen hlt
    have HLen := Lib.hid hlen
    obtain ⟨L, hL⟩ : ∃ L, pre.map (sg b) = L := ⟨_, rfl⟩
    have HLL := Lib.hid hL
    rw [hL] at hm2 HLen
    have H1 := Lib.hid hm1
    have H2 := Lib.hid hm2
    have H3 := Lib.hid hm3
    have hsz := hm3.size
    have hmN : m ≤ 100000 := by omega
    clear hm1 hm2 hm3 hR hr hm hlen hL hlt
    gi_wp2_with (gi_at_builtin; refine wpListIn_md rfl (.tmp 23) (.tmp 25) rfl w2.heap.size v L rfl (H2.out.alloc _) W.heap.size 1 (x1 : Int) T rfl ⟨by simp, by simp⟩ (by have := HLen.out; omega) (by simp; omega) m HLen.out ?_; intro gg cap w4 o4 g4; have q4 := (g4.block n₀ (by simp; omega) (fun e => by have := (H2.out.lt n₀ e.symm).1; omega)).trans (old_at _ H1.out); have q5 := one_cell q4; have q6 := one_free q4; have O4 := Lib.hid o4; have G4 := Lib.hid g4; have Q4 := Lib.hid q4; clear o4 g4 q4)
    all_goals gi_wp2
    have hkp : Kept (Sx n₀ n₀ w2.heap.size) W (w4.setCell ⟨n₀, 0, none⟩ (.slice (some ⟨gg, 0, none⟩) (m + 1) cap)) := (((Kept.refl _ W).alloc _).grown G4.out (fun k e => .inl (.inr (.inr (H2.out.lt k e).1)))).setCell ⟨n₀, 0, none⟩ (.inl (.inl rfl)) _
    exact ⟨(((KeepsOthers.alloc _ _).trans (KeepsOthers.of_grownBy G4.out (fun j ob e ho => by
      obtain ⟨cs, hcs⟩ := (H2.out.alloc _).ty j e
      rw [ho] at hcs
      cases hcs
      rfl))).trans (KeepsOthers.setCell _ _ _)).from _, hkp,
      ⟨_, one_set Q4.out _, by rw [HT.out, HLL.out]; exact O4.out.at (fun g e => set_far _ (by have := (O4.out.lt g e).1; omega))⟩, keptSx_t H3.out hkp⟩
  case done =>
    rintro D ys W hD hS ⟨⟨v, hm1, hm2⟩, hm3⟩ hK
    rw [hS] at hm2
    have s0 := one_cell hm1
    have HKd := Lib.hid hK
    have HB := Lib.hid (HFd.out W hm3)
    have HM2 := Lib.hid hm2
    clear hS hm1 hm2 hm3 hK
    gi_wp2
    have hK' := HKd.out
    refine ⟨by simp, .inl ⟨_, _, rfl, run_takeDeferred hK', ?_⟩⟩
    refine ⟨_, results_tmp2 rfl _ _ _, ?_⟩
    show Dfd w a b (.returned (.tuple #[v, .int .i64 0])) _
    refine HFin2.out _ v (HM2.out.at fun g e => ?_) (HB.out.trans (belowK_b (w := w2) (by omega) _ D _ _ hD hK' rfl rfl))
    refine (grownBy_putObj' W D _).block g (HM2.out.lt g e).2 (fun e' => ?_)
    cases e'
    obtain ⟨cs, hcs⟩ := HM2.out.ty D e
    rw [hK'] at hcs
    cases hcs
  case stop =>
    rintro D c pre W _ _ h _
    exact h.elim
theorem diff_any (a b : ByteArray) (w : World) (ha : a.size ≤ 100000000) (hb : b.size ≤ 100000000) :
    Calls Try.prog 28 #[.string a, .string b] w (Dfd w a b) := by
  by_cases h : a.size = b.size ∧ pg (a.size : Int) = true
  · exact diff_good a b w h.1 h.2
  · exact diff_bad a b w h ha hb
end Go.Proofs.Ytbbfbijgclpjeaa.O
