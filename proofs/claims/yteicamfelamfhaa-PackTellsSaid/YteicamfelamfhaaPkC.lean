/- What merge and rowOf of package pack answer. Conditions: as each theorem names them. -/
import Derived.Test.YteicamfelamfhaaPkB
import Derived.BigQuiet
namespace Go.Proofs.Yteicamfelamfhaa
open Go.RowKit M
set_option linter.unusedVariables false

/-- leaves and packages by rising weights, leaves ahead, with where they lead to -/
def mr2 (L P : List Tp) : List Tp := match L, P with
  | [], P => P
  | l :: L, [] => l :: L
  | l :: L, p :: P => if p.1.wt < l.1.wt then p :: mr2 (l :: L) P else l :: mr2 L (p :: P)
termination_by L.length + P.length
theorem mr2_nil (P : List Tp) : mr2 [] P = P := by rw [mr2]
theorem mr2_nil' (L : List Tp) : mr2 L [] = L := by cases L <;> rw [mr2]
theorem mr2_cons (l p : Tp) (L P : List Tp) : mr2 (l :: L) (p :: P) = if p.1.wt < l.1.wt then p :: mr2 (l :: L) P else l :: mr2 L (p :: P) := by rw [mr2]
theorem mr2_fst : ∀ (L P : List Tp), (mr2 L P).map (·.1) = mrg (L.map (·.1)) (P.map (·.1))
  | [], P => by rw [mr2_nil, List.map_nil, mrg_nil]
  | l :: L, [] => by rw [mr2_nil', List.map_nil, mrg_nil']
  | l :: L, p :: P => by
    rw [mr2_cons, List.map_cons, List.map_cons, mrg_cons]
    by_cases h : p.1.wt < l.1.wt
    · rw [if_pos h, if_pos h, List.map_cons, mr2_fst (l :: L) P, List.map_cons]
    · rw [if_neg h, if_neg h, List.map_cons, mr2_fst L (p :: P), List.map_cons]
termination_by L P => L.length + P.length
theorem mr2_mem (x : Tp) : ∀ (L P : List Tp), x ∈ mr2 L P → x ∈ L ∨ x ∈ P
  | [], P, h => by rw [mr2_nil] at h; exact .inr h
  | l :: L, [], h => by rw [mr2_nil'] at h; exact .inl h
  | l :: L, p :: P, h => by
    rw [mr2_cons] at h
    by_cases q : p.1.wt < l.1.wt
    · rw [if_pos q] at h
      rcases List.mem_cons.1 h with rfl | h
      · exact .inr List.mem_cons_self
      · rcases mr2_mem x (l :: L) P h with h | h
        · exact .inl h
        · exact .inr (List.mem_cons_of_mem _ h)
    · rw [if_neg q] at h
      rcases List.mem_cons.1 h with rfl | h
      · exact .inl List.mem_cons_self
      · rcases mr2_mem x L (p :: P) h with h | h
        · exact .inl (List.mem_cons_of_mem _ h)
        · exact .inr h
termination_by L P => L.length + P.length
theorem mr2_length (L P : List Tp) : (mr2 L P).length = L.length + P.length := by
  have := congrArg List.length (mr2_fst L P)
  rw [List.length_map, mrg_length, List.length_map, List.length_map] at this
  exact this
theorem mr2_less {L P : List Tp} {l p : Tp} {i j : Nat} (hl : L[i]? = some l) (hp : P[j]? = some p) (h : p.1.wt < l.1.wt) : mr2 (L.drop i) (P.drop j) = p :: mr2 (L.drop i) (P.drop (j + 1)) := by
  obtain ⟨hi, rfl⟩ := List.getElem?_eq_some_iff.1 hl
  obtain ⟨hj, rfl⟩ := List.getElem?_eq_some_iff.1 hp
  rw [List.drop_eq_getElem_cons hi, List.drop_eq_getElem_cons hj, mr2_cons, if_pos h]
theorem mr2_leaf {L P : List Tp} {l : Tp} {i j : Nat} (hl : L[i]? = some l) (h : ∀ p, P[j]? = some p → ¬ p.1.wt < l.1.wt) : mr2 (L.drop i) (P.drop j) = l :: mr2 (L.drop (i + 1)) (P.drop j) := by
  obtain ⟨hi, rfl⟩ := List.getElem?_eq_some_iff.1 hl
  rw [List.drop_eq_getElem_cons hi]
  by_cases hj : j < P.length
  · rw [List.drop_eq_getElem_cons hj, mr2_cons, if_neg (h _ (List.getElem?_eq_getElem hj))]
  · rw [show P.drop j = [] from List.drop_eq_nil_of_le (by omega), mr2_nil', mr2_nil']

theorem cell3_one (w : World) (b o : Nat) (x : Tp) (h1 : w.cell? ⟨b, o, none⟩ = some (.int .u64 x.1.wt)) (h2 : w.cell? ⟨b, o + 1, none⟩ = some (.int .i64 x.1.sy)) (h3 : w.cell? ⟨b, o + 2, none⟩ = some (.pointer x.2)) : Trs w b o [tr x] := by
  intro i t h
  match i, h with
  | 0, h =>
    simp at h
    subst h
    rw [Nat.zero_mul, Nat.add_zero]
    exact ⟨h1, h2, h3⟩

set_option maxHeartbeats 8000000 in
set_option maxRecDepth 1000000 in
theorem merge_any (A : Option Addr) (n c base g np : Nat) (L P : List Tp) (W : World) (hl : L.length = n) (hlp : P.length = np) (hn : n ≤ 400) (hnp : np ≤ 600) (HL : Things W base A L) (HP : Things W base (some ⟨g, 0, none⟩) P)
    (wl : ∀ x ∈ L, x.1.wt ≤ 1125899906842624) (wp : ∀ x ∈ P, x.1.wt ≤ 1125899906842624) :
    Calls Try.prog 32 #[.slice A n c, .slice (some ⟨g, 0, none⟩) np np] W fun x w' => ∃ A' cap, x = .returned (.slice A' (n + np) cap) ∧ Things w' base A' (mr2 L P) ∧ (∀ b o, A' = some ⟨b, o, none⟩ → W.heap.size ≤ b) ∧ (n + np ≤ cap) ∧ Below W.heap.size W w' := by
  obtain ⟨s, hs⟩ : ∃ s, n + np = s := ⟨_, rfl⟩
  have e1 : (n : Int) + (np : Int) = (s : Int) := by omega
  have m1 : ∀ w, (Instr.makeSlice 45 (.int .i64 0) (.int .i64 (s : Int))).run Try.prog w = .ok (.slice (some ⟨w.heap.size, 0, none⟩) 0 s) (w.alloc (.cells (madeCells #[.int .u64 0, .int .i64 0, .pointer none] (s * 3)) 50)) := fun w =>
    run_made w Try.underlying45 thingInfo (by decide) 0 s (Nat.zero_le _) (by omega)
  have KL := Lib.hid HL
  have KP := Lib.hid HP
  have NL := Lib.hid hl
  have NP := Lib.hid hlp
  have WL := Lib.hid wl
  have WP := Lib.hid wp
  have HS := Lib.hid hs
  have hs1 : s ≤ 1000 := by omega
  clear HL HP hl hlp wl wp hs
  go_enter Try.func32, Try.ntmps32
  go_wp2_with fail
  clear m1
  have HO : Hid (Ow W.heap.size (W.alloc (.cells (madeCells #[.int .u64 0, .int .i64 0, .pointer none] (s * 3)) 50)) (.slice (some ⟨W.heap.size, 0, none⟩) 0 s) (([] : List Tp).map tr)) := Lib.hid (World.ownsRow_made W _ s (Nat.le_refl _) (by unfold maxLen; omega) (size_madeCells _ _))
  go_loopw [16, 5, 1] (fun x v pv wr => ∃ (i j r oj : Nat) (acc : List Tp), x = .int .i64 i ∧ pv = .slice (some ⟨g, oj, none⟩) r r ∧ i ≤ n ∧ j + r = np ∧ Hid ((0 < r → oj = j * 3) ∧ Ow W.heap.size wr v (acc.map tr) ∧ acc ++ mr2 (L.drop i) (P.drop j) = mr2 L P ∧ Below W.heap.size W wr) ) (fun x _ _ _ => n - (intOf x).toNat)
  case atStart => exact ⟨0, 0, np, 0, [], rfl, rfl, Nat.zero_le _, by omega, Lib.hid ⟨fun _ => rfl, HO.out, rfl, (Below.refl _ _).alloc (Nat.le_refl _) _⟩⟩
  case round =>
    obtain ⟨i, j, r, oj, acc, rfl, rfl, q1, q2, HB⟩ := hrel
    by_cases c1 : i < n
    · have hln := NL.out
      obtain ⟨b, o, rfl, hbs, ht⟩ := KL.out.1 (by omega)
      have li : i < L.length := by omega
      obtain ⟨x, hx⟩ : ∃ x, L[i]? = some x := ⟨_, List.getElem?_eq_getElem li⟩
      obtain ⟨x1, x2, x3⟩ := ht.one hx
      have hwx := WL.out x (List.mem_of_getElem? hx)
      have hb := HB.out.2.2.2
      have x1 := (hb.cell hbs).trans x1
      have x2 := (hb.cell hbs).trans x2
      have x3 := (hb.cell hbs).trans x3
      obtain ⟨xw, hxw⟩ : ∃ t, x.1.wt = t := ⟨_, rfl⟩
      obtain ⟨xs, hxs⟩ : ∃ t, x.1.sy = t := ⟨_, rfl⟩
      obtain ⟨xp, hxp⟩ : ∃ t, x.2 = t := ⟨_, rfl⟩
      rw [hxw] at x1 hwx
      rw [hxs] at x2
      rw [hxp] at x3
      have HX := Lib.hid (And.intro hx (And.intro hxw (And.intro hxs hxp)))
      have hsz := hb.size
      obtain ⟨B0, hB0⟩ : ∃ B0, wr.heap.size = B0 := ⟨_, rfl⟩
      have HB0 := Lib.hid hB0
      clear ht hln li hx hxw hxs hxp hb
      go_wp2_with fail
      clear hB0
      clear x1 x2 x3
      go_loopw [5, 1] (fun v pv ws => ∃ (j r oj : Nat) (acc : List Tp), pv = .slice (some ⟨g, oj, none⟩) r r ∧ j + r = np ∧ ws.cell? ⟨B0, 0, none⟩ = some (.int .u64 xw) ∧ ws.cell? ⟨B0, 1, none⟩ = some (.int .i64 xs) ∧ ws.cell? ⟨B0, 2, none⟩ = some (.pointer xp) ∧
        Hid ((0 < r → oj = j * 3) ∧ Ow W.heap.size ws v (acc.map tr) ∧ acc ++ mr2 (L.drop i) (P.drop j) = mr2 L P ∧ Below W.heap.size W ws ∧ v.ownBlock ≠ some B0 ∧ B0 < ws.heap.size ∧ acc.length ≤ 1000)) (fun _ pv _ => match pv with | .slice _ r _ => r | _ => 0)
      case atStart =>
        refine ⟨j, r, oj, acc, rfl, q2, by have := HB0.out; subst this; simp, by have := HB0.out; subst this; simp, by have := HB0.out; subst this; simp, Lib.hid ⟨HB.out.1, HB.out.2.1.alloc _, HB.out.2.2.1, HB.out.2.2.2.alloc HB.out.2.2.2.size _, fun e => ?_, by have := HB0.out; simp; omega, ?_⟩⟩
        · have := (HB.out.2.1.lt _ e).2
          have := HB0.out
          omega
        · have := congrArg List.length HB.out.2.2.1
          rw [List.length_append, mr2_length L P, NL.out, NP.out] at this
          have := HS.out
          omega
      case round =>
        obtain ⟨j, r, oj, acc, rfl, q2, b1, b2, b3, HB2⟩ := hrel
        by_cases c2 : 0 < r
        · have hpn := NP.out
          obtain ⟨g', o', hg', hgs, ht⟩ := KP.out.1 (by omega)
          obtain ⟨rfl, rfl⟩ : g = g' ∧ o' = 0 := by simp at hg'; exact ⟨hg'.1, hg'.2.symm⟩
          obtain ⟨p, hp⟩ : ∃ p, P[j]? = some p := ⟨_, List.getElem?_eq_getElem (show j < P.length by omega)⟩
          obtain ⟨y1, y2, y3⟩ := ht.one hp
          have hoj := HB2.out.1 c2
          rw [Nat.zero_add, ← hoj] at y1 y2 y3
          have hwy := WP.out p (List.mem_of_getElem? hp)
          have hb := HB2.out.2.2.2.1
          have y1 := (hb.cell hgs).trans y1
          have y2 := (hb.cell hgs).trans y2
          have y3 := (hb.cell hgs).trans y3
          obtain ⟨yw, hyw⟩ : ∃ t, p.1.wt = t := ⟨_, rfl⟩
          obtain ⟨ys, hys⟩ : ∃ t, p.1.sy = t := ⟨_, rfl⟩
          obtain ⟨yp, hyp⟩ : ∃ t, p.2 = t := ⟨_, rfl⟩
          rw [hyw] at y1 hwy
          rw [hys] at y2
          rw [hyp] at y3
          have HY := Lib.hid (And.intro hp (And.intro hyw (And.intro hys hyp)))
          have HOJ := Lib.hid hoj
          have hsz2 := hb.size
          clear ht hpn hp hyw hys hyp hb hoj hg'
          clear x1 x2 x3
          by_cases c3 : yw < xw
          · by_cases c4 : 1 = r
            · subst c4
              go_wp2_with fail
              go_quiet (fail)
              have HO2 := Lib.hid (show Ow W.heap.size ((wr.drewN nq).alloc (.cells #[.int .u64 yw, .int .i64 ys, .pointer yp] 50)) _ (acc.map tr) from (HB2.out.2.1.drewN nq).alloc _)
              have HT2 := Lib.hid (one_trs (wr.drewN nq) yw ys yp)
              have HS2 := Lib.hid (show W.heap.size ≤ ((wr.drewN nq).alloc (.cells #[.int .u64 yw, .int .i64 ys, .pointer yp] 50)).heap.size by simp; omega)
              have HM2 := Lib.hid (show (acc.map tr).length + 1 ≤ 2000 by have := HB2.out.2.2.2.2.2.2; rw [List.length_map]; omega)
              go_wp2_with (at_builtin; refine wpList_ap rfl _ _ rfl W.heap.size _ (acc.map tr) [(yw, ys, yp)] rfl HO2.out _ 0 1 _ rfl rfl HT2.out HM2.out HS2.out ?_; intro v2 w2 o2 g2 d2 k2; have O2 := Lib.hid o2; have G2 := Lib.hid g2; have D2 := Lib.hid d2; have K2 := Lib.hid k2; have b1' := ((World.cell?_of_block (a := ⟨B0, 0, none⟩) (g2.block B0 (by have := HB2.out.2.2.2.2.2.1; simp; omega) (fun e => HB2.out.2.2.2.2.1 e.symm))).trans (((Below.refl (wr.drewN nq).heap.size (wr.drewN nq)).alloc (Nat.le_refl _) _).cell (by have := HB2.out.2.2.2.2.2.1; simp; omega))).trans b1; have b2' := ((World.cell?_of_block (a := ⟨B0, 1, none⟩) (g2.block B0 (by have := HB2.out.2.2.2.2.2.1; simp; omega) (fun e => HB2.out.2.2.2.2.1 e.symm))).trans (((Below.refl (wr.drewN nq).heap.size (wr.drewN nq)).alloc (Nat.le_refl _) _).cell (by have := HB2.out.2.2.2.2.2.1; simp; omega))).trans b2; have b3' := ((World.cell?_of_block (a := ⟨B0, 2, none⟩) (g2.block B0 (by have := HB2.out.2.2.2.2.2.1; simp; omega) (fun e => HB2.out.2.2.2.2.1 e.symm))).trans (((Below.refl (wr.drewN nq).heap.size (wr.drewN nq)).alloc (Nat.le_refl _) _).cell (by have := HB2.out.2.2.2.2.2.1; simp; omega))).trans b3; clear o2 g2 d2 k2)
              go_roundw
              case rel =>
                obtain ⟨a1, a2, a3, a4, a5, a6, a7⟩ := HB2.out
                obtain ⟨p1, p2, p3, p4⟩ := HY.out
                obtain ⟨l1, l2, l3, l4⟩ := HX.out
                have hoj := HOJ.out
                have hq : acc ++ [p] ++ mr2 (L.drop i) (P.drop (j + 1)) = mr2 L P := by
                  rw [List.append_assoc, List.singleton_append, ← mr2_less l1 p1 (by rw [p2, l2]; exact c3)]; exact a3
                refine ⟨j + 1, 0, oj, acc ++ [p], rfl, by omega, b1', b2', b3', Lib.hid ⟨fun h => by omega, ?_, hq, ((below_drewN a4 nq).alloc (by have := a4.size; simpa using this) _).trans D2.out, fun e => ?_, ?_, ?_⟩⟩
                · have := O2.out
                  rw [List.map_append]
                  show Ow W.heap.size w2 v2 (acc.map tr ++ [(p.1.wt, p.1.sy, p.2)])
                  rw [p2, p3, p4]; exact this
                · rcases K2.out with h | h
                  · rw [h] at e; exact a5 e
                  · rw [h] at e
                    have := Option.some.inj e
                    simp at this; omega
                · have := G2.out.size
                  simp at this; omega
                · have h1 := congrArg List.length hq
                  rw [List.length_append, mr2_length L P, NL.out, NP.out] at h1
                  have := HS.out
                  omega
              case measure => simp <;> omega
            · have c5 : ¬ r = 1 := fun e => c4 e.symm
              have v1 : (r : Int) - 1 = ((r - 1 : Nat) : Int) := by omega
              go_wp2_with fail
              go_quiet (fail)
              have HO2 := Lib.hid (show Ow W.heap.size ((wr.drewN nq).alloc (.cells #[.int .u64 yw, .int .i64 ys, .pointer yp] 50)) _ (acc.map tr) from (HB2.out.2.1.drewN nq).alloc _)
              have HT2 := Lib.hid (one_trs (wr.drewN nq) yw ys yp)
              have HS2 := Lib.hid (show W.heap.size ≤ ((wr.drewN nq).alloc (.cells #[.int .u64 yw, .int .i64 ys, .pointer yp] 50)).heap.size by simp; omega)
              have HM2 := Lib.hid (show (acc.map tr).length + 1 ≤ 2000 by have := HB2.out.2.2.2.2.2.2; rw [List.length_map]; omega)
              go_wp2_with (at_builtin; refine wpList_ap rfl _ _ rfl W.heap.size _ (acc.map tr) [(yw, ys, yp)] rfl HO2.out _ 0 1 _ rfl rfl HT2.out HM2.out HS2.out ?_; intro v2 w2 o2 g2 d2 k2; have O2 := Lib.hid o2; have G2 := Lib.hid g2; have D2 := Lib.hid d2; have K2 := Lib.hid k2; have b1' := ((World.cell?_of_block (a := ⟨B0, 0, none⟩) (g2.block B0 (by have := HB2.out.2.2.2.2.2.1; simp; omega) (fun e => HB2.out.2.2.2.2.1 e.symm))).trans (((Below.refl (wr.drewN nq).heap.size (wr.drewN nq)).alloc (Nat.le_refl _) _).cell (by have := HB2.out.2.2.2.2.2.1; simp; omega))).trans b1; have b2' := ((World.cell?_of_block (a := ⟨B0, 1, none⟩) (g2.block B0 (by have := HB2.out.2.2.2.2.2.1; simp; omega) (fun e => HB2.out.2.2.2.2.1 e.symm))).trans (((Below.refl (wr.drewN nq).heap.size (wr.drewN nq)).alloc (Nat.le_refl _) _).cell (by have := HB2.out.2.2.2.2.2.1; simp; omega))).trans b2; have b3' := ((World.cell?_of_block (a := ⟨B0, 2, none⟩) (g2.block B0 (by have := HB2.out.2.2.2.2.2.1; simp; omega) (fun e => HB2.out.2.2.2.2.1 e.symm))).trans (((Below.refl (wr.drewN nq).heap.size (wr.drewN nq)).alloc (Nat.le_refl _) _).cell (by have := HB2.out.2.2.2.2.2.1; simp; omega))).trans b3; clear o2 g2 d2 k2)
              go_roundw
              case rel =>
                obtain ⟨a1, a2, a3, a4, a5, a6, a7⟩ := HB2.out
                obtain ⟨p1, p2, p3, p4⟩ := HY.out
                obtain ⟨l1, l2, l3, l4⟩ := HX.out
                have hoj := HOJ.out
                have hq : acc ++ [p] ++ mr2 (L.drop i) (P.drop (j + 1)) = mr2 L P := by
                  rw [List.append_assoc, List.singleton_append, ← mr2_less l1 p1 (by rw [p2, l2]; exact c3)]; exact a3
                refine ⟨j + 1, r - 1, oj + 3, acc ++ [p], by simp, by omega, b1', b2', b3', Lib.hid ⟨fun h => by omega, ?_, hq, ((below_drewN a4 nq).alloc (by have := a4.size; simpa using this) _).trans D2.out, fun e => ?_, ?_, ?_⟩⟩
                · have := O2.out
                  rw [List.map_append]
                  show Ow W.heap.size w2 v2 (acc.map tr ++ [(p.1.wt, p.1.sy, p.2)])
                  rw [p2, p3, p4]; exact this
                · rcases K2.out with h | h
                  · rw [h] at e; exact a5 e
                  · rw [h] at e
                    have := Option.some.inj e
                    simp at this; omega
                · have := G2.out.size
                  simp at this; omega
                · have h1 := congrArg List.length hq
                  rw [List.length_append, mr2_length L P, NL.out, NP.out] at h1
                  have := HS.out
                  omega
              case measure => simp <;> omega
          · have d3 : decide (yw < xw) = false := decide_eq_false c3
            have HE := Lib.hid (show acc ++ [x] ++ mr2 (L.drop (i + 1)) (P.drop j) = mr2 L P by
              rw [List.append_assoc, List.singleton_append, ← mr2_leaf HX.out.1 (fun p' hp' => by
              rw [HY.out.1] at hp'
              obtain rfl := Option.some.inj hp'
              rw [HY.out.2.1, HX.out.2.1]; exact c3)]; exact HB2.out.2.2.1)
            go_wp2_with fail
            go_quiet (fail)
            have HO2 := Lib.hid (show Ow W.heap.size ((wr.drewN nq).alloc (.cells #[.int .u64 xw, .int .i64 xs, .pointer xp] 50)) _ (acc.map tr) from (HB2.out.2.1.drewN nq).alloc _)
            have HT2 := Lib.hid (one_trs (wr.drewN nq) xw xs xp)
            have HS2 := Lib.hid (show W.heap.size ≤ ((wr.drewN nq).alloc (.cells #[.int .u64 xw, .int .i64 xs, .pointer xp] 50)).heap.size by have := HB2.out.2.2.2.1.size; simp; omega)
            have HM2 := Lib.hid (show (acc.map tr).length + 1 ≤ 2000 by have := HB2.out.2.2.2.2.2.2; rw [List.length_map]; omega)
            go_wp2_with (at_builtin; refine wpList_ap rfl _ _ rfl W.heap.size _ (acc.map tr) [(xw, xs, xp)] rfl HO2.out _ 0 1 _ rfl rfl HT2.out HM2.out HS2.out ?_; intro v2 w2 o2 g2 d2 k2; have O2 := Lib.hid o2; have D2 := Lib.hid d2; clear o2 g2 d2 k2)
            go_roundw
            case rel =>
              obtain ⟨a1, a2, a3, a4, a5, a6, a7⟩ := HB2.out
              obtain ⟨l1, l2, l3, l4⟩ := HX.out
              refine ⟨i + 1, j, r, oj, acc ++ [x], by go_num, rfl, by omega, q2, Lib.hid ⟨a1, ?_, HE.out, ((below_drewN a4 nq).alloc (by have := a4.size; simpa using this) _).trans D2.out⟩⟩
              have := O2.out
              rw [List.map_append]
              show Ow W.heap.size w2 v2 (acc.map tr ++ [(x.1.wt, x.1.sy, x.2)])
              rw [l2, l3, l4]; exact this
            case measure => simp [intOf]; omega
        · obtain rfl : r = 0 := by omega
          have HE := Lib.hid (show acc ++ [x] ++ mr2 (L.drop (i + 1)) (P.drop j) = mr2 L P by
            rw [List.append_assoc, List.singleton_append, ← mr2_leaf HX.out.1 (fun p' hp' => by
            have hpn := NP.out
            rw [List.getElem?_eq_none (by omega)] at hp'; cases hp')]; exact HB2.out.2.2.1)
          go_wp2_with fail
          go_quiet (fail)
          have HO2 := Lib.hid (show Ow W.heap.size ((wr.drewN nq).alloc (.cells #[.int .u64 xw, .int .i64 xs, .pointer xp] 50)) _ (acc.map tr) from (HB2.out.2.1.drewN nq).alloc _)
          have HT2 := Lib.hid (one_trs (wr.drewN nq) xw xs xp)
          have HS2 := Lib.hid (show W.heap.size ≤ ((wr.drewN nq).alloc (.cells #[.int .u64 xw, .int .i64 xs, .pointer xp] 50)).heap.size by have := HB2.out.2.2.2.1.size; simp; omega)
          have HM2 := Lib.hid (show (acc.map tr).length + 1 ≤ 2000 by have := HB2.out.2.2.2.2.2.2; rw [List.length_map]; omega)
          go_wp2_with (at_builtin; refine wpList_ap rfl _ _ rfl W.heap.size _ (acc.map tr) [(xw, xs, xp)] rfl HO2.out _ 0 1 _ rfl rfl HT2.out HM2.out HS2.out ?_; intro v2 w2 o2 g2 d2 k2; have O2 := Lib.hid o2; have D2 := Lib.hid d2; clear o2 g2 d2 k2)
          go_roundw
          case rel =>
            obtain ⟨a1, a2, a3, a4, a5, a6, a7⟩ := HB2.out
            obtain ⟨l1, l2, l3, l4⟩ := HX.out
            refine ⟨i + 1, j, 0, oj, acc ++ [x], by go_num, rfl, by omega, q2, Lib.hid ⟨a1, ?_, HE.out, ((below_drewN a4 nq).alloc (by have := a4.size; simpa using this) _).trans D2.out⟩⟩
            have := O2.out
            rw [List.map_append]
            show Ow W.heap.size w2 v2 (acc.map tr ++ [(x.1.wt, x.1.sy, x.2)])
            rw [l2, l3, l4]; exact this
          case measure => simp [intOf]; omega
    · obtain rfl : i = n := by omega
      have HT2 := Lib.hid (show Trs wr g oj ((P.drop j).map tr) by
        have hpn := NP.out
        by_cases c2 : 0 < r
        · obtain ⟨g', o', hg', hgs, ht⟩ := KP.out.1 (by omega)
          obtain ⟨rfl, rfl⟩ : g = g' ∧ o' = 0 := by simp at hg'; exact ⟨hg'.1, hg'.2.symm⟩
          have := (ht.below hgs HB.out.2.2.2).drop j
          rw [Nat.zero_add, ← HB.out.1 c2, ← List.map_drop] at this
          exact this
        · rw [List.drop_eq_nil_of_le (by omega)]
          intro i t h
          simp at h)
      have HE := Lib.hid (show acc ++ P.drop j = mr2 L P by
        have := HB.out.2.2.1
        rw [List.drop_eq_nil_of_le (by rw [NL.out]; exact Nat.le_refl _), mr2_nil] at this
        exact this)
      have HR := Lib.hid (show ((P.drop j).map tr).length = r by rw [List.length_map, List.length_drop, NP.out]; omega)
      have HM2 := Lib.hid (show (acc.map tr).length + ((P.drop j).map tr).length ≤ 2000 by
        have := congrArg List.length HE.out
        rw [List.length_append, mr2_length L P, NL.out, NP.out] at this
        rw [List.length_map, List.length_map]
        have := HS.out
        omega)
      have HS2 := Lib.hid HB.out.2.2.2.size
      have HO2 := Lib.hid HB.out.2.1
      go_wp2_with (at_builtin; refine wpList_ap rfl _ _ rfl W.heap.size _ (acc.map tr) ((P.drop j).map tr) rfl HO2.out g oj r r rfl HR.out HT2.out HM2.out HS2.out ?_; intro v2 w2 o2 g2 d2 k2; have O2 := Lib.hid o2; have D2 := Lib.hid d2; clear o2 g2 d2 k2)
      go_ret
      have o2 := O2.out
      rw [← List.map_append, HE.out] at o2
      have hlen : ((mr2 L P).map tr).length = i + np := by rw [List.length_map, mr2_length, NL.out, NP.out]
      have hb := HB.out.2.2.2.trans D2.out
      have hung : ∀ x ∈ mr2 L P, Hung w2 base x.1 x.2 := fun x hx => by
        rcases mr2_mem x L P hx with h | h
        · exact (KL.out.2 x h).below hb
        · exact (KP.out.2 x h).below hb
      rcases o2.form with ⟨h1, h2⟩ | ⟨g', cap, h1, h2, h3⟩
      · have h0 : i + np = 0 := by rw [← hlen, h2]; rfl
        refine ⟨none, 0, by rw [h0, ← h1]; rfl, ⟨fun h => ?_, hung⟩, (fun b o e => by cases e), by omega, hb⟩
        rw [List.length_map] at hlen; omega
      · rw [hlen] at h1
        subst h1
        refine ⟨_, cap, rfl, ⟨fun _ => ⟨g', 0, rfl, h3, o2.trs⟩, hung⟩, fun b o e => ?_, o2.cap.2.1, hb⟩
        simp at e; omega
end Go.Proofs.Yteicamfelamfhaa
