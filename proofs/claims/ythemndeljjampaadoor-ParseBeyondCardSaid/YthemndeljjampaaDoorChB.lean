/- What Put of package chain answers and leaves. Conditions: as each theorem names them. -/
import Derived.Test.YthemndeljjampaaDoorChA
import Derived.Test.YthemndeljjampaaDoorDrw
import Derived.Maps.AppendAt
import Derived.OwnWalk
namespace Go.Proofs.YthemndeljjampaaDoor
open Go Go.RowKit M
open Go.ChangeShapes (lits)
open Go.ChangeMaps (setBlock heap_setBlock_same heap_setBlock_other)
set_option linter.unusedVariables false
set_option linter.unusedSimpArgs false

theorem put_nil (x : Int) (w : World) :
    Calls Tryd.prog 25 #[.pointer none, .int .i64 x] w fun e w' => e = .returned (.int .i64 1) ∧ w = w' := by
  go_enter Tryd.func25, Tryd.ntmps25
  go_wp2_with (go_at_call 29; refine (made_nil _).mono ?_; rintro e w' ⟨rfl, rfl⟩)
  go_ret
  exact ⟨rfl, rfl⟩
section
variable {B F : Nat} {s : ByteArray} {L : List Nat} {la : Int} {w : World}
set_option maxRecDepth 1000000 in
theorem put_arg (H : Fd w B F s L la) (x : Int) (hx : x < 0 ∨ (s.size : Int) ≤ x) :
    Calls Tryd.prog 25 #[.pointer (some ⟨F, 0, none⟩), .int .i64 x] w fun e w' => e = .returned (.int .i64 2) ∧ w = w' := by
  have h0 := H.c0
  have hl := H.len
  obtain ⟨b, base, D, h2, _⟩ := H.own
  have HM := Lib.hid (made_yes F b _ h2)
  clear h2
  by_cases h : x < 0
  · go_enter Tryd.func25, Tryd.ntmps25
    go_wp2_with (go_at_call 29; refine HM.out.mono ?_; rintro e w' ⟨rfl, rfl⟩)
    go_ret
    exact ⟨rfl, rfl⟩
  · have h1 : (s.size : Int) ≤ x := by omega
    have h3 : 0 ≤ x := by omega
    clear hx h
    go_enter Tryd.func25, Tryd.ntmps25
    go_wp2_with (go_at_call 29; refine HM.out.mono ?_; rintro e w' ⟨rfl, rfl⟩)
    go_ret
    exact ⟨rfl, rfl⟩
set_option maxRecDepth 1000000 in
theorem put_have (H : Fd w B F s L la) (x : Int) (h3 : 0 ≤ x) (h1 : x < (s.size : Int)) (h4 : x ≤ la) :
    Calls Tryd.prog 25 #[.pointer (some ⟨F, 0, none⟩), .int .i64 x] w fun e w' => e = .returned (.int .i64 9) ∧ w = w' := by
  have h0 := H.c0
  have hc1 := H.c1
  have hl := H.len
  obtain ⟨b, base, D, h2, _⟩ := H.own
  have HM := Lib.hid (made_yes F b _ h2)
  clear h2
  go_enter Tryd.func25, Tryd.ntmps25
  go_wp2_with (go_at_call 29; refine HM.out.mono ?_; rintro e w' ⟨rfl, rfl⟩)
  go_ret
  exact ⟨rfl, rfl⟩

theorem groups_mono {H : Type} {P : Program} {k : TypeId} {base : Nat} {e : TypeId} {q : IntKind} {b n m : Nat} {D : DataW H} (h : w.ownsGroups P k base e q b n D) (hn : n ≤ m) : w.ownsGroups P k base e q b m D := by
  obtain ⟨es, clock, h1, h2, h3, h4, h5, h6, h7⟩ := h
  exact ⟨es, clock, h1, h2, Nat.le_trans h3 hn, h4, h5, fun x hx zs hz => Nat.le_trans (h6 x hx zs hz) hn, h7⟩
/-- the last place is stored -/
theorem Fd.last (H : Fd w B F s L la) (x : Int) : Fd (w.setCell ⟨F, 1, none⟩ (.int .i64 x)) B F s L x ∧ Below B w (w.setCell ⟨F, 1, none⟩ (.int .i64 x)) := by
  have hb : Below B w (w.setCell ⟨F, 1, none⟩ (.int .i64 x)) := (Below.refl B w).setCell (p := ⟨F, 1, none⟩) H.base _
  obtain ⟨b, base, D, h1, h2, h3, h4, h5, h6, h7⟩ := H.own
  have hg : w.grownBy (w.setCell ⟨F, 1, none⟩ (.int .i64 x)) (some F) := ⟨rfl, rfl, rfl, by simp [World.setCell], fun k hk g => Below.heap_setCell _ _ _ _ (fun e => g (by rw [e]))⟩
  refine ⟨⟨(rset_ne (by decide)).trans H.c0, rset_eq H.c1, by rw [World.frozen?_setCell]; exact H.fz, ⟨b, base, D, (rset_ne (by decide)).trans h1, ?_, h3, h4, by simpa [World.setCell] using h5, h6, h7⟩, H.base, H.rise, H.most, H.len⟩, hb⟩
  exact h2.kept hg (fun e => h6 (by injection e with e; exact e.symm)) (h2.rowsAbove (fun j hj => by cases hj; exact h4))
theorem rise_snoc (H : Fd w B F s L la) {k : Nat} (h : ∀ p, p ∈ L → p < k) (hk : k < s.size) : (L ++ [k]).Pairwise (· < ·) ∧ ∀ p, p ∈ L ++ [k] → p < s.size := by
  refine ⟨List.pairwise_append.2 ⟨H.rise, by simp, fun a ha c hc => ?_⟩, fun p hp => ?_⟩
  · simp at hc; subst hc; exact h a ha
  · rcases List.mem_append.1 hp with q | q
    · exact H.most p q
    · simp at q; subst q; exact hk
/-- a place at which too few bytes stand -/
theorem Fd.short (H : Fd w B F s L la) {k : Nat} (h : ∀ p, p ∈ L → p < k) (hk : k < s.size) (h3 : ¬ k + 3 ≤ s.size) : Fd w B F s (L ++ [k]) la := by
  obtain ⟨b, base, D, h1, h2, h3', h4, h5, h6⟩ := H.own
  obtain ⟨r1, r2⟩ := rise_snoc H h hk
  refine ⟨H.c0, H.c1, H.fz, ⟨b, base, D, h1, groups_mono h2 (by simp), h3'.congr (fun a c d _ _ _ => ?_), h4, h5, h6⟩, H.base, r1, r2, H.len⟩
  rw [grp_snoc, if_neg (fun e => h3 (at3_iff.1 e).1)]

theorem info_of {e : TypeId} {z : Value} {size bytes : Nat} (hi : (Tryd.prog.info? e).map (fun i => (i.zero, i.size, i.bytes)) = some (some z, size, bytes)) : ∃ i, Tryd.prog.info? e = some i ∧ i.zero = some z ∧ i.size = size ∧ i.bytes = bytes := by
  cases hq : Tryd.prog.info? e with
  | none => rw [hq] at hi; cases hi
  | some i => rw [hq] at hi; simp at hi; exact ⟨i, rfl, hi.1, hi.2.1, hi.2.2⟩
theorem intInfo : (Tryd.prog.info? 3).map (fun i => (i.zero, i.size, i.bytes)) = some (some (.int .i64 0), 1, 8) := by kernel_rfl
theorem zeroS (w : World) : (zeroValue 71).run Tryd.prog w = .ok (.slice none 0 0) w := by kernel_rfl

/-- one int is appended -/
theorem wp_apx {o : Oper} {a : Act} {w : World} {K : Act → World → Prop} {Q : Exit → Act → World → Prop} {d : Option Tmp} (hd : o.dst = d) (sl x : Operand) (ho : o.op = .call { callee := .builtin .append, args := #[sl, x], argTypes := #[71, 71] })
    (base : Nat) (v : Value) (zs : List Int) (hs : a.eval sl = v) (hown : w.ownsInts base 3 .i64 v zs) (g : Nat) (y : Int) (hx : a.eval x = .slice (some ⟨g, 0, none⟩) 1 1) (hG : w.cell? ⟨g, 0, none⟩ = some (.int .i64 y)) (hy : (Lit.int .i64 y).wf = true) (hm : zs.length ≤ 1048576) (hb : base ≤ w.heap.size)
    (h : ∀ v' w', w'.ownsInts base 3 .i64 v' (zs ++ [y]) → w.grownBy w' v.ownBlock → (v'.ownBlock = v.ownBlock ∨ v'.ownBlock = some w.heap.size) → K (a.put d v') w') : o.wp Tryd.prog a w K Q := by
  obtain ⟨i, h1, h2, h3, h4⟩ := info_of intInfo
  obtain ⟨v', w', r1, r2, r3, _, r5⟩ := run_append_own_at (P := Tryd.prog) w base 71 o.type 3 i _ 1 8 Tryd.underlying71 h1 h2 h3 h4 rfl (by decide) v zs.length (zs.map (Value.int .i64)) hown.1 ⟨g, 0, none⟩ 1 1 [.int .i64 y] (by simp)
    (fun j u hu => by
      match j, hu with
      | 0, hu => simp at hu; subst hu; simpa [Addr.add] using hG) (by intro u hu; simp at hu; subst hu; rfl) (by unfold maxLen; omega) (by omega) hb
  unfold Oper.wp execOp
  simp only [ho, resolve, invoke, builtin, Sem.run_bind, Sem.run_pure, Result.andThen_ok, List.map_toArray, List.map_cons, List.map_nil, hs, hx, r1]
  subst hd
  exact h v' w' (hown.appended r2 hy) r3 r5
/-- an entry is looked up, whose run is known -/
theorem wp_mapEntry {P : Program} {o : Oper} {a : Act} {w w' : World} {K : Act → World → Prop} {Q : Exit → Act → World → Prop} (d : Option Tmp) (hd : o.dst = d) (t : TypeId) (m x : Operand) (ho : o.op = Op.mapEntry t m x) (mv key r : Value) (hm : a.eval m = mv) (hx : a.eval x = key)
    (hrun : (Instr.mapEntry t mv key).run P w = .ok r w') (h : K (a.put d r) w') : Oper.wp P o a w K Q := by
  subst hd
  unfold Oper.wp
  simp [execOp, ho, hm, hx, hrun, Result.andThen]
  exact h
theorem wp_entryStore {P : Program} {o : Oper} {a : Act} {w w' : World} {K : Act → World → Prop} {Q : Exit → Act → World → Prop} (d : Option Tmp) (hd : o.dst = d) (t : TypeId) (m x v : Operand) (ho : o.op = Op.entryStore t m x v) (mv st val : Value) (hm : a.eval m = mv) (hx : a.eval x = st) (hv : a.eval v = val)
    (hrun : (Instr.entryStore t mv st val).run P w = .ok () w') (h : K (a.put d undef) w') : Oper.wp P o a w K Q := by
  subst hd
  unfold Oper.wp
  simp [execOp, ho, hm, hx, hv, hrun, Result.andThen]
  exact h
theorem cell_more {w : World} {a : Addr} {v : Value} (h : w.cell? a = some v) (o : Obj) : (w.alloc o).cell? a = some v :=
  (World.cell?_of_block (w := w) (Below.heap_alloc w o a.block (World.block_lt_of_cell? _ _ h))).trans h
theorem cell_grown {w w' : World} {a : Addr} {v : Value} (h : w.cell? a = some v) {row : Option Nat} (hg : w.grownBy w' row) (hne : row ≠ some a.block) : w'.cell? a = some v :=
  (World.cell?_of_block (hg.block a.block (World.block_lt_of_cell? _ _ h) (fun e => hne e.symm))).trans h
end
end Go.Proofs.YthemndeljjampaaDoor
