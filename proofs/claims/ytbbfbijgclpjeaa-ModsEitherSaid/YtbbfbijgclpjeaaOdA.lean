/- A slice of modifications: what its cells hold; rows of them that append makes. Conditions: as each theorem names them. -/
import Derived.Test.YtbbfbijgclpjeaaFrm
import Derived.Test.YtbbfbijgclpjeaaOdM
import Derived.Test.YtbbfbijgclpjeaaChecked
import Derived.KernelRfl
import Derived.Deep.OwnRows
import Derived.WalkKit
import Derived.Deep.Slices
import Derived.Deep.Fields
import Derived.SizedLaws
import Derived.Laws.OwnMore
import Derived.Deep.AppendLies
import Derived.Lib.Hide
import Derived.Outline
import Derived.Laws.Cells
import Derived.OwnWalk
import Derived.WalkSpells
import Derived.WalkMore
import Derived.IntWalk
import Derived.ChangeAlike
namespace Go.Proofs.Ytbbfbijgclpjeaa.O
open Go Go.RowKit M
open Go.ChangeShapes Go.WideShapes Go.Deep
set_option linter.unusedVariables false
set_option linter.unusedSimpArgs false

theorem i64_bounds {a : Int} (h : (Lit.int .i64 a).wf = true) : -9223372036854775808 ≤ a ∧ a ≤ 9223372036854775807 := by
  simpa [Lit.wf, IntKind.min, IntKind.max, IntKind.signed, IntKind.bits] using h
theorem u8_bounds {a : Int} (h : (Lit.int .u8 a).wf = true) : 0 ≤ a ∧ a ≤ 255 := by simpa [Lit.wf, IntKind.min, IntKind.max, IntKind.signed, IntKind.bits] using h

/-- what a modification's kinds hold -/
structure Md.ok (m : Md) : Prop where
  p : -9223372036854775808 ≤ m.p ∧ m.p ≤ 9223372036854775807
  s : m.s.size ≤ 140737488351232
/-- Modification i lies at the i-th two cells. -/
structure Md.lies (w : World) (b o i : Nat) (m : Md) : Prop where
  p : w.cell? ⟨b, o + i * 2, none⟩ = some (.int .i64 m.p)
  s : w.cell? ⟨b, o + i * 2 + 1, none⟩ = some (.string m.s)
/-- The modifications of a slice. -/
structure IsMds (w : World) (ao : Option Addr) (len : Nat) (cs : List Md) : Prop where
  leng : cs.length = len
  most : len ≤ maxLen
  good : ∀ c ∈ cs, c.ok
  cells : len = 0 ∨ ∃ b o, ao = some ⟨b, o, none⟩ ∧ b < w.heap.size ∧ ∀ (i : Nat) (c : Md), cs[i]? = some c → c.lies w b o i
theorem IsMds.kept {S : Nat → Prop} {w w' : World} {ao : Option Addr} {len : Nat} {cs : List Md} (h : IsMds w ao len cs) (hk : Kept S w w') (hS : ∀ b o, ao = some ⟨b, o, none⟩ → ¬ S b) : IsMds w' ao len cs := by
  refine ⟨h.leng, h.most, h.good, ?_⟩
  rcases h.cells with g | ⟨b, o, g1, g2, g3⟩
  · exact .inl g
  · exact .inr ⟨b, o, g1, Nat.lt_of_lt_of_le g2 hk.size, fun i c hc => by
      have k := g3 i c hc
      exact ⟨hk.cell k.p (hS b o g1), hk.cell k.s (hS b o g1)⟩⟩
theorem IsMds.below {w w' : World} {ao : Option Addr} {len : Nat} {cs : List Md} (h : IsMds w ao len cs) (hb : Below w.heap.size w w') : IsMds w' ao len cs := h.kept (Kept.of_below hb) (fun _ _ _ g => g.elim)
theorem IsMds.at {w : World} {ao : Option Addr} {n : Nat} {L : List Md} (h : IsMds w ao n L) (hn : 0 < n) :
    ∃ b o, ao = some ⟨b, o, none⟩ ∧ b < w.heap.size ∧ ∀ i, i < n → w.cell? ⟨b, o + i * 2, none⟩ = some (.int .i64 (L.getD i default).p) ∧ w.cell? ⟨b, o + i * 2 + 1, none⟩ = some (.string (L.getD i default).s) := by
  rcases h.cells with g | ⟨b, o, g1, g2, g3⟩
  · omega
  · exact ⟨b, o, g1, g2, fun i hi => by
      have k := g3 i (L.getD i default) (by rw [List.getD, List.getElem?_eq_getElem (by rw [h.leng]; exact hi)]; rfl)
      exact ⟨k.p, k.s⟩⟩
theorem IsMds.nil (w : World) (A : Option Addr) : IsMds w A 0 [] := ⟨rfl, Nat.zero_le _, fun x hx => absurd hx (by simp), .inl rfl⟩

theorem madd_at (b o j : Nat) : (⟨b, o, none⟩ : Addr).add j = ⟨b, o + j, none⟩ := by
  unfold Addr.add
  split
  · rename_i h; subst h; rfl
  · rfl
theorem weights_all {H : Type} {P : Program} {e : TypeId} {d : DataW H} {n : Nat} : ∀ {l : List (DataW H)}, d ∈ l → n ∈ d.weights P e → n ∈ DataW.weightsAll P e l
  | x :: r, hd, hn => by
    simp only [DataW.weightsAll, List.mem_append]
    rcases List.mem_cons.1 hd with rfl | g
    · exact .inl hn
    · exact .inr (weights_all g hn)
theorem cellsMd : Try.prog.cellsOf 34 = 2 := by kernel_rfl
section
variable {H : Type} {enc : TypeId × Value → H} {w : World} {spare : Nat → Bool} {held : Bool}
/-- One modification, by its two cells. -/
theorem open_md {m : Nat} {cs : List Value} {x : DataW H × List MemPlace} (h : DataW.trod enc Try.prog w 0 spare held m 34 cs = some x) :
    ∃ z s, cs = [.int .i64 z, .string s] ∧ (∃ p, x.1 = .agg [p, .lit (.string s.data.toList)]) ∧ (Lit.int .i64 z).wf = true := by
  obtain ⟨xs, k, _, rfl, hl, hxl, hf⟩ := DataW.trod_struct Try.underlying34 h
  rw [cellsMd] at hl
  match cs, hl with
  | [v0, v1], _ =>
    match xs, hxl with
    | [y0, y1], _ =>
      have k0 : Try.prog.cellsOf 3 = 1 := by kernel_rfl
      have k1 : Try.prog.cellsOf 9 = 1 := by kernel_rfl
      have e0 : DataW.trod enc Try.prog w 0 spare held k 3 (([v0, v1].drop 0).take (Try.prog.cellsOf 3)) = some y0 := hf 0 _ rfl
      have e1 : DataW.trod enc Try.prog w 0 spare held k 9 (([v0, v1].drop 1).take (Try.prog.cellsOf 9)) = some y1 := hf 1 _ rfl
      simp only [k0, k1, List.drop_zero, List.drop_succ_cons, List.take_succ_cons, List.take_zero] at e0 e1
      obtain ⟨z, hz, _, wz⟩ := DataW.trod_int Try.underlying3 e0
      obtain ⟨s, hs, hsx, _⟩ := DataW.trod_string Try.underlying9 e1
      simp only [List.cons.injEq, and_true] at hz hs
      subst hz hs
      exact ⟨z, s, rfl, ⟨y0.1, by rw [hsx]; rfl⟩, wz⟩
/-- a modification that came in -/
theorem open_one {fuel : Nat} {v : Value} {x : DataW H × List MemPlace} (h : DataW.trod enc Try.prog w 0 spare held fuel 34 v.cells.toList = some x)
    (hsz : ∀ n ∈ x.1.weights Try.prog 34, n ≤ reachBytes) : ∃ z s, v.cells.toList = [.int .i64 z, .string s] ∧ Md.ok ⟨z, s⟩ := by
  obtain ⟨z, s, e, ⟨p, hp⟩, wz⟩ := open_md h
  refine ⟨z, s, e, i64_bounds wz, hsz _ ?_⟩
  rw [hp, DataW.weights, Try.underlying34]
  simp only [List.map_cons, List.map_nil, DataW.weightsEach, DataW.weights]
  exact List.mem_append_right _ (List.mem_append_left _ (List.mem_singleton.2 (size_list s).symm))
theorem open_mds {fuel : Nat} {ao : Option Addr} {len cap : Nat} {x : DataW H × List MemPlace} (h : DataW.trod enc Try.prog w 0 spare held fuel 22 [.slice ao len cap] = some x)
    (hsz : ∀ n ∈ x.1.weights Try.prog 22, n ≤ reachBytes) : ∃ cs, IsMds w ao len cs := by
  rcases open_slice Try.underlying22 h with ⟨h0, _⟩ | ⟨a, len', cap', m, n, D, Pl, hcs, _, hl, hm, hmm, hx, hi⟩
  · simp only [List.cons.injEq, Value.slice.injEq, and_true] at h0
    obtain ⟨_, rfl, _⟩ := h0
    exact ⟨[], rfl, Nat.zero_le _, fun c hc => (List.not_mem_nil hc).elim, .inl rfl⟩
  simp only [List.cons.injEq, Value.slice.injEq, and_true] at hcs
  obtain ⟨rfl, rfl, rfl⟩ := hcs
  rw [cellsMd] at hi
  have hlm : len ≤ m := by rw [hmm]; split <;> omega
  have each : ∀ i, i < len → ∃ c : Md, c.ok ∧ ∃ b o, a = ⟨b, o, none⟩ ∧ b < w.heap.size ∧ c.lies w b o i := by
    intro i hil
    obtain ⟨cs', hc, ht⟩ := hi i (by omega)
    obtain ⟨_, hcl, hat⟩ := World.cells?_some hc
    obtain ⟨z, s, rfl, ⟨p, hD⟩, wz⟩ := open_md ht
    have g0 := hat 0 (by decide)
    have g1 := hat 1 (by decide)
    rw [Go.Deep.add_add] at g0 g1
    simp only [List.getElem?_cons_zero, List.getElem?_cons_succ] at g0 g1
    have hsr : s.size ≤ reachBytes := by
      refine hsz _ ?_
      rw [hx]
      show _ ∈ DataW.weights _ _ (.slice _ _)
      rw [DataW.weights]
      rw [Try.underlying22]
      refine List.mem_cons_of_mem _ (List.mem_append_left _ (weights_all (d := D i) (List.mem_map.2 ⟨i, List.mem_range.2 hil, rfl⟩) ?_))
      have hD' : D i = .agg [p, .lit (.string s.data.toList)] := hD
      rw [hD', DataW.weights, Try.underlying34]
      simp only [List.map_cons, List.map_nil, DataW.weightsEach, DataW.weights]
      exact List.mem_append_right _ (List.mem_append_left _ (List.mem_singleton.2 (size_list s).symm))
    have hsp0 : a.spot = none := by
      obtain ⟨cs0, hc0, ht0⟩ := hi 0 (by omega)
      obtain ⟨_, _, hat0⟩ := World.cells?_some hc0
      obtain ⟨z0, s0, rfl, _⟩ := open_md ht0
      have h00 := World.cell?_spot (hat0 0 (by decide))
      rw [Go.Deep.add_add, Nat.zero_mul, Addr.add, if_pos rfl] at h00
      exact h00
    obtain ⟨b, o, sp⟩ := a
    have hsp : sp = none := hsp0
    subst hsp
    rw [madd_at] at g0 g1
    exact ⟨⟨z, s⟩, ⟨i64_bounds wz, hsr⟩, b, o, rfl, World.block_lt_of_cell? _ _ g0, g0, g1⟩
  by_cases hz : len = 0
  · subst hz
    exact ⟨[], rfl, Nat.zero_le _, fun c hc => (List.not_mem_nil hc).elim, .inl rfl⟩
  obtain ⟨_, _, b, o, hab, hbw, _⟩ := each 0 (by omega)
  obtain ⟨f, hf⟩ := choose_lt each
  refine ⟨(List.range len).map f, by simp, by omega, fun c hc => ?_, .inr ⟨b, o, by rw [hab], hbw, fun i c hc => ?_⟩⟩
  · obtain ⟨i, hi', rfl⟩ := List.mem_map.1 hc
    exact (hf i (List.mem_range.1 hi')).1
  · have hil : i < len := by
      have := (List.getElem?_eq_some_iff.1 hc).1
      simpa using this
    obtain ⟨_, b', o', hab', _, hat⟩ := hf i hil
    rw [hab] at hab'
    obtain ⟨rfl, rfl⟩ : b = b' ∧ o = o' := by
      simp only [Addr.mk.injEq, and_true] at hab'
      exact hab'
    have : f i = c := by simpa [hil] using hc
    rw [← this]
    exact hat
end

/-! rows of modifications that append makes -/
def clm : List Md → List Value
  | [] => []
  | m :: r => .int .i64 m.p :: .string m.s :: clm r
theorem clm_length (L : List Md) : (clm L).length = L.length * 2 := by
  induction L with
  | nil => rfl
  | cons m L ih => simp only [clm, List.length_cons, ih]; omega
theorem clm_append (L R : List Md) : clm (L ++ R) = clm L ++ clm R := by
  induction L with
  | nil => rfl
  | cons m L ih => simp only [List.cons_append, clm, ih]
theorem clm_one (L : List Md) : ∀ u ∈ clm L, u.oneCell' = true := by
  induction L with
  | nil => intro u hu; simp [clm] at hu
  | cons m L ih =>
    intro u hu
    simp only [clm, List.mem_cons] at hu
    rcases hu with rfl | rfl | hu
    · rfl
    · rfl
    · exact ih u hu
theorem clm_at (L : List Md) (i : Nat) (m : Md) (h : L[i]? = some m) : (clm L)[i * 2]? = some (.int .i64 m.p) ∧ (clm L)[i * 2 + 1]? = some (.string m.s) := by
  induction L generalizing i with
  | nil => cases h
  | cons x L ih =>
    match i, h with
    | 0, h => cases h; exact ⟨rfl, rfl⟩
    | i + 1, h =>
      obtain ⟨h1, h2⟩ := ih i h
      rw [show (i + 1) * 2 = i * 2 + 2 by omega]
      exact ⟨h1, h2⟩
theorem lies_clm {w : World} {b o : Nat} {L : List Md} (h : ∀ (i : Nat) (c : Md), L[i]? = some c → c.lies w b o i) : ∀ j u, (clm L)[j]? = some u → w.cell? ((⟨b, o, none⟩ : Addr).add j) = some u := by
  intro j u hu
  rw [madd_at]
  have hj : j < L.length * 2 := by rw [← clm_length]; exact (List.getElem?_eq_some_iff.1 hu).1
  obtain ⟨m, hm⟩ : ∃ m, L[j / 2]? = some m := ⟨_, List.getElem?_eq_getElem (by omega)⟩
  obtain ⟨h1, h2⟩ := clm_at L _ m hm
  have k := h _ m hm
  rcases Nat.mod_two_eq_zero_or_one j with e | e
  · rw [show j / 2 * 2 = j by omega, hu] at h1
    rw [show o + j = o + j / 2 * 2 by omega, k.p, ← h1]
  · rw [show j / 2 * 2 + 1 = j by omega, hu] at h2
    rw [show o + j = o + j / 2 * 2 + 1 by omega, k.s, ← h2]
/-- v is a slice of modifications in a row of its own -/
def Owm (B : Nat) (w : World) (v : Value) (L : List Md) : Prop := w.ownsRow B 34 2 v L.length (clm L)
section
variable {B : Nat} {w w' : World} {v : Value} {L : List Md}
theorem Owm.nil (B : Nat) (w : World) : Owm B w (.slice none 0 0) [] := World.ownsRow_nil w B _ 2
theorem Owm.lit (w : World) (p : Int) (s : ByteArray) : Owm w.heap.size (w.alloc (.cells #[.int .i64 p, .string s] 34)) (.slice (some ⟨w.heap.size, 0, none⟩) 1 1) [⟨p, s⟩] :=
  World.ownsRow_lit (e := 34) w #[.int .i64 p, .string s] 1 (Nat.le_refl _) (by decide) rfl
theorem Owm.alloc (h : Owm B w v L) (o : Obj) : Owm B (w.alloc o) v L := World.ownsRow.alloc h o
theorem Owm.at (h : Owm B w v L) (e : ∀ g, v.ownBlock = some g → w'.heap[g]? = w.heap[g]?) : Owm B w' v L := ownsRow_at h e
theorem Owm.lt (h : Owm B w v L) : ∀ g, v.ownBlock = some g → B ≤ g ∧ g < w.heap.size := World.ownsRow.lt h
theorem Owm.kept {S : Nat → Prop} (h : Owm B w v L) (hk : Kept S w w') (hS : ∀ g, v.ownBlock = some g → ¬ S g) : Owm B w' v L := Kept.own hk h hS
theorem Owm.below (h : Owm B w v L) (hb : Below w.heap.size w w') : Owm B w' v L := h.at fun g hg => hb.block g (h.lt g hg).2
theorem Owm.ty (h : Owm B w v L) : ∀ g, v.ownBlock = some g → ∃ cs, w.heap[g]? = some (.cells cs 34 (0, 0)) := by
  intro g hg
  rcases h.2 with ⟨rfl, _⟩ | ⟨g', cap, cur, rfl, _, hh, _⟩
  · simp [Value.ownBlock] at hg
  · simp [Value.ownBlock] at hg; subst hg; exact ⟨cur, hh⟩
theorem Owm.mds (h : Owm B w v L) (hok : ∀ c ∈ L, c.ok) (hm : L.length ≤ maxLen) : ∃ A c, v = .slice A L.length c ∧ IsMds w A L.length L := by
  rcases h.2 with ⟨rfl, h0⟩ | ⟨g, cap, cur, rfl, _, hh, _⟩
  · exact ⟨none, 0, by rw [h0], rfl, hm, hok, .inl h0⟩
  · refine ⟨_, cap, rfl, rfl, hm, hok, .inr ⟨g, 0, rfl, (Array.getElem?_eq_some_iff.1 hh).1, fun i x hx => ?_⟩⟩
    obtain ⟨h1, h2⟩ := clm_at L i x hx
    have k := fun j u hu => h.cells (g := g) rfl j u hu
    simp only [madd_at] at k
    exact ⟨k _ _ h1, k _ _ h2⟩
end
theorem info_of {e : TypeId} {z : Value} {size bytes : Nat} (hi : (Try.prog.info? e).map (fun i => (i.zero, i.size, i.bytes)) = some (some z, size, bytes)) : ∃ i, Try.prog.info? e = some i ∧ i.zero = some z ∧ i.size = size ∧ i.bytes = bytes := by
  cases hq : Try.prog.info? e with
  | none => rw [hq] at hi; cases hi
  | some i => rw [hq] at hi; simp at hi; exact ⟨i, rfl, hi.1, hi.2.1, hi.2.2⟩
theorem byteInfo : (Try.prog.info? 5).map (fun i => (i.zero, i.size, i.bytes)) = some (some (.int .u8 0), 1, 1) := by kernel_rfl
theorem modInfo : (Try.prog.info? 34).map (fun i => (i.zero, i.size, i.bytes)) = some (some (.agg #[.int .i64 0, .string ⟨#[]⟩]), 2, 24) := by kernel_rfl
/-- append of modifications that lie somewhere -/
theorem run_mds (w : World) (ty : TypeId) (B : Nat) (v : Value) (L : List Md) (h : Owm B w v L) (b o n c : Nat) (R : List Md) (hR : ∀ (i : Nat) (m : Md), R[i]? = some m → m.lies w b o i) (hn : R.length = n) (hL : L.length + n ≤ 1000000) (hB : B ≤ w.heap.size) :
    ∃ v' w', (Builtin.append_ #[22, 22] ty #[v, .slice (some ⟨b, o, none⟩) n c]).run Try.prog w = .ok v' w' ∧ Owm B w' v' (L ++ R) ∧ w.grownBy w' v.ownBlock ∧ Below B w w' := by
  obtain ⟨i, h1, h2, h3, h4⟩ := info_of modInfo
  obtain ⟨v', w', r1, r2, r3, _⟩ := run_append_own (P := Try.prog) w B 22 ty 34 i _ 2 24 Try.underlying22 h1 h2 h3 h4 rfl (by decide) v L.length (clm L) h ⟨b, o, none⟩ n c (clm R) (by rw [clm_length, hn])
    (lies_clm hR) (clm_one R) (by unfold maxLen; omega) (by omega) hB
  refine ⟨v', w', r1, ?_, r3, (Below.refl _ w).grown r3 hB (fun k hk => (World.ownsRow.lt h k hk).1)⟩
  unfold Owm
  rw [List.length_append, clm_append, hn]; exact r2
theorem one_lies {w : World} {b : Nat} {p : Int} {s : ByteArray} (hc : w.cell? ⟨b, 0, none⟩ = some (.int .i64 p) ∧ w.cell? ⟨b, 1, none⟩ = some (.string s)) : ∀ (i : Nat) (m : Md), ([⟨p, s⟩] : List Md)[i]? = some m → m.lies w b 0 i := fun j t ht => by
  match j, ht with
  | 0, ht => simp at ht; subst ht; exact ⟨hc.1, hc.2⟩
theorem wpList_md {ops : Array Oper} {rest : List Oper} {o : Oper} {a : Act} {w : World} {Q : Exit → Act → World → Prop} (hgd : o.guard = none) (s x : Operand)
    (ho : o.op = .call { callee := .builtin .append, args := #[s, x], argTypes := #[22, 22] }) (B : Nat) (v : Value) (L : List Md) (hs : a.eval s = v) (h : Owm B w v L) (b c : Nat) (p : Int) (t : ByteArray)
    (hx : a.eval x = .slice (some ⟨b, 0, none⟩) 1 c) (hc : w.cell? ⟨b, 0, none⟩ = some (.int .i64 p) ∧ w.cell? ⟨b, 1, none⟩ = some (.string t)) (hL : L.length ≤ 900000) (hB : B ≤ w.heap.size)
    (hK : ∀ v' w', Owm B w' v' (L ++ [⟨p, t⟩]) → w.grownBy w' v.ownBlock → Below B w w' → wpList Try.prog ops Q rest (a.put o.dst v') w') : wpList Try.prog ops Q (o :: rest) a w :=
  wpList_plain hgd fun K hK' => by
    obtain ⟨v', w', r1, r2, r3, r4⟩ := run_mds w o.type B v L h b 0 1 c [⟨p, t⟩] (one_lies hc) rfl (by omega) hB
    unfold Oper.wp execOp
    simp only [ho, resolve, invoke, builtin, Sem.run_bind, Sem.run_pure, Result.andThen_ok, List.map_toArray, List.map_cons, List.map_nil, hs, hx, r1]
    exact hK' _ _ (hK v' w' r2 r3 r4)
/-- literals -/
theorem IsMds.lit1 (w : World) (p : Int) (s : ByteArray) (h : Md.ok ⟨p, s⟩) : IsMds (w.alloc (.cells #[.int .i64 p, .string s] 34)) (some ⟨w.heap.size, 0, none⟩) 1 [⟨p, s⟩] :=
  ⟨rfl, by unfold maxLen; omega, fun c hc => by simp at hc; rw [hc]; exact h, .inr ⟨w.heap.size, 0, rfl, by simp, fun i c hc => by
    match i, hc with
    | 0, hc => simp at hc; subst hc; exact ⟨by simp, by simp⟩⟩⟩
theorem IsMds.lit2 (w : World) (p : Int) (s : ByteArray) (p' : Int) (s' : ByteArray) (h : Md.ok ⟨p, s⟩) (h' : Md.ok ⟨p', s'⟩) : IsMds (w.alloc (.cells #[.int .i64 p, .string s, .int .i64 p', .string s'] 34)) (some ⟨w.heap.size, 0, none⟩) 2 [⟨p, s⟩, ⟨p', s'⟩] :=
  ⟨rfl, by unfold maxLen; omega, fun c hc => by simp at hc; rcases hc with rfl | rfl; exact h; exact h', .inr ⟨w.heap.size, 0, rfl, by simp, fun i c hc => by
    match i, hc with
    | 0, hc => simp at hc; subst hc; exact ⟨by simp, by simp⟩
    | 1, hc => simp at hc; subst hc; exact ⟨by simp, by simp⟩⟩⟩
theorem IsMds.lit3 (w : World) (p : Int) (s : ByteArray) (p' : Int) (s' : ByteArray) (p'' : Int) (s'' : ByteArray) (h : Md.ok ⟨p, s⟩) (h' : Md.ok ⟨p', s'⟩) (h'' : Md.ok ⟨p'', s''⟩) :
    IsMds (w.alloc (.cells #[.int .i64 p, .string s, .int .i64 p', .string s', .int .i64 p'', .string s''] 34)) (some ⟨w.heap.size, 0, none⟩) 3 [⟨p, s⟩, ⟨p', s'⟩, ⟨p'', s''⟩] :=
  ⟨rfl, by unfold maxLen; omega, fun c hc => by simp at hc; rcases hc with rfl | rfl | rfl; exact h; exact h'; exact h'', .inr ⟨w.heap.size, 0, rfl, by simp, fun i c hc => by
    match i, hc with
    | 0, hc => simp at hc; subst hc; exact ⟨by simp, by simp⟩
    | 1, hc => simp at hc; subst hc; exact ⟨by simp, by simp⟩
    | 2, hc => simp at hc; subst hc; exact ⟨by simp, by simp⟩⟩⟩
end Go.Proofs.Ytbbfbijgclpjeaa.O
