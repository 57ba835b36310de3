/- A slice of calls that came in: what its cells hold. Conditions: as each theorem names them. -/
import Derived.Test.YtlikpljbbenmoaaRdF
import Derived.Deep.Slices
import Derived.Deep.Fields
import Derived.SizedLaws
namespace Go.Proofs.Ytlikpljbbenmoaa
open Go.RowKit M
open Go.ChangeShapes Go.WideShapes Go.Deep
set_option linter.unusedVariables false

/-- A call: which, and a number. -/
structure Ca where
  d : Int
  n : Int
instance : Inhabited Ca := ⟨⟨0, 0⟩⟩

/-- What a call's kinds hold. -/
structure Ca.ok (c : Ca) : Prop where
  d : 0 ≤ c.d ∧ c.d ≤ 255
  n : -9223372036854775808 ≤ c.n ∧ c.n ≤ 9223372036854775807

/-- Call i lies at the i-th two cells. -/
structure Ca.lies (w : World) (b o i : Nat) (c : Ca) : Prop where
  d : w.cell? ⟨b, o + i * 2, none⟩ = some (.int .u8 c.d)
  n : w.cell? ⟨b, o + i * 2 + 1, none⟩ = some (.int .i64 c.n)

/-- The calls of a slice. -/
structure IsCas (w : World) (ao : Option Addr) (len : Nat) (cs : List Ca) : Prop where
  leng : cs.length = len
  most : len ≤ maxLen
  good : ∀ c ∈ cs, c.ok
  cells : len = 0 ∨ ∃ b o, ao = some ⟨b, o, none⟩ ∧ b < w.heap.size ∧ ∀ (i : Nat) (c : Ca), cs[i]? = some c → c.lies w b o i

theorem IsCas.below {w w' : World} {ao : Option Addr} {len : Nat} {cs : List Ca} (h : IsCas w ao len cs) (hb : Below w.heap.size w w') : IsCas w' ao len cs := by
  refine ⟨h.leng, h.most, h.good, ?_⟩
  rcases h.cells with g | ⟨b, o, g1, g2, g3⟩
  · exact .inl g
  · refine .inr ⟨b, o, g1, Nat.lt_of_lt_of_le g2 hb.size, fun i c hc => ?_⟩
    have k := g3 i c hc
    exact ⟨(hb.cell g2).trans k.d, (hb.cell g2).trans k.n⟩

theorem cadd_at (b o j : Nat) : (⟨b, o, none⟩ : Addr).add j = ⟨b, o + j, none⟩ := by
  unfold Addr.add
  split
  · rename_i h; subst h; rfl
  · rfl

theorem cells2 : Try.prog.cellsOf 31 = 2 := by kernel_rfl

section
variable {H : Type} {enc : TypeId × Value → H} {w : World} {spare : Nat → Bool} {held : Bool}

/-- One call, by its two cells. -/
theorem open_ca {m : Nat} {cs : List Value} {x : DataW H × List MemPlace} (h : DataW.trod enc Try.prog w 0 spare held m 31 cs = some x) :
    ∃ d n, cs = [.int .u8 d, .int .i64 n] ∧ (Lit.int .u8 d).wf = true ∧ (Lit.int .i64 n).wf = true := by
  obtain ⟨xs, k, _, rfl, hl, hxl, hf⟩ := DataW.trod_struct Try.underlying31 h
  rw [cells2] at hl
  match cs, hl with
  | [v0, v1], _ =>
    match xs, hxl with
    | [y0, y1], _ =>
      have k0 : Try.prog.cellsOf 5 = 1 := by kernel_rfl
      have k1 : Try.prog.cellsOf 3 = 1 := by kernel_rfl
      have e0 : DataW.trod enc Try.prog w 0 spare held k 5 (([v0, v1].drop 0).take (Try.prog.cellsOf 5)) = some y0 := hf 0 _ rfl
      have e1 : DataW.trod enc Try.prog w 0 spare held k 3 (([v0, v1].drop 1).take (Try.prog.cellsOf 3)) = some y1 := hf 1 _ rfl
      simp only [k0, k1, List.drop_zero, List.drop_succ_cons, List.take_succ_cons, List.take_zero] at e0 e1
      obtain ⟨d, hd, _, wd⟩ := DataW.trod_int Try.underlying5 e0
      obtain ⟨n, hn, _, wn⟩ := DataW.trod_int Try.underlying3 e1
      simp only [List.cons.injEq, and_true] at hd hn
      subst hd hn
      exact ⟨d, n, rfl, wd, wn⟩

theorem open_cas {fuel : Nat} {ao : Option Addr} {len cap : Nat} {x : DataW H × List MemPlace} (h : DataW.trod enc Try.prog w 0 spare held fuel 22 [.slice ao len cap] = some x)
    (hsz : ∀ n ∈ x.1.weights Try.prog 22, n ≤ reachBytes) : ∃ cs, IsCas w ao len cs := by
  rcases open_slice Try.underlying22 h with ⟨h0, _⟩ | ⟨a, len', cap', m, n, D, Pl, hcs, _, hl, hm, hmm, hx, hi⟩
  · simp only [List.cons.injEq, Value.slice.injEq, and_true] at h0
    obtain ⟨_, rfl, _⟩ := h0
    exact ⟨[], rfl, Nat.zero_le _, fun c hc => (List.not_mem_nil hc).elim, .inl rfl⟩
  simp only [List.cons.injEq, Value.slice.injEq, and_true] at hcs
  obtain ⟨rfl, rfl, rfl⟩ := hcs
  rw [cells2] at hi
  have hlm : len ≤ m := by rw [hmm]; split <;> omega
  have each : ∀ i, i < len → ∃ c : Ca, c.ok ∧ ∃ b o, a = ⟨b, o, none⟩ ∧ b < w.heap.size ∧ c.lies w b o i := by
    intro i hil
    obtain ⟨cs', hc, ht⟩ := hi i (by omega)
    obtain ⟨_, hcl, hat⟩ := World.cells?_some hc
    obtain ⟨d, n', rfl, wd, wn⟩ := open_ca ht
    have g0 := hat 0 (by decide)
    have g1 := hat 1 (by decide)
    rw [Go.Deep.add_add] at g0 g1
    simp only [List.getElem?_cons_zero, List.getElem?_cons_succ] at g0 g1
    have hsp0 : a.spot = none := by
      obtain ⟨cs0, hc0, ht0⟩ := hi 0 (by omega)
      obtain ⟨_, _, hat0⟩ := World.cells?_some hc0
      obtain ⟨d0, n0, rfl, _⟩ := open_ca ht0
      have h00 := World.cell?_spot (hat0 0 (by decide))
      rw [Go.Deep.add_add, Nat.zero_mul, Addr.add, if_pos rfl] at h00
      exact h00
    obtain ⟨b, o, sp⟩ := a
    have hsp : sp = none := hsp0
    subst hsp
    rw [cadd_at] at g0 g1
    exact ⟨⟨d, n'⟩, ⟨u8_bounds wd, i64_bounds wn⟩, b, o, rfl, World.block_lt_of_cell? _ _ g0, g0, g1⟩
  by_cases hz : len = 0
  · subst hz
    exact ⟨[], rfl, Nat.zero_le _, fun c hc => (List.not_mem_nil hc).elim, .inl rfl⟩
  obtain ⟨_, _, b, o, hab, hbw, _⟩ := each 0 (by omega)
  obtain ⟨f, hf⟩ := choose_lt each
  refine ⟨(List.range len).map f, by simp, by omega, fun c hc => ?_, .inr ⟨b, o, by rw [hab], hbw, fun i c hc => ?_⟩⟩
  · obtain ⟨i, hi', rfl⟩ := List.mem_map.1 hc
    exact (hf i (List.mem_range.1 hi')).1
  · have hil : i < len := by
      have := (List.getElem?_eq_some_iff.1 hc).1
      simpa using this
    obtain ⟨_, b', o', hab', _, hat⟩ := hf i hil
    rw [hab] at hab'
    obtain ⟨rfl, rfl⟩ : b = b' ∧ o = o' := by
      simp only [Addr.mk.injEq, and_true] at hab'
      exact hab'
    have : f i = c := by simpa [hil] using hc
    rw [← this]
    exact hat
end
end Go.Proofs.Ytlikpljbbenmoaa
