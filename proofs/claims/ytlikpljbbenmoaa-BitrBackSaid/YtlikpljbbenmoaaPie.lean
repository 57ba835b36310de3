/- A slice of pieces that came in: what its cells hold. Conditions: as each theorem names them. -/
import Derived.Test.YtlikpljbbenmoaaWtD
import Derived.Test.YtlikpljbbenmoaaRdF
import Derived.Deep.Slices
import Derived.Deep.Fields
import Derived.SizedLaws
namespace Go.Proofs.Ytlikpljbbenmoaa
open Go.RowKit M
open Go.ChangeShapes Go.WideShapes Go.Deep
set_option linter.unusedVariables false

/-- A piece: a number, a size, whether it is a text, a text. -/
structure Pc where
  n : Int
  z : Int
  t : Bool
  s : ByteArray
instance : Inhabited Pc := ⟨⟨0, 0, false, ⟨#[]⟩⟩⟩

/-- What a piece's kinds hold; its text takes no more memory than there is. -/
structure Pc.ok (c : Pc) : Prop where
  n : 0 ≤ c.n ∧ c.n.toNat < big
  z : 0 ≤ c.z ∧ c.z ≤ 255
  s : c.s.size ≤ 140737488351232

/-- Piece i lies at the i-th four cells. -/
structure Pc.lies (w : World) (b o i : Nat) (c : Pc) : Prop where
  n : w.cell? ⟨b, o + i * 4, none⟩ = some (.int .u64 c.n)
  z : w.cell? ⟨b, o + i * 4 + 1, none⟩ = some (.int .u8 c.z)
  t : w.cell? ⟨b, o + i * 4 + 2, none⟩ = some (.bool c.t)
  s : w.cell? ⟨b, o + i * 4 + 3, none⟩ = some (.string c.s)

/-- The pieces of a slice. -/
structure IsPcs (w : World) (ao : Option Addr) (len : Nat) (cs : List Pc) : Prop where
  leng : cs.length = len
  most : len ≤ maxLen
  good : ∀ c ∈ cs, c.ok
  cells : len = 0 ∨ ∃ b o, ao = some ⟨b, o, none⟩ ∧ b < w.heap.size ∧ ∀ (i : Nat) (c : Pc), cs[i]? = some c → c.lies w b o i

theorem IsPcs.below {w w' : World} {ao : Option Addr} {len : Nat} {cs : List Pc} (h : IsPcs w ao len cs) (hb : Below w.heap.size w w') : IsPcs w' ao len cs := by
  refine ⟨h.leng, h.most, h.good, ?_⟩
  rcases h.cells with g | ⟨b, o, g1, g2, g3⟩
  · exact .inl g
  · refine .inr ⟨b, o, g1, Nat.lt_of_lt_of_le g2 hb.size, fun i c hc => ?_⟩
    have k := g3 i c hc
    exact ⟨(hb.cell g2).trans k.n, (hb.cell g2).trans k.z, (hb.cell g2).trans k.t, (hb.cell g2).trans k.s⟩

theorem weights_all {H : Type} {P : Program} {e : TypeId} {d : DataW H} {n : Nat} : ∀ {l : List (DataW H)}, d ∈ l → n ∈ d.weights P e → n ∈ DataW.weightsAll P e l
  | x :: r, hd, hn => by
    simp only [DataW.weightsAll, List.mem_append]
    rcases List.mem_cons.1 hd with rfl | g
    · exact .inl hn
    · exact .inr (weights_all g hn)

theorem add_at (b o j : Nat) : (⟨b, o, none⟩ : Addr).add j = ⟨b, o + j, none⟩ := by
  unfold Addr.add
  split
  · rename_i h; subst h; rfl
  · rfl

theorem cellsP : Try.prog.cellsOf 40 = 4 := by kernel_rfl

section
variable {H : Type} {enc : TypeId × Value → H} {w : World} {spare : Nat → Bool} {held : Bool}

/-- One piece, by its four cells. -/
theorem open_pc {m : Nat} {cs : List Value} {x : DataW H × List MemPlace} (h : DataW.trod enc Try.prog w 0 spare held m 40 cs = some x) :
    ∃ n z b s, cs = [.int .u64 n, .int .u8 z, .bool b, .string s] ∧ (∃ p q r, x.1 = .agg [p, q, r, .lit (.string s.data.toList)]) ∧ (Lit.int .u64 n).wf = true ∧ (Lit.int .u8 z).wf = true := by
  obtain ⟨xs, k, _, rfl, hl, hxl, hf⟩ := DataW.trod_struct Try.underlying40 h
  rw [cellsP] at hl
  match cs, hl with
  | [v0, v1, v2, v3], _ =>
    match xs, hxl with
    | [y0, y1, y2, y3], _ =>
      have k0 : Try.prog.cellsOf 38 = 1 := by kernel_rfl
      have k1 : Try.prog.cellsOf 5 = 1 := by kernel_rfl
      have k2 : Try.prog.cellsOf 4 = 1 := by kernel_rfl
      have k3 : Try.prog.cellsOf 9 = 1 := by kernel_rfl
      have e0 : DataW.trod enc Try.prog w 0 spare held k 38 (([v0, v1, v2, v3].drop 0).take (Try.prog.cellsOf 38)) = some y0 := hf 0 _ rfl
      have e1 : DataW.trod enc Try.prog w 0 spare held k 5 (([v0, v1, v2, v3].drop 1).take (Try.prog.cellsOf 5)) = some y1 := hf 1 _ rfl
      have e2 : DataW.trod enc Try.prog w 0 spare held k 4 (([v0, v1, v2, v3].drop 2).take (Try.prog.cellsOf 4)) = some y2 := hf 2 _ rfl
      have e3 : DataW.trod enc Try.prog w 0 spare held k 9 (([v0, v1, v2, v3].drop 3).take (Try.prog.cellsOf 9)) = some y3 := hf 3 _ rfl
      simp only [k0, k1, k2, k3, List.drop_zero, List.drop_succ_cons, List.take_succ_cons, List.take_zero] at e0 e1 e2 e3
      obtain ⟨n, hn, _, wn⟩ := DataW.trod_int Try.underlying38 e0
      obtain ⟨z, hz, _, wz⟩ := DataW.trod_int Try.underlying5 e1
      obtain ⟨b, hb, _⟩ := DataW.trod_bool Try.underlying4 e2
      obtain ⟨s, hs, hsx, _⟩ := DataW.trod_string Try.underlying9 e3
      simp only [List.cons.injEq, and_true] at hn hz hb hs
      subst hn hz hb hs
      exact ⟨n, z, b, s, rfl, ⟨y0.1, y1.1, y2.1, by rw [hsx]; rfl⟩, wn, wz⟩

theorem open_pcs {fuel : Nat} {ao : Option Addr} {len cap : Nat} {x : DataW H × List MemPlace} (h : DataW.trod enc Try.prog w 0 spare held fuel 34 [.slice ao len cap] = some x)
    (hsz : ∀ n ∈ x.1.weights Try.prog 34, n ≤ reachBytes) : ∃ cs, IsPcs w ao len cs := by
  rcases open_slice Try.underlying34 h with ⟨h0, _⟩ | ⟨a, len', cap', m, n, D, Pl, hcs, _, hl, hm, hmm, hx, hi⟩
  · simp only [List.cons.injEq, Value.slice.injEq, and_true] at h0
    obtain ⟨_, rfl, _⟩ := h0
    exact ⟨[], rfl, Nat.zero_le _, fun c hc => (List.not_mem_nil hc).elim, .inl rfl⟩
  simp only [List.cons.injEq, Value.slice.injEq, and_true] at hcs
  obtain ⟨rfl, rfl, rfl⟩ := hcs
  rw [cellsP] at hi
  have hlm : len ≤ m := by rw [hmm]; split <;> omega
  have each : ∀ i, i < len → ∃ c : Pc, c.ok ∧ ∃ b o, a = ⟨b, o, none⟩ ∧ b < w.heap.size ∧ c.lies w b o i := by
    intro i hil
    obtain ⟨cs', hc, ht⟩ := hi i (by omega)
    obtain ⟨_, hcl, hat⟩ := World.cells?_some hc
    obtain ⟨n', z, bb, s, rfl, ⟨p, q, r, hD⟩, wn, wz⟩ := open_pc ht
    have g0 := hat 0 (by decide)
    have g1 := hat 1 (by decide)
    have g2 := hat 2 (by decide)
    have g3 := hat 3 (by decide)
    rw [Go.Deep.add_add] at g0 g1 g2 g3
    simp only [List.getElem?_cons_zero, List.getElem?_cons_succ] at g0 g1 g2 g3
    have hsr : s.size ≤ reachBytes := by
      refine hsz _ ?_
      rw [hx]
      show _ ∈ DataW.weights _ _ (.slice _ _)
      rw [DataW.weights]
      rw [Try.underlying34]
      refine List.mem_cons_of_mem _ (List.mem_append_left _ (weights_all (d := D i) (List.mem_map.2 ⟨i, List.mem_range.2 hil, rfl⟩) ?_))
      have hD' : D i = .agg [p, q, r, .lit (.string s.data.toList)] := hD
      rw [hD', DataW.weights, Try.underlying40]
      simp only [List.map_cons, List.map_nil, DataW.weightsEach, DataW.weights]
      exact List.mem_append_right _ (List.mem_append_right _ (List.mem_append_right _ (List.mem_append_left _ (List.mem_singleton.2 (size_list s).symm))))
    have hsp0 : a.spot = none := by
      obtain ⟨cs0, hc0, ht0⟩ := hi 0 (by omega)
      obtain ⟨_, _, hat0⟩ := World.cells?_some hc0
      obtain ⟨d0, n0, z0, s0, rfl, _⟩ := open_pc ht0
      have h00 := World.cell?_spot (hat0 0 (by decide))
      rw [Go.Deep.add_add, Nat.zero_mul, Addr.add, if_pos rfl] at h00
      exact h00
    obtain ⟨b, o, sp⟩ := a
    have hsp : sp = none := hsp0
    subst hsp
    rw [add_at] at g0 g1 g2 g3
    refine ⟨⟨n', z, bb, s⟩, ⟨u64_bounds wn, u8_bounds wz, hsr⟩, b, o, rfl, World.block_lt_of_cell? _ _ g0, g0, g1, g2, g3⟩
  by_cases hz : len = 0
  · subst hz
    exact ⟨[], rfl, Nat.zero_le _, fun c hc => (List.not_mem_nil hc).elim, .inl rfl⟩
  obtain ⟨_, _, b, o, hab, hbw, _⟩ := each 0 (by omega)
  obtain ⟨f, hf⟩ := choose_lt each
  refine ⟨(List.range len).map f, by simp, by omega, fun c hc => ?_, .inr ⟨b, o, by rw [hab], hbw, fun i c hc => ?_⟩⟩
  · obtain ⟨i, hi', rfl⟩ := List.mem_map.1 hc
    exact (hf i (List.mem_range.1 hi')).1
  · have hil : i < len := by
      have := (List.getElem?_eq_some_iff.1 hc).1
      simpa using this
    obtain ⟨_, b', o', hab', _, hat⟩ := hf i hil
    rw [hab] at hab'
    obtain ⟨rfl, rfl⟩ : b = b' ∧ o = o' := by
      simp only [Addr.mk.injEq, and_true] at hab'
      exact hab'
    have : f i = c := by simpa [hil] using hc
    rw [← this]
    exact hat
end
end Go.Proofs.Ytlikpljbbenmoaa
