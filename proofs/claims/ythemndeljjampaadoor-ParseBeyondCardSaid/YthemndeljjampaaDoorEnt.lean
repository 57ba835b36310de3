/- 'm[k] = append(m[k], v)' on a map of slices of ints, where the entry is looked up first and stored into then: what the entry answers, and the way back. No program. -/
import Derived.Maps.OwnRows
import Derived.Maps.GroupsBeside
import Derived.WideKeyEntry
namespace Go.Proofs.YthemndeljjampaaDoor.M
open Go Go.Maps Go.WideElems Go.MapKept Go.RowKit
open Go.ChangeMaps (setBlock heap_setBlock_same heap_setBlock_other modify_eq_set)
set_option linter.unusedVariables false
set_option linter.unusedSimpArgs false

section
variable {P : Program} {k : TypeId}

theorem nodup_one {α : Type} {l : List α} (h : l.Nodup) {i j : Nat} {x : α} (hi : l[i]? = some x) (hj : l[j]? = some x) : i = j := by
  obtain ⟨h1, e1⟩ := List.getElem?_eq_some_iff.1 hi
  obtain ⟨h2, e2⟩ := List.getElem?_eq_some_iff.1 hj
  have hp := List.pairwise_iff_getElem.1 h
  rcases Nat.lt_trichotomy i j with c | c | c
  · exact absurd (e1.trans e2.symm) (hp i j h1 h2 c)
  · exact c
  · exact absurd (e2.trans e1.symm) (hp j i h2 h1 c)

theorem find_same (K : Keyed P k) {key : Value} {kl : Lit} (hkey : keyOf P k key = some kl) {es : List MapEntry} (hn : (es.map (·.key)).Nodup) (hks : ∀ e ∈ es, ∃ l, keyOf P k e.key = some l) :
    ((∀ u : World, (Instr.findKey k key es).run P u = .ok none u) ∧ ∀ e ∈ es, e.key ≠ key) ∨ ∃ j e, (∀ u : World, (Instr.findKey k key es).run P u = .ok (some (j, e.val)) u) ∧ es[j]? = some e ∧ e.key = key := by
  by_cases c : ∃ e ∈ es, e.key = key
  · obtain ⟨e, he, hk⟩ := c
    obtain ⟨j, hj⟩ := List.mem_iff_getElem?.1 he
    refine .inr ⟨j, e, fun u => ?_, hj, hk⟩
    rcases K.find u hkey es hks with ⟨_, h2⟩ | ⟨j', e', h1, h2, h3⟩
    · exact absurd hk (h2 e he)
    · have q1 : (es.map (·.key))[j]? = some key := by rw [List.getElem?_map, hj]; simp [hk]
      have q2 : (es.map (·.key))[j']? = some key := by rw [List.getElem?_map, h2]; simp [h3]
      obtain rfl := nodup_one hn q1 q2
      rw [hj] at h2
      cases h2
      exact h1
  · refine .inl ⟨fun u => ?_, fun e he hk => c ⟨e, he, hk⟩⟩
    rcases K.find u hkey es hks with ⟨h1, _⟩ | ⟨j', e', _, h2, h3⟩
    · exact h1
    · exact absurd ⟨e', List.mem_of_getElem? h2, h3⟩ c

/-- What the entry's two operations, and a store, leave is the same in each world that has the map. -/
theorem ent_all {t e : TypeId} (K : Keyed P k) (ht : P.underlying t = some (.map k e)) {z : Value} (hz : ∀ u : World, (zeroValue e).run P u = .ok z u) {b : Nat} {es : Array MapEntry} {clock : Nat} (hn : (es.toList.map (·.key)).Nodup) (hks : ∀ e ∈ es.toList, ∃ l, keyOf P k e.key = some l)
    {key : Value} {kl : Lit} (hkey : keyOf P k key = some kl) :
    ∃ (r : Value) (o : Obj), ∀ x : World, x.heap[b]? = some (.map es clock) → (Instr.mapEntry t (.map (some b)) key).run P x = .ok r (setBlock x b o) := by
  rcases find_same K hkey hn hks with ⟨h1, _⟩ | ⟨j, e0, h1, h2, h3⟩
  · exact ⟨_, _, fun x hx => by simp [Instr.mapEntry, run_underlying ht, MapKept.run_getObj_map hx, K.check x false hkey, h1, hz, MapKept.run_setObj_map _ hx, Result.andThen]; exact ⟨rfl, rfl⟩⟩
  · have hj : es[j]? = some e0 := by simpa using h2
    exact ⟨_, _, fun x hx => by simp [Instr.mapEntry, run_underlying ht, MapKept.run_getObj_map hx, K.check x false hkey, h1, hj, h3, K.stays x hkey, MapKept.run_setObj_map _ hx, Result.andThen]; exact ⟨rfl, rfl⟩⟩
theorem upd_all {t e : TypeId} (K : Keyed P k) (ht : P.underlying t = some (.map k e)) {b : Nat} {es : Array MapEntry} {clock : Nat} (hn : (es.toList.map (·.key)).Nodup) (hks : ∀ e ∈ es.toList, ∃ l, keyOf P k e.key = some l)
    {key : Value} {kl : Lit} (hkey : keyOf P k key = some kl) (val : Value) :
    ∃ o : Obj, ∀ x : World, x.heap[b]? = some (.map es clock) → (Instr.mapUpdate t (.map (some b)) key val).run P x = .ok () (setBlock x b o) := by
  rcases find_same K hkey hn hks with ⟨h1, _⟩ | ⟨j, e0, h1, h2, h3⟩
  · exact ⟨_, fun x hx => by simp [Instr.mapUpdate, run_underlying ht, MapKept.run_getObj_map hx, K.check x false hkey, h1, MapKept.run_setObj_map _ hx, Result.andThen]; rfl⟩
  · have hj : es[j]? = some e0 := by simpa using h2
    exact ⟨_, fun x hx => by simp [Instr.mapUpdate, run_underlying ht, MapKept.run_getObj_map hx, K.check x false hkey, h1, hj, h3, K.stays x hkey, MapKept.run_setObj_map _ hx, Result.andThen]; rfl⟩
theorem setBlock_one {w : World} {b : Nat} {o o' : Obj} (hb : b < w.heap.size) (h : setBlock w b o = setBlock w b o') : o = o' := by
  have := congrArg (fun x : World => x.heap[b]?) h
  simpa [setBlock, hb] using this
end

section
variable {H : Type} {P : Program} {k : TypeId} {w : World} {base : Nat} {e : TypeId} {q : IntKind} {b n : Nat} {D : DataW H}

theorem setBlock_twice {w : World} {b : Nat} (o o' : Obj) : setBlock (setBlock w b o) b o' = setBlock w b o' := by
  simp [setBlock]
theorem size_setBlock (w : World) (b : Nat) (o : Obj) : (setBlock w b o).heap.size = w.heap.size := by simp [setBlock]

/-- THE ENTRY: the value, what it owns, AND THE WAY BACK: whatever is done to its own row and to new blocks alone, the store into the entry leaves a map of groups again. -/
theorem groups_entry {t E : TypeId} {key : Value} {kl : Lit} (h : w.ownsGroups P k base e q b n D) (KL : WideMaps.KeyLaw P k) (ht : P.underlying t = some (.map k E)) (hz : ∀ u : World, (zeroValue E).run P u = .ok (.slice none 0 0) u) (hn : n < maxLen) (hkey : keyOf P k key = some kl) :
    ∃ (v : Value) (zs : List Int) (st : Nat) (o : Obj), (∀ u : World, u.heap[b]? = w.heap[b]? → (Instr.mapEntry t (.map (some b)) key).run P u = .ok (.tuple #[v, goInt st]) (setBlock u b o)) ∧ D.atKey kl .nil = rowDatum q v zs ∧ w.ownsInts base e q v zs ∧ zs.length ≤ n ∧ b < w.heap.size ∧
      ∀ (w2 : World) (v' : Value) (zs' : List Int), (setBlock w b o).grownBy w2 v.ownBlock → w2.ownsInts base e q v' zs' → zs'.length ≤ n + 1 → (v'.ownBlock = v.ownBlock ∨ ∃ g, v'.ownBlock = some g ∧ w.heap.size ≤ g) →
        ∃ w3, (Instr.entryStore t (.map (some b)) (goInt st) v').run P w2 = .ok () w3 ∧ w3.ownsGroups P k base e q b (n + 1) (D.put kl (rowDatum q v' zs')) ∧ w2.grownBy w3 (some b) := by
  have K := Keyed.of_law KL
  obtain ⟨v, zs, hlook, hat, hown, hzl, hback⟩ := h.at K ht (hz w) hn hkey
  obtain ⟨es, clock, hb, F, hs, rfl, hbb, hlen, hap⟩ := h
  have hblt : b < w.heap.size := (Array.getElem?_eq_some_iff.1 hb).1
  have hks : ∀ x ∈ es.toList, ∃ l, keyOf P k x.key = some l := fun x hx => by
    obtain ⟨y, hy⟩ := F.reads x hx
    exact ⟨_, rd_key hy⟩
  obtain ⟨v0, st, es1, clock1, hent0, hval, hst⟩ := entry_then_store KL ht hz hb F hkey
  have hent : ∀ u : World, u.heap[b]? = some (.map es clock) → (Instr.mapEntry t (.map (some b)) key).run P u = .ok (.tuple #[v0, goInt st]) (setBlock u b (.map es1 clock1)) := by
    obtain ⟨r, o, hall⟩ := ent_all (clock := clock) (b := b) K ht hz F.stamped.2.2 hks hkey
    have h1 := hall w hb
    rw [hent0] at h1
    injection h1 with e1 e2
    rw [setBlock_one hblt e2, e1]
    exact hall
  -- the entry's value is what a look-up gives
  obtain rfl : v0 = v := by
    rcases find_same K hkey F.stamped.2.2 hks with ⟨h1, h2⟩ | ⟨j, e0, h1, h2, h3⟩
    · have hr : (Instr.lookup t (.map (some b)) key false).run P w = .ok (.slice none 0 0) w := by
        simp [Instr.lookup, run_underlying ht, MapKept.run_getObj_map hb, K.check w _ hkey, h1, hz, Result.andThen]
      rw [hr] at hlook
      injection hlook with hv _
      rcases hval with ⟨e0, q1, q2, _⟩ | ⟨_, q⟩
      · exact absurd q2 (h2 e0 q1)
      · rw [q, hv]
    · have hr : (Instr.lookup t (.map (some b)) key false).run P w = .ok e0.val w := by
        simp [Instr.lookup, run_underlying ht, MapKept.run_getObj_map hb, K.check w _ hkey, h1, hz, Result.andThen]
      rw [hr] at hlook
      injection hlook with hv _
      rcases hval with ⟨e1, q1, q2, q3⟩ | ⟨q, _⟩
      · obtain ⟨j', hj'⟩ := List.mem_iff_getElem?.1 q1
        have r1 : (es.toList.map (·.key))[j]? = some key := by rw [List.getElem?_map, h2]; simp [h3]
        have r2 : (es.toList.map (·.key))[j']? = some key := by rw [List.getElem?_map, hj']; simp [q2]
        obtain rfl := nodup_one F.stamped.2.2 r1 r2
        rw [h2] at hj'
        cases hj'
        rw [q3, hv]
      · exact absurd h3 (q e0 (List.mem_of_getElem? h2))
  refine ⟨v0, zs, st, .map es1 clock1, fun u hu => hent u (hu.trans hb), hat, hown, hzl, hblt, fun w2 v' zs' hg hown' hl' hloc => ?_⟩
  have hb1 : (setBlock w b (.map es1 clock1)).heap[b]? = some (.map es1 clock1) := heap_setBlock_same hb _
  have hvb : v0.ownBlock ≠ some b := fun e1 => by have := (hown.1.lt b e1).1; omega
  have hv'b : v'.ownBlock ≠ some b := fun e1 => by have := (hown'.1.lt b e1).1; omega
  have hb2 : w2.heap[b]? = some (.map es1 clock1) := (hg.block b (by rw [size_setBlock]; exact hblt) (fun e1 => hvb e1.symm)).trans hb1
  obtain ⟨es', clock', hstore, hupd0⟩ := hst w2 v' hb2
  have hupd : ∀ u : World, u.heap[b]? = some (.map es clock) → (Instr.mapUpdate t (.map (some b)) key v').run P u = .ok () (setBlock u b (.map es' clock')) := by
    obtain ⟨o, hall⟩ := upd_all (clock := clock) (b := b) K ht F.stamped.2.2 hks hkey v'
    have h1 := hall w hb
    rw [hupd0] at h1
    injection h1 with _ e2
    rw [setBlock_one hblt e2]
    exact hall
  -- the world as if the entry had not been made
  have hgu : w.grownBy (setBlock w2 b (.map es clock)) v0.ownBlock := by
    refine ⟨hg.os, hg.tape, hg.output, ?_, fun i hi hne => ?_⟩
    · rw [size_setBlock]; have := hg.size; rw [size_setBlock] at this; exact this
    · by_cases c : i = b
      · subst c
        rw [heap_setBlock_same hb2, hb]
      · rw [heap_setBlock_other hb2 _ c, hg.block i (by rw [size_setBlock]; exact hi) hne, heap_setBlock_other hb _ c]
  have hgb : w2.grownBy (setBlock w2 b (.map es clock)) (some b) := ⟨rfl, rfl, rfl, by rw [size_setBlock]; exact Nat.le_refl _, fun i hi hne => heap_setBlock_other hb2 _ (fun e1 => hne (by rw [e1]))⟩
  have hou : (setBlock w2 b (.map es clock)).ownsInts base e q v' zs' := hown'.kept hgb (.inr hv'b)
  obtain ⟨w3, hrun, hgr, hgrown⟩ := hback _ v' zs' hgu hou hl' hloc
  have hrun' := hupd (setBlock w2 b (.map es clock)) (heap_setBlock_same hb2 _)
  rw [hrun', setBlock_twice] at hrun
  injection hrun with _ hw3
  refine ⟨w3, ?_, hgr, ?_⟩
  · rw [hstore, hw3]
  · rw [← hw3]
    exact ⟨rfl, rfl, rfl, by rw [size_setBlock]; exact Nat.le_refl _, fun i hi hne => heap_setBlock_other hb2 _ (fun e1 => hne (by rw [e1]))⟩
/-- A LOOK-UP: the value, the same in each world that has the map, and what it owns. -/
theorem groups_look {t E : TypeId} {key : Value} {kl : Lit} (h : w.ownsGroups P k base e q b n D) (K : Keyed P k) (ht : P.underlying t = some (.map k E)) (hz : ∀ u : World, (zeroValue E).run P u = .ok (.slice none 0 0) u) (hn : n < maxLen) (hkey : keyOf P k key = some kl) :
    ∃ (v : Value) (zs : List Int), (∀ u : World, u.heap[b]? = w.heap[b]? → (Instr.lookup t (.map (some b)) key false).run P u = .ok v u) ∧ D.atKey kl .nil = rowDatum q v zs ∧ w.ownsInts base e q v zs ∧ zs.length ≤ n := by
  obtain ⟨v, zs, hlook, hat, hown, hzl, hback⟩ := h.at K ht (hz w) hn hkey
  obtain ⟨es, clock, hb, F, hs, rfl, hbb, hlen, hap⟩ := h
  refine ⟨v, zs, fun u hu => ?_, hat, hown, hzl⟩
  have hbu := hu.trans hb
  rcases find_same K hkey F.stamped.2.2 (fun x hx => by
      obtain ⟨y, hy⟩ := F.reads x hx
      exact ⟨_, rd_key hy⟩) with ⟨h1, h2⟩ | ⟨j, e0, h1, h2, h3⟩
  · have hr : ∀ u : World, u.heap[b]? = some (.map es clock) → (Instr.lookup t (.map (some b)) key false).run P u = .ok (.slice none 0 0) u := fun u hb => by
      simp [Instr.lookup, run_underlying ht, MapKept.run_getObj_map hb, K.check u _ hkey, h1, hz, Result.andThen]
    rw [hr w hb] at hlook
    injection hlook with hv _
    rw [hr u hbu, hv]
  · have hr : ∀ u : World, u.heap[b]? = some (.map es clock) → (Instr.lookup t (.map (some b)) key false).run P u = .ok e0.val u := fun u hb => by
      simp [Instr.lookup, run_underlying ht, MapKept.run_getObj_map hb, K.check u _ hkey, h1, hz, Result.andThen]
    rw [hr w hb] at hlook
    injection hlook with hv _
    rw [hr u hbu, hv]
end
end Go.Proofs.YthemndeljjampaaDoor.M
