/- append of a string's bytes to a row of bytes of one's own: where the new row lies. No program. -/
import Derived.Test.YtfochecpdfmfbaaGreatDoorFrm
import Derived.Lib.AppendStr
namespace Go.Proofs.YtfochecpdfmfbaaGreatDoor.M
open Go Go.Lib
set_option linter.unusedVariables false

theorem run_append_str_at {P : Program} (w : World) (base : Nat) (t u ty e : TypeId) (i : TypeInfo) (ht : P.underlying t = some (.slice e)) (hu : P.underlying u = some .string) (hi : P.info? e = some i) (hz : i.zero = some (.int .u8 0))
    (hsize : i.size = 1) (hby : i.bytes = 1) (v : Value) (n : Nat) (xs : List Value) (hown : w.ownsRow base e 1 v n xs) (s : ByteArray) (hs : n + s.size ≤ 1000000000) (hbase : base ≤ w.heap.size) :
    ∃ ao c w', (Builtin.append_ #[t, u] ty #[v, .string s]).run P w = .ok (.slice ao (n + s.size) c) w' ∧ w'.ownsRow base e 1 (.slice ao (n + s.size) c) (n + s.size) (xs ++ strCells s) ∧ w.grownBy w' v.ownBlock ∧
      ∀ a, ao = some a → v.ownBlock = some a.block ∨ w.heap.size ≤ a.block := by
  have h63 : n + s.size ≤ maxLen := by unfold maxLen; omega
  obtain ⟨v', w', hr, h2, h3, _⟩ := run_append_own_string (P := P) w base t u ty e i ht hu hi hz hsize hby v n xs hown s h63 (by omega) hbase
  rcases h2.2 with ⟨rfl, hn⟩ | ⟨g, cap, cur, rfl, hbg, hg, hnc, hcm, hcs, htk⟩
  · refine ⟨none, 0, w', ?_, ?_, h3, fun a ha => by cases ha⟩
    · rw [hn]; exact hr
    · rw [hn]; rw [hn] at h2; exact h2
  · refine ⟨some ⟨g, 0, none⟩, cap, w', hr, h2, h3, fun a ha => ?_⟩
    obtain rfl : (⟨g, 0, none⟩ : Addr) = a := by simpa using ha
    show v.ownBlock = some g ∨ w.heap.size ≤ g
    have hxl : xs.length = n := by simpa using hown.1
    rcases hown.2 with ⟨rfl, rfl⟩ | ⟨g0, cap0, cur0, rfl, hb0, hg0, hnc0, hcm0, hcs0, htk0⟩
    · obtain ⟨v2, w2, hr2, k2, _, _⟩ := run_append_own_string (P := P) w w.heap.size t u ty e i ht hu hi hz hsize hby (.slice none 0 0) 0 xs ⟨hown.1, .inl ⟨rfl, rfl⟩⟩ s h63 (by omega) (Nat.le_refl _)
      have he := hr.symm.trans hr2
      injection he with e1 e2
      subst e1
      exact .inr (k2.lt g rfl).1
    · by_cases hroom : n + s.size ≤ cap0
      · have hcs' : cur0.size = cap0 := by simpa using hcs0
        have hr2 := run_append_room_string (P := P) w t u ty e i ht hu hi hsize g0 n cap0 cur0 hg0 s hroom (by omega)
        have he := hr.symm.trans hr2
        injection he with e1 e2
        injection e1 with e3 e4 e5
        injection e3 with e6
        injection e6 with e7
        exact .inl (by rw [e7]; rfl)
      · have hr2 := run_append_grow_string (P := P) w t u ty e i (.int .u8 0) ht hu hi hz ⟨g0, 0, none⟩ n cap0 xs (by rw [hsize]; simpa using hxl) (hown.cells (g := g0) rfl) s (by omega) (by omega) (by rw [hby]; exact growslice_fits (by omega) (by omega))
        have he := hr.symm.trans hr2
        injection he with e1 e2
        injection e1 with e3 e4 e5
        injection e3 with e6
        injection e6 with e7
        exact .inr (by rw [e7]; exact Nat.le_refl _)

theorem wpList_append_str_at {P : Program} {w : World} {ops : Array Oper} {rest : List Oper} {o : Oper} {a : Act} {Q : Exit → Act → World → Prop} (hgd : o.guard = none) (sl x : Operand) (t u : TypeId)
    (ho : o.op = .call { callee := .builtin .append, args := #[sl, x], argTypes := #[t, u] })
    (base : Nat) (e : TypeId) (i : TypeInfo) (ht : P.underlying t = some (.slice e)) (hu : P.underlying u = some .string) (hi : P.info? e = some i) (hz : i.zero = some (.int .u8 0))
    (hsize : i.size = 1) (hby : i.bytes = 1) (v : Value) (n : Nat) (xs : List Value) (hs : a.eval sl = v) (hown : w.ownsRow base e 1 v n xs) (s : ByteArray) (hx : a.eval x = .string s) (hn : n + s.size ≤ 1000000000) (hbase : base ≤ w.heap.size)
    (h : ∀ ao c w', w'.ownsRow base e 1 (.slice ao (n + s.size) c) (n + s.size) (xs ++ strCells s) → w.grownBy w' v.ownBlock → (∀ a, ao = some a → v.ownBlock = some a.block ∨ w.heap.size ≤ a.block) → wpList P ops Q rest (a.put o.dst (.slice ao (n + s.size) c)) w') :
    wpList P ops Q (o :: rest) a w := by
  refine wpList_plain hgd fun K hK => ?_
  obtain ⟨ao, c, w', hr, h2, h3, h4⟩ := run_append_str_at (P := P) w base t u o.type e i ht hu hi hz hsize hby v n xs hown s hn hbase
  unfold Oper.wp execOp
  simp only [ho, resolve, invoke, builtin, Sem.run_bind, Sem.run_pure, Result.andThen_ok, List.map_toArray, List.map_cons, List.map_nil, hs, hx, hr]
  exact hK _ _ (h ao c w' h2 h3 h4)
end Go.Proofs.YtfochecpdfmfbaaGreatDoor.M
