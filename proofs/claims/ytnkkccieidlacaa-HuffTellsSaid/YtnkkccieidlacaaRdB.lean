/- What next and look of package bitr answer. Conditions: as each theorem names them. -/
import Derived.Test.YtnkkccieidlacaaRdA
import Derived.Test.YtnkkccieidlacaaCpy
import Derived.Deep.RegionLaw
import Derived.RegionTactic
import Derived.BigRegion
import Derived.ChangeAlike
import Derived.Laws.Cells
import Derived.WalkSpells
import Derived.WalkMore
namespace Go.Proofs.Ytnkkccieidlacaa
open Go.RowKit M
set_option linter.unusedVariables false
variable {w w' : World} {B p a : Nat} {s : ByteArray} {S T : Nat → Prop}

theorem rinfo_u8 : (Try.prog.info? 5).map (fun i => (i.zero, i.size, i.bytes)) = some (some (.int .u8 0), 1, 1) := by kernel_rfl

/-- Eight bytes of the text, filled up with bytes 0. -/
theorem eight (s : ByteArray) (k m : Nat) (hk : k ≤ s.size) (hm : m = Nat.min (s.extract k s.size).size 8) :
    Lib.byteCells ((s.extract k s.size).data.toList.take m) ++ [Value.int .u8 0, .int .u8 0, .int .u8 0, .int .u8 0, .int .u8 0, .int .u8 0, .int .u8 0, .int .u8 0].drop (0 + m) = (bys (tx s / 256 ^ k) 8).map (Value.int .u8) := by
  have e1 : (s.extract k s.size).data.toList = s.data.toList.drop k := by
    rw [ByteArray.data_extract, Array.toList_extract, List.extract_eq_take_drop, List.take_of_length_le]
    rw [List.length_drop, size_list]; exact Nat.le_refl _
  have e2 : (s.extract k s.size).size = (s.data.toList.drop k).length := by rw [← size_list, e1]
  have h := le_vl_take (s.data.toList.drop k) 8
  rw [vl_drop] at h
  unfold tx
  rw [bys_of_le, h, e1]
  rw [e2] at hm
  generalize s.data.toList.drop k = l at hm
  have hz : [Value.int .u8 0, .int .u8 0, .int .u8 0, .int .u8 0, .int .u8 0, .int .u8 0, .int .u8 0, .int .u8 0] = List.replicate 8 (Value.int .u8 0) := rfl
  rw [hz, List.drop_replicate, Nat.zero_add]
  have h3 : l.take m = l.take 8 := by
    by_cases g : l.length ≤ 8
    · have : m = l.length := by rw [hm]; exact Nat.min_eq_left g
      rw [this, List.take_of_length_le (Nat.le_refl _), List.take_of_length_le g]
    · have : m = 8 := by rw [hm]; exact Nat.min_eq_right (by omega)
      rw [this]
  have h4 : 8 - m = 8 - l.length := by
    have : m = min l.length 8 := hm
    omega
  rw [h3, h4]
  simp [Lib.byteCells, Function.comp_def]

/-- Behind the copy: the eight bytes lie in the row. -/
structure Nxt (w w2 : World) (g : Nat) (x0 x1 x2 x3 x4 x5 x6 x7 : Int) : Prop where
  d0 : w2.cell? ⟨g, 0, none⟩ = some (.int .u8 x0)
  d1 : w2.cell? ⟨g, 1, none⟩ = some (.int .u8 x1)
  d2 : w2.cell? ⟨g, 2, none⟩ = some (.int .u8 x2)
  d3 : w2.cell? ⟨g, 3, none⟩ = some (.int .u8 x3)
  d4 : w2.cell? ⟨g, 4, none⟩ = some (.int .u8 x4)
  d5 : w2.cell? ⟨g, 5, none⟩ = some (.int .u8 x5)
  d6 : w2.cell? ⟨g, 6, none⟩ = some (.int .u8 x6)
  d7 : w2.cell? ⟨g, 7, none⟩ = some (.int .u8 x7)
  out : w2.heap[w.heap.size]? = some (.cells #[.int .u8 0, .int .u8 0, .int .u8 0, .int .u8 0, .int .u8 0, .int .u8 0, .int .u8 0, .int .u8 0] 105 (0, 0))
  kept : Kept NoB w w2

theorem next_copy (w : World) (q m : Nat) (s : ByteArray) (hq : q ≤ s.size) (hm : m = Nat.min (s.extract q s.size).size 8) (x0 x1 x2 x3 x4 x5 x6 x7 : Int) (hx : bys (tx s / 256 ^ q) 8 = [x0, x1, x2, x3, x4, x5, x6, x7]) :
    ∃ W2, (Builtin.copy_ #[22, 9] 3 #[.slice (some ⟨w.heap.size + 1, 0, none⟩) 8 8, .string (s.extract q s.size)]).run Try.prog
        ((w.alloc (.cells #[.int .u8 0, .int .u8 0, .int .u8 0, .int .u8 0, .int .u8 0, .int .u8 0, .int .u8 0, .int .u8 0] 105)).alloc (.cells #[.int .u8 0, .int .u8 0, .int .u8 0, .int .u8 0, .int .u8 0, .int .u8 0, .int .u8 0, .int .u8 0] 105)).drew = .ok (goInt m) W2 ∧
      Nxt w W2 (w.heap.size + 1) x0 x1 x2 x3 x4 x5 x6 x7 := by
  have h8 := eight s q m hq hm
  rw [hx] at h8
  obtain ⟨W, hW⟩ : ∃ W, W = ((w.alloc (.cells #[.int .u8 0, .int .u8 0, .int .u8 0, .int .u8 0, .int .u8 0, .int .u8 0, .int .u8 0, .int .u8 0] 105)).alloc (.cells #[.int .u8 0, .int .u8 0, .int .u8 0, .int .u8 0, .int .u8 0, .int .u8 0, .int .u8 0, .int .u8 0] 105)).drew := ⟨_, rfl⟩
  have hsz : (w.alloc (.cells #[.int .u8 0, .int .u8 0, .int .u8 0, .int .u8 0, .int .u8 0, .int .u8 0, .int .u8 0, .int .u8 0] 105)).heap.size = w.heap.size + 1 := by simp
  have hh : W.heap[w.heap.size + 1]? = some (.cells #[.int .u8 0, .int .u8 0, .int .u8 0, .int .u8 0, .int .u8 0, .int .u8 0, .int .u8 0, .int .u8 0] 105 (0, 0)) := by
    rw [hW, ← hsz]; exact heap_alloc_new _ _
  have hh0 : W.heap[w.heap.size]? = some (.cells #[.int .u8 0, .int .u8 0, .int .u8 0, .int .u8 0, .int .u8 0, .int .u8 0, .int .u8 0, .int .u8 0] 105 (0, 0)) := by
    rw [hW]
    refine (Below.heap_alloc (w.alloc (.cells #[.int .u8 0, .int .u8 0, .int .u8 0, .int .u8 0, .int .u8 0, .int .u8 0, .int .u8 0, .int .u8 0] 105)) _ w.heap.size (by omega)).trans ?_
    exact heap_alloc_new _ _
  have hk : Kept NoB w W := by rw [hW]; exact (((Kept.refl NoB w).alloc _).alloc _).drew
  rw [← hW]
  clear hW
  have g := run_copy_string_some (P := Try.prog) W 22 9 3 5 (w.heap.size + 1) 0 8 8 m (s.extract q s.size) _ 105 Try.underlying22 (by kernel_rfl) hh hm (by
    have : m ≤ 8 := by rw [hm]; exact Nat.min_le_right _ _
    show 0 + m ≤ 8; omega)
  rw [show (#[Value.int .u8 0, .int .u8 0, .int .u8 0, .int .u8 0, .int .u8 0, .int .u8 0, .int .u8 0, .int .u8 0] : Array Value).toList = [Value.int .u8 0, .int .u8 0, .int .u8 0, .int .u8 0, .int .u8 0, .int .u8 0, .int .u8 0, .int .u8 0] from rfl, List.take_zero, List.nil_append, h8] at g
  refine ⟨_, g, ?_⟩
  have hc := fun j => cell_setRow_same W (w.heap.size + 1) j _ (([x0, x1, x2, x3, x4, x5, x6, x7].map (Value.int .u8)).toArray) _ _ hh
  exact ⟨hc 0, hc 1, hc 2, hc 3, hc 4, hc 5, hc 6, hc 7, (setRow_other _ _ _ _ (by omega)).trans hh0, hk.setRow _ (.inr (by omega)) _⟩

set_option maxHeartbeats 1000000 in
theorem next_any (h : Rd w B p s a) (hs : s.size ≤ 100000000) :
    Calls Try.prog 58 #[.pointer (some ⟨p, 0, none⟩)] w fun e w' => e = .returned (.agg ((bys (tx s / 256 ^ (a / 8)) 8).map (Value.int .u8)).toArray) ∧ Kept NoB w w' := by
  have h0 := h.c0
  have h1 := h.c1
  have h2 := h.c2
  have hle := h.le
  have hp := h.lt
  have hk : a / 8 ≤ s.size := by omega
  have hw : IntKind.i64.wrap ((a : Int) / 8) = ((a / 8 : Nat) : Int) := by rw [IntWalk.i64_in _ ⟨by omega, by omega⟩]; omega
  obtain ⟨q, hq⟩ : ∃ q, a / 8 = q := ⟨_, rfl⟩
  rw [hq] at hw hk ⊢
  obtain ⟨x0, x1, x2, x3, x4, x5, x6, x7, hx⟩ : ∃ x0 x1 x2 x3 x4 x5 x6 x7, bys (tx s / 256 ^ q) 8 = [x0, x1, x2, x3, x4, x5, x6, x7] := ⟨_, _, _, _, _, _, _, _, rfl⟩
  obtain ⟨W2, hr, hN⟩ := next_copy w q _ s hk rfl x0 x1 x2 x3 x4 x5 x6 x7 hx
  have HC := Lib.hid hr
  have HX := Lib.hid hx
  have HN := Lib.hid hN
  clear h hx hr hN hq hle
  go_enter Try.func58, Try.ntmps58
  go_wp2_with fail
  go_region_law (refine step_copy_known rfl _ _ _ _ rfl _ _ rfl rfl HC.out ?_)
  all_goals
    have d0 := HN.out.d0
    have d1 := HN.out.d1
    have d2 := HN.out.d2
    have d3 := HN.out.d3
    have d4 := HN.out.d4
    have d5 := HN.out.d5
    have d6 := HN.out.d6
    have d7 := HN.out.d7
    have e0 : W2.cell? ⟨w.heap.size, 0, none⟩ = some (.int .u8 0) := by have := HN.out.out; simp [World.cell?, this]
    have f0 : W2.frozen? ⟨w.heap.size, 0, none⟩ = false := by have := HN.out.out; simp [World.frozen?, this]
    have e1 : W2.cell? ⟨w.heap.size, 1, none⟩ = some (.int .u8 0) := by have := HN.out.out; simp [World.cell?, this]
    have f1 : W2.frozen? ⟨w.heap.size, 1, none⟩ = false := by have := HN.out.out; simp [World.frozen?, this]
    have e2 : W2.cell? ⟨w.heap.size, 2, none⟩ = some (.int .u8 0) := by have := HN.out.out; simp [World.cell?, this]
    have f2 : W2.frozen? ⟨w.heap.size, 2, none⟩ = false := by have := HN.out.out; simp [World.frozen?, this]
    have e3 : W2.cell? ⟨w.heap.size, 3, none⟩ = some (.int .u8 0) := by have := HN.out.out; simp [World.cell?, this]
    have f3 : W2.frozen? ⟨w.heap.size, 3, none⟩ = false := by have := HN.out.out; simp [World.frozen?, this]
    have e4 : W2.cell? ⟨w.heap.size, 4, none⟩ = some (.int .u8 0) := by have := HN.out.out; simp [World.cell?, this]
    have f4 : W2.frozen? ⟨w.heap.size, 4, none⟩ = false := by have := HN.out.out; simp [World.frozen?, this]
    have e5 : W2.cell? ⟨w.heap.size, 5, none⟩ = some (.int .u8 0) := by have := HN.out.out; simp [World.cell?, this]
    have f5 : W2.frozen? ⟨w.heap.size, 5, none⟩ = false := by have := HN.out.out; simp [World.frozen?, this]
    have e6 : W2.cell? ⟨w.heap.size, 6, none⟩ = some (.int .u8 0) := by have := HN.out.out; simp [World.cell?, this]
    have f6 : W2.frozen? ⟨w.heap.size, 6, none⟩ = false := by have := HN.out.out; simp [World.frozen?, this]
    have e7 : W2.cell? ⟨w.heap.size, 7, none⟩ = some (.int .u8 0) := by have := HN.out.out; simp [World.cell?, this]
    have f7 : W2.frozen? ⟨w.heap.size, 7, none⟩ = false := by have := HN.out.out; simp [World.frozen?, this]
    clear h0 h1 h2
    go_wp2_with fail
    have g0 : (W2.setCell ⟨w.heap.size, 0, none⟩ (.int .u8 x0)).cell? ⟨w.heap.size, 0, none⟩ = some (.int .u8 x0) := rset_eq e0
    have g1 : ((W2.setCell ⟨w.heap.size, 0, none⟩ (.int .u8 x0)).setCell ⟨w.heap.size, 1, none⟩ (.int .u8 x1)).cell? ⟨w.heap.size, 1, none⟩ = some (.int .u8 x1) := rset_eq ((rset_ne (by decide)).trans e1)
    have g2 : (((W2.setCell ⟨w.heap.size, 0, none⟩ (.int .u8 x0)).setCell ⟨w.heap.size, 1, none⟩ (.int .u8 x1)).setCell ⟨w.heap.size, 2, none⟩ (.int .u8 x2)).cell? ⟨w.heap.size, 2, none⟩ = some (.int .u8 x2) := rset_eq ((rset_ne (by decide)).trans ((rset_ne (by decide)).trans e2))
    have g3 : ((((W2.setCell ⟨w.heap.size, 0, none⟩ (.int .u8 x0)).setCell ⟨w.heap.size, 1, none⟩ (.int .u8 x1)).setCell ⟨w.heap.size, 2, none⟩ (.int .u8 x2)).setCell ⟨w.heap.size, 3, none⟩ (.int .u8 x3)).cell? ⟨w.heap.size, 3, none⟩ = some (.int .u8 x3) := rset_eq ((rset_ne (by decide)).trans ((rset_ne (by decide)).trans ((rset_ne (by decide)).trans e3)))
    have g4 : (((((W2.setCell ⟨w.heap.size, 0, none⟩ (.int .u8 x0)).setCell ⟨w.heap.size, 1, none⟩ (.int .u8 x1)).setCell ⟨w.heap.size, 2, none⟩ (.int .u8 x2)).setCell ⟨w.heap.size, 3, none⟩ (.int .u8 x3)).setCell ⟨w.heap.size, 4, none⟩ (.int .u8 x4)).cell? ⟨w.heap.size, 4, none⟩ = some (.int .u8 x4) := rset_eq ((rset_ne (by decide)).trans ((rset_ne (by decide)).trans ((rset_ne (by decide)).trans ((rset_ne (by decide)).trans e4))))
    have g5 : ((((((W2.setCell ⟨w.heap.size, 0, none⟩ (.int .u8 x0)).setCell ⟨w.heap.size, 1, none⟩ (.int .u8 x1)).setCell ⟨w.heap.size, 2, none⟩ (.int .u8 x2)).setCell ⟨w.heap.size, 3, none⟩ (.int .u8 x3)).setCell ⟨w.heap.size, 4, none⟩ (.int .u8 x4)).setCell ⟨w.heap.size, 5, none⟩ (.int .u8 x5)).cell? ⟨w.heap.size, 5, none⟩ = some (.int .u8 x5) := rset_eq ((rset_ne (by decide)).trans ((rset_ne (by decide)).trans ((rset_ne (by decide)).trans ((rset_ne (by decide)).trans ((rset_ne (by decide)).trans e5)))))
    have g6 : (((((((W2.setCell ⟨w.heap.size, 0, none⟩ (.int .u8 x0)).setCell ⟨w.heap.size, 1, none⟩ (.int .u8 x1)).setCell ⟨w.heap.size, 2, none⟩ (.int .u8 x2)).setCell ⟨w.heap.size, 3, none⟩ (.int .u8 x3)).setCell ⟨w.heap.size, 4, none⟩ (.int .u8 x4)).setCell ⟨w.heap.size, 5, none⟩ (.int .u8 x5)).setCell ⟨w.heap.size, 6, none⟩ (.int .u8 x6)).cell? ⟨w.heap.size, 6, none⟩ = some (.int .u8 x6) := rset_eq ((rset_ne (by decide)).trans ((rset_ne (by decide)).trans ((rset_ne (by decide)).trans ((rset_ne (by decide)).trans ((rset_ne (by decide)).trans ((rset_ne (by decide)).trans e6))))))
    have g7 : ((((((((W2.setCell ⟨w.heap.size, 0, none⟩ (.int .u8 x0)).setCell ⟨w.heap.size, 1, none⟩ (.int .u8 x1)).setCell ⟨w.heap.size, 2, none⟩ (.int .u8 x2)).setCell ⟨w.heap.size, 3, none⟩ (.int .u8 x3)).setCell ⟨w.heap.size, 4, none⟩ (.int .u8 x4)).setCell ⟨w.heap.size, 5, none⟩ (.int .u8 x5)).setCell ⟨w.heap.size, 6, none⟩ (.int .u8 x6)).setCell ⟨w.heap.size, 7, none⟩ (.int .u8 x7)).cell? ⟨w.heap.size, 7, none⟩ = some (.int .u8 x7) := rset_eq ((rset_ne (by decide)).trans ((rset_ne (by decide)).trans ((rset_ne (by decide)).trans ((rset_ne (by decide)).trans ((rset_ne (by decide)).trans ((rset_ne (by decide)).trans ((rset_ne (by decide)).trans e7)))))))
    refine bodyPost_ret (v := .agg #[.int .u8 x0, .int .u8 x1, .int .u8 x2, .int .u8 x3, .int .u8 x4, .int .u8 x5, .int .u8 x6, .int .u8 x7]) (by simp [results, Try.results58, go_sem, g0, g1, g2, g3, g4, g5, g6, g7]) rfl ⟨by rw [HX.out]; rfl, ?_⟩
    exact ((((((((HN.out.kept.setCell ⟨w.heap.size, 0, none⟩ (.inr (Nat.le_refl _)) (.int .u8 x0)).setCell ⟨w.heap.size, 1, none⟩ (.inr (Nat.le_refl _)) (.int .u8 x1)).setCell ⟨w.heap.size, 2, none⟩ (.inr (Nat.le_refl _)) (.int .u8 x2)).setCell ⟨w.heap.size, 3, none⟩ (.inr (Nat.le_refl _)) (.int .u8 x3)).setCell ⟨w.heap.size, 4, none⟩ (.inr (Nat.le_refl _)) (.int .u8 x4)).setCell ⟨w.heap.size, 5, none⟩ (.inr (Nat.le_refl _)) (.int .u8 x5)).setCell ⟨w.heap.size, 6, none⟩ (.inr (Nat.le_refl _)) (.int .u8 x6)).setCell ⟨w.heap.size, 7, none⟩ (.inr (Nat.le_refl _)) (.int .u8 x7))
end Go.Proofs.Ytnkkccieidlacaa
