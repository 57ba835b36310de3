/- What candidates and Places of package chain answer. Conditions: as each theorem names them. -/
import Derived.Test.YthemndeljjampaaDoorBin
namespace Go.Proofs.YthemndeljjampaaDoor
open Go Go.RowKit M
open Go.ChangeShapes (lits)
set_option linter.unusedVariables false
set_option linter.unusedSimpArgs false

theorem cand_nil (x d : Int) (w : World) :
    Calls Tryd.prog 32 #[.pointer none, .int .i64 x, .int .i64 d] w fun e w' => e = .returned (.slice none 0 0) ∧ Below w.heap.size w w' := by
  go_enter Tryd.func32, Tryd.ntmps32
  go_wp2_with fail
  refine (start_nil x _).mono ?_; rintro e w2 ⟨rfl, b2⟩
  have B2 := Lib.hid b2
  clear b2
  go_wp2_with fail
  go_ret
  exact ⟨rfl, B2.out.alloc B2.out.size _⟩

section
variable {B F : Nat} {s : ByteArray} {L : List Nat} {la : Int} {w : World}
theorem cand_out (H : Fd w B F s L la) (x d : Int) (hx : x < 0 ∨ (s.size : Int) - 3 < x) :
    Calls Tryd.prog 32 #[.pointer (some ⟨F, 0, none⟩), .int .i64 x, .int .i64 d] w fun e w' => e = .returned (.slice none 0 0) ∧ Below w.heap.size w w' := by
  have HS : Hid (Calls Tryd.prog 30 #[.pointer (some ⟨F, 0, none⟩), .int .i64 x] w fun e w' => e = .returned (.tuple #[.agg #[.int .u8 0, .int .u8 0, .int .u8 0], .bool false]) ∧ Below w.heap.size w w') := by
    rcases hx with h | h
    · exact Lib.hid (start_low H x h)
    · exact Lib.hid (start_high H x h)
  clear H hx
  go_enter Tryd.func32, Tryd.ntmps32
  go_wp2_with fail
  refine HS.out.mono ?_; rintro e w2 ⟨rfl, b2⟩
  have B2 := Lib.hid b2
  clear b2
  go_wp2_with fail
  go_ret
  exact ⟨rfl, B2.out.alloc B2.out.size _⟩
theorem cand_low (H : Fd w B F s L la) (k : Nat) (d : Int) (hk : k + 3 ≤ s.size) (hd : d < 1) :
    Calls Tryd.prog 32 #[.pointer (some ⟨F, 0, none⟩), .int .i64 k, .int .i64 d] w fun e w' => e = .returned (.slice none 0 0) ∧ Below w.heap.size w w' := by
  have HS := Lib.hid (start_yes H k hk)
  obtain ⟨x0, q0⟩ : ∃ x, byt s k = x := ⟨_, rfl⟩
  obtain ⟨x1, q1⟩ : ∃ x, byt s (k + 1) = x := ⟨_, rfl⟩
  obtain ⟨x2, q2⟩ : ∃ x, byt s (k + 2) = x := ⟨_, rfl⟩
  rw [q0, q1, q2] at HS
  clear H q0 q1 q2
  go_enter Tryd.func32, Tryd.ntmps32
  go_wp2_with fail
  refine HS.out.mono ?_; rintro e w2 ⟨rfl, b2⟩
  have B2 := Lib.hid b2
  clear b2
  unfold rkey
  go_wp2_with fail
  go_ret
  exact ⟨rfl, B2.out.alloc B2.out.size _⟩

/-- a slice of rising places, in a block of ints -/
def CandPost (s : ByteArray) (L : List Nat) (k : Nat) (d : Int) (W : World) (e : Ending) (w' : World) : Prop :=
  ∃ A c, e = .returned (.slice A (nr s L k d).length c) ∧ (0 < (nr s L k d).length → ∃ b o cur, A = some ⟨b, o, none⟩ ∧ w'.heap[b]? = some (.cells cur 3 (0, 0)) ∧ ∀ i, i < (nr s L k d).length → cur[o + i]? = some (.int .i64 (((nr s L k d).reverse.getD i 0 : Nat) : Int))) ∧ Below W.heap.size W w'
/-- the key's slice -/
theorem key_slice (H : Fd w B F s L la) (k : Nat) : ∃ (b : Nat) (A : Option Addr) (c : Nat), w.cell? ⟨F, 2, none⟩ = some (.map (some b)) ∧ b < w.heap.size ∧
    (∀ u : World, u.heap[b]? = w.heap[b]? → (Instr.lookup 61 (.map (some b)) (rkey (byt s k) (byt s (k + 1)) (byt s (k + 2))) false).run Tryd.prog u = .ok (.slice A (grp s L (byt s k) (byt s (k + 1)) (byt s (k + 2))).length c) u) ∧
    (grp s L (byt s k) (byt s (k + 1)) (byt s (k + 2))).length ≤ c ∧ c ≤ maxLen ∧ (0 < c → ∃ g cur, A = some ⟨g, 0, none⟩ ∧ w.heap[g]? = some (.cells cur 3 (0, 0)) ∧ g < w.heap.size ∧ ∀ i, i < (grp s L (byt s k) (byt s (k + 1)) (byt s (k + 2))).length → cur[i]? = some (.int .i64 (((grp s L (byt s k) (byt s (k + 1)) (byt s (k + 2))).getD i 0 : Nat) : Int))) := by
  obtain ⟨b, base, D, h1, h2, hd, h4, h5, h6, h7⟩ := H.own
  have hx0 := byt_lt s k
  have hx1 := byt_lt s (k + 1)
  have hx2 := byt_lt s (k + 2)
  have hc := H.count
  have hl := H.len
  obtain ⟨v, zs, hlook, hat, hown, hzl⟩ := groups_look h2 rowLaw Tryd.underlying61 zeroS (by unfold maxLen; omega) (rk_some hx0 hx1 hx2)
  have hz := hd.owned hx0 hx1 hx2 hat hown
  obtain ⟨es, clock, hbe, _⟩ := id h2
  have hblt : b < w.heap.size := (Array.getElem?_eq_some_iff.1 hbe).1
  have hlen : zs.length = (grp s L (byt s k) (byt s (k + 1)) (byt s (k + 2))).length := by rw [hz, ints_length]
  rcases hown.1.2 with ⟨rfl, h0⟩ | ⟨g, cap, cur, rfl, hg, hh, hnc, hcm, hcs, ht⟩
  · refine ⟨b, none, 0, h1, hblt, fun u hu => ?_, by omega, by unfold maxLen; omega, fun q => by omega⟩
    rw [hlook u hu, ← hlen, h0]
  · refine ⟨b, some ⟨g, 0, none⟩, cap, h1, hblt, fun u hu => ?_, by omega, hcm, fun _ => ⟨g, cur, rfl, hh, (Array.getElem?_eq_some_iff.1 hh).1, fun i hi => ?_⟩⟩
    · rw [hlook u hu, ← hlen]
    · have e1 : (cur.toList.take (zs.length * 1))[i]? = (zs.map (Value.int .i64))[i]? := by rw [ht]
      rw [List.getElem?_take, if_pos (by omega)] at e1
      rw [← Array.getElem?_toList, e1, hz]
      simp [ints, List.getD, List.getElem?_eq_getElem hi]
end
end Go.Proofs.YthemndeljjampaaDoor
