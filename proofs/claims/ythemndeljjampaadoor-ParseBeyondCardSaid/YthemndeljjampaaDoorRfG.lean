/- The document's Tokens of layer 10: no level, level 0. Rows of tokens that append makes. Conditions: as each theorem names them. -/
import Derived.Test.YthemndeljjampaaDoorRfF
namespace Go.Proofs.YthemndeljjampaaDoor.Q
open Go Go.RowKit M
set_option linter.unusedVariables false
set_option linter.unusedSimpArgs false

/-- the cells of tokens -/
def clq : List Tk → List Value
  | [] => []
  | t :: l => .int .u8 t.l :: .int .i64 t.n :: .int .i64 t.d :: clq l
theorem clq_length : ∀ l, (clq l).length = l.length * 3
  | [] => rfl
  | t :: l => by simp only [clq, List.length_cons]; rw [clq_length l]; omega
theorem clq_append : ∀ l r, clq (l ++ r) = clq l ++ clq r
  | [], _ => rfl
  | t :: l, r => by simp only [List.cons_append, clq]; rw [clq_append l r]
/-- v is a slice of tokens in a row of its own -/
def Owq (B : Nat) (w : World) (v : Value) (L : List Tk) : Prop := w.ownsRow B 38 3 v L.length (clq L)
section
variable {B : Nat} {w w' : World} {v : Value} {L : List Tk}
theorem Owq.nil (B : Nat) (w : World) : Owq B w (.slice none 0 0) [] := World.ownsRow_nil w B _ 3
theorem Owq.alloc (h : Owq B w v L) (o : Obj) : Owq B (w.alloc o) v L := World.ownsRow.alloc h o
theorem Owq.at (h : Owq B w v L) (e : ∀ g, v.ownBlock = some g → w'.heap[g]? = w.heap[g]?) : Owq B w' v L := ownsRow_at h e
theorem Owq.kept {S : Nat → Prop} (h : Owq B w v L) (hk : Kept S w w') (hS : ∀ g, B ≤ g → g < w.heap.size → v.ownBlock = some g → ¬ S g) : Owq B w' v L := ownsRow_at h fun g hg => hk.block g (World.ownsRow.lt h g hg).2 (hS g (World.ownsRow.lt h g hg).1 (World.ownsRow.lt h g hg).2 hg)
theorem Owq.lt (h : Owq B w v L) : ∀ g, v.ownBlock = some g → B ≤ g ∧ g < w.heap.size := World.ownsRow.lt h
end
theorem tokInfo : (Tryd.prog.info? 38).map (fun i => (i.zero, i.size, i.bytes)) = some (some (.agg #[.int .u8 0, .int .i64 0, .int .i64 0]), 3, 24) := by kernel_rfl
theorem wpList_tq {ops : Array Oper} {rest : List Oper} {o : Oper} {a : Act} {w : World} {Q : Exit → Act → World → Prop} (hgd : o.guard = none) (s x : Operand)
    (ho : o.op = .call { callee := .builtin .append, args := #[s, x], argTypes := #[24, 24] }) (B : Nat) (v : Value) (L : List Tk) (hs : a.eval s = v) (h : Owq B w v L) (b c : Nat) (l n d : Int)
    (hx : a.eval x = .slice (some ⟨b, 0, none⟩) 1 c) (hc : w.cell? ⟨b, 0, none⟩ = some (.int .u8 l) ∧ w.cell? ⟨b, 1, none⟩ = some (.int .i64 n) ∧ w.cell? ⟨b, 2, none⟩ = some (.int .i64 d)) (hL : L.length ≤ 3000000) (hB : B ≤ w.heap.size)
    (hK : ∀ v' w', Owq B w' v' (L ++ [⟨l, n, d⟩]) → w.grownBy w' v.ownBlock → Below B w w' → wpList Tryd.prog ops Q rest (a.put o.dst v') w') : wpList Tryd.prog ops Q (o :: rest) a w :=
  wpList_plain hgd fun K hK' => by
    obtain ⟨i, h1, h2, h3, h4⟩ := info_of tokInfo
    obtain ⟨v', w', r1, r2, r3, _⟩ := run_append_own (P := Tryd.prog) w B 24 o.type 38 i _ 3 24 Tryd.underlying24 h1 h2 h3 h4 rfl (by decide) v L.length (clq L) h ⟨b, 0, none⟩ 1 c (clq [⟨l, n, d⟩]) rfl
      (fun j u hu => by
        rw [cadd_at, Nat.zero_add]
        match j, hu with
        | 0, hu => simp [clq] at hu; subst hu; exact hc.1
        | 1, hu => simp [clq] at hu; subst hu; exact hc.2.1
        | 2, hu => simp [clq] at hu; subst hu; exact hc.2.2
        | j + 3, hu => simp [clq] at hu) (by intro u hu; simp [clq] at hu; rcases hu with rfl | rfl | rfl <;> rfl) (by unfold maxLen; omega) (by omega) hB
    unfold Oper.wp execOp
    simp only [ho, resolve, invoke, builtin, Sem.run_bind, Sem.run_pure, Result.andThen_ok, List.map_toArray, List.map_cons, List.map_nil, hs, hx, r1]
    refine hK' _ _ (hK v' w' ?_ r3 ((Below.refl _ w).grown r3 hB (fun k hk => (World.ownsRow.lt h k hk).1)))
    unfold Owq
    rw [List.length_append, clq_append]; exact r2
/-- what a call that makes a list of tokens answers -/
def TkP (W : World) (L : List Tk) (e : Ending) (w' : World) : Prop := ∃ v, e = .returned (.tuple #[v, .int .i64 0]) ∧ Owq W.heap.size w' v L ∧ Below W.heap.size W w'
def lits (s : ByteArray) (j : Nat) : List Tk := (List.range j).map (lit s)
theorem lits_succ (s : ByteArray) (j : Nat) : lits s (j + 1) = lits s j ++ [lit s j] := by simp [lits, List.range_succ]
theorem lits_length (s : ByteArray) (j : Nat) : (lits s j).length = j := by simp [lits]

set_option maxRecDepth 1000000 in
set_option maxHeartbeats 2000000 in
theorem rtokens_no (dict text : ByteArray) (x : Int) (W : World) (hx : x < 0 ∨ 9 < x) :
    Calls Tryd.prog 10 #[.string dict, .string text, .int .i64 x] W fun e w' => e = .returned (.tuple #[.slice none 0 0, .int .i64 2]) ∧ Below W.heap.size W w' := by
  have HL := Lib.hid (fun w => rlevel_no x w hx)
  clear hx
  go_enter Tryd.func10, Tryd.ntmps10
  go_wp2_with (go_at_call 12; (with_reducible refine (HL.out _).mono ?_); rintro e w1 ⟨rfl, b1⟩; have B1 := Lib.hid b1; clear b1)
  go_ret2
  exact ⟨rfl, B1.out.alloc B1.out.size _⟩

set_option maxRecDepth 1000000 in
set_option maxHeartbeats 2000000 in
theorem rtokens_zero (dict text : ByteArray) (W : World) (ht : text.size ≤ 1000000) :
    Calls Tryd.prog 10 #[.string dict, .string text, .int .i64 0] W (TkP W (lits text text.size)) := by
  have HL := Lib.hid (fun w => rlevel_any 0 w (by omega))
  have dT : decide (1048576 < (text.size : Int)) = false := decide_eq_false (by omega)
  have dT' : decide (1048576 < text.size) = false := decide_eq_false (by omega)
  go_enter Tryd.func10, Tryd.ntmps10
  go_wp2_with (go_at_call 12; (refine (HL.out _).mono ?_); rintro e w1 ⟨rfl, b1⟩; have B1 := Lib.hid b1; clear b1)
  have HB0 := Lib.hid (show Below W.heap.size W (w1.alloc (.cells #[.int .i64 (lv 0).d, .int .i64 (lv 0).n, .int .i64 (lv 0).z] 31)) from B1.out.alloc B1.out.size _)
  clear dT dT'
  go_loopw [10, 11] (fun v i wr => ∃ j : Nat, j ≤ text.size ∧ i = .int .i64 j ∧ Owq W.heap.size wr v (lits text j) ∧ Below W.heap.size W wr) (fun _ i _ => text.size - (intOf i).toNat)
  case atStart => exact ⟨0, Nat.zero_le _, rfl, Owq.nil _ _, HB0.out⟩
  case round =>
    obtain ⟨j, hj, rfl, hO, hb⟩ := hrel
    have HO := Lib.hid hO
    have HB := Lib.hid hb
    clear hO hb
    by_cases hlt : j < text.size
    · have d1 : decide ((j : Int) < (text.size : Int)) = true := decide_eq_true (by omega)
      have d1' : decide (j < text.size) = true := decide_eq_true hlt
      have hbt := Lib.hid (byt_eq hlt)
      go_wp2_with (at_builtin; refine wpList_tq rfl (.tmp 35) (.tmp 40) rfl W.heap.size _ (lits text j) rfl (HO.out.alloc _) wr.heap.size 1 ((text[j]'hlt).toNat : Int) 0 0 rfl ⟨by simp, by simp, by simp⟩ (by rw [lits_length]; omega) (by have := HB.out.size; simp; omega) ?_; intro v' w' o' g' b'; have HO2 := Lib.hid o'; have HB2 := Lib.hid ((HB.out.alloc HB.out.size _).trans b'); clear o' b' g')
      go_roundw
      case rel => exact ⟨j + 1, by omega, by go_num, by rw [lits_succ]; have := HO2.out; rw [hbt.out] at this; exact this, HB2.out⟩
      case measure => (simp [intOf]; try omega)
    · have d1 : decide ((j : Int) < (text.size : Int)) = false := decide_eq_false (by omega)
      have d1' : decide (j < text.size) = false := decide_eq_false hlt
      have hjn : j = text.size := by omega
      have HJ := Lib.hid hjn
      clear hjn
      go_wp2_with fail
      go_ret2
      exact ⟨_, rfl, by rw [← HJ.out]; exact HO.out, HB.out⟩
end Go.Proofs.YthemndeljjampaaDoor.Q
