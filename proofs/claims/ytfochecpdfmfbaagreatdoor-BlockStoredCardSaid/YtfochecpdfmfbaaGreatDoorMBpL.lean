/- Texts of one place, one behind the other: BpL, BpM. -/
import Derived.Test.YtfochecpdfmfbaaGreatDoorBpB
import Derived.Test.YtfochecpdfmfbaaGreatDoorSaD
import Derived.Test.YtfochecpdfmfbaaGreatDoorMBlA
/- Stored blocks' pieces (layer 13): what the program's iterator hands over, and how many bits they take. Conditions: as each theorem names them. -/
namespace Go.Proofs.YtfochecpdfmfbaaGreatDoor.V
open Go Go.RowKit M U
set_option linter.unusedVariables false
set_option maxRecDepth 1000000
set_option linter.unusedSimpArgs false
attribute [local go_sem] Oper.semAt_some

/-- a piece, and whether it is the last one -/
abbrev Pz := { x : ByteArray × Bool // x.1.size ≤ 65535 }
def encZ (x : Pz) : Array Value := #[.string x.1.1, .bool x.1.2]
def pcs (s : ByteArray) : List Pz :=
  if h : s.size ≤ 65535 then [⟨(s, true), h⟩] else ⟨(s.extract 0 65535, false), by simp only [ByteArray.size_extract]; omega⟩ :: pcs (s.extract 65535 s.size)
termination_by s.size
decreasing_by
  rw [ByteArray.size_extract]
  omega
theorem pcs_one {s : ByteArray} (h : s.size ≤ 65535) : pcs s = [⟨(s, true), h⟩] := by rw [pcs, dif_pos h]
theorem pcs_more {s : ByteArray} (h : ¬ s.size ≤ 65535) : pcs s = ⟨(s.extract 0 65535, false), by simp only [ByteArray.size_extract]; omega⟩ :: pcs (s.extract 65535 s.size) := by rw [pcs, dif_neg h]
theorem pcs_len (s : ByteArray) : (pcs s).length ≤ s.size / 65535 + 1 := by
  generalize hn : s.size = n
  induction n using Nat.strongRecOn generalizing s with
  | _ n ih =>
    by_cases h : s.size ≤ 65535
    · rw [pcs_one h]; simp
    · rw [pcs_more h, List.length_cons]
      have := ih (n - 65535) (by omega) (s.extract 65535 s.size) (by rw [ByteArray.size_extract]; omega)
      omega
/-- the bits of pieces, behind o bits -/
def stp (last : Bool) : Nat → List Pz → List Nat
  | _, [] => []
  | o, x :: l => stb o x.1.1 (last && x.1.2) ++ stp last (o + (stb o x.1.1 (last && x.1.2)).length) l
theorem stp_snoc (last : Bool) (x : Pz) : ∀ (l : List Pz) (o : Nat), stp last o (l ++ [x]) = stp last o l ++ stb (o + (stp last o l).length) x.1.1 (last && x.1.2)
  | [], o => by simp [stp]
  | y :: l, o => by
    simp only [List.cons_append, stp, stp_snoc last x l]
    rw [List.append_assoc, List.length_append, Nat.add_assoc]
theorem stp_pcs (last : Bool) (s : ByteArray) (o : Nat) : stp last o (pcs s) = stm o s last := by
  generalize hn : s.size = n
  induction n using Nat.strongRecOn generalizing s o with
  | _ n ih =>
    by_cases h : s.size ≤ 65535
    · rw [pcs_one h, stm_one h]; simp [stp]
    · rw [pcs_more h, stm_more h]
      simp only [stp, Bool.and_false]
      rw [ih (n - 65535) (by omega) (s.extract 65535 s.size) _ (by rw [ByteArray.size_extract]; omega)]
theorem stp_le (last : Bool) : ∀ (l : List Pz) (o : Nat), (stp last o l).length ≤ 524322 * l.length
  | [], o => by simp [stp]
  | x :: l, o => by
    have := stp_le last l (o + (stb o x.1.1 (last && x.1.2)).length)
    have h := x.2
    have hp : pd (o + 3) ≤ 7 := by unfold pd; omega
    simp only [stp, List.length_append, List.length_cons]
    rw [stb_length] at *
    omega

set_option maxHeartbeats 4000000 in
theorem pieces1_in (m l Bs : Nat) (s : ByteArray) (hm : 1 ≤ m) (hs : s.size ≤ 1000000) (Kp : World → World → Prop) (W0 : World) (J Jx : List Pz → World → Prop)
    (hY : ∀ pre x W, J pre W → pre.length < (pcs s).length → YieldAt Fence.wide (m - 1) Tryz.prog l (encZ x) W fun e W' =>
      (e = .returned (.bool true) ∧ J (pre ++ [x]) W' ∧ Kp W W') ∨ (e = .returned (.bool false) ∧ Jx (pre ++ [x]) W'))
    (hBs : W0.cell? ⟨Bs, 0, none⟩ = some (.string s)) (h0 : J [] W0) :
    CallsIn Fence.wide m Tryz.prog 71 #[.func (.yield l) #[] #[], .pointer (some ⟨Bs, 0, none⟩)] W0 fun e W' => (∃ v, e = .returned v) ∧
      ((∃ ys : List Pz, ys = pcs s ∧ J ys W') ∨ (∃ pre : List Pz, (∃ r, pre ++ r = pcs s) ∧ Jx pre W')) := by
  refine callsIn_of_wp Tryz.func71 rfl trivial ?_ rfl
  simp only [Tryz.ntmps71, List.size_toArray, List.length_cons, List.length_nil, Nat.reduceAdd, Nat.reduceSub, Array.replicate_succ, Array.replicate_zero, List.push_toArray, List.append_toArray, List.nil_append, List.cons_append]
  have HY := Lib.hid hY
  clear hY
  gi_wp2
  gi_loopw [3] (fun v wr => ∃ (t : ByteArray) (pre : List Pz), v = .string t ∧ t.size ≤ 1000000 ∧ pre ++ pcs t = pcs s ∧ J pre wr)
    (fun v _ => match v with | .string t => t.size | _ => 0)
  case atStart => exact ⟨s, [], rfl, hs, rfl, h0⟩
  case round =>
    obtain ⟨t, pre, rfl, ht, hp, hJs⟩ := hrel
    by_cases hlt : t.size ≤ 65535
    · have d1 : decide ((65535 : Int) < (t.size : Int)) = false := decide_eq_false (by omega)
      have d1' : decide (65535 < t.size) = false := decide_eq_false (by omega)
      rw [pcs_one hlt] at hp
      obtain ⟨fn, tmps, asg, body, hy, hR⟩ := HY.out pre ⟨(t, true), hlt⟩ wr hJs (by rw [← hp]; simp)
      unfold encZ at hy
      dsimp only at hy
      have HP := Lib.hid hp
      clear hp hJs h0
      gi_wp2
      refine hR.mono ?_
      rintro e W3 (⟨rfl, hJ3, hk3⟩ | ⟨rfl, hJx3⟩)
      · gi_wp2
        go_end0
        exact ⟨⟨_, rfl⟩, .inl ⟨_, HP.out, hJ3⟩⟩
      · gi_wp2
        go_end0
        exact ⟨⟨_, rfl⟩, .inr ⟨_, ⟨[], by rw [List.append_nil]; exact HP.out⟩, hJx3⟩⟩
    · have d1 : decide ((65535 : Int) < (t.size : Int)) = true := decide_eq_true (by omega)
      have d1' : decide (65535 < t.size) = true := decide_eq_true (by omega)
      have hts : 65535 ≤ t.size := by omega
      rw [pcs_more hlt] at hp
      obtain ⟨fn, tmps, asg, body, hy, hR⟩ := HY.out pre ⟨(t.extract 0 65535, false), by simp only [ByteArray.size_extract]; omega⟩ wr hJs (by rw [← hp]; simp)
      unfold encZ at hy
      dsimp only at hy
      have HP := Lib.hid hp
      clear hp hJs h0
      gi_wp2
      refine hR.mono ?_
      rintro e W3 (⟨rfl, hJ3, hk3⟩ | ⟨rfl, hJx3⟩)
      · gi_wp2
        go_roundw
        case rel => exact ⟨t.extract 65535 t.size, _, rfl, by rw [ByteArray.size_extract]; omega, by rw [List.append_assoc]; exact HP.out, hJ3⟩
        case measure => (simp; try omega)
      · gi_wp2
        refine bodyPost_ret (results_none rfl _ _ _) rfl ?_
        exact ⟨⟨_, rfl⟩, .inr ⟨_, ⟨_, by rw [List.append_assoc]; exact HP.out⟩, hJx3⟩⟩

theorem pieces_any (s : ByteArray) (w : World) : Calls Tryz.prog 48 #[.string s] w fun e w' =>
    e = .returned (.func (.func 71) #[] #[.pointer (some ⟨w.heap.size, 0, none⟩)]) ∧ w' = w.alloc (.cells #[.string s] 9) := by
  go_enter Tryz.func48, Tryz.ntmps48
  go_wp2
  go_ret
  exact ⟨by simp, rfl⟩
theorem pieces_stops (m Bs : Nat) (s : ByteArray) (hm : 1 ≤ m) (hs : s.size ≤ 1000000) (Kp : World → World → Prop) (w : World) (hBs : w.cell? ⟨Bs, 0, none⟩ = some (.string s)) :
    SeqStopsK Fence.wide m Tryz.prog 71 #[.pointer (some ⟨Bs, 0, none⟩)] encZ Kp (fun ys => ys = pcs s) (fun pre => ∃ r, pre ++ r = pcs s) (pcs s).length w := fun l J Jx W hW hJ _ hY h0 =>
  pieces1_in m l Bs s hm hs Kp W J Jx hY ((hW.cell (p := ⟨Bs, 0, none⟩) (World.block_lt_of_cell? _ _ hBs)).trans hBs) h0
end Go.Proofs.YtfochecpdfmfbaaGreatDoor.V

/- How many bits stored blocks take (layer 13): what the program's sizeStored answers. Conditions: as each theorem names them. -/
namespace Go.Proofs.YtfochecpdfmfbaaGreatDoor.V
open Go Go.RowKit M U
set_option linter.unusedVariables false
set_option maxRecDepth 1000000
set_option linter.unusedSimpArgs false
attribute [local go_sem] Oper.semAt_some

/-- what sizeStored holds between two rounds -/
def MidZ (w2 : World) (E n₁ o : Nat) (pre : List Pz) (W : World) : Prop :=
  W.heap[E]? = some (.cells #[.int .i64 ((o + (stp false o pre).length : Nat) : Int)] 3 (0, 0)) ∧ Kept (Sx E E n₁) w2 W
theorem MidZ.own {w2 : World} {E n₁ o : Nat} (h0 : E < n₁) : OwnFrom n₁ (MidZ w2 E n₁ o) := fun pre W W' row hs hg hr => by
  obtain ⟨h1, h2⟩ := hs
  exact ⟨(hg.block E (Array.getElem?_eq_some_iff.1 h1).1 (fun e => by have := (hr E e.symm).1; omega)).trans h1, h2.grown hg (fun r e => .inl (.inr (.inr (hr r e).1)))⟩

set_option maxHeartbeats 4000000 in
theorem sizeStored_any (s : ByteArray) (p : Nat) (w : World) (hs : s.size ≤ 1000000) (hp : p ≤ 1000000) :
    Calls Tryz.prog 26 #[.string s, .int .i64 p] w fun e w' => e = .returned (.int .i64 ((stm (p % 8) s false).length : Nat)) ∧ Below w.heap.size w w' := by
  obtain ⟨o, ho⟩ : ∃ o, p % 8 = o := ⟨_, rfl⟩
  have ho8 : o ≤ 7 := by omega
  have m1 : (p : Int) % 8 = (o : Int) := by omega
  have m2 : (p : Int).tmod 8 = (o : Int) := by rw [Int.tmod_eq_emod_of_nonneg (by omega)]; omega
  have HN := Lib.hid (show (pcs s).length ≤ 17 from by have := pcs_len s; omega)
  have HPc := Lib.hid (show stp false o (pcs s) = stm o s false from stp_pcs false s o)
  rw [ho]
  clear ho
  refine (callsIn_wide (n := 5)).1 ?_
  refine callsIn_of_wp_marks Tryz.func26 rfl trivial ?_ rfl
  simp only [Tryz.ntmps26, List.size_toArray, List.length_cons, List.length_nil, Nat.reduceAdd, Nat.reduceSub, Array.replicate_succ, Array.replicate_zero, List.push_toArray, List.append_toArray, List.nil_append, List.cons_append]
  gi_wp2_with (refine ⟨trivial, ?_⟩; gi_at_call 48; refine (callsIn_wide.2 (pieces_any _ _)).mono ?_; rintro e w' ⟨rfl, rfl⟩)
  have hz2 : ((w.alloc (.cells #[.int .i64 o] 3)).alloc (.cells #[.string s] 9)).heap.size = w.heap.size + 1 + 1 := by simp
  have hb2 : Below w.heap.size w ((w.alloc (.cells #[.int .i64 o] 3)).alloc (.cells #[.string s] 9)) := ((Below.refl _ w).alloc (Nat.le_refl _) _).alloc (by simp) _
  have g0 : ((w.alloc (.cells #[.int .i64 o] 3)).alloc (.cells #[.string s] 9)).heap[w.heap.size]? = some (.cells #[.int .i64 o] 3 (0, 0)) := old_at _ (new_at _ _)
  have g1 : ((w.alloc (.cells #[.int .i64 o] 3)).alloc (.cells #[.string s] 9)).heap[w.heap.size + 1]? = some (.cells #[.string s] 9 (0, 0)) := by
    have := new_at (w.alloc (.cells #[.int .i64 o] 3)) (.cells #[.string s] 9)
    rw [World.size_alloc] at this; exact this
  obtain ⟨w2, hw2⟩ : ∃ w2, (w.alloc (.cells #[.int .i64 o] 3)).alloc (.cells #[.string s] 9) = w2 := ⟨_, rfl⟩
  rw [hw2] at hz2 hb2 g0 g1 ⊢
  clear hw2
  have HB2 := Lib.hid hb2
  have hEw : w.heap.size < w2.heap.size := by omega
  have HFd := Lib.hid (show ∀ W, Kept (Sx w.heap.size w.heap.size w2.heap.size) w2 W → Below w.heap.size w W from fun W hk =>
    HB2.out.trans (hk.below (by omega) (fun j hj => by rcases hj with hj | hj | hj <;> omega)))
  clear hb2 hz2 m1 m2
  refine wpIn_rangeFunc_ownF rfl (by omega) (gf := 71) (lb := #[.pointer (some ⟨w.heap.size + 1, 0, none⟩)]) rfl trivial (enters_of Tryz.func71 (by kernel_rfl) rfl)
    (pieces_stops 4 (w.heap.size + 1) s (by omega) hs (Kept (Sx w.heap.size w.heap.size w2.heap.size)) w2 (one_cell g1))
    (fun h k => keptSx_t h k) (fun W l o o' hl h _ _ => keptSx_b W l o o' hl h) (Below.refl _ _) (fun _ => rfl)
    (MidZ w2 w.heap.size w2.heap.size o) (fun _ _ _ => False) (MidZ.own hEw) (fun _ _ _ _ _ hs _ _ => hs)
    ⟨by simpa [stp] using g0, Kept.refl _ _⟩
    (fun x => { tmps := #[.string s, .int .i64 p, undef, undef, .int .i64 0, .int .i64 o, .pointer (some ⟨w.heap.size, 0, none⟩), .string x.1.1, .int .i64 p, .int .i64 o, .int .i64 o, .string s, .func (.func 71) #[] #[.pointer (some ⟨w.heap.size + 1, 0, none⟩)], .string x.1.1, .bool x.1.2, undef, undef, undef, undef, undef, undef, undef, undef, undef, undef, undef, undef, undef, undef, undef, undef, undef], defers := [] })
    ?assign ?body ?done ?stop
  case assign =>
    intro l x W K hK
    unfold encZ
    gi_wp2
    exact hK
  case body =>
    rintro l pre x W ⟨hm1, hm2⟩ hlt
    obtain ⟨⟨t, lb⟩, ht⟩ := x
    have hsn := stp_snoc false ⟨(t, lb), ht⟩ pre o
    have hle := stp_le false pre o
    have hN := HN.out
    simp only at ht
    have hlen : (stp false o (pre ++ [⟨(t, lb), ht⟩])).length = (stp false o pre).length + (3 + pd (o + (stp false o pre).length + 3) + 32 + t.size * 8) := by
      rw [hsn, List.length_append, stb_length]
    obtain ⟨e, he⟩ : ∃ e, o + (stp false o pre).length = e := ⟨_, rfl⟩
    have hMid : ∀ W', W'.heap[w.heap.size]? = some (.cells #[.int .i64 ((e + 3 + pd (e + 3) + (32 + 8 * t.size) : Nat) : Int)] 3 (0, 0)) → Kept (Sx w.heap.size w.heap.size w2.heap.size) w2 W' → MidZ w2 w.heap.size w2.heap.size o (pre ++ [⟨(t, lb), ht⟩]) W' := fun W' h1 h2 => ⟨by
      rw [hlen]
      rw [he]
      rw [show o + ((stp false o pre).length + (3 + pd (e + 3) + 32 + t.size * 8)) = e + 3 + pd (e + 3) + (32 + 8 * t.size) by omega]
      exact h1, h2⟩
    have HMid := Lib.hid hMid
    rw [he] at hm1
    have he2 : e ≤ 10000000 := by omega
    have s0 := one_cell hm1
    have f0 := one_free hm1
    have H1 := Lib.hid hm1
    have H2 := Lib.hid hm2
    obtain ⟨q, hq⟩ : ∃ q, pd (e + 3) = q := ⟨_, rfl⟩
    have hq7 : q ≤ 7 := by rw [← hq]; unfold pd; omega
    obtain ⟨r, hr⟩ : ∃ r, (e + 3) % 8 = r := ⟨_, rfl⟩
    have r1 : ((e : Int) + 3) % 8 = (r : Int) := by omega
    have r2 : ((e : Int) + 3).tmod 8 = (r : Int) := by rw [Int.tmod_eq_emod_of_nonneg (by omega)]; omega
    have r3 : ((8 : Int) - (r : Int)) % 8 = (q : Int) := by rw [← hq]; unfold pd; omega
    have r4 : ((8 : Int) - (r : Int)).tmod 8 = (q : Int) := by rw [Int.tmod_eq_emod_of_nonneg (by omega)]; rw [← hq]; unfold pd; omega
    have hr7 : r ≤ 7 := by omega
    rw [hq] at HMid
    dsimp only
    clear hm1 hm2 hsn hle hlen hMid he hq hr hN g0 g1 hlt
    gi_wp2
    exact ⟨((KeepsOthers.setCell _ _ _).trans (KeepsOthers.setCell _ _ _)).trans (KeepsOthers.setCell _ _ _), (((Kept.refl _ W).setCell ⟨w.heap.size, 0, none⟩ (.inl (.inl rfl)) _).setCell ⟨w.heap.size, 0, none⟩ (.inl (.inl rfl)) _).setCell ⟨w.heap.size, 0, none⟩ (.inl (.inl rfl)) _, HMid.out _ (one_set (one_set (one_set H1.out _) _) _) (((H2.out.setCell ⟨w.heap.size, 0, none⟩ (.inl (.inl rfl)) _).setCell ⟨w.heap.size, 0, none⟩ (.inl (.inl rfl)) _).setCell ⟨w.heap.size, 0, none⟩ (.inl (.inl rfl)) _)⟩
  case done =>
    rintro D ys W hD rfl ⟨hm1, hm2⟩ hK
    rw [HPc.out] at hm1
    have s0 := one_cell hm1
    have HKd := Lib.hid hK
    have HB := Lib.hid (HFd.out W hm2)
    have hle := stp_le false (pcs s) o
    rw [HPc.out] at hle
    have hN := HN.out
    obtain ⟨Z, hZ⟩ : ∃ Z, (stm o s false).length = Z := ⟨_, rfl⟩
    rw [hZ] at s0 hle
    have hZ2 : Z ≤ 10000000 := by omega
    have HZe := Lib.hid hZ
    clear hm1 hm2 hK hZ hle hN g0 g1
    gi_wp2
    have hK' := HKd.out
    refine ⟨by simp, .inl ⟨_, _, rfl, run_takeDeferred hK', ?_⟩⟩
    exact ⟨_, results_tmp rfl _ _ _, by rw [HZe.out, show (o : Int) + (Z : Int) - (o : Int) = (Z : Int) by omega]; rfl, HB.out.trans (belowK_b (w := w) (Nat.le_refl _) _ D _ _ (by omega) hK' rfl rfl)⟩
  case stop =>
    rintro D c pre W _ _ h _
    exact h.elim
end Go.Proofs.YtfochecpdfmfbaaGreatDoor.V
