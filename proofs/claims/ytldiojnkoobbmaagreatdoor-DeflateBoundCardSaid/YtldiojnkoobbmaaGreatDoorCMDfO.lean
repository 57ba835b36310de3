/- Texts of one place, one behind the other: DfO, DfT, DfJ, DfI, DfP. -/
import Derived.Test.YtldiojnkoobbmaaGreatDoorCDfK
import Derived.Test.YtldiojnkoobbmaaGreatDoorCMDfA
import Derived.Test.YtldiojnkoobbmaaGreatDoorCMSpK
import Derived.Test.YtldiojnkoobbmaaGreatDoorCSpS
import Derived.Test.YtldiojnkoobbmaaGreatDoorCDfD
import Derived.Test.YtldiojnkoobbmaaGreatDoorCRfP
import Derived.Shelf.Abstract
import Derived.OwnWalkIn
import Derived.LoopNIn
import Derived.LoopIn
import Derived.Laws.EntriesVeiled
import Derived.Test.YtldiojnkoobbmaaGreatDoorCMSpG
import Derived.TacticsInMore
import Derived.BigRegionIn
namespace Go.Proofs.YtldiojnkoobbmaaGreatDoor.V
open Go Go.RowKit M U
set_option linter.unusedVariables false
set_option linter.unusedSimpArgs false
def ztot : List Pv → Nat
  | [] => 0
  | q :: r => q.z + ztot r
theorem ztot_append : ∀ l r : List Pv, ztot (l ++ r) = ztot l + ztot r
  | [], r => by simp [ztot]
  | q :: l, r => by simp only [List.cons_append, ztot, ztot_append l r]; omega
def pbk (A : Option Addr) (c : Nat) (L : List Tk) (s : ByteArray) : List Pv → Nat → List Bk
  | [], _ => []
  | q :: r, o => ⟨q.k, if c = q.f then A else Option.map (fun x => x.add (q.f * 3)) A, q.t - q.f, c - q.f, seg L q.f q.t, s.extract o (o + q.z), r.isEmpty⟩ :: pbk A c L s r (o + q.z)
theorem pbk_mem {A : Option Addr} {c : Nat} {L : List Tk} {s : ByteArray} {x : Bk} : ∀ {l : List Pv} {o : Nat}, x ∈ pbk A c L s l o → ∃ q ∈ l, x.k = q.k ∧ x.A = (if c = q.f then A else Option.map (fun x => x.add (q.f * 3)) A) ∧ x.n = q.t - q.f ∧ x.L = seg L q.f q.t ∧ x.raw.size ≤ s.size
  | [], _, h => absurd h (by simp [pbk])
  | q :: r, o, h => by
    simp only [pbk, List.mem_cons] at h
    rcases h with rfl | h
    · exact ⟨q, by simp, rfl, rfl, rfl, rfl, by show (s.extract o (o + q.z)).size ≤ s.size; rw [ByteArray.size_extract]; omega⟩
    · obtain ⟨q', h1, h2⟩ := pbk_mem h
      exact ⟨q', List.mem_cons_of_mem _ h1, h2⟩
theorem pbk_prs {A : Option Addr} {c : Nat} {L : List Tk} {s : ByteArray} : ∀ {P : List (Nat × Nat)} {a b : Nat} (O : Nat), Chn a P b → bkb (pbk A c L s (pvs L s P) (szt L a)) O = prs L s P O
  | [], _, _, _, _ => rfl
  | (x, y) :: r, a, b, O, h => by
    obtain ⟨h1, h2, h3⟩ := h
    simp only at h1 h2 h3
    subst h1
    have hz := szt_mono L h2
    have e : szt L x + (szt L y - szt L x) = szt L y := by omega
    show bkb (pbk A c L s (pvo L s (x, y) :: pvs L s r) (szt L x)) O = blq L s (x, y) r.isEmpty O ++ prs L s r (O + (blq L s (x, y) r.isEmpty O).length)
    simp only [pbk, bkb]
    have e2 : bkm (pvo L s (x, y)).k (seg L (pvo L s (x, y)).f (pvo L s (x, y)).t) (s.extract (szt L x) (szt L x + (pvo L s (x, y)).z)) (pvs L s r).isEmpty O = blq L s (x, y) r.isEmpty O := by
      have e3 : (pvs L s r).isEmpty = r.isEmpty := by cases r <;> rfl
      rw [e3]
      unfold blq
      show bkm _ (seg L x y) (s.extract (szt L x) (szt L x + (szt L y - szt L x))) _ _ = _
      rw [e]
      rfl
    rw [e2, show szt L x + (pvo L s (x, y)).z = szt L y from e, pbk_prs _ h3]
def Pok (n : Nat) (s : ByteArray) (l : List Pv) : Prop := ∀ dn q td, l = dn ++ q :: td → q.f ≤ q.t ∧ q.t ≤ n ∧ ztot dn + q.z ≤ s.size ∧ q.k ≤ 2
theorem pvs_tot {L : List Tk} {s : ByteArray} : ∀ {P : List (Nat × Nat)} {a b : Nat}, Chn a P b → szt L a + ztot (pvs L s P) = szt L b
  | [], _, _, h => by cases h; rfl
  | q :: r, a, b, h => by
    obtain ⟨h1, h2, h3⟩ := h
    have ih := pvs_tot (L := L) (s := s) h3
    have hz := szt_mono L h2
    show szt L a + ((szt L q.2 - szt L q.1) + ztot (pvs L s r)) = szt L b
    rw [h1]
    omega
theorem pok_pvs {L : List Tk} {s : ByteArray} {P : List (Nat × Nat)} (h : Chn 0 P L.length) (hz : Tx.szs L = s.size) : Pok L.length s (pvs L s P) := by
  intro dn q td e
  have ht := pvs_tot (L := L) (s := s) h
  rw [szt_zero, szt_all (Nat.le_refl _), hz, e, ztot_append] at ht
  have hq : q ∈ pvs L s P := by rw [e]; simp
  obtain ⟨p, hp, rfl⟩ := List.mem_map.1 hq
  obtain ⟨h1, h2⟩ := h.mem hp
  have : ztot (pvo L s p :: td) = (pvo L s p).z + ztot td := rfl
  exact ⟨h1, h2, by omega, kd_kind _ _⟩
theorem pbk_append {A : Option Addr} {c : Nat} {L : List Tk} {s : ByteArray} {pre : List Bk} {l : List Pv} {q : Pv} {o : Nat} {BL : List Bk} (h : pre ++ pbk A c L s (q :: l) o = BL) :
    (pre ++ [⟨q.k, if c = q.f then A else Option.map (fun x => x.add (q.f * 3)) A, q.t - q.f, c - q.f, seg L q.f q.t, s.extract o (o + q.z), l.isEmpty⟩]) ++ pbk A c L s l (o + q.z) = BL := by
  rw [List.append_assoc]
  exact h
theorem bkb_pre_le {BL pre r : List Bk} {N : Nat} (h : BL = pre ++ r) (hN : (bkb BL 0).length ≤ N) : (bkb pre 0).length ≤ N := by
  have : (bkb pre 0).length ≤ (bkb (pre ++ r) 0).length := by
    clear hN h
    suffices h : ∀ (l r : List Bk) (o : Nat), (bkb l o).length ≤ (bkb (l ++ r) o).length from h pre r 0
    intro l
    induction l with
    | nil => intro r o; simp [bkb]
    | cons x l ih =>
      intro r o
      simp only [List.cons_append, bkb, List.length_append]
      have := ih r (o + (bkm x.k x.L x.raw x.last o).length)
      omega
  rw [← h] at this
  omega
end Go.Proofs.YtldiojnkoobbmaaGreatDoor.V

namespace Go.Proofs.YtldiojnkoobbmaaGreatDoor.V
open Go Go.RowKit M U
set_option linter.unusedVariables false
set_option linter.unusedSimpArgs false
set_option maxRecDepth 1000000
attribute [local go_sem] Oper.semAt_some
def AxB (n₁ : Nat) (f : Bk → Nat → Act) (x : Bk) (a' : Act) (W : World) : Prop :=
  ∃ Bx, n₁ ≤ Bx ∧ W.heap[Bx]? = some (.cells #[.int .u8 x.k, .slice x.A x.n x.c, .string x.raw, .bool x.last] 59 (0, 0)) ∧ a' = f x Bx
theorem AxB.own {n₁ : Nat} {f : Bk → Nat → Act} {x : Bk} {a' : Act} : OwnFrom n₁ (fun (_ : Unit) W => AxB n₁ f x a' W) := fun _ W W' row hs hg hr => by
  obtain ⟨Bx, h1, h2, h3⟩ := hs
  refine ⟨Bx, h1, (hg.block Bx (Array.getElem?_eq_some_iff.1 h2).1 (fun e => ?_)).trans h2, h3⟩
  obtain ⟨_, o, ho, hc⟩ := hr Bx e.symm
  rw [h2] at ho
  cases ho
  cases hc
theorem four_cells {W : World} {T : TypeId} {g : Nat} {a b c d : Value} (h : W.heap[g]? = some (.cells #[a, b, c, d] T (0, 0))) : W.cell? ⟨g, 0, none⟩ = some a ∧ W.cell? ⟨g, 1, none⟩ = some b ∧ W.cell? ⟨g, 2, none⟩ = some c ∧ W.cell? ⟨g, 3, none⟩ = some d := by simp [World.cell?, h]
def Fit (most : Int) (pre : List Bk) : Prop := ((((bkb pre 0).length + 7) / 8 : Nat) : Int) ≤ max 0 most
theorem bkb_more : ∀ (l r : List Bk) (o : Nat), (bkb l o).length ≤ (bkb (l ++ r) o).length
  | [], r, o => by simp [bkb]
  | x :: l, r, o => by
    simp only [List.cons_append, bkb, List.length_append]
    have := bkb_more l r (o + (bkm x.k x.L x.raw x.last o).length)
    omega
theorem fit_pre {most : Int} {l r : List Bk} (h : Fit most (l ++ r)) : Fit most l := by
  unfold Fit at h ⊢
  have := bkb_more l r 0
  omega
set_option maxHeartbeats 2000000 in
theorem stream_any (n gf : Nat) (lb : Array Value) (most : Int) (BL : List Bk) (w : World) (hn : 2 ≤ n) (hT : Tabs w) (eg : ∀ args w, (callFunc gf args).run Tryz.prog w = .ok (.enter gf args) w)
    (hseq : SeqP n Tryz.prog gf lb encB (fun xs => xs = BL) (fun _ => True) (fun pre => ∃ r, BL = pre ++ r) w)
    (hB : ∀ x ∈ BL, IsTks w x.A x.n x.L ∧ x.n ≤ 100000 ∧ x.raw.size ≤ 200000 ∧ x.k ≤ 2 ∧ (x.k ≠ 0 → ∀ t ∈ x.L, may t = true))
    (hlen : ∀ pre r, BL = pre ++ r → (bkb pre 0).length ≤ 50000000) :
    CallsIn Fence.wide n Tryz.prog 12 #[.func (.func gf) #[] lb, .int .i64 most] w fun e w' =>
      (Fit most BL → e = .returned (.tuple #[.string (textR (nb (bkb BL 0)) (bkb BL 0).length), .int .i64 0]) ∧ Below w.heap.size w w') ∧
      (¬ Fit most BL → e = .returned (.tuple #[.string ⟨#[]⟩, .int .i64 4]) ∧ Below w.heap.size w w') := by
  have hmf : ∀ (fn : Fn) (first cap : Array Value) (w : World), (Instr.makeFunc fn first cap).run Tryz.prog w = .ok (.func fn first cap) w := fun _ _ _ _ => rfl
  have eg2 : ∀ (args : Array Value) (w : World), (callFunc 21 args).run Tryz.prog w = .ok (.enter 21 args) w := enters_of Tryz.func21 (by kernel_rfl) rfl
  have HEg := Lib.hid eg2
  clear eg2
  have HNew := Lib.hid (fun (W' : World) => new_any (B := W'.heap.size) most W' (Nat.le_refl _))
  refine callsIn_of_wpV Tryz.func12 rfl ?_
  simp only [Tryz.ntmps12, List.size_toArray, List.length_cons, List.length_nil, Nat.reduceAdd, Nat.reduceSub, Array.replicate_succ, Array.replicate_zero, List.push_toArray, List.append_toArray, List.nil_append, List.cons_append]
  apply wpV_seq
  refine wpV_of (n := n) ?_
  gi_wp2
  apply wpV_seq
  refine wpV_of (n := n) ?_
  gi_wp2
  apply wpV_seq
  refine wpV_of (n := n) ?_
  have bw1 : Below w.heap.size w (w.alloc (.cells #[.int .i64 0] 24)) := (Below.refl _ w).alloc (Nat.le_refl _) _
  have hE1 : (w.alloc (.cells #[.int .i64 0] 24)).heap[w.heap.size]? = some (.cells #[.int .i64 0] 24 (0, 0)) := new_at _ _
  have hsz : (w.alloc (.cells #[.int .i64 0] 24)).heap.size = w.heap.size + 1 := by simp
  obtain ⟨w1, hw1⟩ : ∃ w1, w.alloc (.cells #[.int .i64 0] 24) = w1 := ⟨_, rfl⟩
  rw [hw1] at bw1 hE1 hsz
  have HW1 := Lib.hid hw1
  have HB1 := Lib.hid bw1
  have HE1 := Lib.hid hE1
  gi_wp2
  refine ⟨trivial, fun h => (by cases h), ?_⟩
  clear hw1 bw1 hE1
  refine (callsIn_wide.2 (HNew.out _)).mono ?_
  rintro e w3 ⟨rfl, k3, h3, z3⟩
  rw [hsz] at h3 z3 ⊢
  have K3 := Lib.hid k3
  have H3 := Lib.hid h3
  have Z3 := Lib.hid z3
  clear k3 h3 z3
  gi_wp2
  apply wpV_seq
  apply wpV_seq
  refine wpV_of (n := n) ?_
  gi_wp2
  apply wpV_block
  have hz3 := Z3.out
  have hM2 := new_at w3 (.cells #[.pointer (some ⟨w.heap.size + 1, 0, none⟩)] 56)
  have hk2 : Kept NoB w1 (w3.alloc (.cells #[.pointer (some ⟨w.heap.size + 1, 0, none⟩)] 56)) := K3.out.alloc _
  have hw2 : Wt (w3.alloc (.cells #[.pointer (some ⟨w.heap.size + 1, 0, none⟩)] 56)) (w.heap.size + 1) (w.heap.size + 1) (fun j => j = w.heap.size + 1) (max 0 most) 0 0 := H3.out.keep ((Kept.refl NoB _).alloc _) (fun _ _ g => g)
  have hs2 : (w3.alloc (.cells #[.pointer (some ⟨w.heap.size + 1, 0, none⟩)] 56)).heap.size = w3.heap.size + 1 := by simp
  obtain ⟨w2, hw2'⟩ : ∃ w2, w3.alloc (.cells #[.pointer (some ⟨w.heap.size + 1, 0, none⟩)] 56) = w2 := ⟨_, rfl⟩
  rw [hw2'] at hM2 hk2 hw2 hs2 ⊢
  obtain ⟨p, hp⟩ : ∃ p, w.heap.size + 1 = p := ⟨_, rfl⟩
  rw [hp] at hM2 hw2 hz3 hsz ⊢
  have b2 : Below w.heap.size w w2 := HB1.out.trans (hk2.below (by omega) (fun j g => g.elim))
  have hE2 : w2.heap[w.heap.size]? = some (.cells #[.int .i64 0] 24 (0, 0)) := (hk2.block _ (by omega) (fun g => g)).trans HE1.out
  have hMs : w3.heap.size < w2.heap.size := by omega
  have hps2 : p < w2.heap.size := by omega
  have hSz : w.heap.size ≤ w2.heap.size := b2.size
  obtain ⟨M, hMe⟩ : ∃ M, w3.heap.size = M := ⟨_, rfl⟩
  rw [hMe] at hM2 hMs hz3 ⊢
  have HM2 := Lib.hid hM2
  have HE2 := Lib.hid hE2
  have HB2 := Lib.hid b2
  have HW2 := Lib.hid hw2
  have HSq := Lib.hid hseq
  clear HW1 HB1 HE1 K3 H3 Z3 hM2 hE2 b2 hw2 hk2 hs2 hw2' hMe hsz hseq HNew
  -- what a round leaves as it is
  have HLow := Lib.hid (fun (W : World) (hk : Kept (Rd p w2.heap.size) w2 W) => (show Below w.heap.size w W ∧ W.heap[w.heap.size]? = some (.cells #[.int .i64 0] 24 (0, 0)) ∧ W.heap[M]? = some (.cells #[.pointer (some ⟨p, 0, none⟩)] 56 (0, 0)) ∧ w2.heap.size ≤ W.heap.size from by
    have no : ∀ j, j < w2.heap.size → j ≠ p → ¬ Rd p w2.heap.size j := fun j h1 h2 g => by rcases g with g | g <;> omega
    refine ⟨HB2.out.trans (hk.below hSz (fun j g => by rcases g with g | g <;> omega)), (hk.block _ (by omega) (no _ (by omega) (by omega))).trans HE2.out, (hk.block _ hMs (no _ hMs (by omega))).trans HM2.out, hk.size⟩))
  refine wpV_range (n := n) (gf := gf) (lb := lb) rfl eg HSq.out HB2.out (fun _ => rfl)
    (fun ps W => StrP w2 w2.heap.size p p (max 0 most) ps W ∧ (ps.1 ≠ [] → Fit most ps.1))
    (fun ch pre W => ch = [{ v := .iface 55 (.agg #[.int .i64 4]), recovered := false }] ∧ ¬ Fit most pre ∧ Kept (Rd p w2.heap.size) w2 W)
    (fun s W W' row hs hg hr => ⟨StrP.own s W W' row hs.1 hg hr, hs.2⟩) (fun ch s W W' row hs hg hr => ⟨hs.1, hs.2.1, hs.2.2.grown hg (fun r e => .inl (.inr (hr r e).1))⟩)
    (fun pre T W h j hj => ⟨by have g : Rd p w2.heap.size j := h.1.rd j hj; rcases g with g | g <;> omega, h.1.lt hj⟩)
    _ ⟨StrP.start HW2.out (fun j hj => .inl hj), fun h => absurd rfl h⟩
    (AxB w2.heap.size (fun x Bx => { tmps := #[.func (.func gf) #[] lb, .int .i64 most, undef, undef, .string ⟨#[]⟩, .pointer (some ⟨w.heap.size, 0, none⟩), .pointer (some ⟨M, 0, none⟩), .pointer (some ⟨Bx, 0, none⟩),
      .func (.func 21) #[] #[.pointer (some ⟨w.heap.size, 0, none⟩)], .int .i64 most, .pointer (some ⟨p, 0, none⟩), .func (.func gf) #[] lb, .agg #[.int .u8 x.k, .slice x.A x.n x.c, .string x.raw, .bool x.last],
      undef, undef, undef, undef, undef], defers := [] }))
    (fun x a' => AxB.own) ?assign ?body ?done ?panic
  case assign =>
    rintro l2 pre T y Wa K hmid hK
    have HM := Lib.hid hmid
    have HK := Lib.hid (fun (a' : Act) (W' : World) (h1 : KeepsFrom w2.heap.size Wa W') (h2 : Kept T Wa W') (h3 : StrP w2 w2.heap.size p p (max 0 most) (pre, T) W' ∧ (pre ≠ [] → Fit most pre)) h4 => hK a' W' h1 h2 h3 h4)
    clear hK hmid
    unfold encB
    gi_wp2
    exact HK.out _ _ ((KeepsOthers.alloc _ _).from _) ((Kept.refl _ _).alloc _) ⟨StrP.own.alloc _ HM.out.1, HM.out.2⟩ ⟨Wa.heap.size, HM.out.1.kept.size, new_at _ _, rfl⟩
  case body =>
    rintro l2 pre T y a' Wb hl2 ⟨rr, hr⟩ ⟨hst, hft⟩ ⟨Bx, hBx, hxc, rfl⟩ ⟨r, hpre⟩
    obtain ⟨hb, c2, c3, c4⟩ := HLow.out Wb hst.kept
    obtain ⟨hx1, hx2, hx3, hx4, hx5⟩ := hB y (by rw [hpre]; simp)
    have hlp := hlen pre (y :: r) (by rw [hpre]; simp)
    have HP := Lib.hid (hst.round y (by omega) c4 (fun w' b => hT.keep (hb.trans (b.mono (by omega)))) (fun w' b => hx1.below (hb.trans (b.mono (by omega)))) hlp hx2 hx3 hx4 hx5)
    obtain ⟨x0, x1, x2, x3⟩ := four_cells hxc
    have m0 := one_cell c3
    have HK := Lib.hid hst.kept
    clear hx1 hx2 hx3 hx4 hx5 hlp hst hpre hr hxc c2 c3
    by_cases hf : Fit most (pre ++ [y])
    · have HF := Lib.hid hf
      clear hf
      left
      gi_wp2
      refine ⟨trivial, fun h => (by cases h), ?_⟩
      refine (callsIn_wide.2 HP.out).mono ?_
      rintro e W' ⟨q, _⟩
      obtain ⟨rfl, q1⟩ := q HF.out
      have Q1 := Lib.hid q1
      clear q q1
      gi_wp2
      obtain ⟨z1, T', z2, z3, z4⟩ := Q1.out
      exact ⟨z1, z2, T', ⟨z3, HF.out⟩, z4⟩
    · have HF := Lib.hid hf
      clear hf
      right
      gi_wp2
      refine ⟨trivial, fun h => (by cases h), ?_⟩
      refine (callsIn_wide.2 HP.out).mono ?_
      rintro e W' ⟨_, q⟩
      obtain ⟨rfl, q2, q3⟩ := q (by have := HF.out; unfold Fit at this; omega)
      have Q2 := Lib.hid q2
      have Q4 := Lib.hid (rd_t HK.out q3)
      clear q q2 q3
      gi_wp2
      exact ⟨Q2.out, HF.out, Q4.out⟩
  case done =>
    rintro D ys T W4 hD rfl ⟨hst, hft⟩ hK
    obtain ⟨hb4, c2, c3, c4⟩ := HLow.out W4 hst.kept
    have hfit : Fit most ys := by
      by_cases h : ys = []
      · subst h
        show (((0 + 7) / 8 : Nat) : Int) ≤ max 0 most
        omega
      · exact hft h
    obtain ⟨hwt, hSr, hkp⟩ := hst
    simp only at hwt
    have HText := Lib.hid (Go.Proofs.YtldiojnkoobbmaaGreatDoor.text_any hwt (by have := hlen ys [] (by simp); omega))
    have m0 := one_cell c3
    refine ⟨.inl rfl, ?_⟩
    refine wpV_of (n := n) ?_
    gi_wp2
    refine ⟨trivial, fun h => (by cases h), ?_⟩
    refine (callsIn_wide.2 HText.out).mono ?_
    rintro e w5 ⟨rfl, k5⟩
    have h5 := k5.size
    have f2 := (k5.block w.heap.size (by omega) (fun g => g)).trans c2
    have fD := (k5.block D (Array.getElem?_eq_some_iff.1 hK).1 (fun g => g)).trans hK
    obtain ⟨TX, hTX⟩ : ∃ TX, textR (nb (bkb ys 0)) (bkb ys 0).length = TX := ⟨_, rfl⟩
    rw [hTX]
    have g3 := one_cell f2
    have g4 := one_free f2
    have f6 := one_set f2 (.int .i64 0)
    have fD2 := (set_far (W := w5) (g := w.heap.size) (k := D) (.int .i64 0) (by omega)).trans fD
    have F6 := Lib.hid f6
    have FD2 := Lib.hid fD2
    have K5 := Lib.hid k5
    clear f2 fD f6 fD2 k5 hK
    gi_wp2
    have hb6 : Below w.heap.size w (w5.setCell ⟨w.heap.size, 0, none⟩ (.int .i64 0)) := (hb4.trans (K5.out.below hb4.size (fun j g => g.elim))).setCell (Nat.le_refl _) _
    obtain ⟨W6, hW6⟩ : ∃ W6, w5.setCell ⟨w.heap.size, 0, none⟩ (.int .i64 0) = W6 := ⟨_, rfl⟩
    rw [hW6] at F6 FD2 hb6 ⊢
    have e2 := (World.putObj_heap_other (w := W6) (o := .deferred none) (show w.heap.size ≠ D by omega)).trans F6.out
    have q2 := one_cell e2
    refine ⟨by simp, .inl ⟨D, _, rfl, run_takeDeferred FD2.out, ?_⟩⟩
    refine ⟨by simp, .inr ⟨fun h => (by cases h), _, _, _, _, rfl, by simp [invoke, go_sem, HEg.out], fun _ _ => trivial, (catch_idle (n - 1) w.heap.size _).mono ?_⟩⟩
    rintro e u' w'' ⟨rfl, rfl, rfl⟩
    have hb7 : Below w.heap.size w (W6.putObj D (.deferred none)) := hb6.grown (grownBy_putObj' W6 D _) hb6.size (fun k e => by cases e; omega)
    simp [LeavesInM, LeavesIn, settle, results, Tryz.results12, go_sem, q2]
    exact ⟨fun _ => ⟨hTX.symm, hb7⟩, hfit⟩
  case panic =>
    rintro D ch pre W4 hD ⟨r, hpre⟩ ⟨rfl, hnf, hk⟩ hK
    obtain ⟨hb4, c2, c3, c4⟩ := HLow.out W4 hk
    refine ⟨.inr ⟨_, rfl⟩, ?_⟩
    have e2 := (World.putObj_heap_other (w := W4) (o := .deferred none) (show w.heap.size ≠ D by omega)).trans c2
    refine ⟨by simp, .inl ⟨D, _, rfl, run_takeDeferred hK, ?_⟩⟩
    refine ⟨by simp, .inr ⟨fun h => (by cases h), _, _, _, _, rfl, ?_, fun _ _ => trivial, (catch_panic (n - 1) w.heap.size _ [] _ (one_cell e2) (one_free e2)).mono ?_⟩⟩
    · simp [invoke, go_sem, HEg.out]
    · rintro e u' w'' ⟨rfl, rfl, rfl⟩
      have a2 := old_at (.cells #[.int .i64 4] 55) e2
      have a6 := one_set a2 (.int .i64 4)
      have q2 := one_cell a6
      have hnb : ¬ Fit most BL := fun h => hnf (by rw [hpre] at h; exact fit_pre h)
      have hbb : Below w.heap.size w (((W4.putObj D (.deferred none)).alloc (.cells #[.int .i64 4] 55)).setCell ⟨w.heap.size, 0, none⟩ (.int .i64 4)) :=
        ((hb4.grown (grownBy_putObj' W4 D _) hb4.size (fun k e => by cases e; omega)).alloc (by simp; omega) _).setCell (Nat.le_refl _) _
      simp [LeavesInM, LeavesIn, settle, results, Tryz.results12, go_sem, q2]
      exact ⟨hnb, fun _ => hbb⟩
end Go.Proofs.YtldiojnkoobbmaaGreatDoor.V

namespace Go.Proofs.YtldiojnkoobbmaaGreatDoor.V
open Go Go.RowKit M U
set_option linter.unusedVariables false
set_option linter.unusedSimpArgs false
set_option maxRecDepth 1000000
attribute [local go_sem] Oper.semAt_some
set_option maxHeartbeats 4000000 in
theorem body_made (m : Nat) (K : Act → World → Prop) (y u4 u8 s9 s10 s11 s12 s13 s14 s15 s16 u17 u18 u19 u20 u21 u22 u23 u24 u25 u26 u27 u28 u29 u30 u31 u32 u33 u34 u35 u36 u37 u38 u39 u40 u41 u42 u43 : Value) (Bs Bp Bt G j N f t z k n c g cp r : Nat) (A X : Option Addr) (R RA : ByteArray) (la : Bool) (w1 : World)
    (q0 : w1.cell? ⟨G, 0, none⟩ = some (.int .i64 f)) (q1 : w1.cell? ⟨G, 1, none⟩ = some (.int .i64 t)) (q2 : w1.cell? ⟨G, 2, none⟩ = some (.int .i64 z)) (q3 : w1.cell? ⟨G, 3, none⟩ = some (.int .u8 k))
    (t1 : w1.cell? ⟨Bt, 0, none⟩ = some (.slice A n c)) (p1 : w1.cell? ⟨Bp, 0, none⟩ = some (.slice (some ⟨g, 0, none⟩) N cp)) (hft : f ≤ t) (htc : t ≤ c) (hfc : f ≤ c) (hX : (if c = f then A else Option.map (fun x => x.add (f * 3)) A) = X) (hRs : R.size = r) (hzr : z ≤ r) (hr7 : r ≤ 1000000) (hR1 : R.extract 0 z = RA)
    (hN : N ≤ 1000) (hnc : n ≤ c) (hn : n ≤ 1000000) (htn : t ≤ n) (e1 : ((j : Int) == (N : Int) - 1) = la)
    (hK : K { tmps := #[y, .pointer (some ⟨Bs, 0, none⟩), .pointer (some ⟨Bp, 0, none⟩), .pointer (some ⟨Bt, 0, none⟩), u4, .string R, .int .i64 j, .pointer (some ⟨G, 0, none⟩), .pointer (some ⟨w1.heap.size, 0, none⟩), s9, s10, s11, s12, s13, s14, s15, s16,
      .pointer (some ⟨G, 3, none⟩), .int .u8 k, .slice A n c, .pointer (some ⟨G, 0, none⟩), .int .i64 f, .pointer (some ⟨G, 1, none⟩), .int .i64 t, .slice X (t - f) (c - f), .string R, .pointer (some ⟨G, 2, none⟩), .int .i64 z, .string RA, .int .i64 j, .slice (some ⟨g, 0, none⟩) N cp, .int .i64 N, .int .i64 ((N : Int) - 1), .bool la,
      .agg #[.int .u8 k, .slice X (t - f) (c - f), .string RA, .bool la], u35, u36, u37, u38, u39, u40, u41, u42, u43], defers := [] } (w1.alloc (.cells #[.int .u8 k, .slice X (t - f) (c - f), .string RA, .bool la] 59)).drew) :
    Code.wpIn Fence.wide m Tryz.prog (Code.region 4 #[
      { dst := some 17, op := Op.fieldAddr 49 (Operand.tmp 7) 3, type := 0, pos := "deflate.go:70", after := #[], guard := none }, 
      { dst := some 18, op := Op.load 5 (Operand.tmp 17), type := 5, pos := "deflate.go:70", after := #[{ on := 0, ground := Ground.data }], guard := none }, 
      { dst := some 19, op := Op.load 32 (Operand.tmp 3), type := 32, pos := "deflate.go:70", after := #[], guard := none }, 
      { dst := some 20, op := Op.fieldAddr 49 (Operand.tmp 7) 0, type := 0, pos := "deflate.go:70", after := #[], guard := none }, 
      { dst := some 21, op := Op.load 3 (Operand.tmp 20), type := 3, pos := "deflate.go:70", after := #[{ on := 3, ground := Ground.data }], guard := none }, 
      { dst := some 22, op := Op.fieldAddr 49 (Operand.tmp 7) 1, type := 0, pos := "deflate.go:70", after := #[], guard := none }, 
      { dst := some 23, op := Op.load 3 (Operand.tmp 22), type := 3, pos := "deflate.go:70", after := #[{ on := 5, ground := Ground.data }], guard := none }, 
      { dst := some 24, op := Op.slice 32 (Operand.tmp 19) (some (Operand.tmp 21)) (some (Operand.tmp 23)) none, type := 32, pos := "deflate.go:70", after := #[{ on := 2, ground := Ground.data }, { on := 4, ground := Ground.data }, { on := 6, ground := Ground.data }], guard := none }, 
      { dst := some 25, op := Op.move (Operand.tmp 5), type := 9, pos := "deflate.go:70", after := #[], guard := none }, 
      { dst := some 26, op := Op.fieldAddr 49 (Operand.tmp 7) 2, type := 0, pos := "deflate.go:70", after := #[], guard := none }, 
      { dst := some 27, op := Op.load 3 (Operand.tmp 26), type := 3, pos := "deflate.go:70", after := #[{ on := 9, ground := Ground.data }], guard := none }, 
      { dst := some 28, op := Op.slice 9 (Operand.tmp 25) none (some (Operand.tmp 27)) none, type := 9, pos := "deflate.go:70", after := #[{ on := 8, ground := Ground.data }, { on := 10, ground := Ground.data }], guard := none }, 
      { dst := some 29, op := Op.move (Operand.tmp 6), type := 3, pos := "deflate.go:70", after := #[], guard := none }, 
      { dst := some 30, op := Op.load 33 (Operand.tmp 2), type := 33, pos := "deflate.go:70", after := #[], guard := none }, 
      { dst := some 31, op := Op.call { callee := Callee.builtin Builtin.len, args := #[Operand.tmp 30], argTypes := #[33] }, type := 3, pos := "deflate.go:70", after := #[{ on := 13, ground := Ground.data }], guard := none }, 
      { dst := some 32, op := Op.binOp BinOp.sub 3 (Operand.tmp 31) (Operand.const (Value.int IntKind.i64 1)) 3, type := 3, pos := "deflate.go:70", after := #[{ on := 14, ground := Ground.data }], guard := none }, 
      { dst := some 33, op := Op.binOp BinOp.eql 3 (Operand.tmp 29) (Operand.tmp 32) 3, type := 4, pos := "deflate.go:70", after := #[{ on := 12, ground := Ground.data }, { on := 15, ground := Ground.data }], guard := none }, 
      { dst := some 34, op := Op.build 59 #[(0, Operand.tmp 18), (1, Operand.tmp 24), (2, Operand.tmp 28), (3, Operand.tmp 33)], type := 59, pos := "deflate.go:70", after := #[{ on := 1, ground := Ground.data }, { on := 7, ground := Ground.data }, { on := 11, ground := Ground.data }, { on := 16, ground := Ground.data }], guard := none }, 
      { dst := some 8, op := Op.alloc 59, type := 0, pos := "deflate.go:70", after := #[], guard := none }, 
      { dst := none, op := Op.store 59 (Operand.tmp 8) (Operand.tmp 34), type := 0, pos := "deflate.go:70", after := #[{ on := 18, ground := Ground.data }, { on := 17, ground := Ground.data }, { on := 0, ground := Ground.phase }, { on := 1, ground := Ground.phase }, { on := 2, ground := Ground.phase }, { on := 3, ground := Ground.phase }, { on := 4, ground := Ground.phase }, { on := 5, ground := Ground.phase }, { on := 6, ground := Ground.phase }, { on := 7, ground := Ground.phase }, { on := 8, ground := Ground.phase }, { on := 9, ground := Ground.phase }, { on := 10, ground := Ground.phase }, { on := 11, ground := Ground.phase }, { on := 12, ground := Ground.phase }, { on := 13, ground := Ground.phase }, { on := 14, ground := Ground.phase }, { on := 15, ground := Ground.phase }, { on := 16, ground := Ground.phase }, { on := 17, ground := Ground.phase }, { on := 18, ground := Ground.phase }], guard := none }] true) (Exit.then K (fun _ _ _ => False))
      { tmps := #[y, .pointer (some ⟨Bs, 0, none⟩), .pointer (some ⟨Bp, 0, none⟩), .pointer (some ⟨Bt, 0, none⟩), u4, .string R, .int .i64 j, .pointer (some ⟨G, 0, none⟩), u8, s9, s10, s11, s12, s13, s14, s15, s16, u17, u18, u19, u20, u21, u22, u23, u24, u25, u26, u27, u28, u29, u30, u31, u32, u33, u34, u35, u36, u37, u38, u39, u40, u41, u42, u43], defers := [] } w1 := by
  have HK := Lib.hid hK
  clear hK
  have far : ∀ {a : Addr} {v : Value}, w1.cell? a = some v → (w1.alloc (.cells #[.int .u8 0, .slice none 0 0, .string ⟨#[]⟩, .bool false] 59)).drew.cell? a = some v := fun {a v} h => by
    have := World.block_lt_of_cell? _ _ h
    exact (((Below.refl w1.heap.size w1).alloc (Nat.le_refl _) _).cell (p := a) this).trans h
  have t2 := far t1
  have p2 := far p1
  have r0 := far q0
  have r1 := far q1
  have r2 := far q2
  have r3 := far q3
  have l1 : Bt < w1.heap.size := World.block_lt_of_cell? _ _ t1
  have l2 : Bp < w1.heap.size := World.block_lt_of_cell? _ _ p1
  have l3 : G < w1.heap.size := World.block_lt_of_cell? _ _ q0
  clear far
  dsimp only
  gi_big_region
  exact HK.out
end Go.Proofs.YtldiojnkoobbmaaGreatDoor.V

namespace Go.Proofs.YtldiojnkoobbmaaGreatDoor.V
open Go Go.RowKit M U
set_option linter.unusedVariables false
set_option linter.unusedSimpArgs false
set_option maxRecDepth 1000000
attribute [local go_sem] Oper.semAt_some
theorem kept_below {S : Nat → Prop} {w w' : World} (b : Below w.heap.size w w') : Kept S w w' := ⟨b.os, b.tape, b.output, b.size, fun k hk _ => b.block k hk⟩
set_option maxHeartbeats 4000000 in
theorem blocks1_in (m l Bs Bp Bt n₁ : Nat) (A : Option Addr) (n c g cp : Nat) (L : List Tk) (s : ByteArray) (PL : List Pv) (BL : List Bk) (hm : 1 ≤ m) (hnc : n ≤ c) (hn : n ≤ 1000000) (hs : s.size ≤ 1000000) (hPl : PL.length ≤ 1000) (hok : Pok n s PL) (hBL : pbk A c L s PL 0 = BL)
    (hBs : Bs < n₁) (hBp : Bp < n₁) (hBt : Bt < n₁) (hg : g < n₁) (W0 : World)
    (J : List Bk × (Nat → Prop) → World → Prop) (Jx : List Bk → World → Prop) (Jp : List PanicEntry → List Bk → World → Prop) (hJ : AbidesFrom W0.heap.size J) (hJT : ∀ pre T W1, J (pre, T) W1 → ∀ j, T j → n₁ ≤ j ∧ j < W1.heap.size)
    (hY : ∀ pre T x W, J (pre, T) W → (∃ r, BL = pre ++ [x] ++ r) → YieldAt Fence.wide (m - 1) Tryz.prog l (encB x) W fun e W' =>
      (e = .returned (.bool true) ∧ ∃ T', J (pre ++ [x], T') W' ∧ Kept T W W' ∧ ∀ j, T' j → T j ∨ W.heap.size ≤ j) ∨ (e = .returned (.bool false) ∧ Jx (pre ++ [x]) W') ∨ (∃ ch, e = .panicked ch ∧ Jp ch (pre ++ [x]) W'))
    (cS : W0.cell? ⟨Bs, 0, none⟩ = some (.string s)) (cP : W0.cell? ⟨Bp, 0, none⟩ = some (.slice (some ⟨g, 0, none⟩) PL.length cp)) (cT : W0.cell? ⟨Bt, 0, none⟩ = some (.slice A n c))
    (cPL : ∀ i q, PL[i]? = some q → W0.cell? ⟨g, i * 4, none⟩ = some (.int .i64 q.f) ∧ W0.cell? ⟨g, i * 4 + 1, none⟩ = some (.int .i64 q.t) ∧ W0.cell? ⟨g, i * 4 + 2, none⟩ = some (.int .i64 q.z) ∧ W0.cell? ⟨g, i * 4 + 3, none⟩ = some (.int .u8 q.k))
    (h0 : ∃ T, J ([], T) W0) :
    CallsIn Fence.wide m Tryz.prog 25 #[.func (.yield l) #[] #[], .pointer (some ⟨Bs, 0, none⟩), .pointer (some ⟨Bp, 0, none⟩), .pointer (some ⟨Bt, 0, none⟩)] W0 fun e W' =>
      (∃ v, e = .returned v ∧ ((∃ xs, xs = BL ∧ ∃ T, J (xs, T) W') ∨ (∃ pre : List Bk, True ∧ Jx pre W'))) ∨ (∃ ch pre, e = .panicked ch ∧ (∃ r, BL = pre ++ r) ∧ Jp ch pre W') := by
  have HJT := Lib.hid hJT
  have no : ∀ {j}, j < n₁ → ¬ n₁ ≤ j := fun h => by omega
  have noP := no hBp
  have noT := no hBt
  have noG := no hg
  have HOk := Lib.hid hok
  have HPL := Lib.hid cPL
  have HY := Lib.hid hY
  have HT := Lib.hid cT
  have HPc := Lib.hid cP
  obtain ⟨N, hN⟩ : ∃ N, PL.length = N := ⟨_, rfl⟩
  have HN := Lib.hid hN
  rw [hN] at cP HPc hPl
  clear hok cPL hY cT no hN hJT
  refine callsIn_of_wp Tryz.func25 rfl trivial ?_ rfl
  simp only [Tryz.ntmps25, List.size_toArray, List.length_cons, List.length_nil, Nat.reduceAdd, Nat.reduceSub, Array.replicate_succ, Array.replicate_zero, List.push_toArray, List.append_toArray, List.nil_append, List.cons_append]
  gi_wp2
  gi_loopw [5, 12] (fun r i wr => ∃ (j : Nat) (dn td : List Pv) (pre : List Bk), PL = dn ++ td ∧ dn.length = j ∧ i = .int .i64 j ∧ r = .string (s.extract (ztot dn) s.size) ∧ pre ++ pbk A c L s td (ztot dn) = BL ∧ (∃ T, J (pre, T) wr) ∧ Kept (fun j => n₁ ≤ j) W0 wr)
    (fun _ i _ => N - (intOf i).toNat)
  case atStart => exact ⟨0, [], PL, [], rfl, rfl, rfl, by rw [show ztot [] = 0 from rfl, ByteArray.extract_zero_size], hBL, h0, Kept.refl _ _⟩
  case round =>
    obtain ⟨j, dn, td, pre, hp, hj, rfl, rfl, hb, ⟨T, hJs⟩, hkp⟩ := hrel
    have HHb := Lib.hid hb
    have HHp := Lib.hid hp
    have HK := Lib.hid hkp
    have HJq := Lib.hid (fun W' (b : Below wr.heap.size wr W') => hJ (pre, T) wr W' none hJs ⟨b.os, b.tape, b.output, b.size, fun k hk _ => b.block k hk⟩ (fun r e => by cases e))
    cases td with
    | nil =>
      have e0 : j = N := by rw [← hj, ← HN.out, hp, List.append_nil]
      subst e0
      have d1 : decide ((j : Int) < (j : Int)) = false := decide_eq_false (by omega)
      have d1' : decide (j < j) = false := decide_eq_false (by omega)
      clear hb hp hkp hj
      gi_wp2
      go_end0
      exact .inl ⟨_, rfl, .inl ⟨_, rfl, by have := HHb.out; simp only [pbk, List.append_nil] at this; subst this; exact ⟨T, hJs⟩⟩⟩
    | cons q td =>
      have hlt : j < N := by rw [← hj, ← HN.out, hp, List.length_append, List.length_cons]; omega
      have hq : PL[j]? = some q := by rw [hp, ← hj]; simp
      obtain ⟨o1, o2, o3, o4⟩ := HOk.out dn q td hp
      obtain ⟨a0, a1, a2, a3⟩ := HPL.out j q hq
      have n0 := hkp.cell a0 noG
      have n1 := hkp.cell a1 noG
      have n2 := hkp.cell a2 noG
      have n3 := hkp.cell a3 noG
      clear a0 a1 a2 a3
      have t0 := hkp.cell HT.out noT
      have p0 := hkp.cell HPc.out noP
      have hlast : td.isEmpty = decide (j + 1 = N) := by
        have e : N = j + 1 + td.length := by rw [← HN.out, hp, List.length_append, List.length_cons, hj]; omega
        cases td with
        | nil => exact (decide_eq_true (by simpa using e.symm)).symm
        | cons x td => exact (decide_eq_false (by rw [e, List.length_cons]; omega)).symm
      obtain ⟨f, t, z, k⟩ := q
      simp only at o1 o2 o3 o4 n0 n1 n2 n3
      have HNx := Lib.hid (pbk_append HHb.out)
      have HZt := Lib.hid (show ztot (dn ++ [⟨f, t, z, k⟩]) = ztot dn + z by rw [ztot_append]; rfl)
      obtain ⟨o, ho⟩ : ∃ o, ztot dn = o := ⟨_, rfl⟩
      rw [ho] at HNx HZt o3 ⊢
      simp only at HNx
      rw [hlast] at HNx
      obtain ⟨X, hX⟩ : ∃ X, (if c = f then A else Option.map (fun x => x.add (f * 3)) A) = X := ⟨_, rfl⟩
      rw [hX] at HNx
      obtain ⟨R, hR⟩ : ∃ R, s.extract o s.size = R := ⟨_, rfl⟩
      have hRs : R.size = s.size - o := by rw [← hR, ByteArray.size_extract]; omega
      obtain ⟨r, hr⟩ : ∃ r, s.size - o = r := ⟨_, rfl⟩
      rw [hr] at hRs
      have hR1 : R.extract 0 z = s.extract o (o + z) := by rw [← hR, ByteArray.extract_extract]; congr 1 <;> omega
      have hR2 : R.extract z r = s.extract (o + z) s.size := by rw [← hR, ByteArray.extract_extract]; congr 1 <;> omega
      obtain ⟨RA, hRA⟩ : ∃ RA, s.extract o (o + z) = RA := ⟨_, rfl⟩
      rw [hRA] at HNx hR1
      rw [hR]
      have hzr : z ≤ r := by omega
      have hr7 : r ≤ 1000000 := by omega
      have htc : t ≤ c := by omega
      have hfc : f ≤ c := by omega
      have d1 : decide ((j : Int) < (N : Int)) = true := decide_eq_true (by omega)
      have d1' : decide (j < N) = true := decide_eq_true hlt
      have ix : (j : Int).toNat < N := by omega
      have e1 : ((j : Int) == (N : Int) - 1) = decide (j + 1 = N) := by
        by_cases h : j + 1 = N
        · rw [decide_eq_true h, beq_iff_eq]; omega
        · rw [decide_eq_false h, beq_eq_false_iff_ne]; omega
      obtain ⟨la, hla⟩ : ∃ la, decide (j + 1 = N) = la := ⟨_, rfl⟩
      rw [hla] at e1 HNx
      have HR2 := Lib.hid hR2
      clear hb hp hkp hq hJs hlast hR hr ho hRA hla hR2
      gi_wp2
      have b1 : Below wr.heap.size wr (wr.alloc (.cells #[.int .i64 f, .int .i64 t, .int .i64 z, .int .u8 k] 49)) := (Below.refl _ _).alloc (Nat.le_refl _) _
      have hP1 := Hb.new wr 49 #[.int .i64 f, .int .i64 t, .int .i64 z, .int .u8 k]
      have hz1 : (wr.alloc (.cells #[.int .i64 f, .int .i64 t, .int .i64 z, .int .u8 k] 49)).heap.size = wr.heap.size + 1 := by simp
      generalize wr.alloc (.cells #[.int .i64 f, .int .i64 t, .int .i64 z, .int .u8 k] 49) = w1 at b1 hP1 hz1 ⊢
      obtain ⟨q0, q1, q2, q3⟩ := hP1.cells4
      have t1 : w1.cell? ⟨Bt, 0, none⟩ = some (.slice A n c) := (b1.cell (p := ⟨Bt, 0, none⟩) (World.block_lt_of_cell? _ _ t0)).trans t0
      have p1 : w1.cell? ⟨Bp, 0, none⟩ = some (.slice (some ⟨g, 0, none⟩) N cp) := (b1.cell (p := ⟨Bp, 0, none⟩) (World.block_lt_of_cell? _ _ p0)).trans p0
      have HB1 := Lib.hid b1
      have HP1 := Lib.hid hP1
      clear b1 hP1 t0 p0 n0 n1 n2 n3
      refine wpIn_mono (body_made m _ _ _ _ _ _ _ _ _ _ _ _ _ _ _ _ _ _ _ _ _ _ _ _ _ _ _ _ _ _ _ _ _ _ _ _ _ _ _ Bs Bp Bt wr.heap.size j N f t z k n c g cp r A X R RA la w1 q0 q1 q2 q3 t1 p1 o1 htc hfc hX hRs hzr hr7 hR1 hPl hnc hn o2 e1 ?_) (fun e a w h => by cases e <;> first | exact h | exact h.elim)
      rw [hz1]
      have b2 : Below wr.heap.size wr (w1.alloc (.cells #[.int .u8 k, .slice X (t - f) (c - f), .string RA, .bool la] 59)).drew := (HB1.out.alloc HB1.out.size _).trans (Below.refl _ _).drew
      have hP2 := (HP1.out.alloc (.cells #[.int .u8 k, .slice X (t - f) (c - f), .string RA, .bool la] 59)).drew
      have hB2 := (Hb.new w1 59 #[.int .u8 k, .slice X (t - f) (c - f), .string RA, .bool la]).drew
      rw [hz1] at hB2
      generalize (w1.alloc (.cells #[.int .u8 k, .slice X (t - f) (c - f), .string RA, .bool la] 59)).drew = w2 at b2 hP2 hB2 ⊢
      obtain ⟨x0, x1, x2, x3⟩ := hB2.cells4
      obtain ⟨fn, tmps, assign, body, hy, hRd⟩ := HY.out pre T ⟨k, X, t - f, c - f, seg L f t, RA, la⟩ w2 (HJq.out w2 b2) ⟨_, HNx.out.symm⟩
      unfold encB at hy
      dsimp only at hy
      have HTl := Lib.hid (HJT.out pre T wr (HJq.out wr (Below.refl _ _)))
      have HP2 := Lib.hid hP2
      have HB2 := Lib.hid b2
      clear hP2 b2 t1 p1 q0 q1 q2 q3 hz1 e1 hX hR1
      gi_wp2
      refine hRd.mono ?_
      clear hy hRd x0 x1 x2 x3 hB2
      rintro e W3 (⟨rfl, T', hJ3, hk3, hT3⟩ | ⟨rfl, hJx3⟩ | ⟨ch, rfl, hJp3⟩)
      · have hP3 := HP2.out.kept hk3 (fun h => by have := (HTl.out _ h).2; omega)
        obtain ⟨q0, q1, q2, q3⟩ := hP3.cells4
        have HK3 := Lib.hid (HK.out.trans ((kept_below HB2.out).trans (hk3.mono fun j hj => (HTl.out j hj).1) fun j hj => .inl hj) fun j hj => .inl hj)
        have HJ3 := Lib.hid hJ3
        clear hk3 hJ3 hT3 hP3 q0 q1 q3
        gi_wp2
        go_roundw
        case rel => exact ⟨j + 1, dn ++ [⟨f, t, z, k⟩], td, pre ++ [⟨k, X, t - f, c - f, seg L f t, RA, la⟩], by rw [List.append_assoc]; exact HHp.out, by rw [List.length_append, hj]; rfl, by go_num, by rw [HZt.out, ← HR2.out], by rw [HZt.out]; exact HNx.out, ⟨T', HJ3.out⟩, HK3.out⟩
        case measure => (simp [intOf]; try omega)
      · gi_wp2
        refine bodyPost_ret (results_none rfl _ _ _) rfl ?_
        exact .inl ⟨_, rfl, .inr ⟨_, trivial, hJx3⟩⟩
      · gi_wp2
        exact ⟨rfl, .inr ⟨_, _, rfl, ⟨_, HNx.out.symm⟩, hJp3⟩⟩
end Go.Proofs.YtldiojnkoobbmaaGreatDoor.V

namespace Go.Proofs.YtldiojnkoobbmaaGreatDoor.V
open Go Go.RowKit M U
set_option linter.unusedVariables false
set_option linter.unusedSimpArgs false
set_option maxRecDepth 1000000
def Pcs (w : World) (g : Nat) (l : List Pv) : Prop := g < w.heap.size ∧ ∀ i q, l[i]? = some q → w.cell? ⟨g, i * 4, none⟩ = some (.int .i64 q.f) ∧ w.cell? ⟨g, i * 4 + 1, none⟩ = some (.int .i64 q.t) ∧ w.cell? ⟨g, i * 4 + 2, none⟩ = some (.int .i64 q.z) ∧ w.cell? ⟨g, i * 4 + 3, none⟩ = some (.int .u8 q.k)
theorem Pcs.below {w w' : World} {g : Nat} {l : List Pv} (h : Pcs w g l) (hb : Below w.heap.size w w') : Pcs w' g l :=
  ⟨Nat.lt_of_lt_of_le h.1 hb.size, fun i q hq => by
    obtain ⟨a, b, c, d⟩ := h.2 i q hq
    exact ⟨(hb.cell (p := ⟨g, i * 4, none⟩) h.1).trans a, (hb.cell (p := ⟨g, i * 4 + 1, none⟩) h.1).trans b, (hb.cell (p := ⟨g, i * 4 + 2, none⟩) h.1).trans c, (hb.cell (p := ⟨g, i * 4 + 3, none⟩) h.1).trans d⟩⟩
theorem Pcs.of_owp {w : World} {B : Nat} {v : Value} {l : List Pv} (h : Owp B w v l) (h0 : 0 < l.length) : ∃ g c, v = .slice (some ⟨g, 0, none⟩) l.length c ∧ Pcs w g l := by
  obtain ⟨g, c, rfl, _⟩ := h.form h0
  exact ⟨g, c, rfl, (h.lt g rfl).2, fun i q hq => h.cell rfl hq⟩
noncomputable def dtl (d t : ByteArray) (k : Nat) : List Tk := if k = 0 then [] else dtk d t k
noncomputable def dpl (d t : ByteArray) (k : Nat) : List Pv := if k = 0 then [⟨0, 0, t.size, 0⟩] else pvs (dtk d t k) t (pts (dtk d t k) t)
theorem dtk_may {d t : ByteArray} {k : Nat} (h0 : k ≠ 0) : ∀ x ∈ dtk d t k, may x = true := fun x hx => by
  unfold dtk at hx
  rw [if_neg h0] at hx
  exact (Px.G_may _ _ _ _ (fun h => absurd rfl h) x hx).1
theorem dtl_may (d t : ByteArray) (k : Nat) : ∀ x ∈ dtl d t k, may x = true := fun x hx => by
  unfold dtl at hx
  by_cases h0 : k = 0
  · rw [if_pos h0] at hx; exact absurd hx (by simp)
  · rw [if_neg h0] at hx; exact dtk_may h0 x hx
theorem dpl_chn (d t : ByteArray) (k : Nat) : Chn 0 (pts (dtk d t k) t) (dtk d t k).length := pts_chn _ _
theorem dpl_ok (d t : ByteArray) (k : Nat) : Pok (dtl d t k).length t (dpl d t k) := by
  unfold dtl dpl
  by_cases h0 : k = 0
  · rw [if_pos h0, if_pos h0]
    intro dn q td e
    cases dn with
    | nil => simp at e; obtain ⟨rfl, rfl⟩ := e; exact ⟨Nat.le_refl 0, Nat.le_refl 0, by show 0 + t.size ≤ t.size; omega, Nat.zero_le 2⟩
    | cons x dn => simp at e
  · rw [if_neg h0, if_neg h0]
    exact pok_pvs (dpl_chn d t k) (dtk_size d t k)
theorem dpl_len (d t : ByteArray) (k : Nat) (ht : t.size ≤ 100000) : 0 < (dpl d t k).length ∧ (dpl d t k).length ≤ 1000 := by
  unfold dpl
  by_cases h0 : k = 0
  · rw [if_pos h0]; exact ⟨by simp, by simp⟩
  · rw [if_neg h0]
    have h1 := pts_length (dtk d t k) t
    have h2 := dtk_len d t k
    unfold cnk at h1
    unfold pvs
    rw [List.length_map]
    refine ⟨?_, by omega⟩
    unfold pts prt
    simp
theorem pbk_dbs (A : Option Addr) (c : Nat) (d t : ByteArray) (k : Nat) : bkb (pbk A c (dtl d t k) t (dpl d t k) 0) 0 = dbs d t k := by
  unfold dtl dpl dbs sbt
  by_cases h0 : k = 0
  · rw [if_pos h0, if_pos h0, if_pos h0]
    have e : t.extract 0 (0 + t.size) = t := by rw [Nat.zero_add]; exact ByteArray.extract_zero_size
    simp only [pbk, bkb, List.append_nil, e]
    rfl
  · rw [if_neg h0, if_neg h0, if_neg h0]
    exact pbk_prs 0 (dpl_chn d t k)
def CutR (W : World) (d t : ByteArray) (k : Nat) (e : Ending) (w' : World) : Prop :=
  ∃ A n c g cp, e = .returned (.tuple #[.slice A n c, .slice (some ⟨g, 0, none⟩) (dpl d t k).length cp, .int .i64 0]) ∧ IsTks w' A n (dtl d t k) ∧ n ≤ c ∧ Pcs w' g (dpl d t k) ∧ Below W.heap.size W w'
theorem cut_zero15 (d t : ByteArray) (w : World) (ht : t.size ≤ 30000) : Calls Tryz.prog 11 #[.string d, .string t, .int .i64 0] w (CutR w d t 0) := by
  obtain ⟨z, hz⟩ : ∃ z, t.size = z := ⟨_, rfl⟩
  have hz3 : z ≤ 30000 := by omega
  have HR := Lib.hid (show dtl d t 0 = [] ∧ dpl d t 0 = [⟨0, 0, z, 0⟩] from ⟨rfl, by unfold dpl; rw [if_pos rfl, hz]⟩)
  go_enter Tryz.func11, Tryz.ntmps11
  go_wp2_with fail
  go_ret3
  obtain ⟨h1, h2⟩ := HR.out
  unfold CutR
  rw [h1, h2]
  refine ⟨none, 0, 0, w.heap.size, 1, rfl, ⟨rfl, Nat.zero_le _, fun c hc => absurd hc (by simp), .inl rfl⟩, Nat.le_refl _, ⟨by simp, fun i q hq => ?_⟩, (Below.refl _ _).alloc (Nat.le_refl _) _⟩
  cases i with
  | zero => simp at hq; subst hq; exact ⟨by simp, by simp, by simp, by simp⟩
  | succ i => simp at hq
set_option maxHeartbeats 1000000 in
theorem cut_some15 (d t : ByteArray) (k : Nat) (w : World) (H : Tabx w) (hk : 1 ≤ k ∧ k ≤ 9) (hd : d.size ≤ 100000) (ht : t.size ≤ 30000) : Calls Tryz.prog 11 #[.string d, .string t, .int .i64 k] w (CutR w d t k) := by
  have h0 : k ≠ 0 := by omega
  have e1 : ((k : Int) == 0) = false := by rw [beq_eq_false_iff_ne]; omega
  have e2 : (k == 0) = false := by rw [beq_eq_false_iff_ne]; omega
  have e3 : ¬ k = 0 := h0
  have HTk := Lib.hid (show Calls Tryz.prog 19 #[.string d, .string t, .int .i64 k] w (Px.TkR w (dtk d t k)) from by
    have h := Px.tokens_any d t k w H.1 hk (by omega) (by omega)
    unfold dtk
    rw [if_neg h0]
    exact h)
  have hlen := dtk_len d t k
  have HPt := Lib.hid (fun (A : Option Addr) (c : Nat) (w' : World) (b : Below w.heap.size w w') (hI : IsTks w' A (dtk d t k).length (dtk d t k)) (hc : (dtk d t k).length ≤ c) =>
    parts_yes A (dtk d t k).length c (dtk d t k) t w' (H.keep b).2 hI hc (by omega) (by omega) (dtk_may h0) (dtk_size d t k))
  have HR := Lib.hid (show dtl d t k = dtk d t k ∧ dpl d t k = pvs (dtk d t k) t (pts (dtk d t k) t) from ⟨by unfold dtl; rw [if_neg h0], by unfold dpl; rw [if_neg h0]⟩)
  have HLn := Lib.hid (dpl_len d t k (by omega)).1
  obtain ⟨L, hL⟩ : ∃ L, dtk d t k = L := ⟨_, rfl⟩
  rw [hL] at HTk HPt HR
  obtain ⟨n, hn⟩ : ∃ n, L.length = n := ⟨_, rfl⟩
  rw [hL, hn] at hlen
  rw [hn] at HPt
  have HN := Lib.hid hn
  have hn3 : n ≤ 30000 := by omega
  clear hL H hn h0
  go_enter Tryz.func11, Tryz.ntmps11
  go_wp2_with (first
    | (go_at_call 19; (with_reducible refine HTk.out.mono ?_); rintro e w1 ⟨A, c, rfl, h1, hc1, b1⟩; rw [HN.out] at h1 hc1 ⊢; have H1 := Lib.hid (And.intro h1 hc1); have B1 := Lib.hid b1; clear h1 hc1 b1)
    | (go_at_call 20; (with_reducible refine (HPt.out A c w1 B1.out H1.out.1 H1.out.2).mono ?_); rintro e w2 ⟨v, rfl, o2, b2⟩; have O2 := Lib.hid o2; have H2 := Lib.hid (H1.out.1.below b2); have B2 := Lib.hid (B1.out.trans (b2.mono B1.out.size)); clear o2 b2))
  go_ret3
  obtain ⟨h1, h2⟩ := HR.out
  have hl := HLn.out
  unfold CutR
  rw [h2] at hl
  rw [h1, h2]
  obtain ⟨g, cp, rfl, hp⟩ := Pcs.of_owp O2.out hl
  exact ⟨A, n, c, g, cp, rfl, H2.out, H1.out.2, hp, B2.out⟩
theorem cut15_any (d t : ByteArray) (k : Nat) (w : World) (H : Tabx w) (hk : k ≤ 9) (hd : d.size ≤ 100000) (ht : t.size ≤ 30000) : Calls Tryz.prog 11 #[.string d, .string t, .int .i64 k] w (CutR w d t k) := by
  by_cases h0 : k = 0
  · subst h0; exact cut_zero15 d t w ht
  · exact cut_some15 d t k w H (by omega) hd ht
theorem blocks_any (A A2 : Option Addr) (n c n2 c2 : Nat) (s : ByteArray) (w : World) : Calls Tryz.prog 13 #[.slice A n c, .slice A2 n2 c2, .string s] w fun e w' =>
    e = .returned (.func (.func 25) #[] #[.pointer (some ⟨w.heap.size + 1 + 1, 0, none⟩), .pointer (some ⟨w.heap.size + 1, 0, none⟩), .pointer (some ⟨w.heap.size, 0, none⟩)]) ∧
      w' = ((w.alloc (.cells #[.slice A n c] 32)).alloc (.cells #[.slice A2 n2 c2] 33)).alloc (.cells #[.string s] 9) := by
  have hmf : ∀ (fn : Fn) (first cap : Array Value) (w : World), (Instr.makeFunc fn first cap).run Tryz.prog w = .ok (.func fn first cap) w := fun _ _ _ _ => rfl
  go_enter Tryz.func13, Tryz.ntmps13
  go_wp2
  go_ret
  exact ⟨by simp, rfl⟩
theorem parts_stream (A : Option Addr) (n c g cp : Nat) (L : List Tk) (s : ByteArray) (PL : List Pv) (most : Int) (w1 : World) (hT : Tabs w1) (hI : IsTks w1 A n L) (hnc : n ≤ c) (hn : n ≤ 100000) (hs : s.size ≤ 200000) (hPl : PL.length ≤ 1000) (hok : Pok n s PL) (hP : Pcs w1 g PL)
    (hm : ∀ x ∈ L, may x = true) (hlen : (bkb (pbk A c L s PL 0) 0).length ≤ 50000000) :
    Calls Tryz.prog 12 #[.func (.func 25) #[] #[.pointer (some ⟨w1.heap.size + 1 + 1, 0, none⟩), .pointer (some ⟨w1.heap.size + 1, 0, none⟩), .pointer (some ⟨w1.heap.size, 0, none⟩)], .int .i64 most]
      (((w1.alloc (.cells #[.slice A n c] 32)).alloc (.cells #[.slice (some ⟨g, 0, none⟩) PL.length cp] 33)).alloc (.cells #[.string s] 9)) fun e w' =>
      (Fit most (pbk A c L s PL 0) → e = .returned (.tuple #[.string (textR (nb (bkb (pbk A c L s PL 0) 0)) (bkb (pbk A c L s PL 0) 0).length), .int .i64 0]) ∧ Below w1.heap.size w1 w') ∧
      (¬ Fit most (pbk A c L s PL 0) → e = .returned (.tuple #[.string ⟨#[]⟩, .int .i64 4]) ∧ Below w1.heap.size w1 w') := by
  have b3 : Below w1.heap.size w1 (((w1.alloc (.cells #[.slice A n c] 32)).alloc (.cells #[.slice (some ⟨g, 0, none⟩) PL.length cp] 33)).alloc (.cells #[.string s] 9)) :=
    (((Below.refl _ _).alloc (Nat.le_refl _) _).alloc (by simp) _).alloc (by simp; omega) _
  have c1 : (((w1.alloc (.cells #[.slice A n c] 32)).alloc (.cells #[.slice (some ⟨g, 0, none⟩) PL.length cp] 33)).alloc (.cells #[.string s] 9)).cell? ⟨w1.heap.size, 0, none⟩ = some (.slice A n c) :=
    ((Hb.new w1 _ _).alloc _ |>.alloc _).cell1
  have c2 : (((w1.alloc (.cells #[.slice A n c] 32)).alloc (.cells #[.slice (some ⟨g, 0, none⟩) PL.length cp] 33)).alloc (.cells #[.string s] 9)).cell? ⟨w1.heap.size + 1, 0, none⟩ = some (.slice (some ⟨g, 0, none⟩) PL.length cp) := by
    have := ((Hb.new (w1.alloc (.cells #[.slice A n c] 32)) 33 #[.slice (some ⟨g, 0, none⟩) PL.length cp]).alloc (.cells #[.string s] 9)).cell1
    rwa [World.size_alloc] at this
  have c3 : (((w1.alloc (.cells #[.slice A n c] 32)).alloc (.cells #[.slice (some ⟨g, 0, none⟩) PL.length cp] 33)).alloc (.cells #[.string s] 9)).cell? ⟨w1.heap.size + 1 + 1, 0, none⟩ = some (.string s) := by
    have := (Hb.new ((w1.alloc (.cells #[.slice A n c] 32)).alloc (.cells #[.slice (some ⟨g, 0, none⟩) PL.length cp] 33)) 9 #[.string s]).cell1
    rwa [World.size_alloc, World.size_alloc] at this
  have hz : (((w1.alloc (.cells #[.slice A n c] 32)).alloc (.cells #[.slice (some ⟨g, 0, none⟩) PL.length cp] 33)).alloc (.cells #[.string s] 9)).heap.size = w1.heap.size + 1 + 1 + 1 := by simp
  generalize ((w1.alloc (.cells #[.slice A n c] 32)).alloc (.cells #[.slice (some ⟨g, 0, none⟩) PL.length cp] 33)).alloc (.cells #[.string s] 9) = w3 at b3 c1 c2 c3 hz ⊢
  have eg : ∀ (args : Array Value) (w : World), (callFunc 25 args).run Tryz.prog w = .ok (.enter 25 args) w := enters_of Tryz.func25 (by kernel_rfl) rfl
  have hP3 := hP.below b3
  refine (callsIn_wide.1 (stream_any 2 25 _ most (pbk A c L s PL 0) w3 (Nat.le_refl _) (hT.keep b3) eg ?_ ?_ ?_)).mono ?_
  · intro l J Jx Jp W hW hJ hJx hJp hJT hY h0
    exact blocks1_in 2 l _ _ _ w3.heap.size A n c g cp L s PL _ (by decide) hnc (by omega) (by omega) hPl hok rfl (by omega) (by omega) (by omega) hP3.1 W J Jx Jp hJ hJT hY
      ((hW.cell (p := ⟨w1.heap.size + 1 + 1, 0, none⟩) (by show w1.heap.size + 1 + 1 < w3.heap.size; omega)).trans c3) ((hW.cell (p := ⟨w1.heap.size + 1, 0, none⟩) (by show w1.heap.size + 1 < w3.heap.size; omega)).trans c2) ((hW.cell (p := ⟨w1.heap.size, 0, none⟩) (by show w1.heap.size < w3.heap.size; omega)).trans c1)
      (hP3.below hW).2 h0
  · intro x hx
    obtain ⟨q, hq, e1, e2, e3, e4, e5⟩ := pbk_mem hx
    obtain ⟨dn, td, hdt⟩ := List.append_of_mem hq
    obtain ⟨o1, o2, o3, o4⟩ := hok dn q td hdt
    rw [e1, e2, e3, e4]
    exact ⟨(hI.below b3).sub hnc o1 o2, by omega, by omega, o4, fun _ t ht => hm t (seg_mem ht)⟩
  · intro pre r hpr
    exact bkb_pre_le hpr hlen
  · intro e w' q
    exact ⟨fun h => ⟨(q.1 h).1, b3.trans ((q.1 h).2.mono b3.size)⟩, fun h => ⟨(q.2 h).1, b3.trans ((q.2 h).2.mono b3.size)⟩⟩
set_option maxHeartbeats 1000000 in
theorem deflate_any (d t : ByteArray) (k : Nat) (most : Int) (w : World) (H : Tabx w) (hd : d.size ≤ 100000) (ht : t.size ≤ 30000) (hk : k ≤ 9) :
    Calls Tryz.prog 8 #[.string d, .string t, .int .i64 k, .int .i64 most] w fun e w' => Below w.heap.size w w' ∧
      ((((dbs d t k).length + 7) / 8 : Nat) ≤ most → e = .returned (.tuple #[.string (dby d t k), .int .i64 0])) ∧ (¬ (((dbs d t k).length + 7) / 8 : Nat) ≤ most → e = .returned (.tuple #[.string ⟨#[]⟩, .int .i64 4])) := by
  have HC := Lib.hid (cut15_any d t k w H hk hd ht)
  have hsh := dby_short d t k (by omega)
  rw [dby_size] at hsh
  have hbn : bnd t.size ≤ 100000 := by unfold bnd; split <;> omega
  have hln := dpl_len d t k (by omega)
  have htl : (dtl d t k).length ≤ 30000 := by
    unfold dtl
    split
    · simp
    · have := dtk_len d t k; omega
  have HS := Lib.hid (fun (A : Option Addr) (n c g cp : Nat) (w1 : World) (b : Below w.heap.size w w1) (hI : IsTks w1 A n (dtl d t k)) (hnc : n ≤ c) (hP : Pcs w1 g (dpl d t k)) =>
    parts_stream A n c g cp (dtl d t k) t (dpl d t k) most w1 (H.keep b).2 hI hnc (by have := hI.leng; omega) (by omega) hln.2 (by have := dpl_ok d t k; rwa [hI.leng] at this) hP (dtl_may d t k) (by rw [pbk_dbs]; omega))
  have HF := Lib.hid (fun (A : Option Addr) (c : Nat) => (show Fit most (pbk A c (dtl d t k) t (dpl d t k) 0) ↔ (((dbs d t k).length + 7) / 8 : Nat) ≤ most from by unfold Fit; rw [pbk_dbs]; omega))
  have HB := Lib.hid (fun (A A2 : Option Addr) (n c n2 c2 : Nat) (w1 : World) => blocks_any A A2 n c n2 c2 t w1)
  obtain ⟨N, hN⟩ : ∃ N, (dpl d t k).length = N := ⟨_, rfl⟩
  rw [hN] at HS
  unfold CutR at HC
  rw [hN] at HC
  clear H hd ht hk hsh hbn hln htl hN
  by_cases hf : (((dbs d t k).length + 7) / 8 : Nat) ≤ most
  · have HFf := Lib.hid hf
    clear hf
    go_enter Tryz.func8, Tryz.ntmps8
    go_wp2_with (first
      | (go_at_call 11; (with_reducible refine HC.out.mono ?_); rintro e w1 ⟨A, n, c, g, cp, rfl, h1, h2, h3, b1⟩; have H1 := Lib.hid (And.intro h1 (And.intro h2 h3)); have B1 := Lib.hid b1; clear h1 h2 h3 b1)
      | (go_at_call 13; (with_reducible refine (HB.out A _ n c _ _ w1).mono ?_); rintro e w2 ⟨rfl, rfl⟩)
      | (go_at_call 12; (with_reducible refine (HS.out A n c g cp w1 B1.out H1.out.1 H1.out.2.1 H1.out.2.2).mono ?_); rintro e w3 ⟨q1, q2⟩; obtain ⟨rfl, b3⟩ := q1 ((HF.out A c).2 HFf.out); have B3 := Lib.hid (B1.out.trans (b3.mono B1.out.size)); clear q1 q2 b3))
    go_ret2
    exact ⟨B3.out, fun _ => by rw [pbk_dbs]; rfl, fun h => by exfalso; have := HFf.out; omega⟩
  · have HFf := Lib.hid hf
    clear hf
    go_enter Tryz.func8, Tryz.ntmps8
    go_wp2_with (first
      | (go_at_call 11; (with_reducible refine HC.out.mono ?_); rintro e w1 ⟨A, n, c, g, cp, rfl, h1, h2, h3, b1⟩; have H1 := Lib.hid (And.intro h1 (And.intro h2 h3)); have B1 := Lib.hid b1; clear h1 h2 h3 b1)
      | (go_at_call 13; (with_reducible refine (HB.out A _ n c _ _ w1).mono ?_); rintro e w2 ⟨rfl, rfl⟩)
      | (go_at_call 12; (with_reducible refine (HS.out A n c g cp w1 B1.out H1.out.1 H1.out.2.1 H1.out.2.2).mono ?_); rintro e w3 ⟨q1, q2⟩; obtain ⟨rfl, b3⟩ := q2 (fun h => by have h1 := (HF.out A c).1 h; have h2 := HFf.out; omega); have B3 := Lib.hid (B1.out.trans (b3.mono B1.out.size)); clear q1 q2 b3))
    go_ret2
    exact ⟨B3.out, fun h => by exfalso; have := HFf.out; omega, fun _ => rfl⟩
theorem dfs : Dfs Tabx where
  keep := fun h b => h.keep b
  yes := fun d t k most w H hd ht hk hm hf => (deflate_any d t k most w H hd ht hk).mono fun e w' q => ⟨q.2.1 hf, q.1⟩
  full := fun d t k most w H hd ht hk hm hf => (deflate_any d t k most w H hd ht hk).mono fun e w' q => ⟨q.2.2 (by omega), q.1⟩
  no := fun d t k most w H hk => deflate_no d t k most w hk
  bound := fun n w H hn => bound_any n w hn
end Go.Proofs.YtldiojnkoobbmaaGreatDoor.V
