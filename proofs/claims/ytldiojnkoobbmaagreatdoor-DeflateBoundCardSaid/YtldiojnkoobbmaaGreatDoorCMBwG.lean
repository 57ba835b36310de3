/- Texts of one place, one behind the other: BwG, BwH, BwJ, BwL, BwN, BwR. -/
import Derived.Test.YtldiojnkoobbmaaGreatDoorCMRns
import Derived.Test.YtldiojnkoobbmaaGreatDoorCMPkE
import Derived.BigRegion
import Derived.Test.YtldiojnkoobbmaaGreatDoorCMMathT
import Derived.ChangeSlices
import Derived.Deep.Slices
import Derived.BigQuiet
import Derived.Deep.QuietTactic
import Derived.Test.YtldiojnkoobbmaaGreatDoorCMThg
import Derived.Test.YtldiojnkoobbmaaGreatDoorCDrw
import Derived.Laws.Rows
import Derived.Deep.RegionWith
namespace Go.Proofs.YtldiojnkoobbmaaGreatDoor.V
open Go Go.RowKit M U
set_option linter.unusedVariables false
set_option linter.unusedSimpArgs false
def two (a b : Value) (i : Nat) : Value := if i = 0 then a else b
def C2 (w : World) (g : Nat) (a b : Value) : Prop := w.rowIs g 77 2 (two a b)
section
variable {w w' : World} {g : Nat} {a b : Value}
theorem C2.new (w : World) (a b : Value) : C2 (w.alloc (.cells #[a, b] 77)) w.heap.size a b := ⟨#[a, b], heap_alloc_new _ _, rfl, fun i hi => by
  match i, hi with
  | 0, _ => rfl
  | 1, _ => rfl⟩
theorem C2.at0 (h : C2 w g a b) : w.cell? ⟨g, 0, none⟩ = some a := World.rowIs.cell h (i := 0) (by omega)
theorem C2.at1 (h : C2 w g a b) : w.cell? ⟨g, 1, none⟩ = some b := World.rowIs.cell h (i := 1) (by omega)
theorem C2.frozen (h : C2 w g a b) (i : Nat) : w.frozen? ⟨g, i, none⟩ = false := World.rowIs.frozen h i
theorem C2.put (h : C2 w g a b) (c d : Value) : C2 ((w.setCell ⟨g, 0, none⟩ c).setCell ⟨g, 1, none⟩ d) g c d :=
  World.rowIs.congr (World.rowIs.set (World.rowIs.set h 0 c) 1 d) (fun j hj => by
    match j, hj with
    | 0, _ => rfl
    | 1, _ => rfl)
theorem C2.row (h : C2 w g a b) : w.heap[g]? = some (.cells #[a, b] 77 (0, 0)) := by
  obtain ⟨c, h1, h2, h3⟩ := h
  have : c = #[a, b] := by
    apply Array.ext_getElem?
    intro i
    match i with
    | 0 => exact h3 0 (by omega)
    | 1 => exact h3 1 (by omega)
    | i + 2 => rw [Array.getElem?_eq_none (by omega), Array.getElem?_eq_none (by simp)]
  rw [h1, this]
end
theorem codesSize : (Tryz.prog.info? 77).map (fun i => i.size) = some 2 := by kernel_rfl
def fxl (j : Nat) : Nat := if j < 144 then 8 else if j < 256 then 9 else if j < 280 then 7 else 8
section
variable {w0 w : World} {cb la da : Nat} {f g : Nat → Nat}
end
end Go.Proofs.YtldiojnkoobbmaaGreatDoor.V

namespace Go.Proofs.YtldiojnkoobbmaaGreatDoor.V
open Go Go.RowKit M U
set_option linter.unusedVariables false
set_option linter.unusedSimpArgs false
def cs (b : Bool) : List Sy → Nat → Nat
  | [], _ => 0
  | y :: S, j => cs b S j + if y.d = b ∧ y.n = j then 1 else 0
theorem cs_append (b : Bool) : ∀ (S T : List Sy) (j : Nat), cs b (S ++ T) j = cs b S j + cs b T j
  | [], T, j => by simp [cs]
  | y :: S, T, j => by simp only [List.cons_append, cs, cs_append b S T j]; omega
theorem cs_le (b : Bool) : ∀ (S : List Sy) (j : Nat), cs b S j ≤ S.length
  | [], j => Nat.le_refl _
  | y :: S, j => by have := cs_le b S j; simp only [cs, List.length_cons]; split <;> omega
theorem sys_in {L : List Tk} (hm : ∀ t ∈ L, may t = true) (hg : ∀ t ∈ L, t.ok) : ∀ y ∈ sys L, (y.d = false → y.n < 286) ∧ (y.d = true → y.n < 30) := by
  intro y hy
  unfold sys at hy
  rw [List.mem_append, List.mem_flatMap] at hy
  rcases hy with ⟨t, ht, hy⟩ | hy
  · have h1 := hm t ht
    have h2 := (hg t ht).l
    unfold sy1 at hy
    split at hy
    · simp only [List.mem_singleton] at hy
      subst hy
      exact ⟨fun _ => by simp only; omega, fun h => by cases h⟩
    · rename_i h0
      have hM : isM t = true := by
        unfold may at h1
        rw [Bool.or_eq_true] at h1
        rcases h1 with q | q
        · exact absurd (isB_iff.1 q).1 h0
        · exact q
      have hM2 := isM_iff.1 hM
      have i1 := (len_in (n := t.n.toNat) (by omega)).1
      have i2 := (dist_in (n := t.d.toNat) (by omega)).1
      simp only [List.mem_cons, List.not_mem_nil, or_false] at hy
      rcases hy with rfl | rfl
      · exact ⟨fun _ => by simp only; omega, fun h => by cases h⟩
      · exact ⟨fun h => (by cases h), fun _ => by simp only; omega⟩
  · simp only [List.mem_singleton] at hy
    subst hy
    exact ⟨fun _ => by simp only; omega, fun h => by cases h⟩
theorem sys_len (L : List Tk) : (sys L).length ≤ 2 * L.length + 1 := by
  unfold sys
  rw [List.length_append, List.length_singleton]
  have := fsy_len L
  omega
theorem results_row_tmp {P : Program} {fn : Func} {p u : Tmp} {ty : TypeId} (h : fn.results = #[.cell p ty, .tmp u]) (tmps : Array Value) (w : World) (g : Nat) (t : TypeId) (cs : Array Value) (fr : Nat × Nat) (d : TypeDesc)
    (hp : tmps.getD p undef = .pointer (some ⟨g, 0, none⟩)) (hg : w.heap[g]? = some (.cells cs t fr))
    (hu : P.underlying ty = some d) (hd : (match d with | .struct _ | .array _ _ => true | _ => false) = true) (hi : (P.info? ty).map (·.size) = some cs.size) :
    (results fn tmps).run P w = .ok (.tuple #[.agg cs, tmps.getD u undef]) w := by
  have hp' : tmps[p]?.getD undef = .pointer (some ⟨g, 0, none⟩) := by simpa using hp
  simp [results, h, hp', asAddr, run_loadVar_row w g t ty cs fr d hg hu hd hi, Sem.run_bind]
section
variable {w0 w : World} {lb db bs : Nat} {v : Value} {S : List Sy} {f g : Nat → Nat}
end
end Go.Proofs.YtldiojnkoobbmaaGreatDoor.V

namespace Go.Proofs.YtldiojnkoobbmaaGreatDoor.V
open Go Go.RowKit M U
set_option linter.unusedVariables false
set_option linter.unusedSimpArgs false
def wsy (l1 : Nat → Nat) (n1 : Nat) (l2 : Nat → Nat) (n2 : Nat) (y : Sy) : List Nat := (if y.d = true then cdb (cod l2 n2 y.n) (l2 y.n) else cdb (cod l1 n1 y.n) (l1 y.n)) ++ put y.e y.b
structure Fine (l : Nat → Nat) (n : Nat) : Prop where
  may : May l n
  wt : weight l n ≤ 32768
  byte : ∀ i, l i ≤ 255
theorem Fine.erc {l : Nat → Nat} {n : Nat} (h : Fine l n) : M.erc l n = 0 ∧ outn l n = n := by
  have hk := kind_of h.may
  have hw := h.wt
  have h5 : kind l n ≠ 5 ∧ kind l n ≠ 4 := by
    rw [hk]
    constructor
    · split
      · omega
      · split
        · omega
        · split
          · omega
          · split <;> omega
    · split
      · omega
      · split
        · omega
        · split
          · omega
          · split <;> omega
  have e0 : M.erc l n = 0 := by unfold M.erc; rw [if_neg h5.1, if_neg h5.2]
  exact ⟨e0, by unfold outn; rw [if_pos e0]⟩
theorem Crow.at' {w w' : World} {b n : Nat} {F G : Nat → Nat} (h : C.Crow w b n F G) (e : w'.heap[b]? = w.heap[b]?) : C.Crow w' b n F G := by
  obtain ⟨c, h1, h2⟩ := h
  exact ⟨c, e.trans h1, h2⟩
section
variable {B P ba n1 bb n2 Z sb q c : Nat} {w w' : World} {v v' : Value} {bs bs' : List Nat} {l1 l2 : Nat → Nat} {S : List Sy}
end
theorem sys_b {L : List Tk} (hm : ∀ t ∈ L, may t = true) : ∀ y ∈ sys L, y.b ≤ 13 ∧ y.e ≤ 32768 := by
  intro y hy
  unfold sys at hy
  rw [List.mem_append, List.mem_flatMap] at hy
  rcases hy with ⟨t, ht, hy⟩ | hy
  · have h1 := hm t ht
    unfold sy1 at hy
    split at hy
    · simp only [List.mem_singleton] at hy
      subst hy
      simp
    · rename_i h0
      have hM : isM t = true := by
        unfold may at h1
        rw [Bool.or_eq_true] at h1
        rcases h1 with q | q
        · exact absurd (isB_iff.1 q).1 h0
        · exact q
      have hM2 := isM_iff.1 hM
      have i1 := (len_in (n := t.n.toNat) (by omega)).1
      have i2 := (dist_in (n := t.d.toNat) (by omega)).1
      have j1 := lb_le _ i1
      have j2 := db_le _ i2
      have x1 : lex t.n.toNat ≤ t.n.toNat := Nat.sub_le _ _
      have x2 : dex t.d.toNat ≤ t.d.toNat := Nat.sub_le _ _
      simp only [List.mem_cons, List.not_mem_nil, or_false] at hy
      rcases hy with rfl | rfl
      · exact ⟨by simp only; omega, by simp only; omega⟩
      · exact ⟨by simp only; omega, by simp only; omega⟩
  · simp only [List.mem_singleton] at hy
    subst hy
    simp
theorem wsy_len (l1 : Nat → Nat) (n1 : Nat) (l2 : Nat → Nat) (n2 : Nat) (y : Sy) (h1 : l1 y.n ≤ 255) (h2 : l2 y.n ≤ 255) (hb : y.b ≤ 13) : (wsy l1 n1 l2 n2 y).length ≤ 268 := by
  unfold wsy
  rw [List.length_append, put_length]
  split <;> rw [cdb_length] <;> omega
theorem wss_len (l1 : Nat → Nat) (n1 : Nat) (l2 : Nat → Nat) (n2 : Nat) (h1 : ∀ i, l1 i ≤ 255) (h2 : ∀ i, l2 i ≤ 255) : ∀ (S : List Sy), (∀ y ∈ S, y.b ≤ 13) → (S.flatMap (wsy l1 n1 l2 n2)).length ≤ 268 * S.length
  | [], _ => by simp
  | y :: S, hS => by
    rw [List.flatMap_cons, List.length_append, List.length_cons]
    have := wsy_len l1 n1 l2 n2 y (h1 _) (h2 _) (hS y (by simp))
    have := wss_len l1 n1 l2 n2 h1 h2 S (fun z hz => hS z (by simp [hz]))
    omega
end Go.Proofs.YtldiojnkoobbmaaGreatDoor.V

namespace Go.Proofs.YtldiojnkoobbmaaGreatDoor.V
open Go Go.RowKit M U
set_option linter.unusedVariables false
set_option linter.unusedSimpArgs false
def Rok (r : Rn) : Prop := r.s ≤ 18 ∧ r.e ≤ 127
theorem zrs_ok (n : Nat) : ∀ r ∈ zrs n, Rok r := by
  induction n using Nat.strongRecOn with
  | _ n ih =>
    intro r hr
    by_cases h : 11 ≤ n
    · rw [zrs_many h, List.mem_cons] at hr
      rcases hr with rfl | hr
      · exact ⟨Nat.le_refl _, by simp only; omega⟩
      · exact ih _ (by omega) r hr
    · by_cases h3 : 3 ≤ n
      · rw [zrs_some h h3, List.mem_singleton] at hr
        subst hr
        exact ⟨by simp only; omega, by simp only; omega⟩
      · rw [zrs_few h3] at hr
        rw [List.eq_of_mem_replicate hr]
        exact ⟨by simp only; omega, by simp only; omega⟩
theorem oths_ok (v : Nat) (hv : v ≤ 15) (n : Nat) : ∀ r ∈ oths v n, Rok r := by
  induction n using Nat.strongRecOn with
  | _ n ih =>
    intro r hr
    by_cases h : 3 ≤ n
    · rw [oths_many h, List.mem_cons] at hr
      rcases hr with rfl | hr
      · exact ⟨by simp only; omega, by simp only; omega⟩
      · exact ih _ (by omega) r hr
    · rw [oths_few h] at hr
      rw [List.eq_of_mem_replicate hr]
      exact ⟨by simp only; omega, by simp only; omega⟩
theorem pk_ok : ∀ l : List Nat, (∀ v ∈ l, v ≤ 15) → ∀ r ∈ pk l, Rok r := by
  intro l
  generalize hn : l.length = n
  induction n using Nat.strongRecOn generalizing l with
  | _ n ih =>
    cases l with
    | nil => intro _ r hr; rw [pk_nil] at hr; cases hr
    | cons v l =>
      intro hl r hr
      rw [pk_cons, List.mem_append] at hr
      have hv := hl v (by simp)
      rcases hr with hr | hr
      · unfold one at hr
        split at hr
        · exact zrs_ok _ r hr
        · unfold oth at hr
          rw [List.mem_cons] at hr
          rcases hr with rfl | hr
          · exact ⟨by simp only; omega, by simp only; omega⟩
          · exact oths_ok v hv _ r hr
      · rw [List.length_cons] at hn
        exact ih (l.drop (ru v l)).length (by rw [List.length_drop]; omega) _ rfl (fun x hx => hl x (by simp [List.mem_of_mem_drop hx])) r hr
def rbn (s : Nat) : Nat := if s < 16 then 0 else if s = 16 then 2 else if s = 17 then 3 else 7
theorem rbn_le (s : Nat) : rbn s ≤ 7 := by unfold rbn; repeat' split
                                           all_goals omega
theorem rbn_eq {s : Nat} (h : s ≤ 18) : rbs s = ((rbn s : Nat) : Int) := by
  unfold rbs rbn
  split
  · rfl
  · split
    · rfl
    · split
      · rfl
      · rw [if_pos (by omega)]; rfl
def rc : List Rn → Nat → Nat
  | [], _ => 0
  | y :: S, j => rc S j + if y.s = j then 1 else 0
theorem rc_append : ∀ (S T : List Rn) (j : Nat), rc (S ++ T) j = rc S j + rc T j
  | [], T, j => by simp [rc]
  | y :: S, T, j => by simp only [List.cons_append, rc, rc_append S T j]; omega
theorem rc_le : ∀ (S : List Rn) (j : Nat), rc S j ≤ S.length
  | [], j => Nat.le_refl _
  | y :: S, j => by have := rc_le S j; simp only [rc, List.length_cons]; split <;> omega
theorem rc_succ (S : List Rn) (k : Nat) (hk : k < S.length) (j : Nat) : rc (S.take (k + 1)) j = rc (S.take k) j + if (S.getD k default).s = j then 1 else 0 := by
  rw [List.take_add_one, List.getD, List.getElem?_eq_getElem hk, rc_append]
  simp [rc]
def wrn (l : Nat → Nat) (x : Rn) : List Nat := cdb (cod l 19 x.s) (l x.s) ++ put x.e (rbn x.s)
def inl (l : Nat → Nat) : List Nat := ord.map l
def dyb (x1 x2 : List Nat) (r : List Rn) (l : Nat → Nat) : List Nat :=
  put (upt x1 257 - 257) 5 ++ put (upt x2 1 - 1) 5 ++ put (upt (inl l) 4 - 4) 4 ++ ((inl l).take (upt (inl l) 4)).flatMap (fun x => put x 3) ++ r.flatMap (wrn l)
theorem upt_le (l : List Nat) (a : Nat) : a ≤ upt l a ∧ upt l a ≤ max a l.length := by
  have := upk_le l a l.length
  unfold upt
  exact this
section
variable {B P Zi Zr gl : Nat} {w w' : World} {v v' vi vr : Value} {bs bs' l : List Nat} {r : List Rn} {f : Nat → Nat}
end
theorem wrn_len (l : Nat → Nat) (hl : ∀ s, l s ≤ 7) (r : List Rn) : (r.flatMap (wrn l)).length ≤ 14 * r.length := by
  induction r with
  | nil => simp
  | cons x r ih =>
    rw [List.flatMap_cons, List.length_append, List.length_cons]
    have : (wrn l x).length ≤ 14 := by
      unfold wrn
      rw [List.length_append, cdb_length, put_length]
      have := hl x.s
      have := rbn_le x.s
      omega
    omega
theorem put3_len (l : List Nat) : (l.flatMap (fun x => put x 3)).length = 3 * l.length := by
  induction l with
  | nil => rfl
  | cons x r ih => rw [List.flatMap_cons, List.length_append, List.length_cons, put_length, ih]; omega
theorem Fine.of_kind {l : Nat → Nat} {n : Nat} (hm : May l n) (hb : ∀ i, l i ≤ 255) (hk : kind l n ≤ 2) : Fine l n := by
  refine ⟨hm, ?_, hb⟩
  rcases Nat.lt_or_ge 32768 (weight l n) with g | g
  · rw [kind_of hm, if_neg (by omega), if_pos g] at hk
    omega
  · exact g
theorem inl_length (f : Nat → Nat) : (inl f).length = 19 := by unfold inl; rw [List.length_map]; rfl
end Go.Proofs.YtldiojnkoobbmaaGreatDoor.V

namespace Go.Proofs.YtldiojnkoobbmaaGreatDoor.V
open Go Go.RowKit M U
set_option linter.unusedVariables false
set_option linter.unusedSimpArgs false
noncomputable def hfl (c : Nat → Nat) (n L : Nat) : Nat → Nat := pl (lv_ex c n).choose (lv_ex c n).choose_spec.choose L
noncomputable def hfm (c : Nat → Nat) (n : Nat) : Nat := (lv_ex c n).choose
noncomputable def hfe (c : Nat → Nat) (n : Nat) : Nat → Nat × Nat := (lv_ex c n).choose_spec.choose
theorem hfl_eq (c : Nat → Nat) (n L : Nat) : hfl c n L = pl (hfm c n) (hfe c n) L := rfl
theorem hf_lv (c : Nat → Nat) (n : Nat) : IsLv c n (hfm c n) (hfe c n) := (lv_ex c n).choose_spec.choose_spec
theorem hf_nds (c : Nat → Nat) {n L : Nat} (h1 : 1 ≤ L) (hn : n ≤ 2 ^ L) : nds (hfm c n) ≤ L := (nds_le h1).2 (Nat.le_trans (hf_lv c n).le hn)
theorem hfl_le (c : Nat → Nat) {n L : Nat} (h1 : 1 ≤ L) (hn : n ≤ 2 ^ L) (s : Nat) : hfl c n L s ≤ L := pl_le (hf_lv c n) (hf_nds c h1 hn) h1 s
theorem hfl_fine (c : Nat → Nat) {n L : Nat} (h1 : 1 ≤ L) (h15 : L ≤ 15) (hn : n ≤ 2 ^ L) (h320 : n ≤ 320) : Fine (hfl c n L) n :=
  Fine.of_kind (pl_may (hf_lv c n) h320 (hf_nds c h1 hn) h1 h15) (fun i => Nat.le_trans (hfl_le c h1 hn i) (by omega)) (by
    rw [hfl_eq, pl_kind (hf_lv c n) h320 (hf_nds c h1 hn) h1 h15]
    split
    · omega
    · split <;> omega)
theorem fxl_fine : Fine fxl 288 := ⟨⟨by decide, fun i _ => by unfold fxl; split <;> (try split) <;> (try split) <;> omega⟩, by decide +kernel, fun i => by unfold fxl; split <;> (try split) <;> (try split) <;> omega⟩
theorem fives_fine : Fine (fun _ => 5) 30 := ⟨⟨by decide, fun i _ => by show 5 ≤ 15; decide⟩, by decide +kernel, fun i => by show 5 ≤ 255; decide⟩
noncomputable def ll1 (L : List Tk) : Nat → Nat := hfl (cs false (sys L)) 286 15
noncomputable def ll2 (L : List Tk) : Nat → Nat := hfl (cs true (sys L)) 30 15
noncomputable def lx1 (L : List Tk) : List Nat := (List.range 286).map (ll1 L)
noncomputable def lx2 (L : List Tk) : List Nat := (List.range 30).map (ll2 L)
noncomputable def rrs (L : List Tk) : List Rn := pk ((lx1 L).take (upt (lx1 L) 257) ++ (lx2 L).take (upt (lx2 L) 1))
noncomputable def ll3 (L : List Tk) : Nat → Nat := hfl (rc (rrs L)) 19 7
noncomputable def hdd (L : List Tk) : List Nat := dyb (lx1 L) (lx2 L) (rrs L) (ll3 L)
def sfx (L : List Tk) : List Nat := (sys L).flatMap (wsy fxl 288 (fun _ => 5) 30)
noncomputable def sbs (L : List Tk) : List Nat := (sys L).flatMap (wsy (ll1 L) 286 (ll2 L) 30)
noncomputable def blk (k : Nat) (L : List Tk) (raw : ByteArray) (last : Bool) (o : Nat) : List Nat :=
  if k = 0 then stb o raw last else if k = 1 then hdb 1 last ++ sfx L else hdb 2 last ++ hdd L ++ sbs L
noncomputable def bkm (k : Nat) (L : List Tk) (raw : ByteArray) (last : Bool) (o : Nat) : List Nat := if k = 0 then stm o raw last else blk k L raw last o
theorem bkm_blk0 {k : Nat} {L : List Tk} {raw : ByteArray} {last : Bool} {o : Nat} (h : k = 0 → raw.size ≤ 65535) : bkm k L raw last o = blk k L raw last o := by
  unfold bkm
  split
  · rename_i e; rw [e, stm_one (h e)]; unfold blk; rw [if_pos rfl]
  · rfl
theorem bkm_blk {k : Nat} {L : List Tk} {raw : ByteArray} {last : Bool} {o : Nat} (h : raw.size ≤ 65535) : bkm k L raw last o = blk k L raw last o := bkm_blk0 (fun _ => h)
theorem IsBys.of_br {w : World} {g n : Nat} {f : Nat → Nat} (h : Br w g n f) (hn : n ≤ 1000) (hf : ∀ i, f i ≤ 255) : IsBys w (some ⟨g, 0, none⟩) n ((List.range n).map f) :=
  ⟨by simp, by unfold maxLen; omega, fun x hx => by
    obtain ⟨i, _, rfl⟩ := List.mem_map.1 hx
    exact hf i, .inr ⟨g, 0, rfl, h.lt, fun i x hx => by
    have hi : i < n := by
      have := (List.getElem?_eq_some_iff.1 hx).1
      simpa using this
    rw [List.getElem?_map, List.getElem?_range hi] at hx
    simp only [Option.map_some, Option.some.injEq] at hx
    rw [← hx, Nat.zero_add]
    exact h.cell hi⟩⟩
theorem rrs_len (L : List Tk) : (rrs L).length ≤ 316 := by
  unfold rrs
  refine Nat.le_trans (pk_len _) ?_
  rw [List.length_append, List.length_take, List.length_take]
  have h1 : (lx1 L).length = 286 := by unfold lx1; simp
  have h2 : (lx2 L).length = 30 := by unfold lx2; simp
  omega
theorem hdd_len (L : List Tk) : (hdd L).length ≤ 5000 := by
  unfold hdd dyb
  simp only [List.length_append, put_length, put3_len, List.length_take]
  have h1 := wrn_len (ll3 L) (fun s => hfl_le _ (by decide) (by decide) s) (rrs L)
  have h2 := rrs_len L
  have h3 := inl_length (ll3 L)
  omega
end Go.Proofs.YtldiojnkoobbmaaGreatDoor.V

namespace Go.Proofs.YtldiojnkoobbmaaGreatDoor.V
open Go Go.RowKit M U
set_option linter.unusedVariables false
set_option linter.unusedSimpArgs false
def smb : List Sy → Nat
  | [] => 0
  | y :: S => y.b + smb S
theorem wsy_length (l1 : Nat → Nat) (n1 : Nat) (l2 : Nat → Nat) (n2 : Nat) (y : Sy) : (wsy l1 n1 l2 n2 y).length = (if y.d = true then l2 y.n else l1 y.n) + y.b := by
  unfold wsy
  rw [List.length_append, put_length]
  split <;> rw [cdb_length]
theorem flat_len (l1 : Nat → Nat) (n1 : Nat) (l2 : Nat → Nat) (n2 : Nat) : ∀ S : List Sy, (S.flatMap (wsy l1 n1 l2 n2)).length = wgh l1 l2 S
  | [] => rfl
  | y :: S => by rw [List.flatMap_cons, List.length_append, wsy_length, flat_len l1 n1 l2 n2 S]; rfl
theorem wgh_parts (l1 l2 : Nat → Nat) : ∀ S : List Sy, (∀ y ∈ S, (y.d = false → y.n < 286) ∧ (y.d = true → y.n < 30)) → wgh l1 l2 S = sm (fun s => l1 s * cs false S s) 286 + sm (fun s => l2 s * cs true S s) 30 + smb S
  | [], _ => by simp [wgh, smb, cs, sm_zero]
  | y :: S, h => by
    have ih := wgh_parts l1 l2 S (fun z hz => h z (List.mem_cons_of_mem _ hz))
    have hy := h y List.mem_cons_self
    have e1 : ∀ b (l : Nat → Nat) n, sm (fun s => l s * cs b (y :: S) s) n = sm (fun s => l s * cs b S s) n + sm (fun s => if y.n = s then (if y.d = b then l s else 0) else 0) n := fun b l n => by
      rw [← sm_add]
      refine sm_congr n (fun s _ => ?_)
      simp only [cs]
      by_cases q : y.n = s
      · by_cases r : y.d = b
        · rw [if_pos ⟨r, q⟩, if_pos q, if_pos r, Nat.mul_add, Nat.mul_one]
        · rw [if_neg (fun g => r g.1), if_pos q, if_neg r, Nat.add_zero, Nat.add_zero]
      · rw [if_neg (fun g => q g.2), if_neg q, Nat.add_zero, Nat.add_zero]
    rw [e1, e1]
    unfold wgh smb
    rw [ih]
    cases hd : y.d with
    | false =>
      rw [sm_at (fun s => if (false : Bool) = false then l1 s else 0) (hy.1 hd)]
      simp only [if_true, Bool.false_eq_true, if_false, ite_self, sm_zero]
      omega
    | true =>
      rw [sm_at (fun s => if (true : Bool) = true then l2 s else 0) (hy.2 hd)]
      simp only [if_true, Bool.true_eq_false, if_false, ite_self, sm_zero]
      omega
theorem fxl_in (s : Nat) : 1 ≤ fxl s ∧ fxl s ≤ 15 := by unfold fxl; split <;> (try split) <;> (try split) <;> omega
theorem rc_pos : ∀ (S : List Rn) (y : Rn), y ∈ S → 0 < rc S y.s
  | x :: S, y, h => by
    simp only [rc]
    rcases List.mem_cons.1 h with rfl | g
    · rw [if_pos rfl]; omega
    · have := rc_pos S y g; omega
theorem rrs_some (L : List Tk) : ∃ r S, rrs L = r :: S ∧ r.s < 19 := by
  obtain ⟨l, hl⟩ : ∃ l, (lx1 L).take (upt (lx1 L) 257) ++ (lx2 L).take (upt (lx2 L) 1) = l := ⟨_, rfl⟩
  have h1 : (lx1 L).length = 286 := by unfold lx1; simp
  have hv : ∀ v ∈ l, v ≤ 15 := fun v hv => by
    rw [← hl] at hv
    rcases List.mem_append.1 hv with g | g
    · obtain ⟨i, _, rfl⟩ := List.mem_map.1 (List.mem_of_mem_take g)
      exact hfl_le _ (by decide) (by decide) i
    · obtain ⟨i, _, rfl⟩ := List.mem_map.1 (List.mem_of_mem_take g)
      exact hfl_le _ (by decide) (by decide) i
  have hlen : 257 ≤ l.length := by
    rw [← hl, List.length_append, List.length_take, h1]
    have := (upt_le (lx1 L) 257).1
    omega
  have hr : rrs L = pk l := by unfold rrs; rw [hl]
  have hp := unp_pk (n := l.length) (L := []) l [] (fun v g => by have := hv v g; omega) (by simp)
  have ho := pk_ok l hv
  rw [hr]
  match hq : pk l with
  | [] =>
    rw [hq] at hp
    simp only [List.append_nil, List.nil_append, unp, List.length_nil] at hp
    rw [if_pos (by omega), if_neg (by omega)] at hp
    cases hp
  | r :: S => exact ⟨r, S, rfl, by have := (ho r (by rw [hq]; exact List.mem_cons_self)).1; omega⟩
theorem hdd_more (L : List Tk) : 14 + 4 * 3 < (hdd L).length := by
  have h3 := inl_length (ll3 L)
  have hu := upt_le (inl (ll3 L)) 4
  obtain ⟨r, S, hr, hs⟩ := rrs_some L
  have hp : 0 < rc (rrs L) r.s := rc_pos _ _ (by rw [hr]; exact List.mem_cons_self)
  have hz : ll3 L r.s ≠ 0 := fun q => by
    have := (pl_zero (hf_lv (rc (rrs L)) 19) (hf_nds _ (by decide) (by decide)) (by decide : 1 ≤ 7) hs).1 q
    omega
  have hw : 1 ≤ ((rrs L).flatMap (wrn (ll3 L))).length := by
    rw [hr, List.flatMap_cons, List.length_append]
    unfold wrn
    rw [List.length_append, cdb_length]
    omega
  unfold hdd dyb
  simp only [List.length_append, put_length, put3_len, List.length_take]
  omega
end Go.Proofs.YtldiojnkoobbmaaGreatDoor.V
