/- Texts of one place, one behind the other: DfO, DfP, RdD, IgB. -/
import Derived.Test.YtolcaknhjjejeaaGreatDoorCMSpS
import Derived.Test.YtolcaknhjjejeaaGreatDoorCMDfM
import Derived.Test.YtolcaknhjjejeaaGreatDoorCMSpK
import Derived.Test.YtolcaknhjjejeaaGreatDoorCTbs
import Derived.Test.YtolcaknhjjejeaaGreatDoorCMP8RfC
import Derived.Test.YtolcaknhjjejeaaGreatDoorCMMathT
import Derived.Test.YtolcaknhjjejeaaGreatDoorRows
import Derived.OpenShut
import Derived.LaidMore
import Derived.Deep.DeepHandedRow
import Derived.MakeChecks
import Derived.OwnWalk
import Derived.Recover
import Derived.RecoverIn
import Derived.Defers
import Derived.Laws.Pointers
import Derived.TacticsInMore
import Derived.RegionIn
import Derived.Deep.RegionHeld
import Derived.RangeFuncNested
import Derived.RangeFuncBox
import Derived.RangeFuncCalls
import Derived.RangeFuncLeaves
import Derived.Shelf.Abstract
import Derived.OwnWalkIn
import Derived.LoopNIn
import Derived.LoopIn
import Derived.Laws.EntriesVeiled
import Derived.Maps.AppendAt
import Derived.BigRegionIn
import Derived.Test.YtolcaknhjjejeaaGreatDoorCMBlB
import Derived.Deep.RegionHeld3
namespace Go.Proofs.YtolcaknhjjejeaaGreatDoor.V
open Go Go.RowKit M U
set_option linter.unusedVariables false
set_option linter.unusedSimpArgs false
def ztot : List Pv → Nat
  | [] => 0
  | q :: r => q.z + ztot r
theorem ztot_append : ∀ l r : List Pv, ztot (l ++ r) = ztot l + ztot r
  | [], r => by simp [ztot]
  | q :: l, r => by simp only [List.cons_append, ztot, ztot_append l r]; omega
def pbk (A : Option Addr) (c : Nat) (L : List Tk) (s : ByteArray) : List Pv → Nat → List Bk
  | [], _ => []
  | q :: r, o => ⟨q.k, if c = q.f then A else Option.map (fun x => x.add (q.f * 3)) A, q.t - q.f, c - q.f, seg L q.f q.t, s.extract o (o + q.z), r.isEmpty⟩ :: pbk A c L s r (o + q.z)
theorem pbk_prs {A : Option Addr} {c : Nat} {L : List Tk} {s : ByteArray} : ∀ {P : List (Nat × Nat)} {a b : Nat} (O : Nat), Chn a P b → bkb (pbk A c L s (pvs L s P) (szt L a)) O = prs L s P O
  | [], _, _, _, _ => rfl
  | (x, y) :: r, a, b, O, h => by
    obtain ⟨h1, h2, h3⟩ := h
    simp only at h1 h2 h3
    subst h1
    have hz := szt_mono L h2
    have e : szt L x + (szt L y - szt L x) = szt L y := by omega
    show bkb (pbk A c L s (pvo L s (x, y) :: pvs L s r) (szt L x)) O = blq L s (x, y) r.isEmpty O ++ prs L s r (O + (blq L s (x, y) r.isEmpty O).length)
    simp only [pbk, bkb]
    have e2 : bkm (pvo L s (x, y)).k (seg L (pvo L s (x, y)).f (pvo L s (x, y)).t) (s.extract (szt L x) (szt L x + (pvo L s (x, y)).z)) (pvs L s r).isEmpty O = blq L s (x, y) r.isEmpty O := by
      have e3 : (pvs L s r).isEmpty = r.isEmpty := by cases r <;> rfl
      rw [e3]
      unfold blq
      show bkm _ (seg L x y) (s.extract (szt L x) (szt L x + (szt L y - szt L x))) _ _ = _
      rw [e]
      rfl
    rw [e2, show szt L x + (pvo L s (x, y)).z = szt L y from e, pbk_prs _ h3]
def Pok (n : Nat) (s : ByteArray) (l : List Pv) : Prop := ∀ dn q td, l = dn ++ q :: td → q.f ≤ q.t ∧ q.t ≤ n ∧ ztot dn + q.z ≤ s.size ∧ q.k ≤ 2
theorem pvs_tot {L : List Tk} {s : ByteArray} : ∀ {P : List (Nat × Nat)} {a b : Nat}, Chn a P b → szt L a + ztot (pvs L s P) = szt L b
  | [], _, _, h => by cases h; rfl
  | q :: r, a, b, h => by
    obtain ⟨h1, h2, h3⟩ := h
    have ih := pvs_tot (L := L) (s := s) h3
    have hz := szt_mono L h2
    show szt L a + ((szt L q.2 - szt L q.1) + ztot (pvs L s r)) = szt L b
    rw [h1]
    omega
theorem pok_pvs {L : List Tk} {s : ByteArray} {P : List (Nat × Nat)} (h : Chn 0 P L.length) (hz : Tx.szs L = s.size) : Pok L.length s (pvs L s P) := by
  intro dn q td e
  have ht := pvs_tot (L := L) (s := s) h
  rw [szt_zero, szt_all (Nat.le_refl _), hz, e, ztot_append] at ht
  have hq : q ∈ pvs L s P := by rw [e]; simp
  obtain ⟨p, hp, rfl⟩ := List.mem_map.1 hq
  obtain ⟨h1, h2⟩ := h.mem hp
  have : ztot (pvo L s p :: td) = (pvo L s p).z + ztot td := rfl
  exact ⟨h1, h2, by omega, kd_kind _ _⟩
end Go.Proofs.YtolcaknhjjejeaaGreatDoor.V

namespace Go.Proofs.YtolcaknhjjejeaaGreatDoor.V
open Go Go.RowKit M U
set_option linter.unusedVariables false
set_option linter.unusedSimpArgs false
set_option maxRecDepth 1000000
def Pcs (w : World) (g : Nat) (l : List Pv) : Prop := g < w.heap.size ∧ ∀ i q, l[i]? = some q → w.cell? ⟨g, i * 4, none⟩ = some (.int .i64 q.f) ∧ w.cell? ⟨g, i * 4 + 1, none⟩ = some (.int .i64 q.t) ∧ w.cell? ⟨g, i * 4 + 2, none⟩ = some (.int .i64 q.z) ∧ w.cell? ⟨g, i * 4 + 3, none⟩ = some (.int .u8 q.k)
theorem Pcs.below {w w' : World} {g : Nat} {l : List Pv} (h : Pcs w g l) (hb : Below w.heap.size w w') : Pcs w' g l :=
  ⟨Nat.lt_of_lt_of_le h.1 hb.size, fun i q hq => by
    obtain ⟨a, b, c, d⟩ := h.2 i q hq
    exact ⟨(hb.cell (p := ⟨g, i * 4, none⟩) h.1).trans a, (hb.cell (p := ⟨g, i * 4 + 1, none⟩) h.1).trans b, (hb.cell (p := ⟨g, i * 4 + 2, none⟩) h.1).trans c, (hb.cell (p := ⟨g, i * 4 + 3, none⟩) h.1).trans d⟩⟩
theorem Pcs.of_owp {w : World} {B : Nat} {v : Value} {l : List Pv} (h : Owp B w v l) (h0 : 0 < l.length) : ∃ g c, v = .slice (some ⟨g, 0, none⟩) l.length c ∧ Pcs w g l := by
  obtain ⟨g, c, rfl, _⟩ := h.form h0
  exact ⟨g, c, rfl, (h.lt g rfl).2, fun i q hq => h.cell rfl hq⟩
noncomputable def dtl (d t : ByteArray) (k : Nat) : List Tk := if k = 0 then [] else dtk d t k
noncomputable def dpl (d t : ByteArray) (k : Nat) : List Pv := if k = 0 then [⟨0, 0, t.size, 0⟩] else pvs (dtk d t k) t (pts (dtk d t k) t)
theorem dtk_may {d t : ByteArray} {k : Nat} (h0 : k ≠ 0) : ∀ x ∈ dtk d t k, may x = true := fun x hx => by
  unfold dtk at hx
  rw [if_neg h0] at hx
  exact (Px.G_may _ _ _ _ (fun h => absurd rfl h) x hx).1
theorem dpl_chn (d t : ByteArray) (k : Nat) : Chn 0 (pts (dtk d t k) t) (dtk d t k).length := pts_chn _ _
theorem dpl_ok (d t : ByteArray) (k : Nat) : Pok (dtl d t k).length t (dpl d t k) := by
  unfold dtl dpl
  by_cases h0 : k = 0
  · rw [if_pos h0, if_pos h0]
    intro dn q td e
    cases dn with
    | nil => simp at e; obtain ⟨rfl, rfl⟩ := e; exact ⟨Nat.le_refl 0, Nat.le_refl 0, by show 0 + t.size ≤ t.size; omega, Nat.zero_le 2⟩
    | cons x dn => simp at e
  · rw [if_neg h0, if_neg h0]
    exact pok_pvs (dpl_chn d t k) (dtk_size d t k)
theorem dpl_len (d t : ByteArray) (k : Nat) (ht : t.size ≤ 100000) : 0 < (dpl d t k).length ∧ (dpl d t k).length ≤ 1000 := by
  unfold dpl
  by_cases h0 : k = 0
  · rw [if_pos h0]; exact ⟨by simp, by simp⟩
  · rw [if_neg h0]
    have h1 := pts_length (dtk d t k) t
    have h2 := dtk_len d t k
    unfold cnk at h1
    unfold pvs
    rw [List.length_map]
    refine ⟨?_, by omega⟩
    unfold pts prt
    simp
theorem pbk_dbs (A : Option Addr) (c : Nat) (d t : ByteArray) (k : Nat) : bkb (pbk A c (dtl d t k) t (dpl d t k) 0) 0 = dbs d t k := by
  unfold dtl dpl dbs sbt
  by_cases h0 : k = 0
  · rw [if_pos h0, if_pos h0, if_pos h0]
    have e : t.extract 0 (0 + t.size) = t := by rw [Nat.zero_add]; exact ByteArray.extract_zero_size
    simp only [pbk, bkb, List.append_nil, e]
    rfl
  · rw [if_neg h0, if_neg h0, if_neg h0]
    exact pbk_prs 0 (dpl_chn d t k)
end Go.Proofs.YtolcaknhjjejeaaGreatDoor.V

namespace Go.Proofs.YtolcaknhjjejeaaGreatDoor.V
open Go Go.RowKit M U
set_option linter.unusedVariables false
set_option linter.unusedSimpArgs false
set_option maxRecDepth 1000000
theorem pbk_bit {A : Option Addr} {c : Nat} {L : List Tk} {s : ByteArray} (hs : s.size ≤ 65535) : ∀ (l : List Pv) (o O : Nat), ∀ x ∈ bkb (pbk A c L s l o) O, x ≤ 1
  | [], _, _, x, h => absurd h (by simp [pbk, bkb])
  | q :: r, o, O, x, h => by
    simp only [pbk, bkb, List.mem_append] at h
    rcases h with h | h
    · rw [bkm_blk (by rw [ByteArray.size_extract]; omega)] at h
      exact blk_bit _ _ _ _ _ x h
    · exact pbk_bit hs r _ _ x h
theorem dbs_bit (d t : ByteArray) (k : Nat) (ht : t.size ≤ 65535) : ∀ x ∈ dbs d t k, x ≤ 1 := by
  rw [← pbk_dbs none 0 d t k]
  exact pbk_bit ht _ _ _
theorem text_dby (d t : ByteArray) (k : Nat) : (⟨((List.range (((dbs d t k).length + 7) / 8)).map fun i => UInt8.ofNat (byn (nb (dbs d t k)) i)).toArray⟩ : ByteArray) = dby d t k := by
  rw [text_eq]
  rfl
theorem bw_new (w1 : World) : Bw w1.heap.size (w1.alloc (.cells #[.slice none 0 0] 43)) w1.heap.size (.slice none 0 0) [] :=
  ⟨heap_alloc_new _ _, World.ownsRow_nil _ _ _ _, Nat.le_refl _⟩
def DR (W : World) (d t : ByteArray) (k : Nat) (most : Int) (e : Ending) (w' : World) : Prop :=
  Below W.heap.size W w' ∧ ((((dbs d t k).length + 7) / 8 : Nat) ≤ most → e = .returned (.tuple #[.string (dby d t k), .int .i64 0])) ∧ (¬ (((dbs d t k).length + 7) / 8 : Nat) ≤ most → e = .returned (.tuple #[.string ⟨#[]⟩, .int .i64 4]))
set_option maxHeartbeats 1000000 in
theorem rdeflate_zero (d t : ByteArray) (most : Int) (w : World) (ht : t.size ≤ 30000) : Calls Tryz.prog 9 #[.string d, .string t, .int .i64 0, .int .i64 most] w (DR w d t 0 most) := by
  have HT := Lib.hid (Px.Q.rtokens_zero d t w (by omega))
  have hsh := dby_short d t 0 (by omega)
  rw [dby_size] at hsh
  have hbn : bnd t.size ≤ 30000 + 6 * 31 + 5 := by unfold bnd; split <;> omega
  have e0 : dbs d t 0 = bkm 0 [] t true 0 := rfl
  have HW := Lib.hid (fun (B P : Nat) (w2 : World) (h : Bw B w2 P (.slice none 0 0) []) (hB : B ≤ w2.heap.size) =>
    (show Calls Tryz.prog 15 #[.pointer (some ⟨P, 0, none⟩), .int .u8 0, .slice none 0 0, .string t, .bool true] w2 fun e w' => e = .returned (.tuple #[]) ∧ ∃ v', Bw B w' P v' (dbs d t 0) ∧ Below B w2 w' from
      (writem_any h 0 (by decide) none 0 0 [] t true (fun _ => by omega) (fun w' _ => ⟨rfl, Nat.zero_le _, fun c hc => absurd hc (by simp), .inl rfl⟩) (by decide) (fun q => absurd rfl q) (by show 0 ≤ _; omega) hB).mono fun e w' q =>
        ⟨q.1, q.2.elim fun v' g => ⟨v', by rw [e0]; exact g.1, g.2.below hB h.hB (fun j hj => by cases hj)⟩⟩))
  have HX := Lib.hid (fun (B P : Nat) (v : Value) (w2 : World) (h : Bw B w2 P v (dbs d t 0)) (hB : B ≤ w2.heap.size) =>
    (show Calls Tryz.prog 16 #[.pointer (some ⟨P, 0, none⟩)] w2 fun e w' => e = .returned (.string (dby d t 0)) ∧ Below w2.heap.size w2 w' from by
      have g := text_any h (dbs_bit d t 0 (by omega)) (by omega) hB
      rw [text_dby] at g
      exact g))
  have hz := dby_size d t 0
  unfold DR
  obtain ⟨X, hX⟩ : ∃ X, dby d t 0 = X := ⟨_, rfl⟩
  rw [hX] at HX hz ⊢
  rw [← hz] at hsh ⊢
  have hx7 : X.size ≤ 40000 := by omega
  clear e0 hX hz hsh hbn ht
  by_cases hf : ((X.size : Nat) : Int) ≤ most
  all_goals
    have HFf := Lib.hid hf
    go_enter Tryz.func9, Tryz.ntmps9
    go_wp2_with (first
      | (go_at_call 17; (with_reducible refine HT.out.mono ?_); rintro e w1 ⟨v, rfl, _, b1⟩; have B1 := Lib.hid b1; have HNw := Lib.hid (bw_new w1); clear b1)
      | (go_at_call 15; (with_reducible refine (HW.out w1.heap.size w1.heap.size _ HNw.out (by simp)).mono ?_); rintro e w3 ⟨rfl, v3, h3, b3⟩; have H3 := Lib.hid h3; have B3 := Lib.hid (((Below.refl w1.heap.size w1).alloc (Nat.le_refl _) _).trans b3); clear h3 b3)
      | (go_at_call 16; (with_reducible refine (HX.out _ _ _ _ H3.out B3.out.size).mono ?_); rintro e w4 ⟨rfl, b4⟩; have B4 := Lib.hid (B1.out.trans ((B3.out.trans (b4.mono B3.out.size)).mono B1.out.size)); clear b4))
    go_ret2
  · exact ⟨B4.out, rfl, fun h => by exfalso; have := HFf.out; omega⟩
  · exact ⟨B4.out, fun h => by exfalso; have := HFf.out; omega, rfl⟩
theorem heap_cells4 {w : World} {g : Nat} {T : TypeId} {a b c d : Value} (h : w.heap[g]? = some (.cells #[a, b, c, d] T (0, 0))) : w.cell? ⟨g, 0, none⟩ = some a ∧ w.cell? ⟨g, 1, none⟩ = some b ∧ w.cell? ⟨g, 2, none⟩ = some c ∧ w.cell? ⟨g, 3, none⟩ = some d := by simp [World.cell?, h]
theorem Pcs.at {w w' : World} {g : Nat} {l : List Pv} (h : Pcs w g l) (hz : w.heap.size ≤ w'.heap.size) (e : w'.heap[g]? = w.heap[g]?) : Pcs w' g l :=
  ⟨Nat.lt_of_lt_of_le h.1 hz, fun i q hq => by
    have k : ∀ j, w'.cell? ⟨g, j, none⟩ = w.cell? ⟨g, j, none⟩ := fun j => by unfold World.cell?; simp only [e]
    rw [k, k, k, k]
    exact h.2 i q hq⟩
set_option maxHeartbeats 4000000 in
theorem rdeflate_some (d t : ByteArray) (k : Nat) (most : Int) (w : World) (hk : 1 ≤ k ∧ k ≤ 9) (hd : d.size ≤ 32768) (ht : t.size ≤ 10000) : Calls Tryz.prog 9 #[.string d, .string t, .int .i64 k, .int .i64 most] w (DR w d t k most) := by
  have h0 : k ≠ 0 := by omega
  have hlen := dtk_len d t k
  have HT := Lib.hid (show Calls Tryz.prog 17 #[.string d, .string t, .int .i64 k] w fun e w' => ∃ A c, e = .returned (.tuple #[.slice A (dtk d t k).length c, .int .i64 0]) ∧ IsTks w' A (dtk d t k).length (dtk d t k) ∧ (dtk d t k).length ≤ c ∧ Below w.heap.size w w' from by
    have h := Px.Q.rtokens_any d t k w hk hd (by omega)
    rw [← Px.cutd_all hd] at h
    have e : dtk (Px.cutd d) t k = dtk d t k := by rw [Px.cutd_all hd]
    have e2 : Px.G (Px.cutd d ++ t) (Px.Q.lv k) (Px.cutd d).size (0, 0) = dtk d t k := by unfold dtk; rw [if_neg h0]
    rw [e2] at h
    rw [Px.cutd_all hd] at h
    refine h.mono fun e w' q => ?_
    obtain ⟨v, rfl, ho, hb⟩ := q
    obtain ⟨A, c, rfl, hI⟩ := IsTks.of_owq ho (fun x hx => by
      have hx' := hx
      unfold dtk at hx'
      rw [if_neg h0] at hx'
      obtain ⟨_, g1, g2, g3⟩ := Px.G_may _ _ _ _ (fun h => absurd rfl h) x hx'
      exact Tk.ok_of g1 ⟨g2.1, by omega⟩ ⟨g3.1, by omega⟩) (by unfold maxLen; omega)
    exact ⟨A, c, rfl, hI, Px.owq_cap ho, hb⟩)
  have HP := Lib.hid (fun (A : Option Addr) (c : Nat) (w' : World) (hI : IsTks w' A (dtk d t k).length (dtk d t k)) (hc : (dtk d t k).length ≤ c) =>
    rparts_any A (dtk d t k).length c (dtk d t k) t w' hI hc (by omega) (by omega) (dtk_may h0) (dtk_size d t k))
  have hsh := dby_short d t k (by omega)
  rw [dby_size] at hsh
  have hbn : bnd t.size ≤ 20000 := by unfold bnd; split <;> omega
  have hBT : (dbs d t k).length ≤ 160000 := by omega
  have HX := Lib.hid (fun (B P : Nat) (v : Value) (w2 : World) (h : Bw B w2 P v (dbs d t k)) (hB : B ≤ w2.heap.size) =>
    (show Calls Tryz.prog 16 #[.pointer (some ⟨P, 0, none⟩)] w2 fun e w' => e = .returned (.string (dby d t k)) ∧ Below w2.heap.size w2 w' from by
      have g := text_any h (dbs_bit d t k (by omega)) (by omega) hB
      rw [text_dby] at g
      exact g))
  have hz := dby_size d t k
  have hpl := dpl_len d t k (by omega)
  have hok := dpl_ok d t k
  have HBt := Lib.hid (fun (A : Option Addr) (c : Nat) => pbk_dbs A c d t k)
  have e1 : dtl d t k = dtk d t k := by unfold dtl; rw [if_neg h0]
  have e2 : dpl d t k = pvs (dtk d t k) t (pts (dtk d t k) t) := by unfold dpl; rw [if_neg h0]
  have HMy := Lib.hid (dtk_may (d := d) (t := t) h0)
  rw [e1] at hok HBt
  rw [← e2] at HP
  unfold DR
  obtain ⟨X, hX⟩ : ∃ X, dby d t k = X := ⟨_, rfl⟩
  rw [hX] at HX hz ⊢
  rw [← hz] at hsh ⊢
  have hx7 : X.size ≤ 40000 := by omega
  obtain ⟨PL, hPL⟩ : ∃ PL, dpl d t k = PL := ⟨_, rfl⟩
  rw [hPL] at HP hpl hok HBt
  obtain ⟨L, hL⟩ : ∃ L, dtk d t k = L := ⟨_, rfl⟩
  rw [hL] at HT HP hok HBt HMy hlen
  obtain ⟨n, hn⟩ : ∃ n, L.length = n := ⟨_, rfl⟩
  rw [hn] at HT HP hok hlen
  obtain ⟨BT, hB⟩ : ∃ BT, dbs d t k = BT := ⟨_, rfl⟩
  rw [hB] at HX HBt hBT
  obtain ⟨N, hN⟩ : ∃ N, PL.length = N := ⟨_, rfl⟩
  rw [hN] at hpl
  have HN := Lib.hid hN
  have HOk := Lib.hid hok
  have e3 : ((k : Int) == 0) = false := by rw [beq_eq_false_iff_ne]; omega
  have e4 : (k == 0) = false := by rw [beq_eq_false_iff_ne]; omega
  have e5 : ¬ k = 0 := h0
  have hn7 : n ≤ 10000 := by omega
  have hN7 : N ≤ 1000 := hpl.2
  have hN1 : 0 < N := hpl.1
  clear hX hz hsh hbn hPL hL hn hB hN hok e1 e2 hpl hd h0 hlen
  by_cases hf : ((X.size : Nat) : Int) ≤ most
  all_goals
    have HFf := Lib.hid hf
    go_enter Tryz.func9, Tryz.ntmps9
    go_wp2_with (first
      | (go_at_call 17; (with_reducible refine HT.out.mono ?_); rintro e w1 ⟨A, c, rfl, h1, hc1, b1⟩; have H1 := Lib.hid (And.intro h1 hc1); have B1 := Lib.hid b1; have hnc := hc1; have HNw := Lib.hid (bw_new w1); have hb2 := (Below.refl w1.heap.size w1).alloc (Nat.le_refl _) (.cells #[.slice none 0 0] 43); have B2 := Lib.hid hb2; clear h1 hc1 b1 hb2)
      | (go_at_call 18; (with_reducible refine (HP.out A c _ (H1.out.1.below B2.out) H1.out.2).mono ?_); rintro e w3 ⟨v3, rfl, o3, b3⟩; obtain ⟨g, cp, rfl, hp3⟩ := Pcs.of_owp o3 (by rw [HN.out]; exact hN1); rw [HN.out]; have hg3 := (o3.lt g rfl).1; rw [World.size_alloc] at hg3; have HG := Lib.hid hg3; have HPc := Lib.hid hp3; have HW3 := Lib.hid (HNw.out.below b3); have B3 := Lib.hid (B2.out.trans (b3.mono B2.out.size)); clear o3 b3 hp3 hg3))
    go_loopw [14, 15] (fun at' i wr => ∃ (j : Nat) (dn td : List Pv) (v : Value) (bs : List Nat), PL = dn ++ td ∧ dn.length = j ∧ i = .int .i64 j ∧ at' = .int .i64 (ztot dn : Nat) ∧ Bw w1.heap.size wr w1.heap.size v bs ∧ bs ++ bkb (pbk A c L t td (ztot dn)) bs.length = BT ∧ Ap w1.heap.size v.ownBlock wr g ∧ Pcs wr g PL ∧ Below w1.heap.size w1 wr) (fun _ i _ => N - (intOf i).toNat)
    case atStart => exact ⟨0, [], PL, _, [], rfl, rfl, rfl, rfl, HW3.out, by rw [List.nil_append]; exact HBt.out A c, ⟨HPc.out.1, by have := HG.out; omega, fun q => by cases q⟩, HPc.out, B3.out⟩
    case round =>
      obtain ⟨j, dn, td, v, bs, hp, hj, rfl, rfl, hW, hBs, hAp, hPc, hb⟩ := hrel
      have HHp := Lib.hid hp
      have HHb := Lib.hid hBs
      have HHw := Lib.hid hW
      have HAp := Lib.hid hAp
      have HPr := Lib.hid hPc
      have HB := Lib.hid hb
      cases td with
      | nil =>
        have ej : j = N := by rw [← hj, ← HN.out, hp, List.append_nil]
        subst ej
        have d1 : decide ((j : Int) < (j : Int)) = false := decide_eq_false (by omega)
        have d1' : decide (j < j) = false := decide_eq_false (by omega)
        have HX' := Lib.hid (HX.out w1.heap.size w1.heap.size v wr (by have h := HHb.out; simp only [pbk, bkb, List.append_nil] at h; rw [← h]; exact hW) hb.size)
        clear hp hBs hW hAp hPc hb hj
        go_wp2_with (go_at_call 16; (with_reducible refine HX'.out.mono ?_); rintro e w4 ⟨rfl, b4⟩; have B4 := Lib.hid (B1.out.trans ((HB.out.trans (b4.mono HB.out.size)).mono B1.out.size)); clear b4)
        go_ret2
        first | exact ⟨B4.out, rfl, fun h => by exfalso; have := HFf.out; omega⟩ | exact ⟨B4.out, fun h => by exfalso; have := HFf.out; omega, rfl⟩
      | cons q td =>
        have hlt : j < N := by rw [← hj, ← HN.out, hp, List.length_append, List.length_cons]; omega
        have hq : PL[j]? = some q := by rw [hp, ← hj]; simp
        obtain ⟨o1, o2, o3, o4⟩ := HOk.out dn q td hp
        obtain ⟨n0, n1, n2, n3⟩ := hPc.2 j q hq
        have hlast : td.isEmpty = decide (j + 1 = N) := by
          have e : N = j + 1 + td.length := by rw [← HN.out, hp, List.length_append, List.length_cons, hj]; omega
          cases td with
          | nil => exact (decide_eq_true (by simpa using e.symm)).symm
          | cons x td => exact (decide_eq_false (by rw [e, List.length_cons]; omega)).symm
        obtain ⟨f, u, z, kk⟩ := q
        simp only at o1 o2 o3 o4 n0 n1 n2 n3
        have HZt := Lib.hid (show ztot (dn ++ [⟨f, u, z, kk⟩]) = ztot dn + z by rw [ztot_append]; rfl)
        obtain ⟨o, ho⟩ : ∃ o, ztot dn = o := ⟨_, rfl⟩
        obtain ⟨la, hla⟩ : ∃ la, decide (j + 1 = N) = la := ⟨_, rfl⟩
        obtain ⟨Y, hY⟩ : ∃ Y, (if c = f then A else Option.map (fun x => x.add (f * 3)) A) = Y := ⟨_, rfl⟩
        obtain ⟨RA, hRA⟩ : ∃ RA, t.extract o (o + z) = RA := ⟨_, rfl⟩
        obtain ⟨MB, hMB⟩ : ∃ MB, bkm kk (seg L f u) RA la bs.length = MB := ⟨_, rfl⟩
        have hnx : (bs ++ MB) ++ bkb (pbk A c L t td (o + z)) (bs ++ MB).length = BT := by
          have h := HHb.out
          simp only [pbk, bkb] at h
          rw [hlast, hla, ho, hRA, hMB] at h
          rw [List.append_assoc, List.length_append]
          exact h
        have HNx := Lib.hid hnx
        have hbl : bs.length ≤ 160000 := by
          have := congrArg List.length HHb.out
          rw [List.length_append] at this
          omega
        have hRs : RA.size ≤ 10000 := by rw [← hRA, ByteArray.size_extract]; omega
        have HWr := Lib.hid (fun (W1 : World) (b : Below wr.heap.size wr W1) => (show Calls Tryz.prog 15 #[.pointer (some ⟨w1.heap.size, 0, none⟩), .int .u8 kk, .slice Y (u - f : Nat) (c - f : Nat), .string RA, .bool la] W1 fun e w' => e = .returned (.tuple #[]) ∧ ∃ v', Bw w1.heap.size w' w1.heap.size v' (bs ++ MB) ∧ Chg w1.heap.size v.ownBlock W1 v'.ownBlock w' from by
          have g := writem_any (HHw.out.below b) kk o4 Y (u - f) (c - f) (seg L f u) RA la (fun _ => by omega) (fun w' b' => by
            rw [← hY]
            exact (H1.out.1.below ((HB.out.trans (b.mono HB.out.size)).trans b')).sub hnc o1 o2) (by omega) (fun _ x hx => HMy.out x (seg_mem hx)) (by omega) (Nat.le_trans HB.out.size b.size)
          rw [hMB] at g
          exact g))
        rw [ho] at HZt o3 ⊢
        have d1 : decide ((j : Int) < (N : Int)) = true := decide_eq_true (by omega)
        have d1' : decide (j < N) = true := decide_eq_true hlt
        have ix : (j : Int).toNat < N := by omega
        have huc : u ≤ c := by omega
        have hfc : f ≤ c := by omega
        have l1 : ((j : Int) == (N : Int) - 1) = la := by
          rw [← hla]
          by_cases h : j + 1 = N
          · rw [decide_eq_true h, beq_iff_eq]; omega
          · rw [decide_eq_false h, beq_eq_false_iff_ne]; omega
        have l2 : ((j : Int) == IntKind.i64.wrap ((N : Int) - 1)) = la := by rw [IntKind.wrap_i64, ← l1]; congr 1; omega
        have hoz : (o : Int) + (z : Int) = ((o + z : Nat) : Int) := by omega
        obtain ⟨oz, hoz'⟩ : ∃ oz, o + z = oz := ⟨_, rfl⟩
        have hoo : o ≤ oz := by omega
        rw [hoz'] at HNx HZt o3 hRA hoz
        have hw1 : IntKind.i64.wrap (oz : Int) = (oz : Int) := by rw [IntKind.wrap_i64]; omega
        have hot : o ≤ 10000 := by omega
        have hztt : oz ≤ 10000 := by omega
        have HAw := Lib.hid (show ∀ W1, Below wr.heap.size wr W1 → wr.heap.size < W1.heap.size → Ap w1.heap.size v.ownBlock W1 wr.heap.size ∧ Ap w1.heap.size v.ownBlock W1 g from fun W1 b hlt => ⟨⟨hlt, by have := HHw.out.lt; omega, fun q => by have := (HHw.out.ow.lt _ q).2; omega⟩, ⟨Nat.lt_of_lt_of_le HAp.out.1 b.size, HAp.out.2.1, HAp.out.2.2⟩⟩)
        have HWq := Lib.hid (fun (W1 : World) (b : Below wr.heap.size wr W1) (hQ : W1.heap[wr.heap.size]? = some (.cells #[.int .i64 f, .int .i64 u, .int .i64 z, .int .u8 kk] 55 (0, 0))) => (show Calls Tryz.prog 15 #[.pointer (some ⟨w1.heap.size, 0, none⟩), .int .u8 kk, .slice Y (u - f : Nat) (c - f : Nat), .string RA, .bool la] W1 fun e w' => e = .returned (.tuple #[]) ∧
          (w'.cell? ⟨wr.heap.size, 0, none⟩ = some (.int .i64 f) ∧ w'.cell? ⟨wr.heap.size, 1, none⟩ = some (.int .i64 u) ∧ w'.cell? ⟨wr.heap.size, 2, none⟩ = some (.int .i64 z) ∧ w'.cell? ⟨wr.heap.size, 3, none⟩ = some (.int .u8 kk)) ∧ ∃ v5, Bw w1.heap.size w' w1.heap.size v5 (bs ++ MB) ∧ Ap w1.heap.size v5.ownBlock w' g ∧ Pcs w' g PL ∧ Below w1.heap.size w1 w' from
          (HWr.out W1 b).mono fun e w' q => ⟨q.1, by
            obtain ⟨v5, h5, c5⟩ := q.2
            obtain ⟨hA1, hA2⟩ := HAw.out W1 b (Array.getElem?_eq_some_iff.1 hQ).1
            obtain ⟨hA3, hA4⟩ := hA1.chg c5
            obtain ⟨hA5, hA6⟩ := hA2.chg c5
            exact ⟨heap_cells4 (hA4.trans hQ), v5, h5, hA5, (HPr.out.below b).at c5.size hA6, (HB.out.trans (b.mono HB.out.size)).trans (c5.below (Nat.le_trans HB.out.size b.size) (Nat.le_refl _) (fun q hq => (HHw.out.ow.lt q hq).1))⟩⟩))
        clear hp hBs hW hAp hPc hb hq hlast ho hla hnx hMB hoz'
        go_upto_region 13 with fail
        have b2 : Below wr.heap.size wr (wr.alloc (.cells #[.int .i64 f, .int .i64 u, .int .i64 z, .int .u8 kk] 55)) := (Below.refl _ _).alloc (Nat.le_refl _) _
        have hQ := heap_alloc_new wr (.cells #[.int .i64 f, .int .i64 u, .int .i64 z, .int .u8 kk] 55)
        have hz1 : (wr.alloc (.cells #[.int .i64 f, .int .i64 u, .int .i64 z, .int .u8 kk] 55)).heap.size = wr.heap.size + 1 := by simp
        generalize wr.alloc (.cells #[.int .i64 f, .int .i64 u, .int .i64 z, .int .u8 kk] 55) = W1 at b2 hQ hz1 ⊢
        obtain ⟨q0, q1, q2, q3⟩ := heap_cells4 hQ
        have B5 := Lib.hid b2
        have HQ := Lib.hid (show W1.drew.heap[wr.heap.size]? = some (.cells #[.int .i64 f, .int .i64 u, .int .i64 z, .int .u8 kk] 55 (0, 0)) from hQ)
        have HZ1 := Lib.hid hz1
        clear b2 hQ hz1 n0 n1 n2 n3
        go_region_held3 (fun w' => w'.cell? ⟨wr.heap.size, 0, none⟩ = some (.int .i64 f) ∧ w'.cell? ⟨wr.heap.size, 1, none⟩ = some (.int .i64 u) ∧ w'.cell? ⟨wr.heap.size, 2, none⟩ = some (.int .i64 z) ∧ w'.cell? ⟨wr.heap.size, 3, none⟩ = some (.int .u8 kk)) (first | exact ⟨r0, r1, r2, r3⟩ | exact ⟨q0, q1, q2, q3⟩) (first | (go_at_call 15; (with_reducible refine (HWq.out W1.drew (B5.out.trans (Below.refl _ _).drew) HQ.out).mono ?_); rintro e w5 ⟨rfl, ⟨r0, r1, r2, r3⟩, v5, h5⟩; have H5 := Lib.hid h5; clear h5))
        obtain ⟨h5, hA5, hP5, hB5⟩ := H5.out
        have HH5 := Lib.hid (And.intro h5 (And.intro hA5 (And.intro hP5 hB5)))
        clear h5 hA5 hP5 hB5 q0 q1 q2 q3 r0 r1 r3
        go_wp2_with fail
        go_roundw
        case rel => exact ⟨j + 1, dn ++ [⟨f, u, z, kk⟩], td, v5, bs ++ MB, by rw [List.append_assoc]; exact HHp.out, by rw [List.length_append, hj]; rfl, by go_num, by rw [HZt.out], HH5.out.1, by rw [HZt.out]; exact HNx.out, HH5.out.2.1, HH5.out.2.2.1, HH5.out.2.2.2⟩
        case measure => (simp [intOf]; try omega)
end Go.Proofs.YtolcaknhjjejeaaGreatDoor.V

namespace Go.Proofs.YtolcaknhjjejeaaGreatDoor.I
open Go Go.RowKit M
set_option linter.unusedVariables false
set_option linter.unusedSimpArgs false
set_option maxRecDepth 1000000
theorem grow_px (b : List UInt8) (d : Nat) : ∀ k, V.Px.grow b d k = V.Tx.grow b d k
  | 0 => rfl
  | k + 1 => by simp only [V.Px.grow, V.Tx.grow, grow_px b d k]
theorem step_px (D : Nat) (b : List UInt8) (t : V.Tk) : V.Px.step D b t = V.Tx.step D b t := by
  unfold V.Px.step V.Tx.step
  rw [grow_px]
  rfl
theorem run_px (D : Nat) : ∀ (l : List V.Tk) (b : List UInt8), V.Px.run D b l = V.Tx.run D b l
  | [], b => rfl
  | t :: l, b => by rw [V.Px.run, V.Tx.run, step_px, run_px D l]
theorem grow_take (b : List UInt8) (d : Nat) : ∀ k, (V.Tx.grow b d k).take b.length = b
  | 0 => List.take_length
  | k + 1 => by
    have hl := V.Tx.grow_length b d k
    rw [V.Tx.grow, List.take_append_of_le_length (by omega), grow_take b d k]
theorem step_take {D : Nat} {b : List UInt8} {t : V.Tk} (h : (V.Tx.step D b t).1 = 0) : (V.Tx.step D b t).2.take b.length = b := by
  rcases V.Tx.step_ways D b t with h1 | ⟨h1, h2⟩ | ⟨h1, h2, h3⟩ | ⟨h2, h3, h4⟩ | ⟨h2, h3, h4⟩
  · rw [V.Tx.step_arg h1] at h; exact absurd h (by simp)
  · rw [V.Tx.step_far h1 h2] at h; exact absurd h (by simp)
  · rw [V.Tx.step_long h1 h2 h3] at h; exact absurd h (by simp)
  · rw [V.Tx.step_byte h2 h3 h4]; simp
  · rw [V.Tx.step_match h2 h3 h4]; exact grow_take b _ _
theorem run_out {D : Nat} : ∀ (l : List V.Tk) (b : List UInt8), (V.Tx.run D b l).1 = 0 → (V.Tx.run D b l).2.take b.length = b ∧ (V.Tx.run D b l).2.length = b.length + V.Tx.szs l
  | [], b, _ => ⟨List.take_length, rfl⟩
  | t :: l, b, h => by
    by_cases q : (V.Tx.step D b t).1 = 0
    · rw [V.Tx.run_go q] at h ⊢
      obtain ⟨h1, h2⟩ := run_out l _ h
      have h3 := (V.Tx.step_len q).1
      refine ⟨take_tt (step_take q) h1 (by omega), ?_⟩
      rw [h2, h3]
      simp only [V.Tx.szs]
      omega
    · rw [V.Tx.run_no q] at h; exact absurd h q
theorem run_two {D : Nat} : ∀ (l m : List V.Tk) (b z : List UInt8), V.Tx.run D b (l ++ m) = (0, z) → ∃ y, V.Tx.run D b l = (0, y) ∧ V.Tx.run D y m = (0, z)
  | [], m, b, z, h => ⟨b, rfl, h⟩
  | t :: l, m, b, z, h => by
    rw [List.cons_append] at h
    by_cases q : (V.Tx.step D b t).1 = 0
    · rw [V.Tx.run_go q] at h
      obtain ⟨y, h1, h2⟩ := run_two l m _ z h
      exact ⟨y, by rw [V.Tx.run_go q, h1], h2⟩
    · rw [V.Tx.run_no q] at h
      exact absurd (congrArg Prod.fst h) q
theorem run_seg {D : Nat} {L : List V.Tk} {b z : List UInt8} (h : V.Tx.run D b L = (0, z)) {f t : Nat} (hft : f ≤ t) : V.Tx.run D (z.take (b.length + V.szt L f)) (V.seg L f t) = (0, z.take (b.length + V.szt L t)) := by
  have key : ∀ i, V.Tx.run D b (L.take i) = (0, z.take (b.length + V.szt L i)) := fun i => by
    have h' := h
    rw [← List.take_append_drop i L] at h'
    obtain ⟨y, h1, h2⟩ := run_two _ _ _ _ h'
    obtain ⟨_, g2⟩ := run_out (D := D) (L.take i) b (by rw [h1])
    obtain ⟨k1, _⟩ := run_out (D := D) (L.drop i) y (by rw [h2])
    rw [h1] at g2
    rw [h2] at k1
    rw [h1]
    unfold V.szt
    rw [← g2, k1]
  have h1 := key t
  rw [V.take_seg L hft] at h1
  obtain ⟨y, q1, q2⟩ := run_two _ _ _ _ h1
  rw [key f] at q1
  injection q1 with _ q1
  rw [← q1] at q2
  exact q2
theorem dtk_run {d t : ByteArray} {k : Nat} (h0 : k ≠ 0) (hd : d.size ≤ 32768) (ht : t.size ≤ 1000000) : V.Tx.run d.size d.data.toList (V.dtk d t k) = (0, d.data.toList ++ t.data.toList) := by
  unfold V.dtk
  rw [if_neg h0, V.Px.cutd_all hd]
  have hs : (d ++ t).size = d.size + t.size := ByteArray.size_append
  have h := V.Px.run_G (d ++ t) (V.Px.Q.lv k) d.size (by omega) d.size (0, 0) (Nat.le_refl _) (by omega) (fun g => absurd rfl g)
  have e : V.Px.bt (d ++ t) = d.data.toList ++ t.data.toList := by
    show (d ++ t).data.toList = _
    simp
  have hl : d.data.toList.length = d.size := Array.length_toList
  rw [e, ← hl, List.take_left, run_px] at h
  rw [← hl]
  exact h
section
variable {s : ByteArray} {Lim K : Nat} {Y : List Nat} {L : List V.Tk} {d t : ByteArray}
theorem ext_list (t : ByteArray) (f g : Nat) : (t.extract f g).data.toList = (t.data.toList.drop f).take (g - f) := by
  rw [ByteArray.data_extract, Array.toList_extract, List.extract_eq_take_drop]
theorem take_app (d T : List UInt8) (i : Nat) : (d ++ T).take (d.length + i) = d ++ T.take i := by
  rw [List.take_append, List.take_of_length_le (Nat.le_add_right _ _), Nat.add_sub_cancel_left]
theorem take_two (l : List UInt8) {a c : Nat} (h : a ≤ c) : l.take a ++ (l.drop a).take (c - a) = l.take c := by
  conv => rhs; rw [show c = a + (c - a) by omega, List.take_add]
theorem rd_prs (hm : ∀ x ∈ L, V.may x = true) (hg : ∀ x ∈ L, x.ok) (ht : t.size ≤ 30000) (hz : V.Tx.szs L = t.size) (hLen : L.length ≤ 30000) (hK : 100000 ≤ K) (hrun : V.Tx.run d.size d.data.toList L = (0, d.data.toList ++ t.data.toList)) (hLim : t.size ≤ Lim) :
    ∀ (P : List (Nat × Nat)) (a b k : Nat) (x : St), P ≠ [] → V.Chn a P b → b ≤ L.length → P.length < k → x.2 = (d.data.toList ++ t.data.toList).take (d.size + V.szt L a) → Bt s x.1 (V.prs L t P x.1 ++ Y) →
      loopR (blk K) k () s d.size Lim x = .ok ((), (x.1 + (V.prs L t P x.1).length, (d.data.toList ++ t.data.toList).take (d.size + V.szt L b)))
  | [], a, b, k, x, h0, _, _, _, _, _ => absurd rfl h0
  | q :: P, _, b, k, x, _, hc, hb, hk, hx, hB => by
    obtain ⟨k, rfl⟩ : ∃ j, k = j + 1 := ⟨k - 1, by simp at hk; omega⟩
    obtain ⟨rfl, c2, c3⟩ := hc
    have hqb := V.Chn.le c3
    have hdl : d.data.toList.length = d.size := Array.length_toList
    have htl : t.data.toList.length = t.size := Array.length_toList
    have hm1 := V.szt_mono L c2
    have hm2 := V.szt_mono L hqb
    have hm3 : V.szt L b ≤ t.size := by rw [← hz, ← V.szt_all (Nat.le_refl L.length)]; exact V.szt_mono L hb
    have hxl : x.2.length = d.size + V.szt L q.1 := by rw [hx, List.length_take, List.length_append]; omega
    simp only [V.prs] at hB ⊢
    rw [List.append_assoc] at hB
    have hr : (t.extract (V.szt L q.1) (V.szt L q.2)).size ≤ 65535 := by rw [ByteArray.size_extract]; omega
    have hbq : V.blq L t q P.isEmpty x.1 = V.blk (V.kp L t q.1 q.2).1 (V.seg L q.1 q.2) (t.extract (V.szt L q.1) (V.szt L q.2)) P.isEmpty x.1 := by unfold V.blq; exact V.bkm_blk hr
    have hnx : x.2 ++ (t.extract (V.szt L q.1) (V.szt L q.2)).data.toList = (d.data.toList ++ t.data.toList).take (d.size + V.szt L q.2) := by
      rw [hx, ext_list, ← hdl, take_app, take_app, List.append_assoc, take_two _ hm1]
    have hrn : V.Tx.run d.size x.2 (V.seg L q.1 q.2) = (0, x.2 ++ (t.extract (V.szt L q.1) (V.szt L q.2)).data.toList) := by
      have := run_seg hrun c2
      rw [hdl] at this
      rw [hnx, hx]
      exact this
    rw [hbq] at hB ⊢
    have hsl := V.seg_length (L := L) (f := q.1) (t := q.2) (by omega)
    obtain ⟨g1, g2⟩ := rd_blk (k := (V.kp L t q.1 q.2).1) (K := K) (L := V.seg L q.1 q.2) (D := d.size) (Lim := Lim) (V.kd_kind _ _) (fun y hy => hm y (V.seg_mem hy)) (fun y hy => hg y (V.seg_mem hy)) hr (by omega) (by omega) x hB (fun _ => hrn) (by rw [hxl, ByteArray.size_extract]; omega) (by omega)
    rw [hnx] at g1
    cases P with
    | nil =>
      obtain rfl : q.2 = b := c3
      simp only [V.prs, List.append_nil, List.isEmpty_nil] at g1 ⊢
      rw [if_pos trivial] at g1
      exact loop_end g1
    | cons p P =>
      simp only [List.isEmpty_cons] at g1 g2 ⊢
      rw [if_neg (by decide)] at g1
      have := rd_prs hm hg ht hz hLen hK hrun hLim (p :: P) q.2 b k (x.1 + (V.blk (V.kp L t q.1 q.2).1 (V.seg L q.1 q.2) (t.extract (V.szt L q.1) (V.szt L q.2)) false x.1).length, (d.data.toList ++ t.data.toList).take (d.size + V.szt L q.2)) (by simp) c3 hb (by simp only [List.length_cons] at hk ⊢; omega) rfl g2
      rw [loop_go g1, this]
      simp only [List.length_append]
      rw [Nat.add_assoc]
theorem rd_dbs {k : Nat} (hd : d.size ≤ 32768) (ht : t.size ≤ 30000) (hK : 100000 ≤ K) (hLim : t.size ≤ Lim) (h : Bt s 0 (V.dbs d t k ++ Y)) : inf K s d.size Lim (0, d.data.toList) = .ok ((), ((V.dbs d t k).length, d.data.toList ++ t.data.toList)) := by
  have hdl : d.data.toList.length = d.size := Array.length_toList
  obtain ⟨K, rfl⟩ : ∃ j, K = j + 1 := ⟨K - 1, by omega⟩
  unfold inf
  by_cases h0 : k = 0
  · have e : V.dbs d t k = V.blk 0 [] t true 0 := by unfold V.dbs V.sbt; rw [if_pos h0]; exact V.bkm_blk (by omega)
    rw [e] at h ⊢
    obtain ⟨g1, g2⟩ := rd_blk (s := s) (D := d.size) (Lim := Lim) (K := K + 1) (k := 0) (L := []) (by decide) (fun y hy => by cases hy) (fun y hy => by cases hy) (show t.size ≤ 65535 by omega) (by omega) (by simp) (0, d.data.toList) h (fun g => absurd rfl g) (by simp only [hdl]; omega) (by simp only; omega)
    rw [if_pos rfl] at g1
    simp only [Nat.zero_add] at g1
    exact loop_end g1
  · have e : V.dbs d t k = V.prs (V.dtk d t k) t (V.pts (V.dtk d t k) t) 0 := by unfold V.dbs V.sbt; rw [if_neg h0]
    rw [e] at h ⊢
    have hz := V.dtk_size d t k
    have hl := V.dtk_len d t k
    have hp := V.pts_length (V.dtk d t k) t
    have hne : V.pts (V.dtk d t k) t ≠ [] := by unfold V.pts V.prt; simp
    have hG : ∀ x ∈ V.dtk d t k, V.may x = true ∧ x.ok := fun x hx => by
      unfold V.dtk at hx
      rw [if_neg h0] at hx
      obtain ⟨q1, q2, q3, q4⟩ := V.Px.G_may _ _ _ _ (fun g => absurd rfl g) x hx
      exact ⟨q1, q2, ⟨by omega, by omega⟩, ⟨by omega, by omega⟩⟩
    have hlen2 : (V.pts (V.dtk d t k) t).length < K + 1 := by unfold V.cnk at hp; omega
    have := rd_prs (s := s) (Lim := Lim) (K := K + 1) (fun x hx => (hG x hx).1) (fun x hx => (hG x hx).2) ht hz (by omega) hK (dtk_run h0 hd (by omega)) hLim (V.pts (V.dtk d t k) t) 0 _ (K + 1) (0, d.data.toList) hne (V.pts_chn _ _) (Nat.le_refl _) hlen2 (by simp only [V.szt_zero, Nat.add_zero]; rw [← hdl, List.take_left]) h
    rw [this, V.szt_all (Nat.le_refl _), hz, List.take_of_length_le (by rw [List.length_append, hdl]; show d.size + t.data.toList.length ≤ _; rw [show t.data.toList.length = t.size from Array.length_toList]; omega)]
    simp only [Nat.zero_add]
end
theorem bt_text {B : List Nat} (h1 : ∀ x ∈ B, x ≤ 1) (u : ByteArray) : Bt (textR (V.nb B) B.length ++ u) 0 (B ++ []) := by
  rw [List.append_nil]
  have hs : (textR (V.nb B) B.length).size = (B.length + 7) / 8 := V.textR_size _ _
  have hlt := V.nb_lt B h1
  have e : (textR (V.nb B) B.length ++ u).data.toList = le (V.nb B) ((B.length + 7) / 8) ++ u.data.toList := by
    unfold textR bstr
    simp
  refine ⟨by rw [ByteArray.size_append, hs]; omega, h1, ?_⟩
  have hle : 2 ^ B.length ≤ 2 ^ (8 * ((B.length + 7) / 8)) := Nat.pow_le_pow_right (by decide) (by omega)
  have a : V.nb B % 2 ^ (8 * ((B.length + 7) / 8)) = V.nb B := Nat.mod_eq_of_lt (Nat.lt_of_lt_of_le hlt hle)
  unfold M.nb M.tx
  rw [e, vl_append, vl_le, le_length, p256', Nat.pow_zero, Nat.div_one, a]
  obtain ⟨r, hr⟩ : ∃ r, 8 * ((B.length + 7) / 8) = B.length + r := ⟨8 * ((B.length + 7) / 8) - B.length, by omega⟩
  rw [hr, Nat.pow_add, Nat.mul_assoc, Nat.add_mul_mod_self_left, Nat.mod_eq_of_lt hlt]
theorem inf_dby {d t u : ByteArray} {k K Lim : Nat} (hd : d.size ≤ 32768) (ht : t.size ≤ 30000) (hK : 100000 ≤ K) (hLim : t.size ≤ Lim) : inf K (V.dby d t k ++ u) d.size Lim (0, d.data.toList) = .ok ((), ((V.dbs d t k).length, d.data.toList ++ t.data.toList)) :=
  rd_dbs hd ht hK hLim (bt_text (V.dbs_bit d t k (by omega)) u)
end Go.Proofs.YtolcaknhjjejeaaGreatDoor.I
