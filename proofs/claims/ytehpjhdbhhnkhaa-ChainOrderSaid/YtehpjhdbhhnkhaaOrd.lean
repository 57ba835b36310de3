/- ChainOrder returns true for any arguments that their kinds hold. Conditions: none. -/
import Derived.Test.YtehpjhdbhhnkhaaWks
namespace Go.Proofs.Ytehpjhdbhhnkhaa
open Go Go.RowKit M
set_option linter.unusedVariables false
set_option linter.unusedSimpArgs false

theorem u8n {a : Int} (h : (Lit.int .u8 a).wf = true) : ∃ n : Nat, a = (n : Int) ∧ n ≤ 255 := by
  have hb : 0 ≤ a ∧ a ≤ 255 := by simpa [Lit.wf, IntKind.min, IntKind.max, IntKind.signed, IntKind.bits] using h
  exact ⟨a.toNat, by omega, by omega⟩
theorem u16n {a : Int} (h : (Lit.int .u16 a).wf = true) : ∃ n : Nat, a = (n : Int) ∧ n ≤ 65535 := by
  have hb : 0 ≤ a ∧ a ≤ 65535 := by simpa [Lit.wf, IntKind.min, IntKind.max, IntKind.signed, IntKind.bits] using h
  exact ⟨a.toNat, by omega, by omega⟩
/-- a slice of bools that came in -/
def IsBools (w : World) (A : Option Addr) (n : Nat) (f : Nat → Bool) : Prop :=
  n ≤ maxLen ∧ (0 < n → ∃ b o, A = some ⟨b, o, none⟩ ∧ b < w.heap.size ∧ ∀ i, i < n → w.cell? ⟨b, o + i, none⟩ = some (.bool (f i)))
theorem IsBools.none (w : World) (f : Nat → Bool) : IsBools w none 0 f := ⟨Nat.zero_le _, fun h => absurd h (by omega)⟩
theorem IsBools.some {w : World} {ad : Addr} {n c : Nat} {f : Nat → Bool} (hl : n ≤ c) (hm : c ≤ maxLen) (hc : ∀ i, i < c → w.cell? (ad.add i) = some (.bool (f i))) : IsBools w (some ad) n f := by
  refine ⟨Nat.le_trans hl hm, fun hn => ?_⟩
  have c0 := hc 0 (by omega)
  have hsp : ad.spot = Option.none := by
    have := World.cell?_spot c0
    rw [Addr.add, if_pos rfl] at this
    exact this
  obtain ⟨b, o, sp⟩ := ad
  obtain rfl : sp = Option.none := hsp
  refine ⟨b, o, rfl, ?_, fun i hi => ?_⟩
  · have := World.block_lt_of_cell? _ _ c0
    rwa [iadd_at] at this
  · rw [← iadd_at]; exact hc i (by omega)
theorem IsBools.below {w w' : World} {A : Option Addr} {n : Nat} {f : Nat → Bool} (h : IsBools w A n f) {B : Nat} (hB : w.heap.size ≤ B) (hb : Below w.heap.size w w') : IsBools w' A n f :=
  ⟨h.1, fun hn => by
    obtain ⟨b, o, e, hl, hc⟩ := h.2 hn
    exact ⟨b, o, e, Nat.lt_of_lt_of_le hl hb.size, fun i hi => (hb.cell (p := ⟨b, o + i, Option.none⟩) hl).trans (hc i hi)⟩⟩

/-- is a place left out -/
def sk (n : Nat) (f : Nat → Bool) (i : Nat) : Bool := decide (i < n) && f i
/-- the places that are put -/
def Ls (n : Nat) (f : Nat → Bool) (j : Nat) : List Nat := (List.range j).filter fun i => !sk n f i
theorem Ls_succ (n : Nat) (f : Nat → Bool) (j : Nat) : Ls n f (j + 1) = if sk n f j = true then Ls n f j else Ls n f j ++ [j] := by
  unfold Ls
  rw [List.range_succ, List.filter_append]
  by_cases h : sk n f j = true
  · simp [h]
  · simp [h]
theorem Ls_mem {n : Nat} {f : Nat → Bool} {j p : Nat} (h : p ∈ Ls n f j) : p < j ∧ sk n f p = false := by
  unfold Ls at h
  obtain ⟨h1, h2⟩ := List.mem_filter.1 h
  exact ⟨List.mem_range.1 h1, by simpa using h2⟩
/-- nearest first -/
theorem nr_desc {s : ByteArray} {L : List Nat} {k : Nat} {d : Int} (hs : L.Pairwise (· < ·)) {i : Nat} {x y : Nat} (hi : (nr s L k d)[i]? = some x) (hj : (nr s L k d)[i + 1]? = some y) : y < x := by
  have h1 : (cnd s L k).Pairwise (· < ·) := by
    unfold cnd
    by_cases c : k + 3 ≤ s.size
    · rw [if_pos c]; exact (hs.filter _).filter _
    · rw [if_neg c]; exact List.Pairwise.nil
  have h2 : (nr s L k d).Pairwise (fun a b => b < a) := by
    unfold nr
    exact List.Pairwise.sublist (List.take_sublist _ _) (List.pairwise_reverse.2 h1)
  obtain ⟨l1, e1⟩ := List.getElem?_eq_some_iff.1 hi
  obtain ⟨l2, e2⟩ := List.getElem?_eq_some_iff.1 hj
  have := List.pairwise_iff_getElem.1 h2 i (i + 1) l1 l2 (by omega)
  rw [e1, e2] at this
  exact this
/-- with less depth the first of them -/
theorem nr_less {s : ByteArray} {L : List Nat} {k : Nat} {d e : Int} (h : e ≤ d) {i : Nat} (hi : i < (nr s L k e).length) : (nr s L k e).getD i 0 = (nr s L k d).getD i 0 := by
  unfold nr at hi ⊢
  rw [List.length_take] at hi
  rw [List.getD, List.getD, List.getElem?_take, List.getElem?_take, if_pos (by omega), if_pos (by omega)]
theorem nr_short {s : ByteArray} {L : List Nat} {k : Nat} {d e : Int} (h : e ≤ d) : (nr s L k e).length ≤ (nr s L k d).length := by
  rw [nr_len, nr_len]; omega
/-- the two matches -/
theorem two_of {s : ByteArray} {l : List Nat} {k : Nat} {nice o o' : Int} (h0 : 0 ≤ o) (h : o ≤ o') {al ad bl bd : Nat} (ha : fnd s k nice o l (0, 0) = (al, ad)) (hb : fnd s k nice o' l (0, 0) = (bl, bd)) :
    (al = 0 ∧ ad = 0 ∧ bl = 0 ∧ bd = 0) ∨ (0 < al ∧ o < (al : Int) ∧ bl = 0 ∧ bd = 0) ∨ (0 < al ∧ o < (al : Int) ∧ bl = al ∧ bd = ad) := by
  have h1 := fnd_over s k nice o o' h l (0, 0) (0, 0) (.inl ⟨rfl, by simp only; omega⟩)
  rw [ha, hb] at h1
  rcases fnd_one s k nice o l (0, 0) with e | ⟨p, _, e, ho⟩
  · rw [ha] at e
    injection e with e1 e2
    subst e1; subst e2
    rcases h1 with q | q <;> injection q with q1 q2 <;> exact .inl ⟨rfl, rfl, q1, q2⟩
  · rw [ha] at e
    injection e with e1 e2
    rcases h1 with q | q <;> injection q with q1 q2
    · exact .inr (.inl ⟨by omega, by omega, q1, q2⟩)
    · exact .inr (.inr ⟨by omega, by omega, q1, q2⟩)

set_option maxRecDepth 1000000 in
set_option maxHeartbeats 2000000 in
theorem order_far (s : ByteArray) (A : Option Addr) (n cp : Nat) (a2 a3 a4 a5 a6 : Int) (W : World) (h : 1024 < s.size ∨ s.size = 0 ∨ 2048 < n) (hs : s.size ≤ maxLen) (hn : n ≤ maxLen) :
    Calls Try.prog 6 #[.string s, .slice A n cp, .int .u16 a2, .int .u8 a3, .int .u8 a4, .int .u8 a5, .int .u8 a6] W fun e w' => e = .returned (.bool true) ∧ Below W.heap.size W w' := by
  unfold maxLen at hs hn
  by_cases c : 1024 < s.size
  · clear h
    go_enter Try.func6, Try.ntmps6
    go_wp2_with fail
    refine (works_any _).mono ?_; rintro e w7 ⟨rfl, b7⟩
    go_wp2_with fail
    go_ret
    exact ⟨rfl, b7⟩
  · by_cases h0 : s.size = 0
    · clear h c
      go_enter Try.func6, Try.ntmps6
      go_wp2_with fail
      refine (works_any _).mono ?_; rintro e w7 ⟨rfl, b7⟩
      go_wp2_with fail
      go_ret
      exact ⟨rfl, b7⟩
    · have h2 : 2048 < n := by omega
      have hne : ((s.size : Int) == 0) = false := by rw [beq_eq_false_iff_ne]; omega
      clear h h0
      go_enter Try.func6, Try.ntmps6
      go_wp2_with fail
      refine (works_any _).mono ?_; rintro e w7 ⟨rfl, b7⟩
      go_wp2_with fail
      go_ret
      exact ⟨rfl, b7⟩
end Go.Proofs.Ytehpjhdbhhnkhaa
