/- What candidates of package chain answers where there may be some. Conditions: as each theorem names them. -/
import Derived.Test.YthemndeljjampaaDoorChD
namespace Go.Proofs.YthemndeljjampaaDoor
open Go Go.RowKit M
open Go.ChangeShapes (lits)
set_option linter.unusedVariables false
set_option linter.unusedSimpArgs false
theorem bs_all {l : List Nat} (hs : l.Pairwise (· < ·)) {x : Int} {i : Nat} (h : Bs (fun i => ((l.getD i 0 : Nat) : Int)) l.length x i) :
    (∀ (j y : Nat), l[j]? = some y → j < i → (y : Int) < x) ∧ (∀ (j y : Nat), l[j]? = some y → i ≤ j → x ≤ (y : Int)) := by
  have hp := List.pairwise_iff_getElem.1 hs
  have hle := h.le
  have mono : ∀ (a b y z : Nat), l[a]? = some y → l[b]? = some z → a ≤ b → y ≤ z := fun a b y z ha hb hab => by
    obtain ⟨h1, e1⟩ := List.getElem?_eq_some_iff.1 ha
    obtain ⟨h2, e2⟩ := List.getElem?_eq_some_iff.1 hb
    by_cases c : a = b
    · subst c; rw [← e1, ← e2]; exact Nat.le_refl _
    · have := hp a b h1 h2 (by omega)
      omega
  constructor
  · intro j y hj hlt
    rcases h.lo with e | e
    · omega
    · have hi : i - 1 < l.length := by omega
      have h1 : l[i - 1]? = some (l.getD (i - 1) 0) := by simp [List.getD, List.getElem?_eq_getElem hi]
      have := mono _ _ _ _ hj h1 (by omega)
      omega
  · intro j y hj hle'
    have hjl := (List.getElem?_eq_some_iff.1 hj).1
    rcases h.hi with e | e
    · omega
    · have hi : i < l.length := by omega
      have h1 : l[i]? = some (l.getD i 0) := by simp [List.getD, List.getElem?_eq_getElem hi]
      have := mono _ _ _ _ h1 hj hle'
      omega
theorem nr_rev (s : ByteArray) (L : List Nat) (k : Nat) (d : Int) : (nr s L k d).reverse = (cnd s L k).drop ((cnd s L k).length - d.toNat) := by
  unfold nr
  rw [List.take_reverse, List.reverse_reverse]
theorem cand_math {s : ByteArray} {L : List Nat} {k : Nat} (hk : k + 3 ≤ s.size) (hs : L.Pairwise (· < ·)) {l : List Nat} (hl : grp s L (byt s k) (byt s (k + 1)) (byt s (k + 2)) = l) {fr to : Nat} {d : Int} (hd : 1 ≤ d)
    (h1 : Bs (fun i => ((l.getD i 0 : Nat) : Int)) l.length ((k : Int) - 32768) fr) (h2 : Bs (fun i => ((l.getD i 0 : Nat) : Int)) l.length (k : Int) to) :
    fr ≤ to ∧ ∀ lo : Nat, (lo : Int) = max (fr : Int) ((to : Int) - d) → lo ≤ to ∧ (nr s L k d).length = to - lo ∧ ∀ i, i < to - lo → (nr s L k d).reverse.getD i 0 = l.getD (lo + i) 0 := by
  have hp : l.Pairwise (· < ·) := by rw [← hl]; exact hs.filter _
  obtain ⟨a1, a2⟩ := bs_all hp h1
  obtain ⟨b1, b2⟩ := bs_all hp h2
  have f1 := h1.le
  have f2 := h2.le
  have hft : fr ≤ to := by
    apply Classical.byContradiction
    intro c
    have hi : to < l.length := by omega
    have e : l[to]? = some (l.getD to 0) := by simp [List.getD, List.getElem?_eq_getElem hi]
    have g1 := a1 _ _ e (by omega)
    have g2 := b2 _ _ e (Nat.le_refl _)
    omega
  have hc := cnd_cut hk hl.symm a1 a2 (fun j y q r => by have := b1 j y q r; omega) (fun j y q r => by have := b2 j y q r; omega)
  have hcl : (cnd s L k).length = to - fr := by rw [hc, List.length_drop, List.length_take]; omega
  refine ⟨hft, fun lo hlo => ?_⟩
  have hlt : lo ≤ to := by omega
  refine ⟨hlt, by rw [nr_len, hcl]; omega, fun i hi => ?_⟩
  rw [nr_rev, hcl, hc, List.drop_drop, List.getD, List.getD, List.getElem?_drop, List.getElem?_take, if_pos (by omega)]
  congr 2
  omega

section
variable {B F : Nat} {s : ByteArray} {L : List Nat} {la : Int} {w : World}
set_option maxRecDepth 1000000 in
set_option maxHeartbeats 1000000 in
theorem cand_yes (H : Fd w B F s L la) (k : Nat) (d : Int) (hk : k + 3 ≤ s.size) (hd : 1 ≤ d) (hd2 : d ≤ 9223372036854775807) :
    Calls Tryd.prog 32 #[.pointer (some ⟨F, 0, none⟩), .int .i64 k, .int .i64 d] w (CandPost s L k d w) := by
  have HS := Lib.hid (start_yes H k hk)
  have HH := Lib.hid H
  have hl := H.len
  obtain ⟨x0, q0⟩ : ∃ x, byt s k = x := ⟨_, rfl⟩
  obtain ⟨x1, q1⟩ : ∃ x, byt s (k + 1) = x := ⟨_, rfl⟩
  obtain ⟨x2, q2⟩ : ∃ x, byt s (k + 2) = x := ⟨_, rfl⟩
  have Q0 := Lib.hid q0
  have Q1 := Lib.hid q1
  have Q2 := Lib.hid q2
  rw [q0, q1, q2] at HS
  clear H q0 q1 q2
  go_enter Tryd.func32, Tryd.ntmps32
  go_wp2_with fail
  refine HS.out.mono ?_; rintro e w2 ⟨rfl, b2⟩
  have H2 := Lib.hid (HH.out.below b2)
  have B2 := Lib.hid b2
  clear b2
  obtain ⟨b, A, c, f1, f2, f3, f4, f4', f5⟩ := key_slice H2.out k
  have hcnt : (grp s L (byt s k) (byt s (k + 1)) (byt s (k + 2))).length ≤ 1048576 := by
    have h1 := H2.out.count
    have h2 : (grp s L (byt s k) (byt s (k + 1)) (byt s (k + 2))).length ≤ L.length := List.length_filter_le _ _
    omega
  obtain ⟨l, hl'⟩ : ∃ l, grp s L (byt s k) (byt s (k + 1)) (byt s (k + 2)) = l := ⟨_, rfl⟩
  rw [hl'] at f3 f4 f5 hcnt
  rw [Q0.out, Q1.out, Q2.out] at f3
  have HL := Lib.hid hl'
  have F3 := Lib.hid (fun n => f3 ((w2.alloc (.cells #[.int .u8 x0, .int .u8 x1, .int .u8 x2] 75)).drewN n) (Below.heap_alloc w2 _ b f2))
  have F5 := Lib.hid f5
  have hF := H2.out.lt
  have g1 : (w2.alloc (.cells #[.int .u8 x0, .int .u8 x1, .int .u8 x2] 75)).cell? ⟨F, 2, none⟩ = some (.map (some b)) := cell_more f1 _
  unfold maxLen at f4'
  clear f1 f3 f5 hl'
  obtain ⟨m, hm⟩ : ∃ m, l.length = m := ⟨_, rfl⟩
  rw [hm] at f4 hcnt F3 F5
  have HM := Lib.hid hm
  clear hm
  unfold rkey
  go_wp2_with fail
  have f3 := F3.out
  unfold rkey at f3
  go_quiet (fail)
  clear f3
  have HN := Lib.hid (show ∀ W', Below w2.heap.size w2 W' → Nums W' .i64 A m (fun i => ((l.getD i 0 : Nat) : Int)) from fun W' hb hm => by
    obtain ⟨g, cur, e1, e2, e3, e4⟩ := F5.out (by omega)
    refine ⟨g, 0, e1, Nat.lt_of_lt_of_le e3 hb.size, fun i hi => ?_⟩
    rw [Nat.zero_add]
    refine (hb.cell (p := ⟨g, i, none⟩) e3).trans ?_
    rw [cell_of_row _ _ _ _ _ _ e2]
    exact e4 i hi)
  have HB := Lib.hid (fun x W' hb => bin_any A m c (fun i => ((l.getD i 0 : Nat) : Int)) x W' hcnt (HN.out W' hb))
  go_wp2_with fail
  refine (HB.out _ _ (below_drewN ((Below.refl _ _).alloc (Nat.le_refl _) _) _)).mono ?_; rintro e w3 ⟨fr, bb1, rfl, hfr, rfl⟩
  have HFr := Lib.hid hfr
  have hfr1 := hfr.le
  clear hfr
  go_wp2_with fail
  refine (HB.out _ _ (below_drewN ((Below.refl _ _).alloc (Nat.le_refl _) _) _)).mono ?_; rintro e w3 ⟨to, bb2, rfl, hto, rfl⟩
  have HTo := Lib.hid hto
  have hto1 := hto.le
  clear hto
  have HMt := Lib.hid (cand_math hk H2.out.rise HL.out hd (by rw [HM.out]; exact HFr.out) (by rw [HM.out]; exact HTo.out))
  obtain ⟨hft, HMt2⟩ := HMt.out
  have HMt2 := Lib.hid HMt2
  clear HMt
  obtain ⟨lo, hlo⟩ : ∃ lo : Nat, (lo : Int) = max (fr : Int) ((to : Int) - d) := ⟨(max (fr : Int) ((to : Int) - d)).toNat, by omega⟩
  obtain ⟨hl1, hl2, hl3⟩ := HMt2.out lo hlo
  have hl4 : fr ≤ lo := by omega
  have HL2 := Lib.hid hl2
  have HL3 := Lib.hid hl3
  obtain ⟨X, hX⟩ : ∃ X, (if c = lo then A else Option.map (fun x => x.add lo) A) = X := ⟨_, rfl⟩
  have HF : Hid (0 < to - lo → ∃ b o cur, X = some ⟨b, o, none⟩ ∧ w2.heap[b]? = some (.cells cur 3 (0, 0)) ∧ b < w2.heap.size ∧ ∀ i, i < to - lo → cur[o + i]? = some (.int .i64 ((l.getD (lo + i) 0 : Nat) : Int))) := Lib.hid fun hp => by
    obtain ⟨g, cur, e1, e2, e3, e4⟩ := F5.out (by omega)
    refine ⟨g, lo, cur, ?_, e2, e3, fun i hi => e4 (lo + i) (by omega)⟩
    rw [← hX, if_neg (by omega), e1]
    simp only [Option.map]
    rw [iadd_at, Nat.zero_add]
  have HE : Hid (∀ n, CandPost s L k d w (.returned (.slice X (to - lo) (c - lo))) ((w2.alloc (.cells #[.int .u8 x0, .int .u8 x1, .int .u8 x2] 75)).drewN n)) := Lib.hid fun n => by
    unfold CandPost
    rw [HL2.out]
    refine ⟨X, _, rfl, fun hp => ?_, below_drewN (B2.out.alloc B2.out.size _) n⟩
    obtain ⟨b, o, cur, e1, e2, e3, e4⟩ := HF.out hp
    exact ⟨b, o, cur, e1, (Below.heap_alloc w2 _ b e3).trans e2, fun i hi => by rw [HL3.out i hi]; exact e4 i hi⟩
  clear HMt2 hl2 hl3
  by_cases hc : (fr : Int) < (to : Int) - d
  · have q1 : (to : Int) - d = (lo : Int) := by omega
    have hlc : lo ≤ c := by omega
    clear hlo
    go_wp2_with fail
    go_ret
    exact HE.out _
  · obtain rfl : lo = fr := by omega
    clear hlo
    go_wp2_with fail
    go_ret
    exact HE.out _
theorem nr_out {s : ByteArray} {L : List Nat} {k : Nat} {d : Int} (h : d < 1 ∨ ¬ k + 3 ≤ s.size) : (nr s L k d).length = 0 := by
  rw [nr_len]
  rcases h with h | h
  · have : d.toNat = 0 := by omega
    rw [this]; exact Nat.zero_min _
  · unfold cnd
    rw [if_neg h]; exact Nat.min_zero _
theorem cand_any (H : Fd w B F s L la) (k : Nat) (d : Int) (hd2 : d ≤ 9223372036854775807) :
    Calls Tryd.prog 32 #[.pointer (some ⟨F, 0, none⟩), .int .i64 k, .int .i64 d] w (CandPost s L k d w) := by
  by_cases c1 : k + 3 ≤ s.size
  · by_cases c2 : d < 1
    · refine (cand_low H k d c1 c2).mono ?_
      rintro e w' ⟨rfl, b⟩
      exact ⟨none, 0, by rw [nr_out (.inl c2)], fun hp => by rw [nr_out (.inl c2)] at hp; omega, b⟩
    · exact cand_yes H k d c1 (by omega) hd2
  · refine (cand_out H k d (.inr (by omega))).mono ?_
    rintro e w' ⟨rfl, b⟩
    exact ⟨none, 0, by rw [nr_out (.inr c1)], fun hp => by rw [nr_out (.inr c1)] at hp; omega, b⟩
theorem nr_few (H : Fd w B F s L la) (k : Nat) (d : Int) : (nr s L k d).length ≤ 1048576 := by
  have h1 := H.count
  have h2 := H.len
  have h3 : (cnd s L k).length ≤ L.length := by
    unfold cnd
    by_cases c : k + 3 ≤ s.size
    · rw [if_pos c]
      exact Nat.le_trans (List.length_filter_le _ _) (List.length_filter_le _ _)
    · rw [if_neg c]; exact Nat.zero_le _
  rw [nr_len]
  omega
end
end Go.Proofs.YthemndeljjampaaDoor
