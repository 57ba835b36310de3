/- Bytes and matches, and the text that they are. No program. -/
namespace Go.Proofs.YthemndeljjampaaDoor.M
set_option linter.unusedVariables false

/-- A token: its byte, its length, how far ahead. -/
structure Tk where
  l : Int
  n : Int
  d : Int
deriving DecidableEq
instance : Inhabited Tk := ⟨⟨0, 0, 0⟩⟩

/-- What a token's kinds hold. -/
structure Tk.ok (t : Tk) : Prop where
  l : 0 ≤ t.l ∧ t.l ≤ 255
  n : -9223372036854775808 ≤ t.n ∧ t.n ≤ 9223372036854775807
  d : -9223372036854775808 ≤ t.d ∧ t.d ≤ 9223372036854775807

def isB (t : Tk) : Bool := decide (t.n = 0) && decide (t.d = 0)
def isM (t : Tk) : Bool := decide (t.l = 0) && (decide (3 ≤ t.n) && (decide (t.n ≤ 258) && (decide (1 ≤ t.d) && decide (t.d ≤ 32768))))
def may (t : Tk) : Bool := isB t || isM t
/-- how many bytes it is -/
def szo (t : Tk) : Nat := if isB t = true then 1 else if isM t = true then t.n.toNat else 0
def szs : List Tk → Nat
  | [] => 0
  | t :: l => szo t + szs l
theorem szs_append : ∀ (l m : List Tk), szs (l ++ m) = szs l + szs m
  | [], m => by simp [szs]
  | t :: l, m => by simp only [List.cons_append, szs, szs_append l m]; omega
theorem isB_iff {t : Tk} : isB t = true ↔ t.n = 0 ∧ t.d = 0 := by unfold isB; simp
theorem isM_iff {t : Tk} : isM t = true ↔ t.l = 0 ∧ 3 ≤ t.n ∧ t.n ≤ 258 ∧ 1 ≤ t.d ∧ t.d ≤ 32768 := by unfold isM; simp
theorem isB_no {t : Tk} (h : isM t = true) : isB t = false := by
  have := isM_iff.1 h
  cases q : isB t
  · rfl
  · have := isB_iff.1 q; omega
theorem szo_le (t : Tk) : szo t ≤ 258 := by
  unfold szo
  split
  · omega
  · split
    · rename_i h; have := isM_iff.1 h; omega
    · omega
theorem szo_pos {t : Tk} (h : may t = true) : 1 ≤ szo t := by
  unfold szo
  split
  · omega
  · rename_i hb
    split
    · rename_i h; have := isM_iff.1 h; omega
    · rename_i hm; unfold may at h; rw [Bool.or_eq_true] at h; rcases h with h | h; exact absurd h hb; exact absurd h hm
theorem szo_byte {t : Tk} (h : isB t = true) : szo t = 1 := by unfold szo; rw [if_pos h]
theorem szo_match {t : Tk} (h : isM t = true) : szo t = t.n.toNat := by unfold szo; rw [isB_no h, if_neg (by decide), if_pos h]
theorem szs_le : ∀ l : List Tk, szs l ≤ 258 * l.length
  | [] => by simp [szs]
  | t :: l => by have := szs_le l; have := szo_le t; simp only [szs, List.length_cons]; omega

/-- what stands d ahead, k times over -/
def grow (b : List UInt8) (d : Nat) : Nat → List UInt8
  | 0 => b
  | k + 1 => grow b d k ++ [(grow b d k).getD ((grow b d k).length - d) 0]
theorem grow_length (b : List UInt8) (d : Nat) : ∀ k, (grow b d k).length = b.length + k
  | 0 => rfl
  | k + 1 => by simp only [grow, List.length_append, List.length_cons, List.length_nil, grow_length b d k]; omega
theorem grow_pre (X b : List UInt8) {d : Nat} (h1 : 1 ≤ d) (h2 : d ≤ b.length) : ∀ k, grow (X ++ b) d k = X ++ grow b d k
  | 0 => rfl
  | k + 1 => by
    have hl := grow_length b d k
    simp only [grow, grow_pre X b h1 h2 k, List.append_assoc, List.length_append]
    congr 3
    rw [List.getD, List.getD, List.getElem?_append_right (by omega)]
    congr 2
    omega

/-- One token more: an error's number, what stands behind it. -/
def step (d0 : Nat) (b : List UInt8) (t : Tk) : Int × List UInt8 :=
  if may t = false then (2, b)
  else if (b.length : Int) < t.d then (7, b)
  else if 1048576 < b.length - d0 + szo t then (5, b)
  else if isB t = true then (0, b ++ [UInt8.ofNat t.l.toNat])
  else (0, grow b t.d.toNat t.n.toNat)
def run (d0 : Nat) (b : List UInt8) : List Tk → Int × List UInt8
  | [] => (0, b)
  | t :: l => if (step d0 b t).1 = 0 then run d0 (step d0 b t).2 l else ((step d0 b t).1, [])
/-- The text behind D, and the error's number. -/
def txt (D : List UInt8) (l : List Tk) : List UInt8 × Int :=
  if (run D.length D l).1 = 0 then ((run D.length D l).2.drop D.length, 0) else ([], (run D.length D l).1)

theorem run_go {d0 : Nat} {b : List UInt8} {t : Tk} {l : List Tk} (h : (step d0 b t).1 = 0) : run d0 b (t :: l) = run d0 (step d0 b t).2 l := by rw [run, if_pos h]
theorem run_no {d0 : Nat} {b : List UInt8} {t : Tk} {l : List Tk} (h : (step d0 b t).1 ≠ 0) : run d0 b (t :: l) = ((step d0 b t).1, []) := by rw [run, if_neg h]

/-! the ways of a token -/
section
variable {d0 : Nat} {b : List UInt8} {t : Tk}
theorem step_arg (h : may t = false) : step d0 b t = (2, b) := by unfold step; rw [if_pos h]
theorem step_far (h : may t = true) (h2 : (b.length : Int) < t.d) : step d0 b t = (7, b) := by unfold step; rw [if_neg (by rw [h]; decide), if_pos h2]
theorem step_long (h : may t = true) (h2 : ¬ (b.length : Int) < t.d) (h3 : 1048576 < b.length - d0 + szo t) : step d0 b t = (5, b) := by
  unfold step; rw [if_neg (by rw [h]; decide), if_neg h2, if_pos h3]
theorem step_byte (h2 : ¬ (b.length : Int) < t.d) (h3 : ¬ 1048576 < b.length - d0 + szo t) (h4 : isB t = true) : step d0 b t = (0, b ++ [UInt8.ofNat t.l.toNat]) := by
  have h : may t = true := by unfold may; rw [h4]; rfl
  unfold step; rw [if_neg (by rw [h]; decide), if_neg h2, if_neg h3, if_pos h4]
theorem step_match (h2 : ¬ (b.length : Int) < t.d) (h3 : ¬ 1048576 < b.length - d0 + szo t) (h4 : isM t = true) : step d0 b t = (0, grow b t.d.toNat t.n.toNat) := by
  have h : may t = true := by unfold may; rw [h4, Bool.or_true]
  unfold step; rw [if_neg (by rw [h]; decide), if_neg h2, if_neg h3, if_neg (by rw [isB_no h4]; decide)]
/-- a token's ways -/
theorem step_ways (d0 : Nat) (b : List UInt8) (t : Tk) :
    (may t = false) ∨ (may t = true ∧ (b.length : Int) < t.d) ∨ (may t = true ∧ ¬ (b.length : Int) < t.d ∧ 1048576 < b.length - d0 + szo t) ∨
    (¬ (b.length : Int) < t.d ∧ ¬ 1048576 < b.length - d0 + szo t ∧ isB t = true) ∨ (¬ (b.length : Int) < t.d ∧ ¬ 1048576 < b.length - d0 + szo t ∧ isM t = true) := by
  by_cases h : may t = false
  · exact .inl h
  have h' : may t = true := by simpa using h
  by_cases h2 : (b.length : Int) < t.d
  · exact .inr (.inl ⟨h', h2⟩)
  by_cases h3 : 1048576 < b.length - d0 + szo t
  · exact .inr (.inr (.inl ⟨h', h2, h3⟩))
  have h4 := h'
  unfold may at h4
  rw [Bool.or_eq_true] at h4
  rcases h4 with h4 | h4
  · exact .inr (.inr (.inr (.inl ⟨h2, h3, h4⟩)))
  · exact .inr (.inr (.inr (.inr ⟨h2, h3, h4⟩)))
/-- where it goes on, the text is longer by what the token is -/
theorem step_len (h : (step d0 b t).1 = 0) : (step d0 b t).2.length = b.length + szo t ∧ b.length - d0 + szo t ≤ 1048576 := by
  rcases step_ways d0 b t with h1 | ⟨h1, h2⟩ | ⟨h1, h2, h3⟩ | ⟨h2, h3, h4⟩ | ⟨h2, h3, h4⟩
  · rw [step_arg h1] at h; exact absurd h (by simp)
  · rw [step_far h1 h2] at h; exact absurd h (by simp)
  · rw [step_long h1 h2 h3] at h; exact absurd h (by simp)
  · rw [step_byte h2 h3 h4, szo_byte h4, List.length_append]; rw [szo_byte h4] at h3; exact ⟨rfl, by omega⟩
  · rw [step_match h2 h3 h4, szo_match h4, grow_length]; rw [szo_match h4] at h3; exact ⟨rfl, by omega⟩
theorem step_no (h : (step d0 b t).1 ≠ 0) : (step d0 b t).1 = 2 ∨ (step d0 b t).1 = 7 ∨ (step d0 b t).1 = 5 := by
  rcases step_ways d0 b t with h1 | ⟨h1, h2⟩ | ⟨h1, h2, h3⟩ | ⟨h2, h3, h4⟩ | ⟨h2, h3, h4⟩
  · rw [step_arg h1]; exact .inl rfl
  · rw [step_far h1 h2]; exact .inr (.inl rfl)
  · rw [step_long h1 h2 h3]; exact .inr (.inr rfl)
  · rw [step_byte h2 h3 h4] at h; exact absurd rfl h
  · rw [step_match h2 h3 h4] at h; exact absurd rfl h
theorem may_dist (h : may t = true) : (t.d = 0 ∨ 1 ≤ t.d) ∧ t.d ≤ 32768 := by
  unfold may at h
  rw [Bool.or_eq_true] at h
  rcases h with h | h
  · have := isB_iff.1 h; omega
  · have := isM_iff.1 h; omega

/-- what stands ahead of b makes no difference to what goes on -/
theorem step_pre (X : List UInt8) (h : (step d0 b t).1 = 0) (hd : d0 ≤ b.length) : step (X.length + d0) (X ++ b) t = (0, X ++ (step d0 b t).2) := by
  have e : (X ++ b).length - (X.length + d0) = b.length - d0 := by rw [List.length_append]; omega
  have e2 : ((X ++ b).length : Int) = (X.length : Int) + (b.length : Int) := by rw [List.length_append]; omega
  rcases step_ways d0 b t with h1 | ⟨h1, h2⟩ | ⟨h1, h2, h3⟩ | ⟨h2, h3, h4⟩ | ⟨h2, h3, h4⟩
  · rw [step_arg h1] at h; exact absurd h (by simp)
  · rw [step_far h1 h2] at h; exact absurd h (by simp)
  · rw [step_long h1 h2 h3] at h; exact absurd h (by simp)
  · rw [step_byte h2 h3 h4, step_byte (by rw [e2]; omega) (by rw [e]; exact h3) h4, List.append_assoc]
  · have hm := isM_iff.1 h4
    rw [step_match h2 h3 h4, step_match (by rw [e2]; omega) (by rw [e]; exact h3) h4, grow_pre X b (by omega) (by omega)]
/-- .. nor, where a match may not reach further, to what doesn't -/
theorem step_pre_no (X : List UInt8) (h : (step d0 b t).1 ≠ 0) (hd : d0 ≤ b.length) : (step d0 b t).1 = 7 ∧ ¬ 32768 ≤ b.length ∨ (step (X.length + d0) (X ++ b) t).1 = (step d0 b t).1 := by
  have e : (X ++ b).length - (X.length + d0) = b.length - d0 := by rw [List.length_append]; omega
  have e2 : ((X ++ b).length : Int) = (X.length : Int) + (b.length : Int) := by rw [List.length_append]; omega
  rcases step_ways d0 b t with h1 | ⟨h1, h2⟩ | ⟨h1, h2, h3⟩ | ⟨h2, h3, h4⟩ | ⟨h2, h3, h4⟩
  · right; rw [step_arg h1, step_arg h1]
  · left; rw [step_far h1 h2]; have := may_dist h1; exact ⟨rfl, by omega⟩
  · right; rw [step_long h1 h2 h3, step_long h1 (by rw [e2]; omega) (by rw [e]; exact h3)]
  · rw [step_byte h2 h3 h4] at h; exact absurd rfl h
  · rw [step_match h2 h3 h4] at h; exact absurd rfl h
end

theorem run_pre (X : List UInt8) (d0 : Nat) : ∀ (l : List Tk) (b : List UInt8), d0 ≤ b.length → (run d0 b l).1 = 0 → run (X.length + d0) (X ++ b) l = (0, X ++ (run d0 b l).2)
  | [], b, _, _ => rfl
  | t :: l, b, hd, h => by
    by_cases q : (step d0 b t).1 = 0
    · rw [run_go q] at h ⊢
      have hp := step_pre X q hd
      have hq : (step (X.length + d0) (X ++ b) t).1 = 0 := by rw [hp]
      rw [run_go hq, hp]
      exact run_pre X d0 l _ (by have := (step_len q).1; omega) h
    · rw [run_no q] at h; exact absurd h q
theorem run_pre_no (X : List UInt8) (d0 : Nat) : ∀ (l : List Tk) (b : List UInt8), d0 ≤ b.length → (run d0 b l).1 ≠ 0 → ((run d0 b l).1 = 7 ∧ ¬ 32768 ≤ b.length) ∨ (run (X.length + d0) (X ++ b) l).1 = (run d0 b l).1
  | [], b, _, h => absurd rfl h
  | t :: l, b, hd, h => by
    by_cases q : (step d0 b t).1 = 0
    · have hp := step_pre X q hd
      have hq : (step (X.length + d0) (X ++ b) t).1 = 0 := by rw [hp]
      have hl := (step_len q).1
      rw [run_go q] at h ⊢
      rw [run_go hq, hp]
      rcases run_pre_no X d0 l (step d0 b t).2 (by omega) h with ⟨g1, g2⟩ | g
      · exact .inl ⟨g1, by omega⟩
      · exact .inr g
    · rw [run_no q]
      rcases step_pre_no X q hd with g | g
      · exact .inl g
      · right
        have hq : (step (X.length + d0) (X ++ b) t).1 ≠ 0 := by rw [g]; exact q
        rw [run_no hq]; exact g

theorem txt_ok {D : List UInt8} {l : List Tk} (h : (run D.length D l).1 = 0) : txt D l = ((run D.length D l).2.drop D.length, 0) := by unfold txt; rw [if_pos h]
theorem txt_no {D : List UInt8} {l : List Tk} (h : (run D.length D l).1 ≠ 0) : txt D l = ([], (run D.length D l).1) := by unfold txt; rw [if_neg h]
theorem txt_snd (D : List UInt8) (l : List Tk) : (txt D l).2 = (run D.length D l).1 := by
  by_cases h : (run D.length D l).1 = 0
  · rw [txt_ok h, h]
  · rw [txt_no h]
/-- What stands ahead of D makes no difference to what is a text behind D. -/
theorem txt_pre (X D : List UInt8) (l : List Tk) (h : (txt D l).2 = 0) : txt (X ++ D) l = txt D l := by
  rw [txt_snd] at h
  have hp := run_pre X D.length l D (Nat.le_refl _) h
  have e : (X ++ D).length = X.length + D.length := List.length_append
  rw [← e] at hp
  rw [txt_ok h, txt_ok (by rw [hp]), hp, e]
  show ((X ++ _).drop _, _) = _
  rw [List.drop_append, List.drop_eq_nil_of_le (by omega), List.nil_append, show X.length + D.length - X.length = D.length by omega]
theorem txt_pre_no (X D : List UInt8) (l : List Tk) (h : (txt D l).2 ≠ 0) : ((txt D l).2 = 7 ∨ (txt D l).2 = (txt (X ++ D) l).2) ∧ (txt D l).1 = [] := by
  rw [txt_snd] at h
  refine ⟨?_, by rw [txt_no h]⟩
  have hp := run_pre_no X D.length l D (Nat.le_refl _) h
  have e : (X ++ D).length = X.length + D.length := List.length_append
  rw [← e] at hp
  rw [txt_snd, txt_snd]
  rcases hp with ⟨g, _⟩ | g
  · exact .inl g
  · exact .inr g.symm
/-- No match reaches further ahead than 32768 bytes. -/
theorem txt_cut (D : List UInt8) (l : List Tk) (k : Nat) (hk : k = D.length - 32768) : txt (D.drop k) l = txt D l := by
  by_cases h0 : D.length ≤ 32768
  · rw [show k = 0 by omega, List.drop_zero]
  · have hl : (D.drop k).length = 32768 := by rw [List.length_drop]; omega
    have hD : D.take k ++ D.drop k = D := List.take_append_drop k D
    by_cases h : (txt (D.drop k) l).2 = 0
    · have := txt_pre (D.take k) (D.drop k) l h
      rw [hD] at this; exact this.symm
    · have h' := h
      rw [txt_snd] at h'
      have hp := run_pre_no (D.take k) (D.drop k).length l (D.drop k) (Nat.le_refl _) h'
      rcases hp with ⟨_, g⟩ | g
      · exact absurd (by rw [hl]; exact Nat.le_refl _) g
      · rw [← List.length_append, hD] at g
        rw [txt_no h', txt_no (by rw [g]; exact h'), g]

/-- Tokens that may be, and reach no further than a byte ahead: how long the text is, or that it is too long. -/
theorem run_long (d0 : Nat) : ∀ (l : List Tk) (b : List UInt8), (∀ t ∈ l, may t = true ∧ t.d ≤ 1) → 1 ≤ b.length → d0 ≤ b.length → b.length - d0 ≤ 1048576 →
    (b.length - d0 + szs l ≤ 1048576 → (run d0 b l).1 = 0 ∧ (run d0 b l).2.length = b.length + szs l) ∧ (1048576 < b.length - d0 + szs l → (run d0 b l).1 = 5)
  | [], b, _, _, _, h => ⟨fun _ => ⟨rfl, rfl⟩, fun g => by simp only [szs] at g; omega⟩
  | t :: l, b, ht, h1, h2, h3 => by
    obtain ⟨m1, m2⟩ := ht t (List.mem_cons_self ..)
    have hn : ¬ (b.length : Int) < t.d := by omega
    by_cases q : 1048576 < b.length - d0 + szo t
    · have hs := step_long (d0 := d0) m1 hn q
      rw [run_no (by rw [hs]; simp), hs]
      simp only [szs]
      exact ⟨fun g => by omega, fun _ => by trivial⟩
    · have hs : (step d0 b t).1 = 0 := by
        rcases step_ways d0 b t with g1 | ⟨g1, g2⟩ | ⟨g1, g2, g3⟩ | ⟨g2, g3, g4⟩ | ⟨g2, g3, g4⟩
        · rw [m1] at g1; cases g1
        · exact absurd g2 hn
        · exact absurd g3 q
        · rw [step_byte g2 g3 g4]
        · rw [step_match g2 g3 g4]
      have hl := (step_len hs).1
      rw [run_go hs]
      obtain ⟨r1, r2⟩ := run_long d0 l (step d0 b t).2 (fun t' h' => ht t' (List.mem_cons_of_mem _ h')) (by omega) (by omega) (by omega)
      rw [hl] at r1 r2
      simp only [szs]
      exact ⟨fun g => by obtain ⟨a1, a2⟩ := r1 (by omega); exact ⟨a1, by omega⟩, fun g => r2 (by omega)⟩
end Go.Proofs.YthemndeljjampaaDoor.M
