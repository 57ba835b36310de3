/- Modifications of pages: which may be, their log, what a log tells, what a page is behind them. No program. -/
import Derived.Test.YtbbfbijgclpjeaaMathB
namespace Go.Proofs.Ytbbfbijgclpjeaa.O
open Go M
set_option linter.unusedVariables false

/-- A modification: where, and which bytes. -/
structure Md where
  p : Int
  s : ByteArray
instance : Inhabited Md := ⟨⟨0, ⟨#[]⟩⟩⟩
/-- a page's size -/
def pg (n : Int) : Bool := n == 1024 || n == 2048 || n == 4096 || n == 8192 || n == 16384
theorem pg_iff {n : Int} : pg n = true ↔ n = 1024 ∨ n = 2048 ∨ n = 4096 ∨ n = 8192 ∨ n = 16384 := by
  simp only [pg, Bool.or_eq_true, beq_iff_eq]; omega
theorem pg_le {n : Int} (h : pg n = true) : 1024 ≤ n ∧ n ≤ 16384 := by have := pg_iff.1 h; omega
/-- it may be -/
def may (n : Int) (m : Md) : Bool := pg n && decide (0 ≤ m.p ∧ 0 < m.s.size ∧ m.p + m.s.size ≤ n)
theorem may_iff {n : Int} {m : Md} : may n m = true ↔ pg n = true ∧ 0 ≤ m.p ∧ 0 < m.s.size ∧ m.p + m.s.size ≤ n := by
  simp only [may, Bool.and_eq_true, decide_eq_true_eq]
def szs : List Md → Nat
  | [] => 0
  | m :: r => 4 + m.s.size + szs r
theorem szs_append (l r : List Md) : szs (l ++ r) = szs l + szs r := by
  induction l with
  | nil => simp [szs]
  | cons m l ih => simp only [List.cons_append, szs, ih]; omega
/-- a record -/
def rec (m : Md) : List UInt8 := le m.p.toNat 2 ++ le m.s.size 2 ++ m.s.data.toList
theorem rec_length (m : Md) : (rec m).length = 4 + m.s.size := by
  unfold rec
  rw [List.length_append, List.length_append, le_length, le_length, size_list]
/-- a log -/
def enc : List Md → List UInt8
  | [] => []
  | m :: r => rec m ++ enc r
theorem enc_append (l r : List Md) : enc (l ++ r) = enc l ++ enc r := by
  induction l with
  | nil => rfl
  | cons m l ih => simp only [List.cons_append, enc, ih, List.append_assoc]
theorem enc_length (l : List Md) : (enc l).length = szs l := by
  induction l with
  | nil => rfl
  | cons m l ih => simp only [enc, szs, List.length_append, rec_length, ih]

/-! what a log tells -/
def fst : List UInt8 → Option Md
  | a :: b :: c :: d :: r => if r.length < c.toNat + 256 * d.toNat then none else some ⟨((a.toNat + 256 * b.toNat : Nat) : Int), ⟨(r.take (c.toNat + 256 * d.toNat)).toArray⟩⟩
  | _ => none
theorem fst_eq (a b c d : UInt8) (r : List UInt8) : fst (a :: b :: c :: d :: r) = if r.length < c.toNat + 256 * d.toNat then none else some ⟨((a.toNat + 256 * b.toNat : Nat) : Int), ⟨(r.take (c.toNat + 256 * d.toNat)).toArray⟩⟩ := rfl
theorem fst_size {s : List UInt8} {m : Md} (h : fst s = some m) : 4 + m.s.size ≤ s.length ∧ m.s.data.toList = (s.drop 4).take m.s.size ∧ m.s.size ≤ 65535 ∧ 0 ≤ m.p ∧ m.p ≤ 65535 := by
  match s, h with
  | a :: b :: c :: d :: r, h =>
    rw [fst_eq] at h
    by_cases hr : r.length < c.toNat + 256 * d.toNat
    · rw [if_pos hr] at h; cases h
    · rw [if_neg hr] at h
      injection h with h
      subst h
      have e : (⟨(r.take (c.toNat + 256 * d.toNat)).toArray⟩ : ByteArray).size = c.toNat + 256 * d.toNat := by
        show (r.take (c.toNat + 256 * d.toNat)).toArray.size = _
        rw [List.size_toArray, List.length_take]; omega
      have ha := a.toNat_lt
      have hb := b.toNat_lt
      have hc := c.toNat_lt
      have hd := d.toNat_lt
      simp only [e, List.length_cons, List.drop_succ_cons, List.drop_zero]
      exact ⟨by omega, trivial, by omega, by omega, by omega⟩
def dec (n : Int) (s : List UInt8) : Option (List Md) :=
  if hs : s = [] then some [] else
    match fst s with
    | none => none
    | some m => if may n m then (dec n (s.drop (4 + m.s.size))).map (m :: ·) else none
termination_by s.length
decreasing_by
  rw [List.length_drop]
  have : 0 < s.length := List.length_pos_iff.2 hs
  omega
theorem dec_nil (n : Int) : dec n [] = some [] := by rw [dec]; rfl
theorem dec_none {n : Int} {s : List UInt8} (h : s ≠ []) (hf : fst s = none) : dec n s = none := by rw [dec, dif_neg h, hf]
theorem dec_no {n : Int} {s : List UInt8} {m : Md} (h : s ≠ []) (hf : fst s = some m) (hm : may n m = false) : dec n s = none := by
  rw [dec, dif_neg h, hf]
  show (if may n m = true then _ else _) = _
  rw [hm]; rfl
theorem dec_go {n : Int} {s : List UInt8} {m : Md} (hf : fst s = some m) (hm : may n m = true) : dec n s = (dec n (s.drop (4 + m.s.size))).map (m :: ·) := by
  have h : s ≠ [] := fun e => by rw [e] at hf; cases hf
  rw [dec, dif_neg h, hf]
  show (if may n m = true then _ else _) = _
  rw [if_pos hm]
theorem dec_step {n : Int} {s : List UInt8} {m : Md} (pre : List Md) (hf : fst s = some m) (hm : may n m = true) :
    (dec n s).map (pre ++ ·) = (dec n (s.drop (4 + m.s.size))).map ((pre ++ [m]) ++ ·) := by
  rw [dec_go hf hm, Option.map_map]
  congr 1
  funext x
  simp
theorem le2 (x : Nat) : le x 2 = [UInt8.ofNat (x % 256), UInt8.ofNat (x / 256 % 256)] := rfl
theorem two (x : Nat) (h : x < 65536) : (UInt8.ofNat (x % 256)).toNat + 256 * (UInt8.ofNat (x / 256 % 256)).toNat = x := by
  rw [UInt8.toNat_ofNat', UInt8.toNat_ofNat']; omega
theorem fst_rec {n : Int} {m : Md} (hm : may n m = true) (r : List UInt8) : fst (rec m ++ r) = some m := by
  obtain ⟨h1, h2, h3, h4⟩ := may_iff.1 hm
  have := pg_le h1
  unfold rec
  rw [le2, le2]
  show fst (_ :: _ :: _ :: _ :: (m.s.data.toList ++ r)) = _
  rw [fst_eq, two _ (by omega), two _ (by omega), if_neg (by rw [List.length_append, size_list]; omega), List.take_left' (size_list _)]
  obtain ⟨p, s⟩ := m
  simp only at h2 ⊢
  rw [Int.toNat_of_nonneg h2]
theorem rec_drop (m : Md) (r : List UInt8) : (rec m ++ r).drop (4 + m.s.size) = r := List.drop_left' (rec_length m)
theorem dec_enc {n : Int} (l : List Md) (h : ∀ m ∈ l, may n m = true) (r : List UInt8) : dec n (enc l ++ r) = (dec n r).map (l ++ ·) := by
  induction l with
  | nil =>
    show dec n r = _
    cases dec n r <;> rfl
  | cons m l ih =>
    have hm := h m (List.mem_cons_self ..)
    rw [enc, List.append_assoc, dec_go (fst_rec hm _) hm, rec_drop, ih (fun x hx => h x (List.mem_cons_of_mem _ hx)), Option.map_map]
    congr 1
theorem dec_all {n : Int} {l : List Md} (h : ∀ m ∈ l, may n m = true) : dec n (enc l) = some l := by
  have := dec_enc l h []
  rw [List.append_nil, dec_nil] at this
  rw [this]
  show some (l ++ []) = _
  rw [List.append_nil]
theorem enc_inj {n : Int} {l r : List Md} (hl : ∀ m ∈ l, may n m = true) (hr : ∀ m ∈ r, may n m = true) (h : enc l = enc r) : l = r := by
  have := dec_all hl
  rw [h, dec_all hr] at this
  exact (Option.some.inj this).symm
theorem fst_cut {n : Int} {m : Md} (hm : may n m = true) (r : List UInt8) (k : Nat) (h : k < 4 + m.s.size) : fst ((rec m ++ r).take k) = none := by
  obtain ⟨h1, h2, h3, h4⟩ := may_iff.1 hm
  have := pg_le h1
  have e : rec m ++ r = UInt8.ofNat (m.p.toNat % 256) :: UInt8.ofNat (m.p.toNat / 256 % 256) :: UInt8.ofNat (m.s.size % 256) :: UInt8.ofNat (m.s.size / 256 % 256) :: (m.s.data.toList ++ r) := rfl
  rw [e]
  match k, h with
  | 0, _ => rfl
  | 1, _ => rfl
  | 2, _ => rfl
  | 3, _ => rfl
  | k + 4, h =>
    show fst (_ :: _ :: _ :: _ :: ((m.s.data.toList ++ r).take k)) = _
    rw [fst_eq, two _ (by omega), if_pos (by rw [List.length_take]; omega)]
theorem dec_cut {n : Int} (l : List Md) (h : ∀ m ∈ l, may n m = true) (k : Nat) (hk : k ≤ szs l) : (dec n ((enc l).take k)).isSome = true ↔ ∃ j, j ≤ l.length ∧ szs (l.take j) = k := by
  induction l generalizing k with
  | nil =>
    have : k = 0 := Nat.le_zero.1 hk
    subst this
    show (dec n []).isSome = true ↔ _
    rw [dec_nil]
    exact ⟨fun _ => ⟨0, Nat.le_refl _, rfl⟩, fun _ => rfl⟩
  | cons m l ih =>
    have hm := h m (List.mem_cons_self ..)
    by_cases h0 : k = 0
    · subst h0
      rw [List.take_zero, dec_nil]
      exact ⟨fun _ => ⟨0, Nat.zero_le _, rfl⟩, fun _ => rfl⟩
    · by_cases h4 : k < 4 + m.s.size
      · have hne : (enc (m :: l)).take k ≠ [] := fun e => by
          have := congrArg List.length e
          rw [List.length_take, enc_length] at this
          simp only [List.length_nil] at this
          omega
        rw [dec_none hne (fst_cut hm _ k h4)]
        refine ⟨fun g => (by cases g), fun hh => ?_⟩
        obtain ⟨j, hj, e⟩ := hh
        match j, e with
        | 0, e => exact absurd e.symm h0
        | j + 1, e => simp only [List.take_succ_cons, szs] at e; omega
      · have e1 : (enc (m :: l)).take k = rec m ++ (enc l).take (k - (4 + m.s.size)) := by
          rw [enc, List.take_append, rec_length, List.take_of_length_le (by rw [rec_length]; omega)]
        rw [e1, dec_go (fst_rec hm _) hm, rec_drop, Option.isSome_map]
        simp only [szs] at hk
        rw [ih (fun x hx => h x (List.mem_cons_of_mem _ hx)) _ (by omega)]
        constructor
        · rintro ⟨j, hj, e⟩
          exact ⟨j + 1, by simp; omega, by simp only [List.take_succ_cons, szs]; omega⟩
        · rintro ⟨j, hj, e⟩
          match j, hj, e with
          | 0, _, e => exact absurd e.symm h0
          | j + 1, hj, e => simp only [List.take_succ_cons, szs] at e; exact ⟨j, by simp at hj; omega, by omega⟩

/-! what a page is behind them -/
def put (t : List UInt8) (m : Md) : List UInt8 := t.take m.p.toNat ++ m.s.data.toList ++ t.drop (m.p.toNat + m.s.size)
theorem put_length {t : List UInt8} {m : Md} (h : m.p.toNat + m.s.size ≤ t.length) : (put t m).length = t.length := by
  unfold put
  rw [List.length_append, List.length_append, List.length_take, List.length_drop, size_list]; omega
theorem put_get {t : List UInt8} {m : Md} (h : m.p.toNat + m.s.size ≤ t.length) (i : Nat) :
    (put t m)[i]? = if m.p.toNat ≤ i ∧ i < m.p.toNat + m.s.size then m.s.data.toList[i - m.p.toNat]? else t[i]? := by
  unfold put
  have hl : (t.take m.p.toNat ++ m.s.data.toList).length = m.p.toNat + m.s.size := by rw [List.length_append, List.length_take, size_list]; omega
  have hl1 : (t.take m.p.toNat).length = m.p.toNat := by rw [List.length_take]; omega
  by_cases h1 : i < m.p.toNat
  · rw [if_neg (by omega), List.getElem?_append_left (by omega), List.getElem?_append_left (by omega), List.getElem?_take, if_pos h1]
  · by_cases h2 : i < m.p.toNat + m.s.size
    · rw [if_pos ⟨by omega, h2⟩, List.getElem?_append_left (by omega), List.getElem?_append_right (by omega), hl1]
    · rw [if_neg (by omega), List.getElem?_append_right (by omega), hl, List.getElem?_drop]
      congr 1; omega
def app (t : List UInt8) : List Md → List UInt8
  | [] => t
  | m :: r => app (put t m) r
theorem app_append (t : List UInt8) (l r : List Md) : app t (l ++ r) = app (app t l) r := by
  induction l generalizing t with
  | nil => rfl
  | cons m l ih => exact ih _
/-- all may be -/
def oks (n : Int) (l : List Md) : Bool := l.all (may n)
theorem oks_iff {n : Int} {l : List Md} : oks n l = true ↔ ∀ m ∈ l, may n m = true := by unfold oks; rw [List.all_eq_true]
theorem oks_append (n : Int) (l r : List Md) : oks n (l ++ r) = (oks n l && oks n r) := by unfold oks; rw [List.all_append]
theorem may_fit {t : List UInt8} {N : Nat} (ht : t.length = N) {m : Md} (h : may (N : Int) m = true) : m.p.toNat + m.s.size ≤ t.length := by
  obtain ⟨h1, h2, h3, h4⟩ := may_iff.1 h
  omega
theorem app_length {N : Nat} (l : List Md) (t : List UInt8) (ht : t.length = N) (h : oks (N : Int) l = true) : (app t l).length = N := by
  induction l generalizing t with
  | nil => exact ht
  | cons m l ih =>
    have hm := oks_iff.1 h
    have h1 := may_fit ht (hm m (List.mem_cons_self ..))
    exact ih _ (by rw [put_length h1, ht]) (oks_iff.2 fun x hx => hm x (List.mem_cons_of_mem _ hx))
/-- the last one that has a byte -/
def wnt (c : Option UInt8) (k : Nat) : List Md → Option UInt8
  | [] => c
  | m :: r => wnt (if m.p.toNat ≤ k ∧ k < m.p.toNat + m.s.size then m.s.data.toList[k - m.p.toNat]? else c) k r
theorem wnt_append (c : Option UInt8) (k : Nat) (l r : List Md) : wnt c k (l ++ r) = wnt (wnt c k l) k r := by
  induction l generalizing c with
  | nil => rfl
  | cons m l ih => exact ih _
theorem app_get {N : Nat} (l : List Md) (t : List UInt8) (ht : t.length = N) (h : oks (N : Int) l = true) (k : Nat) : (app t l)[k]? = wnt t[k]? k l := by
  induction l generalizing t with
  | nil => rfl
  | cons m l ih =>
    have hm := oks_iff.1 h
    have h1 := may_fit ht (hm m (List.mem_cons_self ..))
    show (app (put t m) l)[k]? = _
    rw [ih _ (by rw [put_length h1, ht]) (oks_iff.2 fun x hx => hm x (List.mem_cons_of_mem _ hx)), put_get h1]
    rfl

/-! the functions' answers -/
def encl (n : Int) (l : List Md) : List UInt8 × Int := if oks n l then (enc l, 0) else ([], 2)
def decl (n : Int) (s : List UInt8) : List Md × Int := if pg n then (match dec n s with | some l => (l, 0) | none => ([], 7)) else ([], 2)
def apl (t : List UInt8) (l : List Md) : List UInt8 × Int := if pg (t.length : Int) && oks (t.length : Int) l then (app t l, 0) else ([], 2)
def rpl (t s : List UInt8) : List UInt8 × Int := if (decl (t.length : Int) s).2 = 0 then apl t (decl (t.length : Int) s).1 else ([], (decl (t.length : Int) s).2)
theorem decl_arg {n : Int} (h : pg n = false) (s : List UInt8) : decl n s = ([], 2) := by unfold decl; rw [h]; rfl
theorem decl_some {n : Int} (h : pg n = true) {s : List UInt8} {l : List Md} (hd : dec n s = some l) : decl n s = (l, 0) := by unfold decl; rw [if_pos h, hd]
theorem decl_none {n : Int} (h : pg n = true) {s : List UInt8} (hd : dec n s = none) : decl n s = ([], 7) := by unfold decl; rw [if_pos h, hd]
end Go.Proofs.Ytbbfbijgclpjeaa.O
