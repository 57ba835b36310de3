/- What first and Decode of package mods answer. Conditions: as each theorem names them. -/
import Derived.Test.YtbbfbijgclpjeaaOdE
import Derived.Laws.Rows
import Derived.Deep.OwnRows
namespace Go.Proofs.Ytbbfbijgclpjeaa.O
open Go Go.RowKit M
set_option linter.unusedVariables false
set_option linter.unusedSimpArgs false

/-! a block of a modification's two cells -/
def two2 (a b : Value) (i : Nat) : Value := if i = 0 then a else b
def R2 (w : World) (g : Nat) (a b : Value) : Prop := w.rowIs g 34 2 (two2 a b)
section
variable {w w' : World} {g : Nat} {a b : Value}
theorem R2.new (w : World) (a b : Value) : R2 (w.alloc (.cells #[a, b] 34)) w.heap.size a b := ⟨#[a, b], heap_alloc_new _ _, rfl, fun i hi => by
  match i, hi with
  | 0, _ => rfl
  | 1, _ => rfl⟩
theorem R2.lt (h : R2 w g a b) : g < w.heap.size := World.rowIs.lt h
theorem R2.at0 (h : R2 w g a b) : w.cell? ⟨g, 0, none⟩ = some a := World.rowIs.cell h (i := 0) (by omega)
theorem R2.at1 (h : R2 w g a b) : w.cell? ⟨g, 1, none⟩ = some b := World.rowIs.cell h (i := 1) (by omega)
theorem R2.frozen (h : R2 w g a b) (i : Nat) : w.frozen? ⟨g, i, none⟩ = false := World.rowIs.frozen h i
theorem R2.put (h : R2 w g a b) (c d : Value) : R2 ((w.setCell ⟨g, 0, none⟩ c).setCell ⟨g, 1, none⟩ d) g c d :=
  World.rowIs.congr (World.rowIs.set (World.rowIs.set h 0 c) 1 d) (fun j hj => by
    match j, hj with
    | 0, _ => rfl
    | 1, _ => rfl)
theorem R2.of_block (h : R2 w g a b) (e : w'.heap[g]? = w.heap[g]?) : R2 w' g a b := World.rowIs.of_block h e
theorem R2.below (h : R2 w g a b) {B : Nat} (hb : Below B w w') (hB : g < B) : R2 w' g a b := World.rowIs.of_block h (hb.block g hB)
theorem R2.row (h : R2 w g a b) : w.heap[g]? = some (.cells #[a, b] 34 (0, 0)) := by
  obtain ⟨cs, h1, h2, h3⟩ := h
  have e : cs = #[a, b] := by
    apply Array.ext_getElem?
    intro i
    by_cases c : i < 2
    · match i, c with
      | 0, _ => exact h3 0 (by omega)
      | 1, _ => exact h3 1 (by omega)
    · rw [Array.getElem?_eq_none (by omega), Array.getElem?_eq_none (by simp; omega)]
  rw [h1, e]
end
theorem modSize : (Try.prog.info? 34).map (·.size) = some (#[Value.nilIface, Value.nilIface] : Array Value).size := by kernel_rfl
theorem results_row_tmp {P : Program} {fn : Func} {p u : Tmp} {ty : TypeId} (h : fn.results = #[.cell p ty, .tmp u]) (tmps : Array Value) (w : World) (g : Nat) (t : TypeId) (cs : Array Value) (fr : Nat × Nat) (d : TypeDesc)
    (hp : tmps.getD p undef = .pointer (some ⟨g, 0, none⟩)) (hg : w.heap[g]? = some (.cells cs t fr))
    (hu : P.underlying ty = some d) (hd : (match d with | .struct _ | .array _ _ => true | _ => false) = true) (hi : (P.info? ty).map (·.size) = some cs.size) :
    (results fn tmps).run P w = .ok (.tuple #[.agg cs, tmps.getD u undef]) w := by
  have hp' : tmps[p]?.getD undef = .pointer (some ⟨g, 0, none⟩) := by simpa using hp
  simp [results, h, hp', asAddr, run_loadVar_row w g t ty cs fr d hg hu hd hi, Sem.run_bind]

theorem vl2 (a b : UInt8) : vl [a, b] = a.toNat + 256 * b.toNat := by simp [vl]
theorem four (S : ByteArray) (h : 4 ≤ S.size) : ∃ a b c d r, S.data.toList = a :: b :: c :: d :: r := by
  have := size_list S
  match q : S.data.toList, this with
  | a :: b :: c :: d :: r, _ => exact ⟨a, b, c, d, r, rfl⟩
  | [a, b, c], this => simp at this; omega
  | [a, b], this => simp at this; omega
  | [a], this => simp at this; omega
  | [], this => simp at this; omega
theorem fst_short {l : List UInt8} (h : l.length < 4) : fst l = none := by
  match l, h with
  | [], _ => rfl
  | [_], _ => rfl
  | [_, _], _ => rfl
  | [_, _, _], _ => rfl
  | _ :: _ :: _ :: _ :: _, h => simp at h; omega

set_option maxRecDepth 1000000 in
set_option maxHeartbeats 1000000 in
theorem first_any (S : ByteArray) (W : World) (hS : S.size ≤ 100000) :
    Calls Try.prog 36 #[.string S] W fun e w' =>
      (match fst S.data.toList with | some m => e = .returned (.tuple #[.agg #[.int .i64 m.p, .string m.s], .bool true]) | none => e = .returned (.tuple #[.agg #[.int .i64 0, .string ⟨#[]⟩], .bool false])) ∧ Below W.heap.size W w' := by
  have HB0 := Lib.hid ((Below.refl W.heap.size W).alloc (Nat.le_refl _) (.cells #[.int .i64 0, .string ⟨#[]⟩] 34))
  have HR0 := Lib.hid (R2.new W (.int .i64 0) (.string ⟨#[]⟩))
  have hmx : S.size ≤ maxLen := by unfold maxLen; omega
  by_cases h4 : 4 ≤ S.size
  · obtain ⟨a, b, c, d, r, hl⟩ := four S h4
    have hsz := size_list S
    rw [hl] at hsz
    simp only [List.length_cons] at hsz
    have ha := a.toNat_lt
    have hb := b.toNat_lt
    have hc := c.toNat_lt
    have hd := d.toNat_lt
    have h1 := fun w => get_yes S 0 2 w hmx (by omega) (by omega) (by omega)
    have h2 := fun w => get_yes S 2 2 w hmx (by omega) (by omega) (by omega)
    rw [hl] at h1 h2
    simp only [List.drop_zero, List.drop_succ_cons, List.take_succ_cons, List.take_zero, vl2] at h1 h2
    obtain ⟨P, hP⟩ : ∃ P, a.toNat + 256 * b.toNat = P := ⟨_, rfl⟩
    obtain ⟨Z, hZ⟩ : ∃ Z, c.toNat + 256 * d.toNat = Z := ⟨_, rfl⟩
    have hP2 : P ≤ 65535 := by omega
    have hZ2 : Z ≤ 65535 := by omega
    rw [hP] at h1
    rw [hZ] at h2
    have H1 := Lib.hid (show ∀ w, Calls Try.prog 41 #[.string S, .int .i64 0, .int .i64 2] w fun e w' => e = .returned (.tuple #[.int .u64 P, .bool true]) ∧ w = w' from h1)
    have H2 := Lib.hid (show ∀ w, Calls Try.prog 41 #[.string S, .int .i64 2, .int .i64 2] w fun e w' => e = .returned (.tuple #[.int .u64 Z, .bool true]) ∧ w = w' from h2)
    clear h1 h2
    have hf : fst S.data.toList = if r.length < Z then none else some ⟨(P : Int), ⟨(r.take Z).toArray⟩⟩ := by rw [hl, fst_eq, hP, hZ]
    by_cases hr : r.length < Z
    · rw [if_pos hr] at hf
      rw [hf]
      have d1 : decide ((S.size : Int) - 4 < (Z : Int)) = true := decide_eq_true (by omega)
      clear hf hl hP hZ ha hb hc hd hr hsz
      go_enter Try.func36, Try.ntmps36
      go_wp2_with (first
        | (go_at_call 41; (with_reducible refine (H1.out _).mono ?_); rintro e w' ⟨rfl, rfl⟩)
        | (go_at_call 41; (with_reducible refine (H2.out _).mono ?_); rintro e w' ⟨rfl, rfl⟩))
      refine bodyPost_ret (v := .tuple #[.agg #[.int .i64 0, .string ⟨#[]⟩], .bool false]) (results_row_tmp (p := 2) (u := 3) (ty := 34) rfl _ _ W.heap.size _ _ _ _ rfl HR0.out.row Try.underlying34 rfl modSize) rfl ⟨rfl, HB0.out⟩
    · rw [if_neg hr] at hf
      rw [hf]
      obtain ⟨T, hT⟩ : ∃ T : ByteArray, ⟨(r.take Z).toArray⟩ = T := ⟨_, rfl⟩
      have hx : S.extract 4 (4 + Z) = T := by
        rw [← hT]
        apply ByteArray.ext
        apply Array.ext'
        rw [ByteArray.data_extract, Array.toList_extract, List.extract_eq_take_drop, hl, List.toList_toArray]
        simp only [List.drop_succ_cons, List.drop_zero]
        congr 1; omega
      rw [hT]
      have hTs : T.size ≤ 100000 := by
        rw [← hT]
        show (r.take Z).toArray.size ≤ _
        rw [List.size_toArray, List.length_take]; omega
      have HC := Lib.hid (fun w => clone_str T w (by omega))
      have d1 : decide ((S.size : Int) - 4 < (Z : Int)) = false := decide_eq_false (by omega)
      have d2 : 4 + Z ≤ S.size := by omega
      clear hf hl hP hZ ha hb hc hd hr hsz hT hTs
      go_enter Try.func36, Try.ntmps36
      go_wp2_with (first
        | (go_at_call 41; (with_reducible refine (H1.out _).mono ?_); rintro e w' ⟨rfl, rfl⟩)
        | (go_at_call 41; (with_reducible refine (H2.out _).mono ?_); rintro e w' ⟨rfl, rfl⟩)
        | (go_at_call 42; (with_reducible refine (HC.out _).mono ?_); rintro e w1 ⟨rfl, b1⟩; have R1 := Lib.hid (HR0.out.below b1 (by simp)); have B1 := Lib.hid (HB0.out.trans (b1.mono HB0.out.size)); clear b1; have c0 := R1.out.at0; have c1 := R1.out.at1; have f0 := R1.out.frozen 0; have f1 := R1.out.frozen 1))
      refine bodyPost_ret (v := .tuple #[.agg #[.int .i64 (P : Int), .string T], .bool true]) (results_row_tmp (p := 2) (u := 3) (ty := 34) rfl _ _ W.heap.size _ _ _ _ rfl (R1.out.put _ _).row Try.underlying34 rfl modSize) rfl ⟨rfl, (B1.out.setCell (Nat.le_refl _) _).setCell (Nat.le_refl _) _⟩
  · have hf : fst S.data.toList = none := fst_short (by rw [size_list]; omega)
    rw [hf]
    have H1 := Lib.hid (show ∀ w, Calls Try.prog 41 #[.string S, .int .i64 0, .int .i64 2] w fun e w' => ∃ (x : Nat) (b : Bool), e = .returned (.tuple #[.int .u64 x, .bool b]) ∧ w = w' from fun w => by
      by_cases h2 : 2 ≤ S.size
      · exact (get_yes S 0 2 w hmx (by omega) (by omega) (by omega)).mono (fun e w' h => ⟨_, _, h⟩)
      · exact (get_no S 0 2 w hmx (by omega)).mono (fun e w' h => ⟨0, false, h⟩))
    have H2 := Lib.hid (show ∀ w, Calls Try.prog 41 #[.string S, .int .i64 2, .int .i64 2] w fun e w' => e = .returned (.tuple #[.int .u64 0, .bool false]) ∧ w = w' from fun w => get_no S 2 2 w hmx (by omega))
    clear hf
    go_enter Try.func36, Try.ntmps36
    go_wp2_with (first
      | (go_at_call 41; (with_reducible refine (H1.out _).mono ?_); rintro e w' ⟨x, bb, rfl, rfl⟩)
      | (go_at_call 41; (with_reducible refine (H2.out _).mono ?_); rintro e w' ⟨rfl, rfl⟩))
    refine bodyPost_ret (v := .tuple #[.agg #[.int .i64 0, .string ⟨#[]⟩], .bool false]) (results_row_tmp (p := 2) (u := 3) (ty := 34) rfl _ _ W.heap.size _ _ _ _ rfl HR0.out.row Try.underlying34 rfl modSize) rfl ⟨rfl, HB0.out⟩

/-- what Decode leaves -/
def Dcd (W : World) (N : Int) (l : List UInt8) (e : Ending) (w' : World) : Prop :=
  ∃ A n c, e = .returned (.tuple #[.slice A n c, .int .i64 (decl N l).2]) ∧ IsMds w' A n (decl N l).1 ∧ n ≤ l.length ∧ n ≤ c ∧ Below W.heap.size W w'
def szOf : Value → Nat
  | .string s => s.size
  | _ => 0
theorem may_ok {N : Int} {m : Md} (h : may N m = true) : m.ok := by
  obtain ⟨h1, h2, h3, h4⟩ := may_iff.1 h
  have := pg_le h1
  exact ⟨by omega, by omega⟩
theorem drop_data (S : ByteArray) (k : Nat) : (S.extract k S.size).data.toList = S.data.toList.drop k := by
  have := size_list S
  rw [ByteArray.data_extract, Array.toList_extract, List.extract_eq_take_drop, List.take_of_length_le (by rw [List.length_drop]; omega)]
theorem dec_len {n : Int} (l : List UInt8) (L : List Md) (h : dec n l = some L) : 4 * L.length ≤ l.length ∧ ∀ m ∈ L, may n m = true := by
  induction hk : l.length using Nat.strongRecOn generalizing l L with
  | ind k ih =>
    by_cases hl : l = []
    · subst hl
      rw [dec_nil] at h
      cases h
      exact ⟨Nat.zero_le _, fun m hm => absurd hm (by simp)⟩
    · cases hf : fst l with
      | none => rw [dec_none hl hf] at h; cases h
      | some m =>
        cases hm : may n m with
        | false => rw [dec_no hl hf hm] at h; cases h
        | true =>
          rw [dec_go hf hm] at h
          cases hd : dec n (l.drop (4 + m.s.size)) with
          | none => rw [hd] at h; cases h
          | some R =>
            rw [hd] at h
            cases h
            have h4 := (fst_size hf).1
            obtain ⟨i1, i2⟩ := ih (l.length - (4 + m.s.size)) (by omega) _ R hd (by rw [List.length_drop])
            refine ⟨by rw [List.length_cons]; omega, fun x hx => ?_⟩
            rcases List.mem_cons.1 hx with rfl | hx
            · exact hm
            · exact i2 x hx

set_option maxRecDepth 1000000 in
set_option maxHeartbeats 2000000 in
theorem decode_any (N : Int) (S : ByteArray) (W : World) (hS : S.size ≤ 100000) :
    Calls Try.prog 22 #[.int .i64 N, .string S] W (Dcd W N S.data.toList) := by
  have HP := Lib.hid (page_any N)
  cases hp : pg N with
  | false =>
    rw [hp] at HP
    have e := Lib.hid (decl_arg hp S.data.toList)
    clear hp
    go_enter Try.func22, Try.ntmps22
    go_wp2_with (go_at_call 18; (with_reducible refine (HP.out _).mono ?_); rintro e w' ⟨rfl, rfl⟩)
    go_ret2
    exact ⟨none, 0, 0, by simp only [e.out]; rfl, by simp only [e.out]; exact IsMds.nil _ _, Nat.zero_le _, Nat.le_refl _, Below.refl _ _⟩
  | true =>
    rw [hp] at HP
    have HPg := Lib.hid hp
    clear hp
    have HNo := Lib.hid (show dec N S.data.toList = none → ∀ w, Below W.heap.size W w → Dcd W N S.data.toList (.returned (.tuple #[.slice none 0 0, .int .i64 7])) w from fun h w hb => by
      have e := decl_none HPg.out h
      exact ⟨none, 0, 0, by simp only [e], by simp only [e]; exact IsMds.nil _ _, Nat.zero_le _, Nat.le_refl _, hb⟩)
    go_enter Try.func22, Try.ntmps22
    go_wp2_with (go_at_call 18; (with_reducible refine (HP.out _).mono ?_); rintro e w' ⟨rfl, rfl⟩)
    go_loopw [1, 6] (fun s v wr => ∃ (R : ByteArray) (pre : List Md), s = .string R ∧ Owm W.heap.size wr v pre ∧ dec N S.data.toList = (dec N R.data.toList).map (pre ++ ·) ∧ R.size + pre.length ≤ S.size ∧ (∀ m ∈ pre, may N m = true) ∧ Below W.heap.size W wr) (fun s _ _ => szOf s)
    case atStart => exact ⟨S, [], rfl, Owm.nil _ _, by cases dec N S.data.toList <;> rfl, by simp, fun m hm => absurd hm (by simp), Below.refl _ _⟩
    case round =>
      obtain ⟨R, pre, rfl, ho, hd, hsz, hmy, hb⟩ := hrel
      by_cases hR : 0 < R.size
      · have hne : R.data.toList ≠ [] := fun e => by
          have := size_list R
          rw [e] at this
          simp at this; omega
        have e1 : R.toList.isEmpty = false := str_some hR
        have hF := fun w => first_any R w (by omega)
        have HB := Lib.hid hb
        cases hf : fst R.data.toList with
        | none =>
          rw [hf] at hF
          have HF := Lib.hid (show ∀ w, Calls Try.prog 36 #[.string R] w fun e w' => e = .returned (.tuple #[.agg #[.int .i64 0, .string ⟨#[]⟩], .bool false]) ∧ Below w.heap.size w w' from hF)
          rw [dec_none hne hf] at hd
          have HD := Lib.hid (HNo.out hd)
          clear hF hd ho hmy hb hf hne hR hsz
          go_wp2_with (go_at_call 36; (with_reducible refine (HF.out _).mono ?_); rintro e w1 ⟨rfl, b1⟩; have B1 := Lib.hid ((HB.out.trans (b1.mono HB.out.size)).alloc (by have := HB.out.size; have := b1.size; omega) (.cells #[.int .i64 0, .string ⟨#[]⟩] 34)); clear b1)
          go_ret2
          exact HD.out _ B1.out
        | some m =>
          rw [hf] at hF
          obtain ⟨z1, z2, z3, z4, z5⟩ := fst_size hf
          rw [size_list] at z1
          have HF := Lib.hid (show ∀ w, Calls Try.prog 36 #[.string R] w fun e w' => e = .returned (.tuple #[.agg #[.int .i64 m.p, .string m.s], .bool true]) ∧ Below w.heap.size w w' from hF)
          have HM := Lib.hid (fun w => may_any N m.p m.s w (by omega))
          cases hm : may N m with
          | false =>
            rw [hm] at HM
            rw [dec_no hne hf hm] at hd
            have HD := Lib.hid (HNo.out hd)
            obtain ⟨p, s⟩ := m
            simp only at HF HM
            clear hF hd ho hmy hb hf hne hR hsz hm z1 z2 z3 z4 z5
            go_wp2_with (first
              | (go_at_call 36; (with_reducible refine (HF.out _).mono ?_); rintro e w1 ⟨rfl, b1⟩; have B1 := Lib.hid ((HB.out.trans (b1.mono HB.out.size)).alloc (by have := HB.out.size; have := b1.size; omega) (.cells #[.int .i64 p, .string s] 34)); clear b1)
              | (go_at_call 16; (with_reducible refine (HM.out _).mono ?_); rintro e w2 ⟨rfl, b2⟩; have B2 := Lib.hid (B1.out.trans (b2.mono B1.out.size)); clear b2))
            go_ret2
            exact HD.out _ B2.out
          | true =>
            rw [hm] at HM
            have hst := dec_step pre hf hm
            rw [← hd] at hst
            obtain ⟨R', hR'⟩ : ∃ R', R.extract (4 + m.s.size) R.size = R' := ⟨_, rfl⟩
            have hR2 : R'.data.toList = R.data.toList.drop (4 + m.s.size) := by rw [← hR', drop_data]
            have hR3 : R'.size = R.size - (4 + m.s.size) := by rw [← size_list, hR2, List.length_drop, size_list]
            rw [← hR2] at hst
            have HM2 := Lib.hid hmy
            have hok := may_ok hm
            have HMm := Lib.hid hm
            have HS := Lib.hid (show ∀ w : World, Calls Try.prog 20 #[.slice (some ⟨w.heap.size, 0, none⟩) 1 1] (w.alloc (.cells #[.int .i64 m.p, .string m.s] 34)) fun e w' => e = .returned (.int .i64 (4 + m.s.size : Nat)) ∧ Below (w.alloc (.cells #[.int .i64 m.p, .string m.s] 34)).heap.size (w.alloc (.cells #[.int .i64 m.p, .string m.s] 34)) w' from fun w => by
              have := size_any (some ⟨w.heap.size, 0, none⟩) 1 1 [m] _ (IsMds.lit1 w m.p m.s hok) (by simp only [szs]; omega)
              simpa only [szs, Nat.add_zero] using this)
            obtain ⟨p, s⟩ := m
            simp only at HF HM HS hR' hR3 hst z1 z3
            obtain ⟨Z, hZ⟩ : ∃ Z, 4 + s.size = Z := ⟨_, rfl⟩
            rw [hZ] at HS hR' hR3 z1
            have hZ2 : 1 ≤ Z := by omega
            have HST := Lib.hid hst
            have HR3 := Lib.hid hR3
            have HO := Lib.hid ho
            have hpl : pre.length ≤ 100000 := by omega
            have HSZ := Lib.hid hsz
            have HZ := Lib.hid hZ
            have HZ1 := Lib.hid z1
            clear hF hd ho hmy hb hf hne hR hsz hm z2 z3 z4 z5 hR2 hst hok hZ hR3
            go_wp2_with (first
              | (go_at_call 36; (with_reducible refine (HF.out _).mono ?_); rintro e w1 ⟨rfl, b1⟩; have O0 := Lib.hid (HO.out.below b1); have O1 := Lib.hid ((HO.out.below b1).alloc (.cells #[.int .i64 p, .string s] 34)); have K1 := Lib.hid (R2.new w1 (.int .i64 p) (.string s)); have B1 := Lib.hid ((HB.out.trans (b1.mono HB.out.size)).alloc (by have := HB.out.size; have := b1.size; omega) (.cells #[.int .i64 p, .string s] 34)); clear b1)
              | (go_at_call 16; (with_reducible refine (HM.out _).mono ?_); rintro e w2 ⟨rfl, b2⟩; have O2 := Lib.hid (O1.out.below b2); have K2 := Lib.hid (K1.out.below b2 K1.out.lt); have B2 := Lib.hid (B1.out.trans (b2.mono B1.out.size)); clear b2; have c0 := K2.out.at0; have c1 := K2.out.at1)
              | (at_builtin; refine wpList_md rfl _ _ rfl W.heap.size _ pre rfl (O2.out.alloc _) w2.heap.size 1 p s rfl ⟨by simp, by simp⟩ (by omega) (by have := B2.out.size; simp; omega) ?_; intro v' w3 o3 g3 b3; have O3 := Lib.hid o3; have K3 := Lib.hid (K2.out.of_block ((g3.block w1.heap.size (by have := K2.out.lt; simp; omega) (fun e => by
                  exact absurd (O0.out.lt _ e.symm).2 (by omega))).trans (Below.heap_alloc _ _ _ K2.out.lt))); have B3 := Lib.hid ((B2.out.alloc B2.out.size _).trans b3); clear o3 g3 b3; have c2 := K3.out.at0; have c3 := K3.out.at1)
              | (go_at_call 20; (with_reducible refine (HS.out _).mono ?_); rintro e w4 ⟨rfl, b4⟩; have O4 := Lib.hid ((O3.out.alloc _).below b4); have B4 := Lib.hid ((B3.out.alloc B3.out.size _).trans (b4.mono (by have := B3.out.size; simp; omega))); clear b4))
            go_roundw
            case rel => exact ⟨R', pre ++ [⟨p, s⟩], rfl, O4.out, HST.out, by have := HSZ.out; have := HR3.out; have := HZ1.out; rw [List.length_append, List.length_singleton]; omega, fun x hx => (by
              rcases List.mem_append.1 hx with q | q
              · exact HM2.out x q
              · rw [List.mem_singleton.1 q]; exact HMm.out), B4.out⟩
            case measure => have := HR3.out; have := HZ1.out; simp [szOf]; omega
      · have e0 : R = ⟨#[]⟩ := ByteArray.ext (Array.eq_empty_of_size_eq_zero (show R.data.size = 0 from by show R.size = 0; omega))
        subst e0
        have hdd : dec N S.data.toList = some pre := by
          rw [hd]
          show (dec N []).map _ = _
          rw [dec_nil]
          show some (pre ++ []) = _
          rw [List.append_nil]
        have hpl : pre.length ≤ S.size := by omega
        obtain ⟨A, c, rfl, hI⟩ := ho.mds (fun m hm => may_ok (hmy m hm)) (by unfold maxLen; omega)
        have hcap : pre.length ≤ c := by
          rcases ho.2 with ⟨g1, g2⟩ | ⟨g, cap, cur, g1, _, _, g2, _⟩
          · rw [g2]; exact Nat.zero_le _
          · cases g1; exact g2
        have HI := Lib.hid hI
        have HD := Lib.hid (decl_some HPg.out hdd)
        have HB := Lib.hid hb
        obtain ⟨q, hq⟩ : ∃ q, pre.length = q := ⟨_, rfl⟩
        rw [hq] at HI hpl hcap ⊢
        clear hd hdd hmy ho hI hb hq hsz hR
        go_wp2_with fail
        go_ret2
        exact ⟨A, q, c, by simp only [HD.out]; rfl, by simp only [HD.out]; exact HI.out, by rw [size_list]; exact hpl, hcap, HB.out⟩
end Go.Proofs.Ytbbfbijgclpjeaa.O
