/- What the document's Decode of layer 18 answers. Conditions: as each theorem names them. -/
import Derived.Test.YtbbfbijgclpjeaaOdG
import Derived.Deep.QuietTactic
import Derived.BigQuiet
namespace Go.Proofs.Ytbbfbijgclpjeaa.O
open Go Go.RowKit M
set_option linter.unusedVariables false
set_option linter.unusedSimpArgs false

theorem byte_get {S : ByteArray} {k : Nat} {x : UInt8} (j m y : Nat) (e : k + j = m) (hy : x.toNat = y) (h : (S.data.toList.drop k)[j]? = some x) : ∃ hk : m < S.size, (S[m]'hk).toNat = y := by
  subst e
  rw [List.getElem?_drop] at h
  obtain ⟨h1, h2⟩ := List.getElem?_eq_some_iff.1 h
  have h3 : k + j < S.size := by rw [size_list] at h1; exact h1
  exact ⟨h3, by rw [← hy, ← h2]; exact congrArg _ (byte_at S _ h3).symm⟩

theorem bel_n {B : Nat} {w w' : World} (h : Below B w w') (n : Nat) : Below B w (w'.drewN n) := ⟨h.os, h.tape, h.output, h.size, h.block⟩
theorem owm_n {B : Nat} {w : World} {v : Value} {L : List Md} (h : Owm B w v L) (n : Nat) : Owm B (w.drewN n) v L := h.at (fun _ _ => rfl)
set_option maxRecDepth 1000000 in
set_option maxHeartbeats 2000000 in
theorem rdecode_any (N : Int) (S : ByteArray) (W : World) (hS : S.size ≤ 100000) :
    Calls Try.prog 23 #[.int .i64 N, .string S] W (Dcd W N S.data.toList) := by
  have HP := Lib.hid (rpage_any N)
  cases hp : pg N with
  | false =>
    rw [hp] at HP
    have e := Lib.hid (decl_arg hp S.data.toList)
    clear hp
    go_enter Try.func23, Try.ntmps23
    go_wp2_with (go_at_call 19; (with_reducible refine (HP.out _).mono ?_); rintro e w' ⟨rfl, rfl⟩)
    go_ret2
    exact ⟨none, 0, 0, by simp only [e.out]; rfl, by simp only [e.out]; exact IsMds.nil _ _, Nat.zero_le _, Nat.le_refl _, Below.refl _ _⟩
  | true =>
    rw [hp] at HP
    have HPg := Lib.hid hp
    clear hp
    have HNo := Lib.hid (show dec N S.data.toList = none → ∀ w, Below W.heap.size W w → Dcd W N S.data.toList (.returned (.tuple #[.slice none 0 0, .int .i64 7])) w from fun h w hb => by
      have e := decl_none HPg.out h
      exact ⟨none, 0, 0, by simp only [e], by simp only [e]; exact IsMds.nil _ _, Nat.zero_le _, Nat.le_refl _, hb⟩)
    go_enter Try.func23, Try.ntmps23
    go_wp2_with (go_at_call 19; (with_reducible refine (HP.out _).mono ?_); rintro e w' ⟨rfl, rfl⟩)
    go_loopw [6, 7] (fun v i wr => ∃ (k : Nat) (pre : List Md), k ≤ S.size ∧ i = .int .i64 k ∧ Owm W.heap.size wr v pre ∧ dec N S.data.toList = (dec N (S.data.toList.drop k)).map (pre ++ ·) ∧ pre.length ≤ k ∧ (∀ m ∈ pre, may N m = true) ∧ Below W.heap.size W wr) (fun _ i _ => S.size - (intOf i).toNat)
    case atStart => exact ⟨0, [], Nat.zero_le _, rfl, Owm.nil _ _, by rw [List.drop_zero]; cases dec N S.data.toList <;> rfl, Nat.le_refl _, fun m hm => absurd hm (by simp), Below.refl _ _⟩
    case round =>
      obtain ⟨k, pre, hk, rfl, ho, hd, hpl, hmy, hb⟩ := hrel
      have HB := Lib.hid hb
      have HO := Lib.hid ho
      by_cases hlt : k < S.size
      · have d1 : decide ((k : Int) < (S.size : Int)) = true := decide_eq_true (by omega)
        have d1' : decide (k < S.size) = true := decide_eq_true hlt
        have hrl : (S.data.toList.drop k).length = S.size - k := by rw [List.length_drop, size_list]
        have hne : S.data.toList.drop k ≠ [] := fun e => by
          rw [e] at hrl
          simp at hrl; omega
        by_cases h4 : 4 ≤ S.size - k
        · have d2 : decide ((S.size : Int) - (k : Int) < 4) = false := decide_eq_false (by omega)
          obtain ⟨a, b, c, d, r, hl⟩ : ∃ a b c d r, S.data.toList.drop k = a :: b :: c :: d :: r := by
            match q : S.data.toList.drop k, hrl with
            | a :: b :: c :: d :: r, _ => exact ⟨a, b, c, d, r, rfl⟩
            | [a, b, c], hrl => simp at hrl; omega
            | [a, b], hrl => simp at hrl; omega
            | [a], hrl => simp at hrl; omega
            | [], hrl => simp at hrl; omega
          rw [hl] at hrl
          simp only [List.length_cons] at hrl
          have ha := a.toNat_lt
          have hb' := b.toNat_lt
          have hc := c.toNat_lt
          have hdd := d.toNat_lt
          obtain ⟨ja, hja⟩ : ∃ j, a.toNat = j := ⟨_, rfl⟩
          obtain ⟨jb, hjb⟩ : ∃ j, b.toNat = j := ⟨_, rfl⟩
          obtain ⟨jc, hjc⟩ : ∃ j, c.toNat = j := ⟨_, rfl⟩
          obtain ⟨jd, hjd⟩ : ∃ j, d.toNat = j := ⟨_, rfl⟩
          obtain ⟨k1, hk1⟩ : ∃ k1, k + 1 = k1 := ⟨_, rfl⟩
          obtain ⟨k2, hk2⟩ : ∃ k1, k + 2 = k1 := ⟨_, rfl⟩
          obtain ⟨k3, hk3⟩ : ∃ k1, k + 3 = k1 := ⟨_, rfl⟩
          obtain ⟨k4, hk4⟩ : ∃ k1, k + 4 = k1 := ⟨_, rfl⟩
          obtain ⟨l0, u0⟩ := byte_get (S := S) 0 k ja (Nat.add_zero k) hja (by rw [hl]; rfl)
          obtain ⟨l1, u1⟩ := byte_get (S := S) 1 k1 jb hk1 hjb (by rw [hl]; rfl)
          obtain ⟨l2, u2⟩ := byte_get (S := S) 2 k2 jc hk2 hjc (by rw [hl]; rfl)
          obtain ⟨l3, u3⟩ := byte_get (S := S) 3 k3 jd hk3 hjd (by rw [hl]; rfl)
          obtain ⟨P, hP⟩ : ∃ P, ja + 256 * jb = P := ⟨_, rfl⟩
          obtain ⟨Z, hZ⟩ : ∃ Z, jc + 256 * jd = Z := ⟨_, rfl⟩
          rw [hja] at ha
          rw [hjb] at hb'
          rw [hjc] at hc
          rw [hjd] at hdd
          have hP2 : P ≤ 65535 := by omega
          have hZ2 : Z ≤ 65535 := by omega
          have hf : fst (S.data.toList.drop k) = if r.length < Z then none else some ⟨(P : Int), ⟨(r.take Z).toArray⟩⟩ := by rw [hl, fst_eq, hja, hjb, hjc, hjd, hP, hZ]
          obtain ⟨kz, hkz⟩ : ∃ k1, k4 + Z = k1 := ⟨_, rfl⟩
          have HKZ := Lib.hid hkz
          have HK4 := Lib.hid hk4
          have a1 : IntKind.i64.wrap ((k : Int) + 1) = (k1 : Int) := by rw [IntWalk.i64_in _ ⟨by omega, by omega⟩]; omega
          have a2 : IntKind.i64.wrap ((k : Int) + 2) = (k2 : Int) := by rw [IntWalk.i64_in _ ⟨by omega, by omega⟩]; omega
          have a3 : IntKind.i64.wrap ((k : Int) + 3) = (k3 : Int) := by rw [IntWalk.i64_in _ ⟨by omega, by omega⟩]; omega
          have a4 : IntKind.i64.wrap ((k : Int) + 4) = (k4 : Int) := by rw [IntWalk.i64_in _ ⟨by omega, by omega⟩]; omega
          have az : IntKind.i64.wrap ((k4 : Int) + (Z : Int)) = (kz : Int) := by rw [IntWalk.i64_in _ ⟨by omega, by omega⟩]; omega
          have ma : IntKind.i64.wrap (ja : Int) = (ja : Int) := IntWalk.i64_in _ ⟨by omega, by omega⟩
          have mb : IntKind.i64.wrap (jb : Int) = (jb : Int) := IntWalk.i64_in _ ⟨by omega, by omega⟩
          have mc : IntKind.i64.wrap (jc : Int) = (jc : Int) := IntWalk.i64_in _ ⟨by omega, by omega⟩
          have md : IntKind.i64.wrap (jd : Int) = (jd : Int) := IntWalk.i64_in _ ⟨by omega, by omega⟩
          have nb : IntKind.i64.wrap (256 * (jb : Int)) = ((256 * jb : Nat) : Int) := by rw [IntWalk.i64_in _ ⟨by omega, by omega⟩]; omega
          have nd : IntKind.i64.wrap (256 * (jd : Int)) = ((256 * jd : Nat) : Int) := by rw [IntWalk.i64_in _ ⟨by omega, by omega⟩]; omega
          obtain ⟨xb, hxb⟩ : ∃ x, 256 * jb = x := ⟨_, rfl⟩
          obtain ⟨xd, hxd⟩ : ∃ x, 256 * jd = x := ⟨_, rfl⟩
          rw [hxb] at nb hP
          rw [hxd] at nd hZ
          have pb : IntKind.i64.wrap ((ja : Int) + (xb : Int)) = (P : Int) := by rw [IntWalk.i64_in _ ⟨by omega, by omega⟩]; omega
          have pd : IntKind.i64.wrap ((jc : Int) + (xd : Int)) = (Z : Int) := by rw [IntWalk.i64_in _ ⟨by omega, by omega⟩]; omega
          have l4 : k4 ≤ S.size := by omega
          by_cases hr : r.length < Z
          · rw [if_pos hr] at hf
            rw [dec_none hne hf] at hd
            have HD := Lib.hid (HNo.out hd)
            have d3 : decide ((S.size : Int) - (k : Int) - 4 < (Z : Int)) = true := decide_eq_true (by omega)
            clear hd ho hmy hb hf hne hl hja hjb hjc hjd hk1 hk2 hk3 hk4 hkz hxb hxd hP hZ hrl hr
            go_wp2_with fail
            go_quiet (fail)
            go_wp2_with fail
            go_ret2
            exact HD.out _ (by
              have := HB.out
              exact ⟨this.os, this.tape, this.output, this.size, this.block⟩)
          · rw [if_neg hr] at hf
            have d3 : decide ((S.size : Int) - (k : Int) - 4 < (Z : Int)) = false := decide_eq_false (by omega)
            obtain ⟨T, hT⟩ : ∃ T : ByteArray, ⟨(r.take Z).toArray⟩ = T := ⟨_, rfl⟩
            rw [hT] at hf
            have hx : S.extract k4 kz = T := by
              rw [← hT]
              apply ByteArray.ext
              apply Array.ext'
              rw [ByteArray.data_extract, Array.toList_extract, List.extract_eq_take_drop, List.toList_toArray, ← hk4, ← List.drop_drop, hl]
              simp only [List.drop_succ_cons, List.drop_zero]
              congr 1; omega
            have hTs : T.size = Z := by
              rw [← hT]
              show (r.take Z).toArray.size = _
              rw [List.size_toArray, List.length_take]; omega
            have hz1 : k4 ≤ kz := by omega
            have hz2 : kz ≤ S.size := by omega
            have HM := Lib.hid (fun w => rmay_any N P T w (by omega))
            cases hm : may N ⟨(P : Int), T⟩ with
            | false =>
              rw [hm] at HM
              rw [dec_no hne hf hm] at hd
              have HD := Lib.hid (HNo.out hd)
              have MB := Lib.hid (hb.alloc hb.size (.cells #[.int .i64 (P : Int), .string T] 34))
              clear hd ho hmy hb hf hne hl hja hjb hjc hjd hk1 hk2 hk3 hk4 hkz hxb hxd hP hZ hrl hr hT hTs hm
              go_wp2_with fail
              go_quiet (fail)
              go_wp2_with fail
              have hdz : ∀ q, wr.heap.size = (wr.drewN q).heap.size := fun q => rfl
              have F1 := fun q => World.cell?_alloc_at (w := wr.drewN q) #[.int .i64 0, .string ⟨#[]⟩] 34 wr.heap.size 0 (hdz q)
              have F2 := fun q => World.cell?_alloc_at (w := wr.drewN q) #[.int .i64 0, .string ⟨#[]⟩] 34 wr.heap.size 1 (hdz q)
              have F3 := fun q i => World.frozen?_alloc_at (w := wr.drewN q) #[.int .i64 0, .string ⟨#[]⟩] 34 wr.heap.size i (hdz q)
              have F4 := fun q v => World.setCell_alloc_at (w := wr.drewN q) #[.int .i64 0, .string ⟨#[]⟩] 34 wr.heap.size 0 v (hdz q)
              have F5 := fun q i => World.frozen?_alloc_at (w := wr.drewN q) #[.int .i64 (P : Int), .string ⟨#[]⟩] 34 wr.heap.size i (hdz q)
              have F6 := fun q => World.cell?_alloc_at (w := wr.drewN q) #[.int .i64 (P : Int), .string ⟨#[]⟩] 34 wr.heap.size 1 (hdz q)
              have F7 := fun q v => World.setCell_alloc_at (w := wr.drewN q) #[.int .i64 (P : Int), .string ⟨#[]⟩] 34 wr.heap.size 1 v (hdz q)
              have F8 := fun q => World.cell?_alloc_at (w := wr.drewN q) #[.int .i64 (P : Int), .string T] 34 wr.heap.size 0 (hdz q)
              have F9 := fun q => World.cell?_alloc_at (w := wr.drewN q) #[.int .i64 (P : Int), .string T] 34 wr.heap.size 1 (hdz q)
              clear hdz
              simp only [Array.getElem?_eq_getElem, List.size_toArray, List.length_cons, List.length_nil, Nat.reduceAdd, Nat.reduceLT, List.getElem_toArray, List.getElem_cons_zero, List.getElem_cons_succ, Array.setIfInBounds, List.setIfInBounds_toArray, List.set_cons_zero, List.set_cons_succ] at F1 F2 F3 F4 F5 F6 F7 F8 F9
              go_region
              all_goals (go_wp2_with (go_at_call 17; (with_reducible refine (HM.out _).mono ?_); rintro e w2 ⟨rfl, b2⟩; have B2 := Lib.hid (MB.out.trans (Below.mono ⟨b2.os, b2.tape, b2.output, b2.size, b2.block⟩ MB.out.size)); clear b2))
              all_goals go_ret2
              all_goals (exact HD.out _ B2.out)
            | true =>
              rw [hm] at HM
              have hst := dec_step pre hf hm
              rw [← hd, List.drop_drop] at hst
              have e5 : k + (4 + T.size) = kz := by omega
              rw [e5] at hst
              have MB := Lib.hid (hb.alloc hb.size (.cells #[.int .i64 (P : Int), .string T] 34))
              have HST := Lib.hid hst
              have HMm := Lib.hid hm
              have HMy := Lib.hid hmy
              have hpl2 : pre.length ≤ 100000 := by omega
              have HPL := Lib.hid (show pre.length + 1 ≤ kz by omega)
              have HZZ := Lib.hid (show kz ≤ S.size ∧ k < kz from ⟨by omega, by omega⟩)
              clear hd ho hmy hb hf hne hl hja hjb hjc hjd hk1 hk2 hk3 hk4 hkz hxb hxd hP hZ hrl hr hT hTs hm hst e5 hpl
              go_wp2_with fail
              go_quiet (fail)
              go_wp2_with fail
              have hdz : ∀ q, wr.heap.size = (wr.drewN q).heap.size := fun q => rfl
              have F1 := fun q => World.cell?_alloc_at (w := wr.drewN q) #[.int .i64 0, .string ⟨#[]⟩] 34 wr.heap.size 0 (hdz q)
              have F2 := fun q => World.cell?_alloc_at (w := wr.drewN q) #[.int .i64 0, .string ⟨#[]⟩] 34 wr.heap.size 1 (hdz q)
              have F3 := fun q i => World.frozen?_alloc_at (w := wr.drewN q) #[.int .i64 0, .string ⟨#[]⟩] 34 wr.heap.size i (hdz q)
              have F4 := fun q v => World.setCell_alloc_at (w := wr.drewN q) #[.int .i64 0, .string ⟨#[]⟩] 34 wr.heap.size 0 v (hdz q)
              have F5 := fun q i => World.frozen?_alloc_at (w := wr.drewN q) #[.int .i64 (P : Int), .string ⟨#[]⟩] 34 wr.heap.size i (hdz q)
              have F6 := fun q => World.cell?_alloc_at (w := wr.drewN q) #[.int .i64 (P : Int), .string ⟨#[]⟩] 34 wr.heap.size 1 (hdz q)
              have F7 := fun q v => World.setCell_alloc_at (w := wr.drewN q) #[.int .i64 (P : Int), .string ⟨#[]⟩] 34 wr.heap.size 1 v (hdz q)
              have F8 := fun q => World.cell?_alloc_at (w := wr.drewN q) #[.int .i64 (P : Int), .string T] 34 wr.heap.size 0 (hdz q)
              have F9 := fun q => World.cell?_alloc_at (w := wr.drewN q) #[.int .i64 (P : Int), .string T] 34 wr.heap.size 1 (hdz q)
              clear hdz
              simp only [Array.getElem?_eq_getElem, List.size_toArray, List.length_cons, List.length_nil, Nat.reduceAdd, Nat.reduceLT, List.getElem_toArray, List.getElem_cons_zero, List.getElem_cons_succ, Array.setIfInBounds, List.setIfInBounds_toArray, List.set_cons_zero, List.set_cons_succ] at F1 F2 F3 F4 F5 F6 F7 F8 F9
              go_region
              all_goals (go_wp2_with (first
                | (go_at_call 17; (with_reducible refine (HM.out _).mono ?_); rintro e w2 ⟨rfl, b2⟩; have O2 := Lib.hid (show Owm W.heap.size w2 _ pre from ((owm_n HO.out _).alloc _).below b2); have K2 := Lib.hid (show R2 w2 wr.heap.size (.int .i64 (P : Int)) (.string T) from (R2.new (wr.drewN _) _ _).below b2 (by simp)); have B2 := Lib.hid (MB.out.trans (Below.mono ⟨b2.os, b2.tape, b2.output, b2.size, b2.block⟩ MB.out.size)); clear b2; have c0 := K2.out.at0; have c1 := K2.out.at1)
                | (at_builtin; refine wpList_md rfl _ _ rfl W.heap.size _ pre rfl (O2.out.alloc _) w2.heap.size 1 (P : Int) T rfl ⟨by simp, by simp⟩ (by omega) (by have := B2.out.size; simp; omega) ?_; intro v' w3 o3 g3 b3; have O3 := Lib.hid o3; have B3 := Lib.hid ((B2.out.alloc B2.out.size _).trans b3); clear o3 g3 b3)))
              all_goals go_roundw
              all_goals first
                | (case rel => exact ⟨kz, pre ++ [⟨(P : Int), T⟩], HZZ.out.1, rfl, O3.out, HST.out, by have := HPL.out; rw [List.length_append, List.length_singleton]; exact this, fun x hx => (by
                    rcases List.mem_append.1 hx with q | q
                    · exact HMy.out x q
                    · rw [List.mem_singleton.1 q]; exact HMm.out), B3.out⟩)
                | (case measure => have := HZZ.out; simp [intOf]; omega)
        · have d2 : decide ((S.size : Int) - (k : Int) < 4) = true := decide_eq_true (by omega)
          have hf : fst (S.data.toList.drop k) = none := fst_short (by rw [hrl]; omega)
          rw [dec_none hne hf] at hd
          have HD := Lib.hid (HNo.out hd)
          clear hd ho hmy hb hf hne hrl h4
          go_wp2_with fail
          go_ret2
          exact HD.out _ HB.out
      · obtain rfl : k = S.size := by omega
        have hdd : dec N S.data.toList = some pre := by
          rw [hd, List.drop_of_length_le (by rw [size_list]; exact Nat.le_refl _), dec_nil]
          show some (pre ++ []) = _
          rw [List.append_nil]
        obtain ⟨A, c, rfl, hI⟩ := ho.mds (fun m hm => may_ok (hmy m hm)) (by unfold maxLen; omega)
        have hcap : pre.length ≤ c := by
          rcases ho.2 with ⟨g1, g2⟩ | ⟨g, cap, cur, g1, _, _, g2, _⟩
          · rw [g2]; exact Nat.zero_le _
          · cases g1; exact g2
        have HI := Lib.hid hI
        have HD := Lib.hid (decl_some HPg.out hdd)
        obtain ⟨q, hq⟩ : ∃ q, pre.length = q := ⟨_, rfl⟩
        rw [hq] at HI hpl hcap ⊢
        clear hd hdd hmy ho hI hb hq HO
        go_wp2_with fail
        go_ret2
        exact ⟨A, q, c, by simp only [HD.out]; rfl, by simp only [HD.out]; exact HI.out, by rw [size_list]; exact hpl, hcap, HB.out⟩
end Go.Proofs.Ytbbfbijgclpjeaa.O
