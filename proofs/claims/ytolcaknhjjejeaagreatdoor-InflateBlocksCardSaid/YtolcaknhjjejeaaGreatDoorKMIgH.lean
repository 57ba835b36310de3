/- Texts of one place, one behind the other: IgH, IgI. -/
import Derived.Test.YtolcaknhjjejeaaGreatDoorKMIfH
import Derived.Test.YtolcaknhjjejeaaGreatDoorKMBlB
import Derived.Test.YtolcaknhjjejeaaGreatDoorKMRns
import Derived.Test.YtolcaknhjjejeaaGreatDoorKBlA
namespace Go.Proofs.YtolcaknhjjejeaaGreatDoor.I
set_option maxRecDepth 1000000
open Go Go.RowKit M
set_option linter.unusedVariables false
set_option linter.unusedSimpArgs false
theorem blk_more (k : Nat) (L : List V.Tk) (raw : ByteArray) (last : Bool) (o : Nat) (hr : raw.size ≤ 65535) (hn : L.length ≤ 200) (hm : ∀ t ∈ L, V.may t = true) : (V.bkm k L raw last o).length ≤ 5100 + 56 * L.length + 8 * raw.size := by
  have hs := V.sys_len L
  rw [V.bkm_blk hr]
  unfold V.blk
  by_cases h0 : k = 0
  · rw [if_pos h0, V.stb_length]
    have : V.pd (o + 3) ≤ 7 := by unfold V.pd; omega
    omega
  · rw [if_neg h0]
    have hb : ∀ y ∈ V.sys L, y.b ≤ 13 := fun y hy => (V.sys_b hm y hy).1
    split
    · unfold V.sfx
      rw [List.length_append, V.hdb_length, V.flat_len]
      have := V.wgh_few V.fxl (fun _ => 5) (fun i => (V.fxl_in i).2) (fun _ => by omega) (V.sys L) hb
      omega
    · unfold V.sbs
      rw [List.length_append, List.length_append, V.hdb_length, V.flat_len]
      have h1 := V.hdd_len L
      have := V.wgh_few (V.ll1 L) (V.ll2 L) (fun i => V.hfl_le _ (by decide) (by decide) i) (fun i => V.hfl_le _ (by decide) (by decide) i) (V.sys L) hb
      omega
theorem owt_cap {w : World} {B n c : Nat} {A : Option Addr} {L : List V.Tk} (h : V.Owt B w (.slice A n c) L) : n ≤ c := by
  obtain ⟨_, hh⟩ := h
  rcases hh with ⟨h1, h2⟩ | ⟨g, cp, cs, h1, h2, h3, h4, h5, h6, h7⟩
  · simp_all
  · simp only [Value.slice.injEq] at h1
    obtain ⟨_, h8, rfl⟩ := h1
    omega
theorem made_c (s : ByteArray) (A : Option Addr) (n c : Nat) (R : List V.Ra) (w : World) (h : V.IsRas w A n R) (hn : n ≤ 500) (hs : s.size ≤ 1000000) : Calls Tryz.prog 12 #[.string s, .slice A n c] w fun e w' => ∃ A' c', e = .returned (.slice A' n c') ∧ V.IsTks w' A' n (V.mdk R s.size) ∧ n ≤ c' ∧ Below w.heap.size w w' :=
  (V.made_tks s A n c R w h hn hs).mono fun e w' g => by
    obtain ⟨v, rfl, o, b⟩ := g
    have hl : (V.mdk R s.size).length = n := by rw [V.mdk_length, h.leng]
    have o' := o
    unfold V.Owt at o
    rw [hl] at o
    obtain ⟨A', c', rfl, t⟩ := V.IsTks.of_own o (fun x hx => (V.mdk_may R _ h.good (by omega) x hx).2) (by unfold maxLen; omega)
    exact ⟨A', c', rfl, t, owt_cap o', b⟩
def Rdy (d T : ByteArray) (bs : List Nat) : Prop := ∀ (s : ByteArray) (Y : List Nat), Bt s 0 (bs ++ Y) → inf 1000000 s d.size T.size (0, d.data.toList) = .ok ((), (bs.length, d.data.toList ++ T.data.toList))
theorem Rdy.of {d T : ByteArray} {bs : List Nat} {L : List V.Tk} {m a kd n : Nat} (h : Rdp d.data.toList T L m bs a) (hm : ∀ x ∈ L, V.may x = true) (hg : ∀ x ∈ L, x.ok) (hz : V.Tx.szs L = T.size) (hT : T.size ≤ 51600) (hrun : V.Tx.run d.data.toList.length d.data.toList L = (0, d.data.toList ++ T.data.toList)) (hk : kd ≤ 2) (ha : a ≤ L.length) (hn : L.length = n) (hmm : m ≤ 100) (hl : L.length ≤ 200) :
    Rdy d T (bs ++ V.bkm kd (V.seg L a n) (T.extract (V.szt L a) (V.szt L n)) true bs.length) := fun s Y hB => by
  subst hn
  have hdl : d.data.toList.length = d.size := Array.length_toList
  have := h.last hm hg hz (by omega) hrun hk ha (s := s) (Y := Y) (Lim := T.size) (K := 1000000) (by omega) (by omega) (Nat.le_refl _) hB
  rw [hdl] at this
  exact this
theorem bkm_bit {k : Nat} {L : List V.Tk} {raw : ByteArray} {last : Bool} {o : Nat} (h : raw.size ≤ 65535) : ∀ x ∈ V.bkm k L raw last o, x ≤ 1 := by
  rw [V.bkm_blk h]; exact V.blk_bit _ _ _ _ _
theorem text_of' (d t : ByteArray) : (⟨((d.data.toList ++ t.data.toList).drop d.size).toArray⟩ : ByteArray) = t := by
  have h : d.data.toList.length = d.size := Array.length_toList
  rw [← h, List.drop_left]
theorem app_none' (X : ByteArray) : X ++ ⟨#[]⟩ = X := ByteArray.append_empty
structure Mid (d T : ByteArray) (L : List V.Tk) (n m : Nat) (B : Nat) (w2 : World) (a j : Nat) (v : Value) (bs : List Nat) (w : World) : Prop where
  an : a ≤ n
  bit : ∀ x ∈ bs, x ≤ 1
  len : bs.length ≤ 5100 * j + 56 * a + 8 * V.szt L a
  wr : V.Bw B w B v bs
  bel : Below B w2 w
  way : (j ≤ m ∧ (a < n ∨ j = 0) ∧ Rdp d.data.toList T L j bs a) ∨ (j ≤ m + 1 ∧ 0 < j ∧ a = n ∧ Rdy d T bs)
set_option maxHeartbeats 8000000 in
theorem iblocks_good {T : World → Prop} (C : Ifs T) (d : ByteArray) (A A2 : Option Addr) (n c m c2 : Nat) (R : List V.Ra) (Q : List Ct) (W : World) (H : T W) (hR : V.IsRas W A n R) (hQ : IsCts W A2 m Q) (hd : d.size ≤ 4096) (hn : n ≤ 200) (hm : m ≤ 30) :
    Calls Tryz.prog 6 #[.string d, .slice A n c, .slice A2 m c2] W fun e w' => e = .returned (.bool true) ∧ Below W.heap.size W w' := by
  have HW := Lib.hid (fun (w : World) (b : Below W.heap.size W w) => works16 C w (C.keep H b))
  have HM := Lib.hid (made_c d A n c R W hR (by omega) (by omega))
  have hmay := V.mdk_may R (d.size : Int) hR.good (by omega)
  have hlen : (V.mdk R d.size).length = n := by rw [V.mdk_length, hR.leng]
  obtain ⟨S, hS1, hS2, hrun, hz, hSz⟩ := mdk_text d R hR.good (by rw [hR.leng]; omega)
  have HQ := Lib.hid hQ
  obtain ⟨L, hL⟩ : ∃ L, V.mdk R d.size = L := ⟨_, rfl⟩
  rw [hL] at HM hmay hlen hS1 hS2 hrun hz
  have HT := Lib.hid (fun (A' : Option Addr) (c' : Nat) (w : World) (h : V.IsTks w A' n L) => (show Calls Tryz.prog 13 #[.string d, .slice A' n c'] w fun e w' => e = .returned (.tuple #[.string S, .int .i64 0]) ∧ Below w.heap.size w w' from by
    have := V.Tx.rtext_any d A' n c' L w h (by omega) (by omega)
    rw [hS1, hS2] at this
    exact this))
  have hm1 : ∀ x ∈ L, V.may x = true := fun x hx => (hmay x hx).1
  have hg1 : ∀ x ∈ L, x.ok := fun x hx => (hmay x hx).2
  have HAll := Lib.hid (And.intro hm1 (And.intro hg1 (And.intro hz (And.intro hSz (And.intro hrun hlen)))))
  have HI := Lib.hid (fun (X : ByteArray) (bs : List Nat) (hX : X = textR (V.nb bs) bs.length) (hb : ∀ x ∈ bs, x ≤ 1) (hl : bs.length ≤ 760000) (hy : Rdy d S bs) (w : World) (b : Below W.heap.size W w) => (show Calls Tryz.prog 11 #[.string d, .string X, .int .i64 S.size] w fun e w' => e = .returned (.tuple #[.string S, .int .i64 ((bs.length + 7) / 8 : Nat), .int .i64 0]) ∧ Below w.heap.size w w' from by
    have h := C.yes d X S.size w (C.keep H b) (by omega) (by rw [hX, V.textR_size]; omega) (by omega)
    have e := bt_text hb ⟨#[]⟩
    rw [app_none' (textR (V.nb bs) bs.length), ← hX] at e
    rw [hy X [] e] at h
    unfold ansE at h
    rw [ans_yes] at h
    simp only [text_of'] at h
    exact h))
  have HX := Lib.hid (fun (B : Nat) (v : Value) (bs : List Nat) (w2 : World) (h : V.Bw B w2 B v bs) (hb : ∀ x ∈ bs, x ≤ 1) (hl : bs.length ≤ 760000) (hB : B ≤ w2.heap.size) =>
    (show Calls Tryz.prog 16 #[.pointer (some ⟨B, 0, none⟩)] w2 fun e w' => e = .returned (.string (textR (V.nb bs) bs.length)) ∧ Below w2.heap.size w2 w' from by
      have g := V.text_any h hb (by omega) hB
      rw [V.text_eq] at g
      exact g))
  have c1 : decide ((4096 : Int) < (d.size : Int)) = false := decide_eq_false (by omega)
  have c1' : decide (4096 < d.size) = false := decide_eq_false (by omega)
  have c2 : decide ((200 : Int) < (n : Int)) = false := decide_eq_false (by omega)
  have c2' : decide (200 < n) = false := decide_eq_false (by omega)
  have c3 : decide ((30 : Int) < (m : Int)) = false := decide_eq_false (by omega)
  have c3' : decide (30 < m) = false := decide_eq_false (by omega)
  clear H hR hQ hrun hz hS1 hS2 hmay hm1 hg1 hL C hlen
  go_enter Tryz.func6, Tryz.ntmps6
  go_wp2_with (first
    | (go_at_call 12; (with_reducible refine HM.out.mono ?_); rintro e w1 ⟨A', c', rfl, t1, hcap, b1⟩; have T1 := Lib.hid t1; have B1 := Lib.hid b1; clear t1 b1)
    | (go_at_call 13; (with_reducible refine (HT.out A' c' _ T1.out).mono ?_); rintro e w2 ⟨rfl, b2⟩; have T2 := Lib.hid (T1.out.below b2); have B2 := Lib.hid (B1.out.trans (b2.mono B1.out.size)); have HNw := Lib.hid (V.bw_new w2); have B3 := Lib.hid ((Below.refl w2.heap.size w2).alloc (Nat.le_refl _) (.cells #[.slice none 0 0] 43)); clear b2))
  go_loopw [11, 12, 13] (fun x y i wr => ∃ (a j : Nat) (v : Value) (bs : List Nat), x = .int .i64 a ∧ y = .int .i64 (V.szt L a) ∧ i = .int .i64 j ∧ Mid d S L n m w2.heap.size w2 a j v bs wr) (fun _ _ i _ => 40 - (intOf i).toNat)
  case atStart => exact ⟨0, 0, _, [], rfl, rfl, rfl, Nat.zero_le _, fun x hx => (by cases hx), (by simp), HNw.out, B3.out, .inl ⟨Nat.zero_le _, .inr rfl, Rdp.none⟩⟩
  case round =>
    obtain ⟨a, j, v, bs, rfl, rfl, rfl, M⟩ := hrel
    have HMd := Lib.hid M
    have han := M.an
    rcases M.way with ⟨hjm, hop, hrd⟩ | ⟨hjm, hj0, rfl, hrdy⟩
    · obtain ⟨p, hp⟩ : ∃ p, decide (a < n) = p := ⟨_, rfl⟩
      obtain ⟨q, hq⟩ : ∃ q, decide (j = 0) = q := ⟨_, rfl⟩
      have hpq : (p || q) = true := by rw [← hp, ← hq, Bool.or_eq_true, decide_eq_true_eq, decide_eq_true_eq]; exact hop
      have hp' : decide ((a : Int) < (n : Int)) = p := by rw [← hp]; exact decide_eq_decide.2 (by omega)
      have hq' : ((j : Int) == 0) = q := by rw [← hq, Bool.eq_iff_iff, beq_iff_eq, decide_eq_true_eq]; omega
      have hln : L.length = n := HAll.out.2.2.2.2.2
      have na1 : (n : Int) - (a : Int) = ((n - a : Nat) : Int) := by omega
      obtain ⟨g, hg⟩ : ∃ g, n - a = g := ⟨_, rfl⟩
      rw [hg] at na1
      have na2 : IntKind.i64.wrap (g : Int) = (g : Int) := IntWalk.i64_in _ ⟨by omega, by omega⟩
      -- what comes behind the choice of the block
      have key : ∃ (k kd : Nat) (f1 f2 : Int), k ≤ g ∧ kd ≤ 2 ∧ (∃ r : Nat, r ≤ 39 ∧ ((j < m ∧ (∃ b o, A2 = some ⟨b, o, none⟩ ∧ wr.cell? ⟨b, o + j * 2, none⟩ = some (.int .u8 f1) ∧ wr.cell? ⟨b, o + j * 2 + 1, none⟩ = some (.int .u8 f2)) ∧ Int.tmod f1 40 = (r : Int) ∧ Int.tmod f2 3 = (kd : Int) ∧ min (g : Int) (r : Int) = (k : Int)) ∨ (j = m ∧ k = g ∧ kd = 1))) := by
        by_cases hj : j < m
        · obtain ⟨b, o, e1, e2, e3⟩ := HQ.out.at (by omega)
          obtain ⟨x1, x2⟩ := e3 j hj
          have hin : Q.getD j default ∈ Q := by rw [List.getD, List.getElem?_eq_getElem (by rw [HQ.out.leng]; exact hj)]; exact List.getElem_mem _
          obtain ⟨⟨n1, n2⟩, n3, n4⟩ := HQ.out.good _ hin
          have hbw : Below W.heap.size W wr := B2.out.trans (HMd.out.bel.mono B2.out.size)
          refine ⟨(min (g : Int) ((Q.getD j default).n % 40)).toNat, ((Q.getD j default).k % 3).toNat, (Q.getD j default).n, (Q.getD j default).k, by omega, by omega, ((Q.getD j default).n % 40).toNat, by omega, .inl ⟨hj, ⟨b, o, e1, (hbw.cell e2).trans x1, (hbw.cell e2).trans x2⟩, ?_, ?_, by omega⟩⟩ <;>
          · rw [Int.tmod_eq_emod_of_nonneg (by omega)]
            omega
        · exact ⟨g, 1, 0, 0, Nat.le_refl _, by decide, 0, by omega, .inr ⟨by omega, rfl, rfl⟩⟩
      obtain ⟨k, kd, f1, f2, hkg, hkd, r, hr39, hway⟩ := key
      obtain ⟨b, hb⟩ : ∃ b, a + k = b := ⟨_, rfl⟩
      have hbn : b ≤ n := by omega
      have hab : a ≤ b := by omega
      have hzz := V.szs_seg L hab
      obtain ⟨z, hzd⟩ : ∃ z, V.Tx.szs (V.seg L a b) = z := ⟨_, rfl⟩
      rw [hzd] at hzz
      have hsm : V.szt L b ≤ S.size := by have h1 := V.szt_mono L (show b ≤ L.length by omega); have h2 := V.szt_all (L := L) (Nat.le_refl L.length); rw [HAll.out.2.2.1] at h2; omega
      obtain ⟨Y, hY⟩ : ∃ Y, (if c' = a then A' else Option.map (fun x => x.add (a * 3)) A') = Y := ⟨_, rfl⟩
      have HTk := Lib.hid (fun (w : World) (bl : Below w2.heap.size w2 w) => (show V.IsTks w Y (b - a) (V.seg L a b) from by
        rw [← hY]
        exact (T2.out.below bl).sub hcap hab hbn))
      have HSz := Lib.hid (fun (w : World) (bl : Below wr.heap.size wr w) => (show Calls Tryz.prog 14 #[.slice Y (b - a : Nat) (c' - a : Nat)] w fun e w' => e = .returned (.int .i64 z) ∧ Below w.heap.size w w' from by
        have := V.Tx.rsize_any Y (b - a) (c' - a) (V.seg L a b) w (HTk.out w (HMd.out.bel.trans (bl.mono HMd.out.bel.size))) (by omega)
        rw [hzd] at this
        exact this))
      obtain ⟨la, hla⟩ : ∃ la, decide (b = n) = la := ⟨_, rfl⟩
      obtain ⟨RA, hRA⟩ : ∃ RA, S.extract (V.szt L a) (V.szt L b) = RA := ⟨_, rfl⟩
      have hRs : RA.size = z := by rw [← hRA, ByteArray.size_extract]; omega
      obtain ⟨MB, hMB⟩ : ∃ MB, V.bkm kd (V.seg L a b) RA la bs.length = MB := ⟨_, rfl⟩
      have hsl := V.seg_length (L := L) (f := a) (t := b) (by omega)
      have hml := blk_more kd (V.seg L a b) RA la bs.length (by omega) (by omega) (fun x hx => HAll.out.1 x (V.seg_mem hx))
      rw [hMB, hsl, hRs] at hml
      have hbl := HMd.out.len
      have HWr := Lib.hid (fun (W1 : World) (bl : Below wr.heap.size wr W1) => (show Calls Tryz.prog 15 #[.pointer (some ⟨w2.heap.size, 0, none⟩), .int .u8 kd, .slice Y (b - a : Nat) (c' - a : Nat), .string RA, .bool la] W1 fun e w' => e = .returned (.tuple #[]) ∧ ∃ v5, Mid d S L n m w2.heap.size w2 b (j + 1) v5 (bs ++ MB) w' from by
        have gw := V.writem_any (HMd.out.wr.below bl) kd hkd Y (b - a) (c' - a) (V.seg L a b) RA la (fun _ => by omega) (fun w' b' => HTk.out w' ((HMd.out.bel.trans (bl.mono HMd.out.bel.size)).trans b')) (by omega) (fun _ x hx => HAll.out.1 x (V.seg_mem hx)) (by omega) (Nat.le_trans HMd.out.bel.size bl.size)
        rw [hMB] at gw
        refine gw.mono fun e w' q => ⟨q.1, ?_⟩
        obtain ⟨v5, h5, c5⟩ := q.2
        refine ⟨v5, hbn, fun x hx => ?_, ?_, h5, (HMd.out.bel.trans (bl.mono HMd.out.bel.size)).trans (c5.below (Nat.le_trans HMd.out.bel.size bl.size) (Nat.le_refl _) (fun q hq => (HMd.out.wr.ow.lt q hq).1)), ?_⟩
        · rcases List.mem_append.1 hx with h | h
          · exact HMd.out.bit x h
          · rw [← hMB] at h; exact bkm_bit (by omega) x h
        · rw [List.length_append]; omega
        · have hAll := HAll.out
          by_cases hbe : b = n
          · obtain rfl : la = true := by rw [← hla]; exact decide_eq_true hbe
            subst hbe
            rw [← hMB, ← hRA]
            exact .inr ⟨by omega, by omega, rfl, Rdy.of hrd hAll.1 hAll.2.1 hAll.2.2.1 hAll.2.2.2.1 hAll.2.2.2.2.1 hkd (by omega) hln (by omega) (by omega)⟩
          · obtain rfl : la = false := by rw [← hla]; exact decide_eq_false hbe
            rw [← hMB, ← hRA]
            refine .inl ⟨?_, .inl (by omega), hrd.more hAll.1 hAll.2.1 hAll.2.2.1 (by have := hAll.2.2.2.1; omega) hAll.2.2.2.2.1 hkd hab (by omega)⟩
            rcases hway with ⟨h, _⟩ | ⟨_, h, _⟩ <;> omega))
      have hab1 : (a : Int) + (k : Int) = (b : Int) := by omega
      have hab2 : IntKind.i64.wrap (b : Int) = (b : Int) := IntWalk.i64_in _ ⟨by omega, by omega⟩
      obtain ⟨sa, hsa⟩ : ∃ sa, V.szt L a = sa := ⟨_, rfl⟩
      obtain ⟨sb, hsb⟩ : ∃ sb, V.szt L b = sb := ⟨_, rfl⟩
      rw [hsa, hsb] at hRA
      rw [hsa, hsb] at hzz
      rw [hsb] at hsm
      rw [hsa]
      have hs1 : (sa : Int) + (z : Int) = (sb : Int) := by omega
      have hs2 : IntKind.i64.wrap (sb : Int) = (sb : Int) := IntWalk.i64_in _ ⟨by omega, by omega⟩
      have hs3 : sa ≤ sb := by omega
      have hbc : b ≤ c' := by omega
      have hl1 : ((b : Int) == (n : Int)) = la := by rw [← hla, Bool.eq_iff_iff, beq_iff_eq, decide_eq_true_eq]; omega
      have hr2 : IntKind.i64.wrap (r : Int) = (r : Int) := IntWalk.i64_in _ ⟨by omega, by omega⟩
      have hk2 : IntKind.i64.wrap (k : Int) = (k : Int) := IntWalk.i64_in _ ⟨by omega, by omega⟩
      have hjj : j ≤ 30 := by omega
      have HBr := Lib.hid (Below.refl wr.heap.size wr)
      have HSb := Lib.hid hsb
      clear hop hln hzd hRs hMB hsl hml hbl hsa hsb hla M hrd
      rcases hway with ⟨hjm2, ⟨b0, o0, rfl, y1, y2⟩, e1, e2, e3⟩ | ⟨rfl, rfl, rfl⟩
      · have dj : decide ((j : Int) < (m : Int)) = true := decide_eq_true (by omega)
        have dj' : decide (j < m) = true := decide_eq_true hjm2
        have ix : (j : Int).toNat < m := by omega
        cases p <;> cases q <;> first
          | exact absurd hpq (by decide)
          | (go_wp2_with (go_at_call 14; (with_reducible refine (HSz.out _ HBr.out).mono ?_); rintro e w3 ⟨rfl, b3⟩; have B3' := Lib.hid b3; clear b3)
             all_goals
               have b3d : Below wr.heap.size wr w3.drew := B3'.out.drew
               have HWq := Lib.hid (HWr.out w3.drew b3d)
               clear b3d
               go_region_with (go_at_call 15; (with_reducible refine HWq.out.mono ?_); rintro e w5 ⟨rfl, v5, m5⟩; have M5 := Lib.hid m5; clear m5)
               all_goals
                 go_wp2_with fail
                 go_roundw
                 case rel => exact ⟨b, j + 1, v5, bs ++ MB, rfl, by rw [HSb.out], by go_num, M5.out⟩
                 case measure => (simp [intOf]; try omega))
      · have dj : decide ((j : Int) < (j : Int)) = false := decide_eq_false (by omega)
        have dj' : decide (j < j) = false := decide_eq_false (by omega)
        cases p <;> cases q <;> first
          | exact absurd hpq (by decide)
          | (go_wp2_with (go_at_call 14; (with_reducible refine (HSz.out _ HBr.out).mono ?_); rintro e w3 ⟨rfl, b3⟩; have B3' := Lib.hid b3; clear b3)
             all_goals
               have b3d : Below wr.heap.size wr w3.drew := B3'.out.drew
               have HWq := Lib.hid (show Calls Tryz.prog 15 #[.pointer (some ⟨w2.heap.size, 0, none⟩), .int .u8 1, .slice Y (b - a : Nat) (c' - a : Nat), .string RA, .bool la] w3.drew (fun e w' => e = .returned (.tuple #[]) ∧ ∃ v5, Mid d S L n _ w2.heap.size w2 b (_ + 1) v5 (bs ++ MB) w') from HWr.out w3.drew b3d)
               clear b3d
               go_region_with (go_at_call 15; (with_reducible refine HWq.out.mono ?_); rintro e w5 ⟨rfl, v5, m5⟩; have M5 := Lib.hid m5; clear m5)
               all_goals
                 go_wp2_with fail
                 go_roundw
                 case rel => exact ⟨b, j + 1, v5, bs ++ MB, rfl, by rw [HSb.out], by go_num, M5.out⟩
                 case measure => (simp [intOf]; try omega))
    · have hlen2 : bs.length ≤ 760000 := by have h1 := M.len; have h2 := V.szt_all (L := L) (Nat.le_of_eq HAll.out.2.2.2.2.2); rw [HAll.out.2.2.1] at h2; omega
      have HXx := Lib.hid (HX.out w2.heap.size v bs wr M.wr M.bit hlen2 M.bel.size)
      have HIi := Lib.hid (fun (w : World) b => HI.out _ bs rfl M.bit hlen2 hrdy w b)
      obtain ⟨Av, cv, rfl⟩ := V.Owb.form M.wr.ow
      have d1 : decide ((a : Int) < (a : Int)) = false := decide_eq_false (by omega)
      have d2 : ((j : Int) == 0) = false := by rw [beq_eq_false_iff_ne]; omega
      have d2' : decide (j = 0) = false := decide_eq_false (by omega)
      have HBl := Lib.hid (B2.out.trans (M.bel.mono B2.out.size))
      have k0 := M.wr.at0
      have kl := M.wr.lt
      obtain ⟨q, hq⟩ : ∃ q, bs.length = q := ⟨_, rfl⟩
      obtain ⟨X, hX⟩ : ∃ X, textR (V.nb bs) bs.length = X := ⟨_, rfl⟩
      rw [hX] at HXx
      simp only [hX] at HIi
      rw [hq] at k0 hlen2
      simp only [hq] at HIi
      obtain ⟨u, hu⟩ : ∃ u, (q + 7) / 8 = u := ⟨_, rfl⟩
      have hu1 : ((q : Int) + 7) / 8 = (u : Int) := by omega
      have hu2 : Int.tdiv ((q : Int) + 7) 8 = (u : Int) := by rw [Int.tdiv_eq_ediv_of_nonneg (by omega)]; exact hu1
      have hu3 : IntKind.i64.wrap ((q : Int) + 7) = (q : Int) + 7 := IntWalk.i64_in _ ⟨by omega, by omega⟩
      have hu4 : IntKind.i64.wrap (u : Int) = (u : Int) := IntWalk.i64_in _ ⟨by omega, by omega⟩
      simp only [hu] at HIi
      clear hX hu M hrdy
      go_wp2_with (first
        | (go_at_call 16; (with_reducible refine HXx.out.mono ?_); rintro e w4 ⟨rfl, b4⟩; have k4 := (b4.cell (p := ⟨w2.heap.size, 0, none⟩) kl).trans k0; have kl4 := Nat.lt_of_lt_of_le kl b4.size; have B4 := Lib.hid (HBl.out.trans (b4.mono HBl.out.size)); clear b4)
        | (go_at_call 11; (with_reducible refine (HIi.out _ B4.out).mono ?_); rintro e w5 ⟨rfl, b5⟩; have k5 := (b5.cell (p := ⟨w2.heap.size, 0, none⟩) kl4).trans k4; have B5 := Lib.hid (B4.out.trans (b5.mono B4.out.size)); clear b5)
        | (go_at_call 8; (with_reducible refine (HW.out _ B5.out).mono ?_); rintro e w6 ⟨rfl, b6⟩; have B6 := Lib.hid (B5.out.trans (b6.mono B5.out.size)); clear b6))
      go_ret
      exact ⟨rfl, B6.out⟩
end Go.Proofs.YtolcaknhjjejeaaGreatDoor.I

namespace Go.Proofs.YtolcaknhjjejeaaGreatDoor.I
set_option maxRecDepth 1000000
open Go Go.RowKit M
set_option linter.unusedVariables false
set_option linter.unusedSimpArgs false
theorem iblocks_law {T : World → Prop} (C : Ifs T) (d : ByteArray) (A A2 : Option Addr) (n c m c2 : Nat) (R : List V.Ra) (Q : List Ct) (W : World) (H : T W) (hR : V.IsRas W A n R) (hQ : IsCts W A2 m Q) (hd : d.size ≤ maxLen) :
    Calls Tryz.prog 6 #[.string d, .slice A n c, .slice A2 m c2] W fun e w' => e = .returned (.bool true) ∧ Below W.heap.size W w' := by
  by_cases hv : d.size ≤ 4096 ∧ n ≤ 200 ∧ m ≤ 30
  · exact iblocks_good C d A A2 n c m c2 R Q W H hR hQ hv.1 hv.2.1 hv.2.2
  · have HW := Lib.hid (works16 C W H)
    have hn := hR.most
    have hm := hQ.most
    unfold maxLen at hn hm hd
    obtain ⟨b1, hb1⟩ : ∃ b, decide (4096 < d.size) = b := ⟨_, rfl⟩
    obtain ⟨b2, hb2⟩ : ∃ b, decide (200 < n) = b := ⟨_, rfl⟩
    obtain ⟨b3, hb3⟩ : ∃ b, decide (30 < m) = b := ⟨_, rfl⟩
    have hb4 : (b1 || b2 || b3) = true := by rw [← hb1, ← hb2, ← hb3, Bool.or_eq_true, Bool.or_eq_true, decide_eq_true_eq, decide_eq_true_eq, decide_eq_true_eq]; omega
    have hb1' : decide ((4096 : Int) < (d.size : Int)) = b1 := by rw [← hb1]; exact decide_eq_decide.2 (by omega)
    have hb2' : decide ((200 : Int) < (n : Int)) = b2 := by rw [← hb2]; exact decide_eq_decide.2 (by omega)
    have hb3' : decide ((30 : Int) < (m : Int)) = b3 := by rw [← hb3]; exact decide_eq_decide.2 (by omega)
    clear hv H hR hQ
    cases b1 <;> cases b2 <;> cases b3 <;> first
      | exact absurd hb4 (by decide)
      | (go_enter Tryz.func6, Tryz.ntmps6
         go_wp2_with (go_at_call 8; (with_reducible refine HW.out.mono ?_); rintro e w5 ⟨rfl, b5⟩; have B5 := Lib.hid b5; clear b5)
         go_ret
         exact ⟨rfl, B5.out⟩)
end Go.Proofs.YtolcaknhjjejeaaGreatDoor.I
