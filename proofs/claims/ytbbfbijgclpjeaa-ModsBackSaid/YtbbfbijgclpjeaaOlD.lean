/- ModsBack returns true for any argument that its kinds hold. Conditions: none. -/
import Derived.Test.YtbbfbijgclpjeaaOlB
namespace Go.Proofs.Ytbbfbijgclpjeaa
open Go Go.RowKit M O
set_option linter.unusedVariables false
set_option linter.unusedSimpArgs false

namespace O
theorem Owm.lit0 (w : World) : Owm w.heap.size (w.alloc (.cells #[] 34)) (.slice (some ⟨w.heap.size, 0, none⟩) 0 0) [] :=
  World.ownsRow_lit (e := 34) w #[] 0 (Nat.le_refl _) (by decide) rfl
/-- append of any slice of modifications -/
theorem run_mdsA {w : World} (ty : TypeId) {B : Nat} {v : Value} {L R : List Md} (h : Owm B w v L) {A : Option Addr} {n : Nat} (c : Nat) (hr : IsMds w A n R) (hL : L.length + R.length ≤ 1000000) (hB : B ≤ w.heap.size) :
    ∃ v' w', (Builtin.append_ #[22, 22] ty #[v, .slice A n c]).run Try.prog w = .ok v' w' ∧ Owm B w' v' (L ++ R) ∧ Below B w w' := by
  obtain ⟨i, h1, h2, h3, h4⟩ := info_of modInfo
  rcases hr.cells with g | ⟨b, o, rfl, g2, g3⟩
  · subst g
    have hR : R = [] := List.length_eq_zero_iff.1 hr.leng
    subst hR
    rw [List.append_nil]
    refine ⟨v, w, ?_, h, Below.refl _ _⟩
    rcases h.2 with ⟨rfl, q0⟩ | ⟨g, cap, cur, rfl, hg, hh, hcap, hm, hs, ht⟩
    · cases A with
      | none => simp [Builtin.append_, run_underlying Try.underlying22, sizeOf, typeInfo, h1, Builtin.lenOf, Builtin.firstCells]
      | some a =>
        have hl := run_loadCells_list (P := Try.prog) w a [] (fun j v hj => by simp at hj)
        rw [List.length_nil] at hl
        simp [Builtin.append_, run_underlying Try.underlying22, sizeOf, typeInfo, h1, Builtin.lenOf, Builtin.firstCells, hl]
    · cases A with
      | none =>
        simp [Builtin.append_, run_underlying Try.underlying22, sizeOf, typeInfo, h1, Builtin.lenOf, Builtin.firstCells]
        rw [if_pos hcap]
        simp [storeCells]
      | some a =>
        have hl := run_loadCells_list (P := Try.prog) w a [] (fun j v hj => by simp at hj)
        rw [List.length_nil] at hl
        simp [Builtin.append_, run_underlying Try.underlying22, sizeOf, typeInfo, h1, Builtin.lenOf, Builtin.firstCells, hl]
        rw [if_pos hcap]
        simp [storeCells]
  · obtain ⟨v', w', r1, r2, _, r4⟩ := run_mds w ty B v L h b o n c R g3 hr.leng (by have := hr.leng; omega) hB
    exact ⟨v', w', r1, r2, r4⟩
theorem wpList_mdsA {ops : Array Oper} {rest : List Oper} {o : Oper} {a : Act} {w : World} {Q : Exit → Act → World → Prop} (hw : Region.wanted o (yielded ops a.tmps) = true) (s x : Operand)
    (ho : o.op = .call { callee := .builtin .append, args := #[s, x], argTypes := #[22, 22] }) (B : Nat) (v : Value) (L R : List Md) (hs : a.eval s = v) (h : Owm B w v L) (A : Option Addr) (n c : Nat)
    (hx : a.eval x = .slice A n c) (hr : IsMds w A n R) (hL : L.length + R.length ≤ 1000000) (hB : B ≤ w.heap.size) (Z : List Md) (N : Nat) (hZ : L ++ R = Z) (hN : Z.length = N) (hok : ∀ m ∈ Z, m.ok)
    (hK : ∀ A' c' w', Owm B w' (.slice A' N c') Z → IsMds w' A' N Z → Below B w w' → wpList Try.prog ops Q rest (a.put o.dst (.slice A' N c')) w') : wpList Try.prog ops Q (o :: rest) a w :=
  wpList_step fun K hK' => by
    obtain ⟨v', w', r1, r2, r3⟩ := run_mdsA o.type h c hr hL hB
    rw [hZ] at r2
    have hzl : Z.length ≤ 1000000 := by rw [← hZ, List.length_append]; exact hL
    obtain ⟨A', c', rfl, hI⟩ := r2.mds hok (by unfold maxLen; omega)
    rw [hN] at hI r1 r2
    simp only [hw, if_true]
    unfold Oper.wp execOp
    simp only [ho, resolve, invoke, builtin, Sem.run_bind, Sem.run_pure, Result.andThen_ok, List.map_toArray, List.map_cons, List.map_nil, hs, hx, r1]
    exact hK' _ _ (hK A' c' w' r2 hI r3)
/-- a record's end, among the first ones -/
def en (L : List Md) (k : Nat) : Nat → Bool
  | 0 => k == 0
  | j + 1 => en L k j || szs (L.take (j + 1)) == k
theorem en_iff (L : List Md) (k j : Nat) : en L k j = true ↔ ∃ i, i ≤ j ∧ szs (L.take i) = k := by
  induction j with
  | zero =>
    simp only [en, beq_iff_eq]
    constructor
    · rintro rfl; exact ⟨0, Nat.le_refl _, rfl⟩
    · rintro ⟨i, h1, h2⟩
      rw [Nat.le_zero.1 h1] at h2
      exact h2.symm
  | succ j ih =>
    simp only [en, Bool.or_eq_true, beq_iff_eq, ih]
    constructor
    · rintro (⟨i, h1, h2⟩ | h)
      · exact ⟨i, by omega, h2⟩
      · exact ⟨j + 1, Nat.le_refl _, h⟩
    · rintro ⟨i, h1, h2⟩
      by_cases q : i = j + 1
      · subst q; exact .inr h2
      · exact .inl ⟨i, by omega, h2⟩
end O

namespace O
theorem shl_pgn (z : Int) (h : 0 ≤ z) : (1024 : Int) * 2 ^ (z % 5).toNat = (pgn z : Int) := by
  unfold pgn
  have e : (z % 5).toNat = z.toNat % 5 := by omega
  rw [e]
  have : z.toNat % 5 = 0 ∨ z.toNat % 5 = 1 ∨ z.toNat % 5 = 2 ∨ z.toNat % 5 = 3 ∨ z.toNat % 5 = 4 := by omega
  rcases this with e | e | e | e | e <;> rw [e] <;> rfl
theorem enc_bad {N : Int} {L : List Md} (h : oks N L = false) : encl N L = ([], 2) := by unfold encl; rw [h]; rfl
theorem enc_good {N : Int} {L : List Md} (h : oks N L = true) : encl N L = (enc L, 0) := by unfold encl; rw [h]; rfl
theorem encode_is (N : Int) (A : Option Addr) (n c : Nat) (L : List Md) (w : World) (h : IsMds w A n L) (hz : szs L ≤ 10000000) {X : List UInt8} {E : Int} (he : encl N L = (X, E)) :
    Calls Try.prog 12 #[.int .i64 N, .slice A n c] w fun e w' => e = .returned (.tuple #[.string (bstr X), .int .i64 E]) ∧ Below w.heap.size w w' := by
  have := encode_any N A n c L w h hz
  rw [he] at this
  exact this
theorem decode_is (N : Int) (S : ByteArray) (w : World) (hS : S.size ≤ 100000) {L : List Md} {E : Int} (he : decl N S.data.toList = (L, E)) :
    Calls Try.prog 22 #[.int .i64 N, .string S] w fun e w' => ∃ A c, e = .returned (.tuple #[.slice A L.length c, .int .i64 E]) ∧ IsMds w' A L.length L ∧ Below w.heap.size w w' := by
  refine (decode_any N S w hS).mono ?_
  rintro e w' ⟨A, n, c, q1, q2, _, _, q5⟩
  rw [he] at q1 q2
  obtain rfl : L.length = n := q2.leng
  exact ⟨A, c, q1, q2, q5⟩
/-- what ModsBack is about -/
structure Bk (N : Int) (L R : List Md) (K : Nat) (A B : ByteArray) (k : Nat) (LK : List Md) (E : Int) : Prop where
  ea : encl N L = (A.data.toList, 0)
  eb : encl N R = (B.data.toList, 0)
  da : decl N A.data.toList = (L, 0)
  dab : decl N (A ++ B).data.toList = (L ++ R, 0)
  dk : decl N (A.extract 0 k).data.toList = (LK, E)
  sa : A.size = szs L
  sb : B.size = szs R
  kk : K % (A.size + 1) = k
  eq : decide (A = B) = decide (L = R)
  cs : (en L k L.length = true ∧ E = 0) ∨ (en L k L.length = false ∧ E = 7 ∧ LK.length = 0)
theorem bk_of {N : Int} {L R : List Md} (hp : pg N = true) (hL : oks N L = true) (hR : oks N R = true) (K : Nat) : ∃ A B k LK E, Bk N L R K A B k LK E := by
  have h1 := oks_iff.1 hL
  have h2 := oks_iff.1 hR
  have sa : (bstr (enc L)).size = szs L := by rw [bstr_size, enc_length]
  obtain ⟨k, hk⟩ : ∃ k, K % ((bstr (enc L)).size + 1) = k := ⟨_, rfl⟩
  have hkl : k ≤ szs L := by have := Nat.mod_lt K (show 0 < (bstr (enc L)).size + 1 by omega); omega
  have e0 : ((bstr (enc L)).extract 0 k).data.toList = (enc L).take k := by
    rw [ByteArray.data_extract, Array.toList_extract, List.extract_eq_take_drop]; rfl
  have hab : (bstr (enc L) ++ bstr (enc R)).data.toList = enc (L ++ R) := by rw [bstr_append, enc_append]; rfl
  have hcut := dec_cut L h1 k hkl
  have hen := en_iff L k L.length
  have heq : decide (bstr (enc L) = bstr (enc R)) = decide (L = R) := by
    by_cases q : L = R
    · rw [decide_eq_true q, q, decide_eq_true rfl]
    · rw [decide_eq_false q, decide_eq_false (fun g => q (enc_inj h1 h2 (by have := congrArg (fun s : ByteArray => s.data.toList) g; exact this)))]
  have hda : decl N (bstr (enc L)).data.toList = (L, 0) := decl_some hp (dec_all h1)
  have hdab : decl N (bstr (enc L) ++ bstr (enc R)).data.toList = (L ++ R, 0) := by
    rw [hab]
    refine decl_some hp (dec_all fun m hm => ?_)
    rcases List.mem_append.1 hm with q | q
    · exact h1 m q
    · exact h2 m q
  cases hd : dec N ((enc L).take k) with
  | some LK =>
    rw [hd] at hcut
    exact ⟨bstr (enc L), bstr (enc R), k, LK, 0, enc_good hL, enc_good hR, hda, hdab, by rw [e0]; exact decl_some hp hd, sa, by rw [bstr_size, enc_length], hk, heq, .inl ⟨hen.2 (by obtain ⟨j, a, b⟩ := hcut.1 rfl; exact ⟨j, a, b⟩), rfl⟩⟩
  | none =>
    rw [hd] at hcut
    refine ⟨bstr (enc L), bstr (enc R), k, [], 7, enc_good hL, enc_good hR, hda, hdab, by rw [e0]; exact decl_none hp hd, sa, by rw [bstr_size, enc_length], hk, heq, .inr ⟨?_, rfl, rfl⟩⟩
    cases q : en L k L.length with
    | false => rfl
    | true =>
      have := hcut.2 (hen.1 q)
      cases this
end O

set_option maxRecDepth 1000000 in
set_option maxHeartbeats 8000000 in
theorem ModsBack_good (a0 : Option Addr) (len0 cap0 : Nat) (z0 : List Md) (a1 : Option Addr) (len1 cap1 : Nat) (z1 : List Md) (a2 : Int) (K : Nat) (W : World) (w0 : IsMds W a0 len0 z0) (w1 : IsMds W a1 len1 z1)
    (y1 : 0 ≤ a2) (y2 : a2 ≤ 255) (y3 : K ≤ 65535) (hlg0 : lng z0 = false) (hlg1 : lng z1 = false) (hok0 : oks (pgn a2 : Int) z0 = true) (hok1 : oks (pgn a2 : Int) z1 = true) :
    Calls Try.prog 6 #[.slice a0 len0 cap0, .slice a1 len1 cap1, .int .u8 a2, .int .u16 K] W fun e w' => e = .returned (.bool true) ∧ Below W.heap.size W w' := by
  have HV := Lib.hid alive_any
  have hLg0 := long_any a0 len0 cap0 z0 W w0
  have hLg1 := long_any a1 len1 cap1 z1 W w1
  rw [hlg0] at hLg0
  rw [hlg1] at hLg1
  have HLg0 := Lib.hid hLg0
  have HLg1 := Lib.hid hLg1
  obtain ⟨t1, t2⟩ := lng_no hlg0
  obtain ⟨t3, t4⟩ := lng_no hlg1
  have hsh := shl_pgn a2 y1
  obtain ⟨hpg, hn1, hn2⟩ := pgn_pg a2
  obtain ⟨n, hn⟩ : ∃ n, pgn a2 = n := ⟨_, rfl⟩
  rw [hn] at hsh hpg hok0 hok1 hn1 hn2
  obtain ⟨A, B, k, LK, E, bk⟩ := bk_of hpg hok0 hok1 K
  have hs0 : szs z0 ≤ 40000 := by rw [szs_tsm]; omega
  have hs1 : szs z1 ≤ 40000 := by rw [szs_tsm]; omega
  have sa := bk.sa
  have sb := bk.sb
  have l0 := w0.leng
  have l1 := w1.leng
  have hE0 := fun w hi => encode_is n a0 len0 cap0 z0 w hi (by omega) bk.ea
  have hE1 := fun w hi => encode_is n a1 len1 cap1 z1 w hi (by omega) bk.eb
  rw [bstr_data] at hE0 hE1
  have HE0 := Lib.hid hE0
  have HE1 := Lib.hid hE1
  have hD0 := fun w => decode_is n A w (by omega) bk.da
  rw [l0] at hD0
  have HD0 := Lib.hid hD0
  obtain ⟨Z, hZ⟩ : ∃ Z, z0 ++ z1 = Z := ⟨_, rfl⟩
  obtain ⟨m7, hm7⟩ : ∃ m, Z.length = m := ⟨_, rfl⟩
  have hm7b : m7 ≤ 200 := by rw [← hm7, ← hZ, List.length_append]; omega
  have hdab := bk.dab
  rw [hZ] at hdab
  have hD1 := fun w => decode_is n (A ++ B) w (by rw [ByteArray.size_append]; omega) hdab
  rw [hm7] at hD1
  have HD1 := Lib.hid hD1
  have HZZ := Lib.hid hZ
  have HM7 := Lib.hid hm7
  clear hD0 hD1 hdab
  have kle : k ≤ A.size := by have := bk.kk; have := Nat.mod_lt K (show 0 < A.size + 1 by omega); omega
  obtain ⟨AK, hAK⟩ : ∃ S, A.extract 0 k = S := ⟨_, rfl⟩
  have hAKs : AK.size ≤ 100000 := by rw [← hAK, ByteArray.size_extract]; omega
  have hdk := bk.dk
  rw [hAK] at hdk
  have HDK := Lib.hid (fun w => decode_is n AK w hAKs hdk)
  have g0 := w0.good
  have g1 := w1.good
  have g01 : ∀ m ∈ Z, m.ok := fun m hm => by
    rw [← hZ] at hm
    rcases List.mem_append.1 hm with q | q
    · exact g0 m q
    · exact g1 m q
  have HS := Lib.hid (fun A B n c m c' L w i1 i2 l1 l2 => show Calls Try.prog 26 #[.slice A n c, .slice B m c'] w fun e w' => e = .returned (.bool true) ∧ Below w.heap.size w w' from by
    have := rsame_any A B n c m c' L L w i1 i2 l1 l2
    rwa [decide_eq_true rfl] at this)
  obtain ⟨q0, hq0⟩ : ∃ q, decide (z0 = z1) = q := ⟨_, rfl⟩
  have HS2 := Lib.hid (fun w i1 i2 => show Calls Try.prog 26 #[.slice a0 len0 cap0, .slice a1 len1 cap1] w fun e w' => e = .returned (.bool q0) ∧ Below w.heap.size w w' from by
    have := rsame_any a0 a1 len0 cap0 len1 cap1 z0 z1 w i1 i2 (by omega) (by omega)
    rwa [hq0] at this)
  have e5 : (A.toList == B.toList) = q0 := by rw [str_eq, bk.eq, hq0]
  have HZ := Lib.hid (fun w hi => size_any a0 len0 cap0 z0 w hi (by omega))
  obtain ⟨sz, hsz⟩ : ∃ s, szs z0 = s := ⟨_, rfl⟩
  rw [hsz] at HZ sa
  have e6 : ((A.size : Int) != (sz : Int)) = false := by rw [sa]; simp
  have e6' : (A.size != sz) = false := by rw [sa]; simp
  have HB := Lib.hid bk
  have HSA := Lib.hid sa
  have HSZ := Lib.hid hsz
  have HL0 := Lib.hid l0
  have HW0 := Lib.hid w0
  have HW1 := Lib.hid w1
  have H01 := Lib.hid g01
  have HG0 := Lib.hid g0
  have HLn := Lib.hid (show len0 ≤ 100 ∧ len1 ≤ 100 ∧ z0.length = len0 ∧ z1.length = len1 ∧ szs z0 ≤ 40000 from ⟨by omega, by omega, l0, l1, hs0⟩)
  have hab : A.size + B.size ≤ 9223372036854775807 := by omega
  have hkz : ∃ b, en z0 k 0 = b ∧ ((k : Int) == 0) = b ∧ (k == 0) = b := by
    refine ⟨_, rfl, ?_, rfl⟩
    show ((k : Int) == 0) = (k == 0)
    by_cases q : k = 0
    · rw [q]; rfl
    · rw [beq_eq_false_iff_ne.2 q, beq_eq_false_iff_ne.2 (show (k : Int) ≠ 0 by omega)]
  obtain ⟨zb, hzb, zk1, zk2⟩ := hkz
  have HZB := Lib.hid hzb
  have cs := bk.cs
  rw [l0] at cs
  obtain ⟨ez, hez⟩ : ∃ e, en z0 k len0 = e := ⟨_, rfl⟩
  rw [hez] at cs
  have HEZ := Lib.hid hez
  have HCS := Lib.hid cs
  obtain ⟨S1, hS1⟩ : ∃ s, A.size + 1 = s := ⟨_, rfl⟩
  have e1 : (A.size : Int) + 1 = (S1 : Int) := by omega
  have kkm := bk.kk
  rw [hS1] at kkm
  have e2 : (K : Int) % (S1 : Int) = (k : Int) := by omega
  have e3 : (K : Int).tmod (S1 : Int) = (k : Int) := by rw [Int.tmod_eq_emod_of_nonneg (by omega)]; exact e2
  have e4 : 0 < S1 := by omega
  have e4' : ((S1 : Int) == 0) = false := by rw [beq_eq_false_iff_ne]; omega
  have asz : A.size ≤ 40000 := by omega
  have bsz : B.size ≤ 40000 := by omega
  have hl0m : len0 ≤ 100 := by omega
  have kb : k ≤ 40000 := by omega
  clear hZ hm7 hLg0 hLg1 hlg0 hlg1 hE0 hE1 w0 w1 g0 g1 g01 hdk hAKs hq0 hsz bk t1 t2 t3 t4 sa sb l0 l1 hs0 hs1 hok0 hok1 hpg hzb cs hez kkm hS1
  go_enter Try.func6, Try.ntmps6
  go_wp2_with (first
    | (go_at_call 10; (with_reducible refine HLg0.out.mono ?_); rintro e w' ⟨rfl, rfl⟩)
    | (go_at_call 10; (with_reducible refine HLg1.out.mono ?_); rintro e w' ⟨rfl, rfl⟩))
  clear hsh hn
  go_wp2_with (first
    | (go_at_call 12; (with_reducible refine (HE0.out _ HW0.out).mono ?_); rintro e w4 ⟨rfl, b4⟩; have B4 := Lib.hid b4; clear b4)
    | (go_at_call 12; (with_reducible refine (HE1.out _ (HW1.out.below B4.out)).mono ?_); rintro e w5 ⟨rfl, b5⟩; have B5 := Lib.hid (B4.out.trans (b5.mono B4.out.size)); clear b5)
    | (go_at_call 22; (with_reducible refine (HD0.out _).mono ?_); rintro e w6 ⟨A6, c6, rfl, i6, b6⟩; have I6 := Lib.hid i6; have B6 := Lib.hid (B5.out.trans (b6.mono B5.out.size)); clear i6 b6)
    | (go_at_call 22; (with_reducible refine (HD1.out _).mono ?_); rintro e w7 ⟨A7, c7, rfl, i7, b7⟩; have I7 := Lib.hid i7; have J7 := Lib.hid (I6.out.below b7); have B7 := Lib.hid (B6.out.trans (b7.mono B6.out.size)); clear i7 b7)
    | (go_at_call 26; (with_reducible refine (HS.out _ _ _ _ _ _ z0 _ J7.out (HW0.out.below B7.out) (by have := HLn.out; omega) (by have := HLn.out; omega)).mono ?_); rintro e w8 ⟨rfl, b8⟩; have I8 := Lib.hid (I7.out.below b8); have B8 := Lib.hid (B7.out.trans (b8.mono B7.out.size)); clear b8)
    | (at_builtin; refine wpList_mdsA (by rfl) _ _ rfl w8.heap.size _ [] z0 rfl (Owm.lit0 w8) a0 len0 cap0 rfl (HW0.out.below (B8.out.alloc B8.out.size _)) (by have := HLn.out; simp only [List.length_nil]; omega) (by simp) z0 len0 rfl HL0.out HG0.out ?_; intro A9 c9 w9 o9 i9 b9; have O9 := Lib.hid o9; have C9 := Lib.hid (((Below.refl w8.heap.size w8).alloc (Nat.le_refl _) _).trans b9); have B9 := Lib.hid (B8.out.trans (C9.out.mono B8.out.size)); clear o9 i9 b9)
    | (at_builtin; refine wpList_mdsA (by rfl) _ _ rfl w8.heap.size _ z0 z1 rfl O9.out a1 len1 cap1 rfl (HW1.out.below B9.out) (by have := HLn.out; omega) C9.out.size Z m7 HZZ.out HM7.out H01.out ?_; intro A10 c10 w10 o10 i10 b10; have I10 := Lib.hid i10; have C10 := Lib.hid (C9.out.trans b10); have J10 := Lib.hid (I8.out.below C10.out); have B10 := Lib.hid (B8.out.trans (C10.out.mono B8.out.size)); clear o10 i10 b10)
    | (go_at_call 26; (with_reducible refine (HS.out _ _ _ _ _ _ Z _ J10.out I10.out (by omega) (by omega)).mono ?_); rintro e w11 ⟨rfl, b11⟩; have B11 := Lib.hid (B10.out.trans (b11.mono B10.out.size)); clear b11)
    | (go_at_call 26; (with_reducible refine (HS2.out _ (HW0.out.below B11.out) (HW1.out.below B11.out)).mono ?_); rintro e w12 ⟨rfl, b12⟩; have B12 := Lib.hid (B11.out.trans (b12.mono B11.out.size)); clear b12)
    | (go_at_call 20; (with_reducible refine (HZ.out _ (HW0.out.below B12.out)).mono ?_); rintro e w13 ⟨rfl, b13⟩; have B13 := Lib.hid (B12.out.trans (b13.mono B12.out.size)); clear b13)
    | (go_at_call 22; (with_reducible refine (HDK.out _).mono ?_); rintro e w14 ⟨A14, c14, rfl, i14, b14⟩; have B14 := Lib.hid (B13.out.trans (b14.mono B13.out.size)); clear i14 b14))
  clear e1 e2 e3 e4 e4' e5 e6 e6' zk1 zk2 kle hab hAK
  go_loopw [21, 22, 23] (fun e u i wr => ∃ j : Nat, j ≤ len0 ∧ i = .int .i64 j ∧ u = .int .i64 (szs (z0.take j) : Nat) ∧ e = .bool (en z0 k j) ∧ Below W.heap.size W wr) (fun _ _ i _ => len0 - (intOf i).toNat)
  case atStart => exact ⟨0, Nat.zero_le _, rfl, rfl, by rw [HZB.out], B14.out⟩
  case round =>
    obtain ⟨j, hj, rfl, rfl, rfl, hb⟩ := hrel
    have HBr := Lib.hid hb
    by_cases hlt : j < len0
    · obtain ⟨b, o, rfl, hbl, hc⟩ := (HW0.out.below hb).at (by omega)
      obtain ⟨c0, c1⟩ := hc j hlt
      have hg := szs_snoc (L := z0) (k := j) (by rw [HL0.out]; exact hlt)
      have ht := szs_take z0 (j + 1)
      have hgo := good_at HW0.out hlt
      have h40 := HLn.out.2.2.2.2
      obtain ⟨m, hm'⟩ : ∃ m, z0.getD j default = m := ⟨_, rfl⟩
      rw [hm'] at c0 c1 hg hgo
      obtain ⟨p, s⟩ := m
      simp only at c0 c1 hg
      obtain ⟨u, hu⟩ : ∃ u, szs (z0.take j) = u := ⟨_, rfl⟩
      obtain ⟨v, hv⟩ : ∃ u, szs (z0.take (j + 1)) = u := ⟨_, rfl⟩
      rw [hu, hv] at hg
      rw [hv] at ht
      rw [hu]
      obtain ⟨d, hd⟩ : ∃ d, 4 + s.size = d := ⟨_, rfl⟩
      have hS1 := fun w : World => size_any (some ⟨w.heap.size, 0, none⟩) 1 1 [⟨p, s⟩] _ (IsMds.lit1 w p s hgo) (by simp only [szs]; omega)
      simp only [szs, Nat.add_zero, hd] at hS1
      have HS1 := Lib.hid (show ∀ w : World, Calls Try.prog 20 #[.slice (some ⟨w.heap.size, 0, none⟩) 1 1] (w.alloc (.cells #[.int .i64 p, .string s] 34)) fun e w' => e = .returned (.int .i64 d) ∧ Below (w.alloc (.cells #[.int .i64 p, .string s] 34)).heap.size (w.alloc (.cells #[.int .i64 p, .string s] 34)) w' from hS1)
      have e7 : (u : Int) + (d : Int) = (v : Int) := by omega
      have HVv := Lib.hid hv
      have hvb : v ≤ 40000 := by omega
      have hub : u ≤ 40000 := by omega
      have hdb : d ≤ 40000 := by omega
      have d1 : decide ((j : Int) < (len0 : Int)) = true := decide_eq_true (by omega)
      have d1' : decide (j < len0) = true := decide_eq_true hlt
      have hen : en z0 k (j + 1) = (en z0 k j || v == k) := by rw [← hv]; rfl
      obtain ⟨e0, he0⟩ : ∃ e, en z0 k j = e := ⟨_, rfl⟩
      rw [he0] at hen ⊢
      have t1 : ((v : Int) == (k : Int)) = (v == k) := by
        by_cases q : v = k
        · rw [q]; simp
        · rw [beq_eq_false_iff_ne.2 q, beq_eq_false_iff_ne.2 (show (v : Int) ≠ (k : Int) by omega)]
      obtain ⟨tb, htb⟩ : ∃ b, (v == k) = b := ⟨_, rfl⟩
      rw [htb] at hen t1
      have HEn := Lib.hid hen
      clear hc hm' hb hg hbl ht hgo h40 hu hv hd hS1 hen he0
      cases e0 with
      | true =>
        go_wp2_with (go_at_call 20; (with_reducible refine (HS1.out _).mono ?_); rintro e w15 ⟨rfl, b15⟩; have B15 := Lib.hid ((HBr.out.alloc HBr.out.size _).trans (b15.mono (by have := HBr.out.size; simp; omega))); clear b15)
        go_roundw
        case rel => exact ⟨j + 1, by omega, by go_num, by rw [HVv.out], by rw [HEn.out]; rfl, B15.out⟩
        case measure => simp [intOf]; omega
      | false =>
        go_wp2_with (go_at_call 20; (with_reducible refine (HS1.out _).mono ?_); rintro e w15 ⟨rfl, b15⟩; have B15 := Lib.hid ((HBr.out.alloc HBr.out.size _).trans (b15.mono (by have := HBr.out.size; simp; omega))); clear b15)
        go_roundw
        case rel => exact ⟨j + 1, by omega, by go_num, by rw [HVv.out], by rw [HEn.out]; rfl, B15.out⟩
        case measure => simp [intOf]; omega
    · obtain rfl : j = len0 := by omega
      rw [HEZ.out]
      have d1 : decide ((j : Int) < (j : Int)) = false := decide_eq_false (by omega)
      clear hb
      rcases HCS.out with ⟨rfl, rfl⟩ | ⟨rfl, rfl, h0⟩
      · go_wp2_with (go_at_call 11; (with_reducible refine (HV.out _).mono ?_); rintro e w16 ⟨rfl, b16⟩; have B16 := Lib.hid (HBr.out.trans (b16.mono HBr.out.size)); clear b16)
        go_ret
        exact ⟨rfl, B16.out⟩
      · rw [h0]
        go_wp2_with (go_at_call 11; (with_reducible refine (HV.out _).mono ?_); rintro e w16 ⟨rfl, b16⟩; have B16 := Lib.hid (HBr.out.trans (b16.mono HBr.out.size)); clear b16)
        go_ret
        exact ⟨rfl, B16.out⟩
end Go.Proofs.Ytbbfbijgclpjeaa
