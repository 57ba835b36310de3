import Derived.Test.YtlanibgeafdefaaGreatDoorMSpK
import Derived.Test.YtlanibgeafdefaaGreatDoorMRns
import Derived.Test.YtlanibgeafdefaaGreatDoorMT9TkF
namespace Go.Proofs.YtlanibgeafdefaaGreatDoor.V
open Go Go.RowKit M U
open Go.ChangeShapes Go.WideShapes Go.Deep
set_option linter.unusedVariables false
set_option linter.unusedSimpArgs false
set_option maxRecDepth 1000000
def cra : List Ra → List Value
  | [] => []
  | r :: l => .int .u8 r.l :: .int .u16 r.n :: .int .u16 r.d :: cra l
theorem cra_length : ∀ l, (cra l).length = l.length * 3
  | [] => rfl
  | q :: l => by simp only [cra, List.length_cons, cra_length l]; omega
theorem cra_append : ∀ l r, cra (l ++ r) = cra l ++ cra r
  | [], r => rfl
  | q :: l, r => by simp only [List.cons_append, cra, cra_append l r]
theorem cra_at : ∀ (l : List Ra) (i : Nat) (q : Ra), l[i]? = some q → (cra l)[i * 3]? = some (.int .u8 q.l) ∧ (cra l)[i * 3 + 1]? = some (.int .u16 q.n) ∧ (cra l)[i * 3 + 2]? = some (.int .u16 q.d)
  | [], i, q, h => by simp at h
  | x :: l, 0, q, h => by simp at h; subst h; exact ⟨rfl, rfl, rfl⟩
  | x :: l, i + 1, q, h => by
    simp at h
    have ih := cra_at l i q h
    rw [show (i + 1) * 3 = i * 3 + 1 + 1 + 1 by omega]
    exact ih
theorem cra_one : ∀ (l : List Ra), ∀ u ∈ cra l, u.oneCell' = true
  | [], u, h => by simp [cra] at h
  | q :: l, u, h => by
    simp only [cra, List.mem_cons] at h
    rcases h with rfl | rfl | rfl | h
    · rfl
    · rfl
    · rfl
    · exact cra_one l u h
def Owra (B : Nat) (w : World) (v : Value) (L : List Ra) : Prop := w.ownsRow B 63 3 v L.length (cra L)
theorem Owra.nil (B : Nat) (w : World) : Owra B w (.slice none 0 0) [] := World.ownsRow_nil w B _ 3
theorem Owra.ras {w : World} {B : Nat} {v : Value} {L : List Ra} (h : Owra B w v L) (hok : ∀ c ∈ L, c.ok) (hm : L.length ≤ maxLen) : ∃ A c, v = .slice A L.length c ∧ IsRas w A L.length L := by
  have hc := fun g (hg : v.ownBlock = some g) => h.cells hg
  rcases h.2 with ⟨h0, h1⟩ | ⟨g, cap, cur, rfl, _, hh, _⟩
  · have : L = [] := List.eq_nil_of_length_eq_zero (by simpa using h1)
    exact ⟨none, 0, by rw [h0, this]; rfl, rfl, hm, hok, .inl (by rw [this]; rfl)⟩
  · refine ⟨_, cap, rfl, rfl, hm, hok, .inr ⟨g, 0, rfl, (Array.getElem?_eq_some_iff.1 hh).1, fun i t ht => ?_⟩⟩
    obtain ⟨h1, h2, h3⟩ := cra_at L i t ht
    have k := fun j u hu => hc g rfl j u hu
    simp only [cadd_at] at k
    exact ⟨k _ _ h1, k _ _ h2, k _ _ h3⟩
theorem rawInfo : (Tryz.prog.info? 63).map (fun i => (i.zero, i.size, i.bytes)) = some (some (.agg #[.int .u8 0, .int .u16 0, .int .u16 0]), 3, 6) := by kernel_rfl
theorem run_append_ras {w : World} (ty : TypeId) {B : Nat} {v : Value} {l : List Ra} (h : Owra B w v l) {A : Option Addr} {n c : Nat} {r : List Ra} (hr : IsRas w A n r) (hL : l.length + r.length ≤ 3000000) (hB : B ≤ w.heap.size) :
    ∃ v' w', (Builtin.append_ #[36, 36] ty #[v, .slice A n c]).run Tryz.prog w = .ok v' w' ∧ Owra B w' v' (l ++ r) ∧ Below B w w' := by
  obtain ⟨i, h1, h2, h3, h4⟩ := info_of rawInfo
  by_cases hn : 0 < n
  · obtain ⟨b, q, rfl, hb, hc⟩ := hr.at hn
    have hl := hr.leng
    obtain ⟨v', w', r1, r2, r3, _⟩ := run_append_own (P := Tryz.prog) w B 36 ty 63 i _ 3 6 Tryz.underlying36 h1 h2 h3 h4 rfl (by decide) v l.length (cra l) h ⟨b, q, none⟩ n c (cra r) (by rw [cra_length]; omega)
      (fun j u hu => by
        rw [cadd_at]
        have hj : j < r.length * 3 := by have := (List.getElem?_eq_some_iff.1 hu).1; rw [cra_length] at this; exact this
        obtain ⟨k, hk⟩ : ∃ k, j / 3 = k := ⟨_, rfl⟩
        have hkr : k < r.length := by omega
        have hg : r[k]? = some (r.getD k default) := by rw [List.getD, List.getElem?_eq_getElem hkr]; rfl
        obtain ⟨a1, a2, a3⟩ := cra_at r k _ hg
        obtain ⟨c1, c2, c3⟩ := hc k (by omega)
        have : j = k * 3 ∨ j = k * 3 + 1 ∨ j = k * 3 + 2 := by omega
        rcases this with e | e | e
        · rw [e] at hu ⊢; rw [a1] at hu; rw [c1]; exact hu
        · rw [e] at hu ⊢; rw [a2] at hu; rw [← Nat.add_assoc, c2]; exact hu
        · rw [e] at hu ⊢; rw [a3] at hu; rw [← Nat.add_assoc, c3]; exact hu) (cra_one r) (by unfold maxLen; omega) (by omega) hB
    refine ⟨v', w', r1, ?_, (Below.refl _ w).grown r3 hB (fun k hk => (World.ownsRow.lt h k hk).1)⟩
    unfold Owra
    rw [List.length_append, cra_append, hl]
    exact r2
  · obtain rfl : n = 0 := by omega
    obtain rfl : r = [] := List.eq_nil_of_length_eq_zero hr.leng
    rw [List.append_nil]
    rcases A with _ | a
    · refine ⟨v, w, ?_, h, Below.refl _ _⟩
      rcases h.2 with ⟨rfl, q0⟩ | ⟨g, cap, cur, rfl, hg, hh, hcap, hm, hs, ht⟩
      · simp [Builtin.append_, run_underlying Tryz.underlying36, sizeOf, typeInfo, h1, Builtin.lenOf, Builtin.firstCells]
      · simp [Builtin.append_, run_underlying Tryz.underlying36, sizeOf, typeInfo, h1, Builtin.lenOf, Builtin.firstCells]
        rw [if_pos hcap]
        simp [storeCells]
    · obtain ⟨v', w', r1, r2, r3, _⟩ := run_append_own (P := Tryz.prog) w B 36 ty 63 i _ 3 6 Tryz.underlying36 h1 h2 h3 h4 rfl (by decide) v l.length (cra l) h a 0 c [] rfl (fun j u hu => by simp at hu) (by simp) (by unfold maxLen; omega) (by omega) hB
      rw [List.append_nil] at r2
      exact ⟨v', w', r1, r2, (Below.refl _ w).grown r3 hB (fun k hk => (World.ownsRow.lt h k hk).1)⟩
theorem wpList_ras {ops : Array Oper} {rest : List Oper} {o : Oper} {a : Act} {w : World} {Q : Exit → Act → World → Prop} (hgd : o.guard = none) (s x : Operand)
    (ho : o.op = .call { callee := .builtin .append, args := #[s, x], argTypes := #[36, 36] }) (B : Nat) (v : Value) (l : List Ra) (hs : a.eval s = v) (h : Owra B w v l) (A : Option Addr) (n c : Nat) (r : List Ra)
    (hx : a.eval x = .slice A n c) (hr : IsRas w A n r) (hL : l.length + r.length ≤ 3000000) (hB : B ≤ w.heap.size)
    (hK : ∀ v' w', Owra B w' v' (l ++ r) → Below B w w' → wpList Tryz.prog ops Q rest (a.put o.dst v') w') : wpList Tryz.prog ops Q (o :: rest) a w :=
  wpList_plain hgd fun K hK' => by
    obtain ⟨v', w', r1, r2, r3⟩ := run_append_ras (c := c) o.type h hr hL hB
    unfold Oper.wp execOp
    simp only [ho, resolve, invoke, builtin, Sem.run_bind, Sem.run_pure, Result.andThen_ok, List.map_toArray, List.map_cons, List.map_nil, hs, hx, r1]
    exact hK' _ _ (hK v' w' r2 r3)
theorem run_size (d0 : Nat) : ∀ (l : List Tk) (b : List UInt8), (Tx.run d0 b l).1 = 0 → (Tx.run d0 b l).2.length = b.length + Tx.szs l
  | [], b, _ => by simp [Tx.run, Tx.szs]
  | t :: l, b, h => by
    by_cases hs : (Tx.step d0 b t).1 = 0
    · rw [Tx.run_go hs] at h ⊢
      rw [run_size d0 l _ h, (Tx.step_len hs).1, Tx.szs]
      omega
    · rw [Tx.run_no hs] at h
      exact absurd h hs
theorem txt_size {l : List Tk} (h : (Tx.txt [] l).2 = 0) : (Tx.txt [] l).1.length = Tx.szs l := by
  have h1 : (Tx.run 0 [] l).1 = 0 := by rw [← h]; exact (Tx.txt_snd [] l).symm
  have h2 := run_size 0 l [] h1
  rw [Tx.txt_ok (D := []) (l := l) h1]
  simpa using h2
def MadeP (w : World) (e : Ending) (w' : World) : Prop := ∃ A n c L s, e = .returned (.tuple #[.slice A n c, .string s]) ∧ IsTks w' A n L ∧ n ≤ c ∧ n ≤ 4300 ∧ (∀ t ∈ L, may t = true) ∧ Tx.szs L = s.size ∧ Below w.heap.size w w'
theorem Owt.cap {B : Nat} {w : World} {v : Value} {L : List Tk} (h : Owt B w v L) : ∃ A c, v = .slice A L.length c ∧ L.length ≤ c := by
  rcases h.2 with ⟨h0, h1⟩ | ⟨g, cap, cur, rfl, hg, hh, hcap, hm, hs, ht⟩
  · have : L = [] := List.eq_nil_of_length_eq_zero (by simpa using h1)
    exact ⟨none, 0, by rw [h0, this]; rfl, by rw [this]; exact Nat.le_refl _⟩
  · exact ⟨_, cap, rfl, hcap⟩
set_option maxHeartbeats 4000000 in
theorem made14_any (A : Option Addr) (n c tm : Nat) (L : List Ra) (w : World) (h : IsRas w A n L) (hn : n ≤ 300) (htm : tm ≤ 65535) :
    Calls Tryz.prog 12 #[.slice A n c, .int .u16 tm] w (MadeP w) := by
  have HH := Lib.hid h
  have HL := Lib.hid h.leng
  obtain ⟨T, hT⟩ : ∃ T, 1 + tm % 60 = T := ⟨_, rfl⟩
  have eT : (1 : Int) + (tm : Int) % 60 = (T : Int) := by omega
  have hT60 : T ≤ 60 := by omega
  clear h hT
  unfold MadeP
  go_enter Tryz.func12, Tryz.ntmps12
  go_wp2_with fail
  go_loopw [6, 7] (fun v x wr => ∃ (i : Nat) (Z : List Ra), i ≤ T ∧ x = .int .i64 i ∧ Owra w.heap.size wr v Z ∧ (∀ r ∈ Z, r ∈ L) ∧ Z.length ≤ 4299 ∧ Below w.heap.size w wr) (fun _ x _ => T - (intOf x).toNat)
  case atStart => exact ⟨0, [], Nat.zero_le _, rfl, Owra.nil _ _, fun r hr => absurd hr (by simp), by simp, Below.refl _ _⟩
  case round =>
    obtain ⟨i, Z, hi, rfl, hO, hZ, hZl, hb⟩ := hrel
    obtain ⟨w3, rfl⟩ : ∃ w3, w3 = wr := ⟨_, rfl⟩
    have hok : ∀ r ∈ Z, r.ok := fun r hr => HH.out.good r (hZ r hr)
    obtain ⟨A1, c1, rfl, hR⟩ := hO.ras hok (by unfold maxLen; omega)
    obtain ⟨N, hN⟩ : ∃ N, Z.length = N := ⟨_, rfl⟩
    rw [hN] at hR hZl hO
    rw [hN]
    have HO := Lib.hid hO
    have HB := Lib.hid hb
    have HR := Lib.hid hR
    have HOk := Lib.hid hok
    have HZ := Lib.hid hZ
    have HN := Lib.hid hN
    by_cases hgo : i < T ∧ N < 4000
    · have d1 : decide ((i : Int) < (T : Int)) = true := decide_eq_true (by omega)
      have d1' : decide (i < T) = true := decide_eq_true hgo.1
      have d2 : decide ((N : Int) < 4000) = true := decide_eq_true (by omega)
      have d2' : decide (N < 4000) = true := decide_eq_true hgo.2
      have HG := Lib.hid hgo
      have hnl := HL.out
      have HNl := Lib.hid (show N + L.length ≤ 4299 by omega)
      clear hO hZ hok hR hb hN hgo hnl
      go_wp2_with (at_builtin; refine wpList_ras rfl _ _ rfl w.heap.size _ Z rfl HO.out A n c L rfl (HH.out.below HB.out) (by rw [HN.out]; have := HNl.out; omega) HB.out.size ?_; intro v2 w2 o2 b2; have O2 := Lib.hid o2; have B2 := Lib.hid b2; clear o2 b2)
      go_roundw
      case rel => exact ⟨i + 1, Z ++ L, by have := HG.out; omega, by go_num, O2.out, fun r hr => by
        rcases List.mem_append.1 hr with q | q
        · exact HZ.out r q
        · exact q, by rw [List.length_append, HN.out]; exact HNl.out, HB.out.trans B2.out⟩
      case measure => (have := HG.out; simp [intOf]; try omega)
    · obtain ⟨u, hu⟩ : ∃ u, (decide ((i : Int) < (T : Int)) && decide ((N : Int) < 4000)) = u := ⟨_, rfl⟩
      have HTx := Lib.hid (fun (A' : Option Addr) (m c' : Nat) (K : List Tk) (w' : World) (hk : IsTks w' A' m K) (hm : m ≤ 1000000) => Tx.rtext_any ⟨#[]⟩ A' m c' K w' hk hm (by decide))
      by_cases hi2 : i < T
      · have d1 : decide ((i : Int) < (T : Int)) = true := decide_eq_true (by omega)
        have d1' : decide (i < T) = true := decide_eq_true hi2
        have d2 : decide ((N : Int) < 4000) = false := decide_eq_false (by omega)
        have d2' : decide (N < 4000) = false := decide_eq_false (by omega)
        clear hO hZ hok hR hb hN hgo hu hi2
        go_wp2_with fail
        go_loopw [8, 9, 10] (fun v y x wr => ∃ k : Nat, k ≤ N ∧ x = .int .i64 k ∧ y = .int .i64 (mda (Z.take k) 0) ∧ Owt w3.heap.size wr v (mdk (Z.take k) 0) ∧ Below w3.heap.size w3 wr) (fun _ _ x _ => N - (intOf x).toNat)
        case atStart => exact ⟨0, Nat.zero_le _, rfl, by simp [mda], Owt.nil _ _, Below.refl _ _⟩
        case round =>
          obtain ⟨k, hk, rfl, rfl, hO, hb⟩ := hrel
          have HO2 := Lib.hid hO
          have HB2 := Lib.hid hb
          have HBr := Lib.hid (show IsRas wr A1 N Z from HR.out.below HB2.out)
          by_cases hlt : k < N
          · have d3 : decide ((k : Int) < (N : Int)) = true := decide_eq_true (by omega)
            have d3' : decide (k < N) = true := decide_eq_true hlt
            obtain ⟨b, o, rfl, hbl, hc⟩ := HBr.out.at (by omega)
            obtain ⟨c0, c1', c2⟩ := hc k hlt
            have hkL : k < Z.length := by rw [HN.out]; exact hlt
            have hmem : Z.getD k default ∈ Z := by rw [List.getD, List.getElem?_eq_getElem hkL]; exact List.getElem_mem _
            have hok := HOk.out _ hmem
            have hts := ra_take_succ Z k hkL
            have hgt : ∀ r ∈ Z.take k, r.ok := fun r hr => HOk.out r (List.mem_of_mem_take hr)
            obtain ⟨a1, a2⟩ := mda_le (Z.take k) 0 hgt (by omega)
            have a3 : ((Z.take k).length : Int) ≤ 4299 := by rw [List.length_take]; omega
            obtain ⟨r, hr⟩ : ∃ r, Z.getD k default = r := ⟨_, rfl⟩
            rw [hr] at c0 c1' c2 hok hts
            have hms : mda (Z.take (k + 1)) 0 = nxt r (mda (Z.take k) 0) := by rw [hts, mda_snoc]
            have hks : mdk (Z.take (k + 1)) 0 = mdk (Z.take k) 0 ++ [tkn r (mda (Z.take k) 0)] := by rw [hts, mdk_snoc]
            have hln : (mdk (Z.take k) 0).length ≤ 4299 := by rw [mdk_length]; omega
            obtain ⟨a, ha⟩ : ∃ a, mda (Z.take k) 0 = a := ⟨_, rfl⟩
            rw [ha] at a1 a2 hms hks ⊢
            have a4 : 0 ≤ a := by omega
            have a5 : a ≤ 1200000 := by omega
            obtain ⟨_, tok, t0, t258⟩ := tkn_may hok a4
            have HT := Lib.hid (fun w => rawtoken_any r a w hok a4 (by omega))
            obtain ⟨t, ht⟩ : ∃ t, tkn r a = t := ⟨_, rfl⟩
            have hnx : nxt r a = a + max t.n 1 := by unfold nxt; rw [ht]
            rw [ht] at HT hks tok t0 t258
            rw [hnx] at hms
            obtain ⟨tl, tn, td⟩ := t
            obtain ⟨rl, rn, rd⟩ := r
            simp only at c0 c1' c2 HT t0 t258 hms
            have HMS := Lib.hid hms
            have HKS := Lib.hid hks
            have HLN := Lib.hid hln
            clear hms hks hln hnx ht ha hr hts hgt hmem hok hkL hc hO hb tok a1 a2 a3
            by_cases h1 : 1 < tn
            · have e1 : max tn 1 = tn := by omega
              have d5 : decide ((1 : Int) < tn) = true := decide_eq_true h1
              have d6 : decide (tn < (1 : Int)) = false := decide_eq_false (by omega)
              go_wp2_with (first
                | (go_at_call 23; (with_reducible refine (HT.out _).mono ?_); rintro e w2 ⟨rfl, b2⟩; have O2 := Lib.hid (HO2.out.below b2); have B2 := Lib.hid (HB2.out.trans (b2.mono HB2.out.size)); clear b2)
                | (at_builtin; refine wpList_tk rfl (.tmp 47) (.tmp 49) rfl w3.heap.size _ _ rfl ((O2.out.alloc _).alloc _) (w2.heap.size + 1) 1 tl tn td rfl ⟨by simp, by simp, by simp⟩ (by have := HLN.out; omega) (by have := B2.out.size; simp; omega) ?_; intro v4 w4 o4 b4; have O4 := Lib.hid o4; have B4 := Lib.hid (((B2.out.alloc B2.out.size _).alloc (by have := B2.out.size; simp; omega) _).trans b4); clear o4 b4))
              go_roundw
              case rel => exact ⟨k + 1, by omega, by go_num, by rw [HMS.out, e1], by rw [HKS.out]; exact O4.out, B4.out⟩
              case measure => (simp [intOf]; try omega)
            · have e1 : max tn 1 = 1 := by omega
              have e5 : (if tn < 1 then (1 : Int) else tn) = 1 := by split <;> omega
              have HE5 := Lib.hid e5
              clear e5
              go_wp2_with (first
                | (go_at_call 23; (with_reducible refine (HT.out _).mono ?_); rintro e w2 ⟨rfl, b2⟩; have O2 := Lib.hid (HO2.out.below b2); have B2 := Lib.hid (HB2.out.trans (b2.mono HB2.out.size)); clear b2)
                | (at_builtin; refine wpList_tk rfl (.tmp 47) (.tmp 49) rfl w3.heap.size _ _ rfl ((O2.out.alloc _).alloc _) (w2.heap.size + 1) 1 tl tn td rfl ⟨by simp, by simp, by simp⟩ (by have := HLN.out; omega) (by have := B2.out.size; simp; omega) ?_; intro v4 w4 o4 b4; have O4 := Lib.hid o4; have B4 := Lib.hid (((B2.out.alloc B2.out.size _).alloc (by have := B2.out.size; simp; omega) _).trans b4); clear o4 b4))
              go_roundw
              case rel => exact ⟨k + 1, by omega, by go_num, by rw [HMS.out, e1], by rw [HKS.out]; exact O4.out, B4.out⟩
              case measure => (simp [intOf]; try omega)
          · obtain rfl : k = N := by omega
            have d3 : decide ((k : Int) < (k : Int)) = false := decide_eq_false (by omega)
            have d3' : decide (k < k) = false := decide_eq_false (by omega)
            have he : Z.take k = Z := List.take_of_length_le (by rw [HN.out]; exact Nat.le_refl _)
            rw [he] at hO ⊢
            obtain ⟨A2, c2, rfl, hcap⟩ := hO.cap
            have hml : (mdk Z 0).length = k := by rw [mdk_length]; exact HN.out
            rw [hml] at hO hcap ⊢
            have hO' : wr.ownsRow w3.heap.size 48 3 (.slice A2 k c2) k (clt (mdk Z 0)) := by unfold Owt at hO; rw [hml] at hO; exact hO
            have hmy := mdk_may Z 0 HOk.out (by omega)
            obtain ⟨A3, c3, hv, hK⟩ := IsTks.of_own hO' (fun c hc => (hmy c hc).2) (by unfold maxLen; omega)
            simp only [Value.slice.injEq] at hv
            obtain ⟨rfl, _, rfl⟩ := hv
            have HK := Lib.hid hK
            have HMy := Lib.hid (fun t ht => (hmy t ht).1)
            have HCap := Lib.hid hcap
            have hX := HTx.out A2 k c2 _ wr hK (by omega)
            have hsz := txt_size (l := mdk Z 0)
            obtain ⟨K, hKe⟩ : ∃ K, mdk Z 0 = K := ⟨_, rfl⟩
            rw [hKe] at HK HMy hX hsz
            have hX2 : Calls Tryz.prog 7 #[.string ⟨#[]⟩, .slice A2 k c2] wr fun e w' => e = .returned (.tuple #[.string ⟨(Tx.txt [] K).1.toArray⟩, .int .i64 (Tx.txt [] K).2]) ∧ Below wr.heap.size wr w' := hX
            obtain ⟨S, hS⟩ : ∃ S : ByteArray, ⟨(Tx.txt [] K).1.toArray⟩ = S := ⟨_, rfl⟩
            have hSs : S.size = (Tx.txt [] K).1.length := by rw [← hS]; rfl
            rw [← hSs] at hsz
            rw [hS] at hX2
            obtain ⟨E, hE⟩ : ∃ E, (Tx.txt [] K).2 = E := ⟨_, rfl⟩
            rw [hE] at hX2 hsz
            have HX2 := Lib.hid hX2
            clear hX hX2 hS hSs hE hKe hK hO hO' hml hmy hb
            by_cases hE0 : E = 0
            · subst hE0
              have HSz := Lib.hid (hsz rfl)
              clear hsz
              go_wp2_with (go_at_call 7; (with_reducible refine HX2.out.mono ?_); rintro e w5 ⟨rfl, b5⟩; have B5 := Lib.hid (HB.out.trans ((HB2.out.trans (b5.mono HB2.out.size)).mono HB.out.size)); have K5 := Lib.hid (HK.out.below b5); clear b5)
              go_ret2
              exact ⟨_, _, _, K, S, rfl, K5.out, HCap.out, by omega, HMy.out, HSz.out.symm, B5.out⟩
            · have dE : (E != 0) = true := by rw [bne_iff_ne]; exact hE0
              clear hsz hE0
              go_wp2_with (go_at_call 7; (with_reducible refine HX2.out.mono ?_); rintro e w5 ⟨rfl, b5⟩; have B5 := Lib.hid (HB.out.trans ((HB2.out.trans (b5.mono HB2.out.size)).mono HB.out.size)); clear b5)
              go_ret2
              exact ⟨none, 0, 0, [], ⟨#[]⟩, rfl, ⟨rfl, Nat.zero_le _, fun c hc => absurd hc (by simp), .inl rfl⟩, Nat.le_refl _, by omega, fun t ht => absurd ht (by simp), rfl, B5.out⟩
      · have d1 : decide ((i : Int) < (T : Int)) = false := decide_eq_false (by omega)
        have d1' : decide (i < T) = false := decide_eq_false hi2
        clear hO hZ hok hR hb hN hgo hu hi2
        go_wp2_with fail
        go_loopw [8, 9, 10] (fun v y x wr => ∃ k : Nat, k ≤ N ∧ x = .int .i64 k ∧ y = .int .i64 (mda (Z.take k) 0) ∧ Owt w3.heap.size wr v (mdk (Z.take k) 0) ∧ Below w3.heap.size w3 wr) (fun _ _ x _ => N - (intOf x).toNat)
        case atStart => exact ⟨0, Nat.zero_le _, rfl, by simp [mda], Owt.nil _ _, Below.refl _ _⟩
        case round =>
          obtain ⟨k, hk, rfl, rfl, hO, hb⟩ := hrel
          have HO2 := Lib.hid hO
          have HB2 := Lib.hid hb
          have HBr := Lib.hid (show IsRas wr A1 N Z from HR.out.below HB2.out)
          by_cases hlt : k < N
          · have d3 : decide ((k : Int) < (N : Int)) = true := decide_eq_true (by omega)
            have d3' : decide (k < N) = true := decide_eq_true hlt
            obtain ⟨b, o, rfl, hbl, hc⟩ := HBr.out.at (by omega)
            obtain ⟨c0, c1', c2⟩ := hc k hlt
            have hkL : k < Z.length := by rw [HN.out]; exact hlt
            have hmem : Z.getD k default ∈ Z := by rw [List.getD, List.getElem?_eq_getElem hkL]; exact List.getElem_mem _
            have hok := HOk.out _ hmem
            have hts := ra_take_succ Z k hkL
            have hgt : ∀ r ∈ Z.take k, r.ok := fun r hr => HOk.out r (List.mem_of_mem_take hr)
            obtain ⟨a1, a2⟩ := mda_le (Z.take k) 0 hgt (by omega)
            have a3 : ((Z.take k).length : Int) ≤ 4299 := by rw [List.length_take]; omega
            obtain ⟨r, hr⟩ : ∃ r, Z.getD k default = r := ⟨_, rfl⟩
            rw [hr] at c0 c1' c2 hok hts
            have hms : mda (Z.take (k + 1)) 0 = nxt r (mda (Z.take k) 0) := by rw [hts, mda_snoc]
            have hks : mdk (Z.take (k + 1)) 0 = mdk (Z.take k) 0 ++ [tkn r (mda (Z.take k) 0)] := by rw [hts, mdk_snoc]
            have hln : (mdk (Z.take k) 0).length ≤ 4299 := by rw [mdk_length]; omega
            obtain ⟨a, ha⟩ : ∃ a, mda (Z.take k) 0 = a := ⟨_, rfl⟩
            rw [ha] at a1 a2 hms hks ⊢
            have a4 : 0 ≤ a := by omega
            have a5 : a ≤ 1200000 := by omega
            obtain ⟨_, tok, t0, t258⟩ := tkn_may hok a4
            have HT := Lib.hid (fun w => rawtoken_any r a w hok a4 (by omega))
            obtain ⟨t, ht⟩ : ∃ t, tkn r a = t := ⟨_, rfl⟩
            have hnx : nxt r a = a + max t.n 1 := by unfold nxt; rw [ht]
            rw [ht] at HT hks tok t0 t258
            rw [hnx] at hms
            obtain ⟨tl, tn, td⟩ := t
            obtain ⟨rl, rn, rd⟩ := r
            simp only at c0 c1' c2 HT t0 t258 hms
            have HMS := Lib.hid hms
            have HKS := Lib.hid hks
            have HLN := Lib.hid hln
            clear hms hks hln hnx ht ha hr hts hgt hmem hok hkL hc hO hb tok a1 a2 a3
            by_cases h1 : 1 < tn
            · have e1 : max tn 1 = tn := by omega
              have d5 : decide ((1 : Int) < tn) = true := decide_eq_true h1
              have d6 : decide (tn < (1 : Int)) = false := decide_eq_false (by omega)
              go_wp2_with (first
                | (go_at_call 23; (with_reducible refine (HT.out _).mono ?_); rintro e w2 ⟨rfl, b2⟩; have O2 := Lib.hid (HO2.out.below b2); have B2 := Lib.hid (HB2.out.trans (b2.mono HB2.out.size)); clear b2)
                | (at_builtin; refine wpList_tk rfl (.tmp 47) (.tmp 49) rfl w3.heap.size _ _ rfl ((O2.out.alloc _).alloc _) (w2.heap.size + 1) 1 tl tn td rfl ⟨by simp, by simp, by simp⟩ (by have := HLN.out; omega) (by have := B2.out.size; simp; omega) ?_; intro v4 w4 o4 b4; have O4 := Lib.hid o4; have B4 := Lib.hid (((B2.out.alloc B2.out.size _).alloc (by have := B2.out.size; simp; omega) _).trans b4); clear o4 b4))
              go_roundw
              case rel => exact ⟨k + 1, by omega, by go_num, by rw [HMS.out, e1], by rw [HKS.out]; exact O4.out, B4.out⟩
              case measure => (simp [intOf]; try omega)
            · have e1 : max tn 1 = 1 := by omega
              have e5 : (if tn < 1 then (1 : Int) else tn) = 1 := by split <;> omega
              have HE5 := Lib.hid e5
              clear e5
              go_wp2_with (first
                | (go_at_call 23; (with_reducible refine (HT.out _).mono ?_); rintro e w2 ⟨rfl, b2⟩; have O2 := Lib.hid (HO2.out.below b2); have B2 := Lib.hid (HB2.out.trans (b2.mono HB2.out.size)); clear b2)
                | (at_builtin; refine wpList_tk rfl (.tmp 47) (.tmp 49) rfl w3.heap.size _ _ rfl ((O2.out.alloc _).alloc _) (w2.heap.size + 1) 1 tl tn td rfl ⟨by simp, by simp, by simp⟩ (by have := HLN.out; omega) (by have := B2.out.size; simp; omega) ?_; intro v4 w4 o4 b4; have O4 := Lib.hid o4; have B4 := Lib.hid (((B2.out.alloc B2.out.size _).alloc (by have := B2.out.size; simp; omega) _).trans b4); clear o4 b4))
              go_roundw
              case rel => exact ⟨k + 1, by omega, by go_num, by rw [HMS.out, e1], by rw [HKS.out]; exact O4.out, B4.out⟩
              case measure => (simp [intOf]; try omega)
          · obtain rfl : k = N := by omega
            have d3 : decide ((k : Int) < (k : Int)) = false := decide_eq_false (by omega)
            have d3' : decide (k < k) = false := decide_eq_false (by omega)
            have he : Z.take k = Z := List.take_of_length_le (by rw [HN.out]; exact Nat.le_refl _)
            rw [he] at hO ⊢
            obtain ⟨A2, c2, rfl, hcap⟩ := hO.cap
            have hml : (mdk Z 0).length = k := by rw [mdk_length]; exact HN.out
            rw [hml] at hO hcap ⊢
            have hO' : wr.ownsRow w3.heap.size 48 3 (.slice A2 k c2) k (clt (mdk Z 0)) := by unfold Owt at hO; rw [hml] at hO; exact hO
            have hmy := mdk_may Z 0 HOk.out (by omega)
            obtain ⟨A3, c3, hv, hK⟩ := IsTks.of_own hO' (fun c hc => (hmy c hc).2) (by unfold maxLen; omega)
            simp only [Value.slice.injEq] at hv
            obtain ⟨rfl, _, rfl⟩ := hv
            have HK := Lib.hid hK
            have HMy := Lib.hid (fun t ht => (hmy t ht).1)
            have HCap := Lib.hid hcap
            have hX := HTx.out A2 k c2 _ wr hK (by omega)
            have hsz := txt_size (l := mdk Z 0)
            obtain ⟨K, hKe⟩ : ∃ K, mdk Z 0 = K := ⟨_, rfl⟩
            rw [hKe] at HK HMy hX hsz
            have hX2 : Calls Tryz.prog 7 #[.string ⟨#[]⟩, .slice A2 k c2] wr fun e w' => e = .returned (.tuple #[.string ⟨(Tx.txt [] K).1.toArray⟩, .int .i64 (Tx.txt [] K).2]) ∧ Below wr.heap.size wr w' := hX
            obtain ⟨S, hS⟩ : ∃ S : ByteArray, ⟨(Tx.txt [] K).1.toArray⟩ = S := ⟨_, rfl⟩
            have hSs : S.size = (Tx.txt [] K).1.length := by rw [← hS]; rfl
            rw [← hSs] at hsz
            rw [hS] at hX2
            obtain ⟨E, hE⟩ : ∃ E, (Tx.txt [] K).2 = E := ⟨_, rfl⟩
            rw [hE] at hX2 hsz
            have HX2 := Lib.hid hX2
            clear hX hX2 hS hSs hE hKe hK hO hO' hml hmy hb
            by_cases hE0 : E = 0
            · subst hE0
              have HSz := Lib.hid (hsz rfl)
              clear hsz
              go_wp2_with (go_at_call 7; (with_reducible refine HX2.out.mono ?_); rintro e w5 ⟨rfl, b5⟩; have B5 := Lib.hid (HB.out.trans ((HB2.out.trans (b5.mono HB2.out.size)).mono HB.out.size)); have K5 := Lib.hid (HK.out.below b5); clear b5)
              go_ret2
              exact ⟨_, _, _, K, S, rfl, K5.out, HCap.out, by omega, HMy.out, HSz.out.symm, B5.out⟩
            · have dE : (E != 0) = true := by rw [bne_iff_ne]; exact hE0
              clear hsz hE0
              go_wp2_with (go_at_call 7; (with_reducible refine HX2.out.mono ?_); rintro e w5 ⟨rfl, b5⟩; have B5 := Lib.hid (HB.out.trans ((HB2.out.trans (b5.mono HB2.out.size)).mono HB.out.size)); clear b5)
              go_ret2
              exact ⟨none, 0, 0, [], ⟨#[]⟩, rfl, ⟨rfl, Nat.zero_le _, fun c hc => absurd hc (by simp), .inl rfl⟩, Nat.le_refl _, by omega, fun t ht => absurd ht (by simp), rfl, B5.out⟩
end Go.Proofs.YtlanibgeafdefaaGreatDoor.V
