/- RunsBack returns true, over what the program's functions answer. Conditions: as each theorem names them. -/
import Derived.Test.YtogbohompffcbaaDoorLwA
import Derived.Deep.CutRange
namespace Go.Proofs.YtogbohompffcbaaDoor.U
open Go Go.RowKit M
set_option linter.unusedVariables false
set_option linter.unusedSimpArgs false

/-- lengths below 16 -/
def m16 (l : List Nat) : List Nat := l.map (· % 16)
theorem m16_length (l : List Nat) : (m16 l).length = l.length := by unfold m16; simp
theorem m16_le (l : List Nat) : ∀ v ∈ m16 l, v ≤ 15 := fun v hv => by
  obtain ⟨x, _, rfl⟩ := List.mem_map.1 hv
  show x % 16 ≤ 15
  omega
theorem m16_succ (l : List Nat) (k : Nat) (hk : k < l.length) : m16 (l.take (k + 1)) = m16 (l.take k) ++ [l.getD k 0 % 16] := by
  unfold m16
  rw [List.take_add_one, List.getElem?_eq_getElem hk, List.map_append, List.getD, List.getElem?_eq_getElem hk]
  simp
theorem getD_le {l : List Nat} (h : ∀ v ∈ l, v ≤ 15) (i : Nat) : l.getD i 0 ≤ 15 := by
  by_cases hi : i < l.length
  · rw [List.getD, List.getElem?_eq_getElem hi]; exact h _ (List.getElem_mem _)
  · rw [List.getD, List.getElem?_eq_none (by omega)]; exact Nat.zero_le _

set_option maxRecDepth 1000000 in
set_option maxHeartbeats 4000000 in
theorem back_gen {T : World → Prop} (C : Cts T) (A : Option Addr) (n c : Nat) (l : List Nat) (at_ : Nat) (W : World) (H : T W) (hl : IsBys W A n l) (hn : n ≤ 2000) (hat : at_ ≤ 65535) :
    Calls Tryd.prog 4 #[.slice A n c, .int .u16 at_] W fun e w' => e = .returned (.bool true) ∧ Below W.heap.size W w' := by
  have hlen := hl.leng
  have HV := Lib.hid (heavy_any A none n c 0 0 W (by unfold maxLen; omega) (by unfold maxLen; omega))
  rw [decide_eq_false (fun g => g.elim (fun g => by omega) (fun g => by omega))] at HV
  have HW := Lib.hid (fun w (hb : Below W.heap.size W w) => works_any C w (C.keep H hb))
  have HP := Lib.hid (fun (A : Option Addr) (n c : Nat) (l : List Nat) w (hb : Below W.heap.size W w) (h : IsBys w A n l) (hc : n ≤ c) (hn : n ≤ 2000) (hv : ∀ v ∈ l, v ≤ 15) => C.pack A n c l w (C.keep H hb) h hc hn (fun i _ => getD_le hv i))
  have HU := Lib.hid (fun (A : Option Addr) (m c : Nat) (L : List Rn) (n : Nat) w (hb : Below W.heap.size W w) (h : IsRns w A m L) (hm : m ≤ 4000) (hn : n ≤ 2000) => C.unpack A m c L n w (C.keep H hb) h hm (by omega))
  have HL := Lib.hid hl
  have HLEN := Lib.hid hlen
  clear C H hl
  go_enter Tryd.func4, Tryd.ntmps4
  go_wp2_with (go_at_call 6; (with_reducible refine HV.out.mono ?_); rintro e w0 ⟨rfl, rfl⟩)
  go_loopw [5, 6] (fun v y wr => ∃ k : Nat, k ≤ n ∧ y = .int .i64 k ∧ Owb W.heap.size wr v (m16 (l.take k)) ∧ (k = 0 → v = .slice none 0 0) ∧ Below W.heap.size W wr) (fun _ y _ => n - (intOf y).toNat)
  case atStart => exact ⟨0, Nat.zero_le _, rfl, Owb.nil _ _, fun _ => rfl, Below.refl _ _⟩
  case round =>
    obtain ⟨k, hk, rfl, hO, hnil, hb⟩ := hrel
    have HO := Lib.hid hO
    have HB := Lib.hid hb
    have HNIL := Lib.hid hnil
    clear hO hnil
    by_cases hlt : k < n
    · have d1 : decide ((k : Int) < (n : Int)) = true := decide_eq_true (by omega)
      have d1' : decide (k < n) = true := decide_eq_true hlt
      obtain ⟨b, o, rfl, hbl, hc⟩ := HL.out.at (by omega)
      have g0 := hc k hlt
      have f0 := (hb.cell (p := ⟨b, o + k, none⟩) hbl).trans g0
      have hms := m16_succ l k (by omega)
      have hml : (m16 (l.take k)).length ≤ 2000 := by rw [m16_length, List.length_take]; omega
      have hle := HL.out.le k
      obtain ⟨x, hx⟩ : ∃ x, l.getD k 0 = x := ⟨_, rfl⟩
      rw [hx] at f0 hms hle
      have HMS := Lib.hid hms
      have hx16 : (x : Int) % 16 = ((x % 16 : Nat) : Int) := by omega
      obtain ⟨z, hz⟩ : ∃ z, x % 16 = z := ⟨_, rfl⟩
      rw [hz] at hx16
      have HZ := Lib.hid hz
      have hz2 : z ≤ 15 := by omega
      clear hb hc hx hms g0 hz hbl
      go_wp2_with (at_builtin; refine wpList_ab rfl (.tmp 27) (.tmp 33) rfl W.heap.size _ _ rfl (HO.out.alloc _) wr.heap.size 1 z rfl (by simp) (by omega) (by have := HB.out.size; simp; omega) ?_; intro v4 w4 o4 g4 b4; have O4 := Lib.hid o4; have B4 := Lib.hid ((HB.out.alloc HB.out.size _).trans b4); clear o4 g4 b4)
      exact ⟨⟨k + 1, by omega, by go_num, by rw [HMS.out, HZ.out]; exact O4.out, fun q => by omega, B4.out⟩, by simp [intOf]; omega⟩
    · obtain rfl : k = n := by omega
      have d1 : decide ((k : Int) < (k : Int)) = false := decide_eq_false (by omega)
      have d1' : decide (k < k) = false := decide_eq_false (by omega)
      have he : l.take k = l := List.take_of_length_le (by omega)
      rw [he] at HO
      have hm := m16_le l
      have hml := m16_length l
      rw [hlen] at hml
      obtain ⟨l2, hl2⟩ : ∃ l2, m16 l = l2 := ⟨_, rfl⟩
      rw [hl2] at HO hm hml
      obtain ⟨A', c', hv, hy⟩ := Owb.bys HO.out (fun x hx => by have := hm x hx; omega) (by unfold maxLen; omega)
      rw [hml] at hv hy
      have hcap : k ≤ c' := by
        have ho := HO.out.2
        rw [hv, hml] at ho
        rcases ho with ⟨q1, q2⟩ | ⟨g, cap, cur, q1, _, _, q2, _⟩
        · omega
        · simp only [Value.slice.injEq] at q1
          omega
      subst hv
      have hpl := pk_len l2
      rw [hml] at hpl
      have hun : ∀ (L : List Rn), pk l2 = L → unp k [] L = (0, l2) := fun L hL => by
        have h1 := unp_pk (n := k) (L := []) l2 [] (fun v g => by have := hm v g; omega) (by simp; omega)
        rw [List.append_nil, List.nil_append, unp_end (by rw [hml]; omega), hL] at h1
        exact h1
      have HP1 := Lib.hid (fun w (hb : Below W.heap.size W w) (h : IsBys w A' k l2) => HP.out A' k c' l2 w hb h hcap hn hm)
      have HRN := Lib.hid (fun (B : Nat) (w : World) (v : Value) (L : List Nat) (hL : ∀ x ∈ L, x ≤ 15) (hl : L.length ≤ 2000) (o : Owr B w v (pk L)) => Owr.rns o (fun r hr => by have := pk_ok L hL r hr; exact ⟨by have := this.1; omega, by have := this.2; omega⟩) (by have := pk_len L; unfold maxLen; omega))
      have HU1 := Lib.hid (fun (A : Option Addr) (c : Nat) w (hb : Below W.heap.size W w) (h : IsRns w A (pk l2).length (pk l2)) =>
        (show Calls Tryd.prog 10 #[.slice A (pk l2).length c, .int .i64 k] w (fun e w' => ∃ A2 c2, e = .returned (.tuple #[.slice A2 k c2, .int .i64 0]) ∧ IsBys w' A2 k l2 ∧ Below w.heap.size w w') from
          (HU.out A (pk l2).length c (pk l2) k w hb h (by omega) hn).mono fun e w' q => by
            obtain ⟨A2, c2, q1, q2, q3⟩ := q
            rw [hun _ rfl] at q1 q2
            simp only [hml] at q1 q2
            exact ⟨A2, c2, q1, q2, q3⟩))
      have HLS := Lib.hid (fun (A1 A2 : Option Addr) (c1 c2 : Nat) (w : World) (h1 : IsBys w A1 k l2) (h2 : IsBys w A2 k l2) => lens_same A1 A2 k c1 c2 l2 w h1 h2 (by omega))
      have HY := Lib.hid hy
      obtain ⟨pn, hpn⟩ : ∃ pn, (pk l2).length = pn := ⟨_, rfl⟩
      rw [hpn] at hpl HU1
      obtain ⟨j, hj⟩ : ∃ j, at_ % (k + 1) = j := ⟨_, rfl⟩
      have hjk : j ≤ k := by have := Nat.mod_lt at_ (show 0 < k + 1 by omega); omega
      have ej : (at_ : Int) % ((k : Int) + 1) = (j : Int) := by rw [← hj]; simp
      have HHM := Lib.hid hm
      have HML := Lib.hid hml
      have HPN := Lib.hid hpn
      have hpl2 : ((pn : Int)) ≤ (k : Int) := by omega
      have dp : decide ((k : Int) < (pn : Int)) = false := decide_eq_false (by omega)
      have dp' : decide (k < pn) = false := decide_eq_false (by omega)
      have HU2 := Lib.hid (fun (R : List Rn) (hR : unp k [] R = (0, l2)) (hRl : R.length ≤ 4000) (A : Option Addr) (c : Nat) w (hb : Below W.heap.size W w) (h : IsRns w A R.length R) =>
        (show Calls Tryd.prog 10 #[.slice A R.length c, .int .i64 k] w (fun e w' => ∃ A2 c2, e = .returned (.tuple #[.slice A2 k c2, .int .i64 0]) ∧ IsBys w' A2 k l2 ∧ Below w.heap.size w w') from
          (HU.out A R.length c R k w hb h hRl hn).mono fun e w' q => by
            obtain ⟨A2, c2, q1, q2, q3⟩ := q
            rw [hR] at q1 q2
            simp only [hml] at q1 q2
            exact ⟨A2, c2, q1, q2, q3⟩))
      have hun2 : unp k [] (pk (l2.take j) ++ pk (l2.drop j)) = (0, l2) := by
        have h1 := unp_pk (n := k) (L := pk (l2.drop j)) (l2.take j) [] (fun v g => by have := hm v (List.mem_of_mem_take g); omega) (by rw [List.length_take, List.length_nil]; omega)
        have h2 := unp_pk (n := k) (L := []) (l2.drop j) (l2.take j) (fun v g => by have := hm v (List.mem_of_mem_drop g); omega) (by rw [List.length_take, List.length_drop]; omega)
        rw [List.append_nil, List.take_append_drop, unp_end (by rw [hml]; omega)] at h2
        rw [h1, List.nil_append, h2]
      obtain ⟨R, hRe⟩ : ∃ R, pk (l2.take j) ++ pk (l2.drop j) = R := ⟨_, rfl⟩
      rw [hRe] at hun2
      have hok1 := pk_ok (l2.take j) (fun v hv => hm v (List.mem_of_mem_take hv))
      have hok2 := pk_ok (l2.drop j) (fun v hv => hm v (List.mem_of_mem_drop hv))
      have hRok : ∀ r ∈ R, r.s ≤ 255 ∧ r.e ≤ 255 := fun r hr => by
        rw [← hRe] at hr
        rcases List.mem_append.1 hr with g | g
        · exact ⟨by have := (hok1 r g).1; omega, by have := (hok1 r g).2; omega⟩
        · exact ⟨by have := (hok2 r g).1; omega, by have := (hok2 r g).2; omega⟩
      have hRl : R.length ≤ k := by
        rw [← hRe, List.length_append]
        have g1 := pk_len (l2.take j)
        have g2 := pk_len (l2.drop j)
        rw [List.length_take] at g1
        rw [List.length_drop] at g2
        omega
      have HRR := Lib.hid (fun (B : Nat) (w : World) (v : Value) (o : Owr B w v R) => Owr.rns o hRok (by unfold maxLen; omega))
      have HUR := Lib.hid (fun (A : Option Addr) (c : Nat) w (hb : Below W.heap.size W w) (h : IsRns w A R.length R) => HU2.out R hun2 (by omega) A c w hb h)
      have HRE := Lib.hid hRe
      have hla := pk_len (l2.take j)
      have hlb := pk_len (l2.drop j)
      rw [List.length_take] at hla
      rw [List.length_drop, hml] at hlb
      have HLA := Lib.hid hla
      have HLB := Lib.hid hlb
      clear hun hun2 hla hlb hok1 hok2 hRok hRl hRe HU2 hm hml hy hpn hj HU he hl2 HL hb
      go_upto_region 13 with (first
          | (go_at_call 8; (with_reducible refine (HP1.out _ HB.out HY.out).mono ?_); rintro e w1 ⟨v1, rfl, o1, b1⟩; obtain ⟨A1, c1, hv1, i1⟩ := HRN.out _ _ _ _ HHM.out (by rw [HML.out]; exact hn) o1; rw [HPN.out] at hv1 i1; subst hv1; have I1 := Lib.hid i1; have Y1 := Lib.hid (HY.out.below b1); have B1 := Lib.hid (HB.out.trans (b1.mono HB.out.size)); clear o1 b1 i1)
          | (go_at_call 10; (with_reducible refine (HU1.out _ _ _ B1.out I1.out).mono ?_); rintro e w2 ⟨A2, c2, rfl, i2, b2⟩; have Y2 := Lib.hid (Y1.out.below b2); have X2 := Lib.hid i2; have B2 := Lib.hid (B1.out.trans (b2.mono B1.out.size)); clear i2 b2)
          | (go_at_call 12; (with_reducible refine (HLS.out _ _ _ _ _ X2.out Y2.out).mono ?_); rintro e w3 ⟨rfl, q3, rfl⟩; have Y3 := Lib.hid (Y2.out.below (belowN (Below.refl w2.heap.size w2) q3)); have B3 := Lib.hid (belowN B2.out q3)))
      by_cases hk0 : 0 < k
      · obtain ⟨b, o, rfl, hbl, _⟩ := Y3.out.at hk0
        have HPA := Lib.hid (fun w (hb : Below W.heap.size W w) (h : IsBys w (some ⟨b, o, none⟩) k l2) => HP.out (some ⟨b, o, none⟩) j c' (l2.take j) w hb (h.pre hjk) (by omega) (by omega) (fun v hv => HHM.out v (List.mem_of_mem_take hv)))
        have HPB := Lib.hid (fun (a : Option Addr) (ha : j < k → a = some ⟨b, o + j, none⟩) (c2 : Nat) (hc2 : k - j ≤ c2) w (hb : Below W.heap.size W w) (h : IsBys w (some ⟨b, o, none⟩) k l2) => HP.out a (k - j) c2 (l2.drop j) w hb (h.suf hjk a ha) hc2 (by omega) (fun v hv => HHM.out v (List.mem_of_mem_drop hv)))
        clear HP
        have ej2 : ((j : Int)) ≤ (c' : Int) := by omega
        have ej3 : ((j : Int)) ≤ (k : Int) := by omega
        go_wp2_with (first
          | (go_at_call 8; (with_reducible refine (HPA.out _ B3.out Y3.out).mono ?_); rintro e w4 ⟨v4, rfl, o4, b4⟩; have O4 := Lib.hid o4; have Y4 := Lib.hid (Y3.out.below b4); have B4 := Lib.hid (B3.out.trans (b4.mono B3.out.size)); clear o4 b4)
          | (go_at_call 8; (with_reducible refine (HPB.out _ (fun _ => rfl) _ (by omega) _ B4.out Y4.out).mono ?_); rintro e w5 ⟨v5, rfl, o5, b5⟩; have O4' := Lib.hid (O4.out.below b5); have O5 := Lib.hid o5; have Y5 := Lib.hid (Y4.out.below b5); have B5 := Lib.hid (B4.out.trans (b5.mono B4.out.size)); clear o5 b5)
          | (go_at_call 8; (with_reducible refine (HPB.out _ (fun g => absurd g (by omega)) _ (by omega) _ B4.out Y4.out).mono ?_); rintro e w5 ⟨v5, rfl, o5, b5⟩; have O4' := Lib.hid (O4.out.below b5); have O5 := Lib.hid o5; have Y5 := Lib.hid (Y4.out.below b5); have B5 := Lib.hid (B4.out.trans (b5.mono B4.out.size)); clear o5 b5)
          | (at_builtin; refine wpList_runs rfl (.const (.slice none 0 0)) (.tmp 93) rfl w5.heap.size _ (.slice none 0 0) _ [] _ rfl (Owr.nil _ _) rfl O4'.out (by have := HLA.out; rw [List.length_nil]; omega) (Nat.le_refl _) ?_; intro v6 w6 o6 b6; rw [List.nil_append] at o6; have O6 := Lib.hid o6; have O5' := Lib.hid (O5.out.below b6); have BB6 := Lib.hid b6; clear o6 b6)
          | (at_builtin; refine wpList_runs rfl (.tmp 94) (.tmp 95) rfl w5.heap.size _ _ _ _ _ rfl O6.out rfl O5'.out (by have := HLA.out; have := HLB.out; omega) BB6.out.size ?_; intro v7 w7 o7 b7; rw [HRE.out] at o7; obtain ⟨A7, c7, hv7, i7⟩ := HRR.out _ _ _ o7; subst hv7; have I7 := Lib.hid i7; have Y7 := Lib.hid (Y5.out.below (BB6.out.trans b7)); have B7 := Lib.hid (B5.out.trans ((BB6.out.trans b7).mono B5.out.size)); clear o7 b7 i7)
          | (go_at_call 10; (with_reducible refine (HUR.out _ _ _ B7.out I7.out).mono ?_); rintro e w8 ⟨A8, c8, rfl, i8, b8⟩; have Y8 := Lib.hid (Y7.out.below b8); have X8 := Lib.hid i8; have B8 := Lib.hid (B7.out.trans (b8.mono B7.out.size)); clear i8 b8)
          | (go_at_call 12; (with_reducible refine (HLS.out _ _ _ _ _ X8.out Y8.out).mono ?_); rintro e w9 ⟨rfl, q9, rfl⟩; have B9 := Lib.hid (belowN B8.out q9))
          | (go_at_call 7; (with_reducible refine (HW.out _ B9.out).mono ?_); rintro e w10 ⟨rfl, b10⟩; have B10 := Lib.hid (B9.out.trans (b10.mono B9.out.size)); clear b10))
        all_goals
          go_ret
          exact ⟨by simp, B10.out⟩
      · obtain rfl : k = 0 := by omega
        obtain rfl : j = 0 := by omega
        have hnil := HNIL.out rfl
        simp only [Value.slice.injEq, true_and] at hnil
        obtain ⟨rfl, rfl⟩ := hnil
        have HPA := Lib.hid (fun w (hb : Below W.heap.size W w) (h : IsBys w none 0 l2) => HP.out none 0 0 (l2.take 0) w hb (IsBys.nil w none) (Nat.le_refl _) (by omega) (fun v hv => HHM.out v (List.mem_of_mem_take hv)))
        have HPB := Lib.hid (fun w (hb : Below W.heap.size W w) (h : IsBys w none 0 l2) => HP.out none 0 0 (l2.drop 0) w hb h (Nat.le_refl _) (by omega) (fun v hv => HHM.out v (List.mem_of_mem_drop hv)))
        have HUR0 := Lib.hid (show ∀ (A : Option Addr) (c : Nat) w, Below W.heap.size W w → IsRns w A R.length R → Calls Tryd.prog 10 #[.slice A R.length c, .int .i64 0] w (fun e w' => ∃ A2 c2, e = .returned (.tuple #[.slice A2 0 c2, .int .i64 0]) ∧ IsBys w' A2 0 l2 ∧ Below w.heap.size w w') from HUR.out)
        clear HUR
        clear HP
        go_wp2_with (first
          | (go_at_call 8; (with_reducible refine (HPA.out _ B3.out Y3.out).mono ?_); rintro e w4 ⟨v4, rfl, o4, b4⟩; have O4 := Lib.hid o4; have Y4 := Lib.hid (Y3.out.below b4); have B4 := Lib.hid (B3.out.trans (b4.mono B3.out.size)); clear o4 b4)
          | (go_at_call 8; (with_reducible refine (HPB.out _ B4.out Y4.out).mono ?_); rintro e w5 ⟨v5, rfl, o5, b5⟩; have O4' := Lib.hid (O4.out.below b5); have O5 := Lib.hid o5; have Y5 := Lib.hid (Y4.out.below b5); have B5 := Lib.hid (B4.out.trans (b5.mono B4.out.size)); clear o5 b5)
          | (at_builtin; refine wpList_runs rfl (.const (.slice none 0 0)) (.tmp 93) rfl w5.heap.size _ (.slice none 0 0) _ [] _ rfl (Owr.nil _ _) rfl O4'.out (by have := HLA.out; rw [List.length_nil]; omega) (Nat.le_refl _) ?_; intro v6 w6 o6 b6; rw [List.nil_append] at o6; have O6 := Lib.hid o6; have O5' := Lib.hid (O5.out.below b6); have BB6 := Lib.hid b6; clear o6 b6)
          | (at_builtin; refine wpList_runs rfl (.tmp 94) (.tmp 95) rfl w5.heap.size _ _ _ _ _ rfl O6.out rfl O5'.out (by have := HLA.out; have := HLB.out; omega) BB6.out.size ?_; intro v7 w7 o7 b7; rw [HRE.out] at o7; obtain ⟨A7, c7, hv7, i7⟩ := HRR.out _ _ _ o7; subst hv7; have I7 := Lib.hid i7; have Y7 := Lib.hid (Y5.out.below (BB6.out.trans b7)); have B7 := Lib.hid (B5.out.trans ((BB6.out.trans b7).mono B5.out.size)); clear o7 b7 i7)
          | (go_at_call 10; (with_reducible refine (HUR0.out _ _ _ B7.out I7.out).mono ?_); rintro e w8 ⟨A8, c8, rfl, i8, b8⟩; have Y8 := Lib.hid (Y7.out.below b8); have X8 := Lib.hid i8; have B8 := Lib.hid (B7.out.trans (b8.mono B7.out.size)); clear i8 b8)
          | (go_at_call 12; (with_reducible refine (HLS.out _ _ _ _ _ X8.out Y8.out).mono ?_); rintro e w9 ⟨rfl, q9, rfl⟩; have B9 := Lib.hid (belowN B8.out q9))
          | (go_at_call 7; (with_reducible refine (HW.out _ B9.out).mono ?_); rintro e w10 ⟨rfl, b10⟩; have B10 := Lib.hid (B9.out.trans (b10.mono B9.out.size)); clear b10))
        all_goals
          go_ret
          exact ⟨by simp, B10.out⟩
end Go.Proofs.YtogbohompffcbaaDoor.U
