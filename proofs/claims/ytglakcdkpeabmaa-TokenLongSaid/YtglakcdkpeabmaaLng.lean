/- TokenLong returns true for any argument that its kind holds. Conditions: none. -/
import Derived.Test.YtglakcdkpeabmaaTtx
namespace Go.Proofs.Ytglakcdkpeabmaa
open Go Go.RowKit M
set_option linter.unusedVariables false
set_option linter.unusedSimpArgs false

/-- v is a slice of tokens in a row of its own -/
def Owt (B : Nat) (w : World) (v : Value) (L : List Tk) : Prop := w.ownsRow B 27 3 v L.length (clt L)
theorem Owt.lit (w : World) (l n d : Int) : Owt w.heap.size (w.alloc (.cells #[.int .u8 l, .int .i64 n, .int .i64 d] 27)) (.slice (some ⟨w.heap.size, 0, none⟩) 1 1) [⟨l, n, d⟩] :=
  World.ownsRow_lit (e := 27) w #[.int .u8 l, .int .i64 n, .int .i64 d] 1 (Nat.le_refl _) (by decide) rfl
theorem Owt.alloc {B : Nat} {w : World} {v : Value} {L : List Tk} (h : Owt B w v L) (o : Obj) : Owt B (w.alloc o) v L := World.ownsRow.alloc h o
theorem wpList_tk {ops : Array Oper} {rest : List Oper} {o : Oper} {a : Act} {w : World} {Q : Exit → Act → World → Prop} (hgd : o.guard = none) (s x : Operand)
    (ho : o.op = .call { callee := .builtin .append, args := #[s, x], argTypes := #[22, 22] }) (B : Nat) (v : Value) (L : List Tk) (hs : a.eval s = v) (h : Owt B w v L) (b c : Nat) (l n d : Int)
    (hx : a.eval x = .slice (some ⟨b, 0, none⟩) 1 c) (hc : w.cell? ⟨b, 0, none⟩ = some (.int .u8 l) ∧ w.cell? ⟨b, 1, none⟩ = some (.int .i64 n) ∧ w.cell? ⟨b, 2, none⟩ = some (.int .i64 d)) (hL : L.length ≤ 1000000) (hB : B ≤ w.heap.size)
    (hK : ∀ v' w', Owt B w' v' (L ++ [⟨l, n, d⟩]) → Below B w w' → wpList Try.prog ops Q rest (a.put o.dst v') w') : wpList Try.prog ops Q (o :: rest) a w :=
  wpList_plain hgd fun K hK' => by
    obtain ⟨i, h1, h2, h3, h4⟩ := info_of tokInfo
    obtain ⟨v', w', r1, r2, r3, _⟩ := run_append_own (P := Try.prog) w B 22 o.type 27 i _ 3 24 Try.underlying22 h1 h2 h3 h4 rfl (by decide) v L.length (clt L) h ⟨b, 0, none⟩ 1 c (clt [⟨l, n, d⟩]) rfl
      (lies_clt (fun j t ht => by
        match j, ht with
        | 0, ht => simp at ht; subst ht; exact ⟨hc.1, hc.2.1, hc.2.2⟩)) (clt_one _) (by unfold maxLen; omega) (by omega) hB
    unfold Oper.wp execOp
    simp only [ho, resolve, invoke, builtin, Sem.run_bind, Sem.run_pure, Result.andThen_ok, List.map_toArray, List.map_cons, List.map_nil, hs, hx, r1]
    refine hK' _ _ (hK v' w' ?_ ((Below.refl _ w).grown r3 hB (fun k hk => (World.ownsRow.lt h k hk).1)))
    unfold Owt
    rw [List.length_append, clt_append]; exact r2

/-- the tokens of TokenLong: a byte, and what reaches one byte ahead -/
def Lg (L : List Tk) : Prop := ∃ L', L = ⟨97, 0, 0⟩ :: L' ∧ ∀ t ∈ L', may t = true ∧ t.d ≤ 1 ∧ t.ok
theorem Lg.next {L : List Tk} (h : Lg L) {t : Tk} (ht : may t = true) (hd : t.d ≤ 1) (ho : t.ok) : Lg (L ++ [t]) := by
  obtain ⟨L', e, hl⟩ := h
  refine ⟨L' ++ [t], by rw [e]; rfl, fun x hx => ?_⟩
  rcases List.mem_append.1 hx with q | q
  · exact hl x q
  · rw [List.mem_singleton.1 q]; exact ⟨ht, hd, ho⟩
theorem Lg.good {L : List Tk} (h : Lg L) : ∀ c ∈ L, c.ok := by
  obtain ⟨L', e, hl⟩ := h
  intro c hc
  rw [e] at hc
  rcases List.mem_cons.1 hc with q | q
  · rw [q]; exact Tk.ok_of (by decide) (by decide) (by decide)
  · exact (hl c q).2.2
theorem lg_txt {L : List Tk} (h : Lg L) {N : Nat} (hN : szs L = N) : (N ≤ 1048576 → (txt [] L).2 = 0 ∧ (txt [] L).1.length = N) ∧ (1048576 < N → txt [] L = ([], 5)) := by
  obtain ⟨L', e, hl⟩ := h
  have hr : run 0 [] L = run 0 [97] L' := by rw [e]; rfl
  have h1 : szs L = 1 + szs L' := by rw [e]; rfl
  obtain ⟨r1, r2⟩ := run_long 0 L' [97] (fun t ht => ⟨(hl t ht).1, (hl t ht).2.1⟩) (by simp) (by simp) (by simp)
  simp only [List.length_cons, List.length_nil, Nat.zero_add, Nat.sub_zero] at r1 r2
  have hr' : run ([] : List UInt8).length [] L = run 0 [97] L' := hr
  refine ⟨fun hle => ?_, fun hgt => ?_⟩
  · obtain ⟨a1, a2⟩ := r1 (by omega)
    have ht : txt [] L = ((run 0 [97] L').2, 0) := by rw [txt_ok (by rw [hr']; exact a1), hr']; rfl
    rw [ht]
    exact ⟨rfl, by simp only; omega⟩
  · have a1 := r2 (by omega)
    rw [txt_no (by rw [hr', a1]; decide), hr', a1]

set_option maxRecDepth 1000000 in
set_option maxHeartbeats 2000000 in
theorem TokenLong_walk (a0 : Int) (W : World) (w0 : (Lit.int .i8 a0).wf = true) :
    Calls Try.prog 4 #[.int .i8 a0] W fun e w' => e = .returned (.bool true) ∧ Below W.heap.size W w' := by
  have hb : -128 ≤ a0 ∧ a0 ≤ 127 := by simpa [Lit.wf, IntKind.min, IntKind.max, IntKind.signed, IntKind.bits] using w0
  obtain ⟨hb1, hb2⟩ := hb
  clear w0
  obtain ⟨N, hN⟩ : ∃ N : Nat, 1048576 + a0 = (N : Int) := ⟨(1048576 + a0).toNat, by omega⟩
  obtain ⟨N1, hN1⟩ : ∃ N1 : Nat, (N : Int) - 1 = (N1 : Int) := ⟨N - 1, by omega⟩
  have hN2 : N ≤ 1048703 := by omega
  have hN3 : N1 + 1 = N := by omega
  have HO := Lib.hid (Owt.lit W 97 0 0)
  have HA := Lib.hid hN
  go_enter Try.func4, Try.ntmps4
  go_wp2_with fail
  clear hN hN1
  go_loopw [4, 5] (fun v i wr => ∃ (left : Nat) (L : List Tk), i = .int .i64 left ∧ Owt W.heap.size wr v L ∧ Lg L ∧ left + szs L = N ∧ 258 * L.length + 258 * min left 2 ≤ szs L + 773 ∧ Below W.heap.size W wr) (fun _ i _ => (intOf i).toNat)
  case atStart => exact ⟨N1, [⟨97, 0, 0⟩], rfl, HO.out, ⟨[], rfl, fun t ht => absurd ht (by simp)⟩, by rw [show szs [⟨97, 0, 0⟩] = 1 from rfl]; omega, by rw [show szs [⟨97, 0, 0⟩] = 1 from rfl]; simp; omega, (Below.refl _ _).alloc (Nat.le_refl _) _⟩
  case round =>
    obtain ⟨left, L, rfl, hO, hG, hsz, hln, hbl⟩ := hrel
    by_cases h0 : 0 < left
    · have hz : 258 * L.length ≤ 1100000 := by omega
      have hL6 : L.length ≤ 1000000 := by omega
      have HOw := Lib.hid hO
      have HGd := Lib.hid hG
      have HB := Lib.hid hbl
      have d0 : decide (0 < (left : Int)) = true := decide_eq_true (by omega)
      have d0' : decide (0 < left) = true := decide_eq_true h0
      clear hO hG hbl
      by_cases h3 : left < 3
      · have m1 : (if (left : Int) < 258 then (left : Int) else 258) = (left : Int) := if_pos (by omega)
        have m2 : (if left < 258 then (left : Int) else 258) = (left : Int) := if_pos (by omega)
        have d3 : decide ((left : Int) < 3) = true := decide_eq_true (by omega)
        have d3' : decide (left < 3) = true := decide_eq_true h3
        go_wp2_with (at_builtin; refine wpList_tk rfl (.tmp 22) (.tmp 24) rfl W.heap.size _ L rfl (HOw.out.alloc _) wr.heap.size 1 98 0 0 rfl ⟨by simp, by simp, by simp⟩ hL6 (by have := HB.out.size; simp; omega) ?_; intro v' w' o' b'; have HO2 := Lib.hid o'; have HB2 := Lib.hid ((HB.out.alloc HB.out.size _).trans b'); clear o' b')
        go_roundw
        case rel => exact ⟨left - 1, L ++ [⟨98, 0, 0⟩], by rw [show (left : Int) - 1 = ((left - 1 : Nat) : Int) by omega], HO2.out, HGd.out.next (by decide) (by decide) (Tk.ok_of (by decide) (by decide) (by decide)), by rw [szs_append, show szs [⟨98, 0, 0⟩] = 1 from rfl]; omega, by rw [szs_append, show szs [⟨98, 0, 0⟩] = 1 from rfl, List.length_append, List.length_singleton]; omega, HB2.out⟩
        case measure => simp [intOf]; omega
      · obtain ⟨k, hk⟩ : ∃ k, min left 258 = k := ⟨_, rfl⟩
        have hk3 : 3 ≤ k := by omega
        have hk258 : k ≤ 258 := by omega
        have hkl : k ≤ left := by omega
        have m1 : (if (258 : Int) < (left : Int) then (258 : Int) else (left : Int)) = (k : Int) := by split <;> omega
        have m2 : (if 258 < left then (258 : Int) else (left : Int)) = (k : Int) := by split <;> omega
        have d3 : decide ((k : Int) < 3) = false := decide_eq_false (by omega)
        have d3' : decide (k < 3) = false := decide_eq_false (by omega)
        have hmay : may ⟨0, (k : Int), 1⟩ = true := by unfold may; rw [isM_iff.2 ⟨rfl, by simp only; omega, by simp only; omega, by simp only; omega, by simp only; omega⟩, Bool.or_true]
        have hsz1 : szs [⟨0, (k : Int), 1⟩] = k := by
          have := szo_match (t := ⟨0, (k : Int), 1⟩) (isM_iff.2 ⟨rfl, by simp only; omega, by simp only; omega, by simp only; omega, by simp only; omega⟩)
          simp only [szs, this]; omega
        have HMay := Lib.hid hmay
        have HS1 := Lib.hid hsz1
        have HK := Lib.hid hk
        clear hmay hsz1 hk
        go_wp2_with (at_builtin; refine wpList_tk rfl (.tmp 28) (.tmp 31) rfl W.heap.size _ L rfl (HOw.out.alloc _) wr.heap.size 1 0 (k : Int) 1 rfl ⟨by simp, by simp, by simp⟩ hL6 (by have := HB.out.size; simp; omega) ?_; intro v' w' o' b'; have HO2 := Lib.hid o'; have HB2 := Lib.hid ((HB.out.alloc HB.out.size _).trans b'); clear o' b')
        go_roundw
        case rel => exact ⟨left - k, L ++ [⟨0, (k : Int), 1⟩], by rw [show (left : Int) - (k : Int) = ((left - k : Nat) : Int) by omega], HO2.out, HGd.out.next HMay.out (by simp only; omega) (Tk.ok_of (by decide) (by omega) (by decide)), by rw [szs_append, HS1.out]; omega, by have := HK.out; rw [szs_append, HS1.out, List.length_append, List.length_singleton]; omega, HB2.out⟩
        case measure => simp [intOf]; omega
    · obtain rfl : left = 0 := by omega
      have hszN : szs L = N := by omega
      have hL6 : L.length ≤ 1000000 := by omega
      obtain ⟨A, c, rfl, hI⟩ := IsTks.of_own hO hG.good (by unfold maxLen; omega)
      obtain ⟨n, hn⟩ : ∃ n, L.length = n := ⟨_, rfl⟩
      rw [hn] at hL6 hI ⊢
      obtain ⟨q1, q2⟩ := lg_txt hG hszN
      have hS := size_any A n c L
      rw [hszN] at hS
      have hT := fun w h => text_any ⟨#[]⟩ A n c L w h hL6 (by decide)
      have e00 : (⟨#[]⟩ : ByteArray).data.toList = [] := rfl
      rw [e00] at hT
      have HB := Lib.hid hbl
      have HI := Lib.hid (show ∀ w, Below wr.heap.size wr w → IsTks w A n L from fun w h => hI.below h)
      have hN' := HA.out
      by_cases ha : 0 < a0
      · have ht := q2 (by omega)
        rw [ht] at hT
        have HT := Lib.hid hT
        have da : decide (0 < a0) = true := decide_eq_true ha
        clear hT hS ht q1 q2 hI hO hG hbl hsz hszN hln h0 hN' ha hn
        go_wp2_with (first
          | (go_at_call 10; (with_reducible refine (HT.out _ (HI.out _ (Below.refl _ _))).mono ?_); rintro e w4 ⟨rfl, b4⟩; have B4 := Lib.hid (HB.out.trans (b4.mono HB.out.size)); clear b4)
          | (go_at_call 7; (with_reducible refine (works_any _).mono ?_); rintro e w6 ⟨rfl, b6⟩; have B6 := Lib.hid (B4.out.trans (b6.mono B4.out.size)); clear b6))
        go_ret
        exact ⟨rfl, B6.out⟩
      · obtain ⟨r1, r2⟩ := q1 (by omega)
        obtain ⟨X, Y, hXY⟩ : ∃ X Y, txt [] L = (X, Y) := ⟨_, _, rfl⟩
        rw [hXY] at hT r1 r2
        simp only at r1 r2
        obtain ⟨S, hSS⟩ : ∃ S : ByteArray, (⟨X.toArray⟩ : ByteArray) = S := ⟨_, rfl⟩
        have hSz : S.size = N := by rw [← hSS]; show X.toArray.size = N; rw [List.size_toArray]; exact r2
        simp only [hSS, r1] at hT
        have HT := Lib.hid hT
        have HS := Lib.hid (show ∀ w, IsTks w A n L → Calls Try.prog 12 #[.slice A n c] w fun e w' => e = .returned (.int .i64 (N : Nat)) ∧ Below w.heap.size w w' from fun w h => hS w h hL6)
        have da : decide (0 < a0) = false := decide_eq_false ha
        have hNN : ((N : Int) == (N : Int)) = true := by simp
        clear hT hS q1 q2 hI hO hG hbl hsz hszN hln h0 hN' ha hn hXY r1 r2 hSS
        go_wp2_with (first
          | (go_at_call 10; (with_reducible refine (HT.out _ (HI.out _ (Below.refl _ _))).mono ?_); rintro e w4 ⟨rfl, b4⟩; have I4 := Lib.hid (HI.out _ b4); have B4 := Lib.hid (HB.out.trans (b4.mono HB.out.size)); clear b4)
          | (go_at_call 12; (with_reducible refine (HS.out _ I4.out).mono ?_); rintro e w5 ⟨rfl, b5⟩; have B5 := Lib.hid (B4.out.trans (b5.mono B4.out.size)); clear b5)
          | (go_at_call 7; (with_reducible refine (works_any _).mono ?_); rintro e w6 ⟨rfl, b6⟩; have B6 := Lib.hid (B5.out.trans (b6.mono B5.out.size)); clear b6))
        go_ret
        exact ⟨rfl, B6.out⟩
end Go.Proofs.Ytglakcdkpeabmaa
