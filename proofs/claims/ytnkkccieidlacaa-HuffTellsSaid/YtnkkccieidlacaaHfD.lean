/- What New of package huff answers, where there is a table. Conditions: as each theorem names them. -/
import Derived.Test.YtnkkccieidlacaaHfC
namespace Go.Proofs.Ytnkkccieidlacaa
open Go.RowKit M
set_option linter.unusedVariables false
set_option linter.unusedSimpArgs false

/-- A table whose rows are being made: those whose rows' keys are no longer to come are there. -/
structure Hq (w : World) (T p m : Nat) (G : Nat → Nat → Nat) (N : Nat) (D : DataW Value) (l : Nat → Nat) (n f : Nat) (left : Lit → Bool) : Prop where
  c0 : w.cell? ⟨p, 0, none⟩ = some (.int .i64 f)
  c1 : w.cell? ⟨p, 1, none⟩ = some (.map (some m))
  own : w.ownsMap Try.prog 74 redS m N D
  dic : Dic D datS (fun b s => if left (rk b s) = true then none else (sz l n f b s n).map fun z => (G b s, 2 ^ z))
  rows : ∀ b s z, sz l n f b s n = some z → left (rk b s) = false → Hrow w (G b s) (2 ^ z) (fun x => (0, 0))
  one : ∀ b s z b' s' z', sz l n f b s n = some z → sz l n f b' s' n = some z' → left (rk b s) = false → left (rk b' s') = false → G b s = G b' s' → b = b' ∧ s = s'
  apart : ∀ b s z, sz l n f b s n = some z → left (rk b s) = false → p ≠ G b s ∧ m ≠ G b s ∧ T ≤ G b s
section
variable {w w' : World} {T p m N n f k : Nat} {G : Nat → Nat → Nat} {D : DataW Value} {l : Nat → Nat} {left : Lit → Bool}
theorem Hq.below (h : Hq w T p m G N D l n f left) (hb : Below w.heap.size w w') : Hq w' T p m G N D l n f left :=
  ⟨(hb.cell (World.block_lt_of_cell? _ _ h.c0)).trans h.c0, (hb.cell (World.block_lt_of_cell? _ _ h.c1)).trans h.c1, ownsMap_below h.own hb h.own.lt, h.dic, fun b s z e q => (h.rows b s z e q).below hb (h.rows b s z e q).lt, h.one, h.apart⟩
theorem Hq.done (h : Hq w T p m G N D l n f left) (hl : ∀ kl, left kl = false) : Hp w T p m G N D l n f 0 :=
  ⟨h.c0, h.c1, h.own, h.dic.congr (fun b s => by rw [if_neg (by rw [hl]; simp)]), fun b s z e => h.rows b s z e (hl _), fun b s z b' s' z' e e' => h.one b s z b' s' z' e e' (hl _) (hl _), fun b s z e => h.apart b s z e (hl _)⟩
/-- one row more -/
theorem Hq.step {b s z g : Nat} (h : Hq w T p m G N D l n f left) (hz : sz l n f b s n = some z) (hb : b ≤ 18446744073709551615) (hs : s ≤ 9223372036854775807) (hbd : ∀ b s z, sz l n f b s n = some z → b ≤ 18446744073709551615 ∧ s ≤ 9223372036854775807)
    {D' : DataW Value} (ho : w'.ownsMap Try.prog 74 redS m (N + 1) D') (hd : Dic D' datS (fun b' s' => if b' = b ∧ s' = s then some (g, 2 ^ z) else if left (rk b' s') = true then none else (sz l n f b' s' n).map fun z => (G b' s', 2 ^ z)))
    (hk : Kept (fun j => j = m) w w') (hr : Hrow w' g (2 ^ z) (fun _ => (0, 0))) (hg : w.heap.size ≤ g) (hT : T ≤ g) (hpm : p ≠ m) :
    Hq w' T p m (fun b' s' => if b' = b ∧ s' = s then g else G b' s') (N + 1) D' l n f (fun x => left x && !x.sameKey (rk b s)) := by
  have key : ∀ b' s' z', sz l n f b' s' n = some z' → ((left (rk b' s') && !(rk b' s').sameKey (rk b s)) = false ↔ (left (rk b' s') = false ∨ (b' = b ∧ s' = s))) := by
    intro b' s' z' e
    obtain ⟨d1, d2⟩ := hbd b' s' z' e
    by_cases q : b' = b ∧ s' = s
    · obtain ⟨rfl, rfl⟩ := q
      rw [WideAt.sameKey_self (rk_key _ _)]
      simp
    · have : (rk b' s').sameKey (rk b s) = false := Maps.sameKey_ne (fun k => q (rk_inj d1 d2 hb hs k))
      rw [this]
      simp [q]
  have old : ∀ b' s' z', sz l n f b' s' n = some z' → left (rk b' s') = false → G b' s' < g := fun b' s' z' e q => Nat.lt_of_lt_of_le (h.rows b' s' z' e q).lt hg
  have hplt : p < w.heap.size := World.block_lt_of_cell? _ _ h.c0
  have hmlt := h.own.lt
  refine ⟨hk.cell h.c0 hpm, hk.cell h.c1 hpm, ho, hd.congr (fun b' s' => ?_), fun b' s' z' e q => ?_, fun b1 s1 z1 b2 s2 z2 f1 f2 q1 q2 e => ?_, fun b' s' z' e q => ?_⟩
  · by_cases q : b' = b ∧ s' = s
    · rw [if_pos q, if_neg (by rw [q.1, q.2, WideAt.sameKey_self (rk_key _ _)]; simp), q.1, q.2, hz]
      simp
    · rw [if_neg q]
      cases e : sz l n f b' s' n with
      | none => simp
      | some z' =>
        have hq := key b' s' z' e
        by_cases hl : left (rk b' s') = true
        · rw [if_pos hl, if_pos]
          apply Classical.byContradiction
          intro c
          rcases hq.1 (by simpa using c) with c | c
          · rw [hl] at c; cases c
          · exact q c
        · have hl' : left (rk b' s') = false := by simpa using hl
          rw [if_neg hl, if_neg (by rw [hq.2 (.inl hl')]; simp)]
          simp [q]
  · rcases (key b' s' z' e).1 q with c | c
    · by_cases c2 : b' = b ∧ s' = s
      · rw [if_pos c2]
        obtain ⟨rfl, rfl⟩ := c2
        rw [hz] at e
        injection e with e
        rw [← e]; exact hr
      · rw [if_neg c2]
        have ha := h.apart b' s' z' e c
        exact (h.rows b' s' z' e c).at' (hk.block _ (h.rows b' s' z' e c).lt (fun q => ha.2.1 q.symm))
    · rw [if_pos c]
      obtain ⟨rfl, rfl⟩ := c
      rw [hz] at e
      injection e with e
      rw [← e]; exact hr
  · have k1 := (key b1 s1 z1 f1).1 q1
    have k2 := (key b2 s2 z2 f2).1 q2
    by_cases c1 : b1 = b ∧ s1 = s
    · by_cases c2 : b2 = b ∧ s2 = s
      · omega
      · rw [if_pos c1, if_neg c2] at e
        have := old b2 s2 z2 f2 (k2.resolve_right c2)
        omega
    · by_cases c2 : b2 = b ∧ s2 = s
      · rw [if_neg c1, if_pos c2] at e
        have := old b1 s1 z1 f1 (k1.resolve_right c1)
        omega
      · rw [if_neg c1, if_neg c2] at e
        exact h.one b1 s1 z1 b2 s2 z2 f1 f2 (k1.resolve_right c1) (k2.resolve_right c2) e
  · by_cases c : b' = b ∧ s' = s
    · rw [if_pos c]
      exact ⟨by omega, by omega, hT⟩
    · rw [if_neg c]
      exact h.apart b' s' z' e (((key b' s' z' e).1 q).resolve_right c)
/-- .. an iterator goes on -/
theorem Hq.iter {q : Nat} (h : Hq w T p m G N D l n f left) (hg : w.grownBy w' (some q)) (hp : p ≠ q) (hm : m ≠ q) (hi : ∃ a b c d, w.heap[q]? = some (.mapIter a b c d)) : Hq w' T p m G N D l n f left := by
  have hk : Kept (fun j => j = q) w w' := (Kept.refl _ w).grown hg (fun k hk => .inl (by cases hk; rfl))
  refine ⟨hk.cell h.c0 hp, hk.cell h.c1 hp, h.own.kept hg (fun e => hm (by cases e; rfl)), h.dic, fun b s z e r => ?_, h.one, h.apart⟩
  have hr := h.rows b s z e r
  refine hr.at' (hk.block _ hr.lt (fun e2 => ?_))
  obtain ⟨a, b', c, d, hh⟩ := hi
  obtain ⟨c', h1, _⟩ := hr
  rw [e2, hh] at h1
  cases h1
theorem ranges_iter {H : Type} {P : Program} {k : TypeId} {R : Value → Option (DataW H × List MemPlace)} {w : World} {b r n cnt : Nat} {D : DataW H} {left : Lit → Bool} (h : w.ranges P k R b r n D left cnt) : ∃ a b c d, w.heap[r]? = some (.mapIter a b c d) := by
  obtain ⟨es, clock, since, seen, c0, _, _, _, _, hr, _⟩ := h
  exact ⟨_, _, _, _, hr⟩
theorem ranges_drew {H : Type} {P : Program} {k : TypeId} {R : Value → Option (DataW H × List MemPlace)} {w : World} {b r n cnt : Nat} {D : DataW H} {left : Lit → Bool} (h : w.ranges P k R b r n D left cnt) : w.drew.ranges P k R b r n D left cnt := h
theorem Hq.drew (h : Hq w T p m G N D l n f left) : Hq w.drew T p m G N D l n f left := ⟨h.c0, h.c1, h.own, h.dic, h.rows, h.one, h.apart⟩
theorem sz_dom {l : Nat → Nat} {n f : Nat} (hf : f ≤ 15) : ∀ b s z, sz l n f b s n = some z → b ≤ 32768 ∧ s ≤ 15 := fun b s z h => by
  have h2 : 2 ^ f ≤ 2 ^ 15 := Nat.pow_le_pow_right (by omega) hf
  rcases sz_where n z h with ⟨a, c⟩ | ⟨a, c⟩ <;> omega
end

/-- what a step of the range over sizes hands out -/
theorem next_row {D : DataW Value} {f : Nat → Nat → Option Nat} (hd : Dic D datI f) {x : Int × Int} {c : Int} {kl : Lit} {y : DataW Value × List MemPlace} (hk : keyOf Try.prog 74 (.agg #[.int .u64 x.1, .int .i64 x.2]) = some kl)
    (hv : plainElem Try.prog 3 (.int .i64 c) = some y) (hat : ∀ zd, D.atKey kl zd = y.1) : ∃ b s z : Nat, x = ((b : Int), (s : Int)) ∧ kl = rk b s ∧ f b s = some z ∧ c = (z : Int) := by
  obtain ⟨b, s, z, h1, rfl⟩ := hd.only kl (Maps.has_true_of_atKey hat)
  obtain ⟨d1, d2⟩ := hd.dom b s z h1
  have e := rowLaw.inj hk (rk_some d1 d2)
  unfold rkey at e
  injection e with e
  simp at e
  have e2 := (hd.yes b s z h1 .nil).symm.trans (hat .nil)
  obtain ⟨c', ec, rfl, _⟩ := plainElem_int_inv Try.underlying3 hv
  injection ec with _ ec
  subst ec
  simp [datI] at e2
  exact ⟨b, s, z, by cases x; simp at e; rw [e.1, e.2], rfl, h1, e2.symm⟩

set_option maxRecDepth 1000000 in
set_option maxHeartbeats 1000000 in
theorem new_ok_any (A : Option Addr) (n c : Nat) (l : Nat → Nat) (f : Nat) (W : World) (hl : ∀ i, l i ≤ 255) (H : Nums W .u8 A n (fun i => (l i : Int))) (ht : Tbl l n) (h1 : 1 ≤ f) (hf : f ≤ 15) :
    Calls Try.prog 9 #[.slice A n c, .int .i64 f] W fun e w' => ∃ T p m G N D, e = .returned (.tuple #[.pointer (some ⟨p, 0, none⟩), .int .i64 0]) ∧ W.heap.size ≤ p ∧ Hp w' T p m G N D l n f n ∧ Below W.heap.size W w' := by
  have hfit := ht.fit
  have hm := hfit.1
  have hn320 := hm.1
  have hn : n ≤ maxLen := by unfold maxLen; omega
  have HW := Lib.hid (writes_any A n c l W hn hl H)
  have HT := Lib.hid ht
  have HM := Lib.hid hm
  have he : erc l n = 0 ∧ outn l n = n := by
    rcases erc_of (l := l) (n := n) with ⟨a, _⟩ | ⟨a, _⟩ | ⟨_, _, a, b⟩
    · unfold Tbl at ht; omega
    · unfold Tbl at ht; omega
    · exact ⟨a, b⟩
  rw [he.1, he.2] at HW
  have HH := Lib.hid H
  have HL := Lib.hid hl
  obtain ⟨K, hK⟩ : ∃ K, kind l n = K := ⟨_, rfl⟩
  have k3 : ((K : Int) == 3) = false := by
    rw [beq_eq_false_iff_ne]
    unfold Tbl at ht
    omega
  have HK := Lib.hid hK
  clear he H hl ht hm hfit
  go_enter Try.func9, Try.ntmps9
  go_wp2_with fail
  refine HW.out.mono ?_; rintro e w1 ⟨A1, c1, rfl, hc1, hc2, hcd, b1, _⟩
  have B1 := Lib.hid b1
  have C1 := Lib.hid hcd
  clear b1 hcd
  go_wp2_with fail
  refine (kind_any A n c l _ hn HL.out (HH.out.below B1.out)).mono ?_; rintro e w2 ⟨rfl, b2⟩
  rw [HK.out]
  have B2 := Lib.hid (B1.out.trans (b2.mono B1.out.size))
  have C2 := Lib.hid (C1.out.below b2)
  clear b2
  have hmm := @run_makeMap Try.prog
  go_wp2_with fail
  clear hmm
  obtain ⟨m, hmn⟩ : ∃ m, w2.heap.size = m := ⟨_, rfl⟩
  obtain ⟨p, hpn⟩ : ∃ p, m + 1 = p := ⟨_, rfl⟩
  have o3 : ((w2.alloc (.map #[] 0)).alloc (.cells #[.int .i64 f, .map (some w2.heap.size)] 70)).ownsMap Try.prog 74 redS w2.heap.size 0 (.map []) := (World.ownsMap_made w2 Try.prog 74 redS).alloc _
  have b3 := ((Below.refl w2.heap.size w2).alloc (Nat.le_refl _) (.map #[] 0)).alloc (by simp) (.cells #[.int .i64 f, .map (some w2.heap.size)] 70)
  have p0 : ((w2.alloc (.map #[] 0)).alloc (.cells #[.int .i64 f, .map (some w2.heap.size)] 70)).cell? ⟨w2.heap.size + 1, 0, none⟩ = some (.int .i64 f) := by simp
  have p1 : ((w2.alloc (.map #[] 0)).alloc (.cells #[.int .i64 f, .map (some w2.heap.size)] 70)).cell? ⟨w2.heap.size + 1, 1, none⟩ = some (.map (some w2.heap.size)) := by simp
  have s3 : ((w2.alloc (.map #[] 0)).alloc (.cells #[.int .i64 f, .map (some w2.heap.size)] 70)).heap.size = w2.heap.size + 2 := by simp
  generalize (w2.alloc (.map #[] 0)).alloc (.cells #[.int .i64 f, .map (some w2.heap.size)] 70) = w3 at o3 b3 p0 p1 s3 ⊢
  rw [hmn] at o3 b3 p0 p1 s3 ⊢
  rw [hpn] at p0 p1 ⊢
  have C3 := Lib.hid (C2.out.below (by rw [hmn]; exact b3))
  have B3 := Lib.hid b3
  refine (sizesOf_any A1 n c1 l f w3 HM.out C3.out h1 hf).mono ?_; rintro e w4 ⟨rfl, Ns, Ds, hos, hNs, hds, b4⟩
  have OS := Lib.hid hos
  have DS := Lib.hid hds
  have B4 := Lib.hid (B3.out.trans (b4.mono (by omega)))
  have hri2 : m + 2 ≤ w4.heap.size := by have := b4.size; omega
  have Q4 := Lib.hid (show Hq w4 m p m (fun _ _ => 0) 0 (.map []) l n f (Maps.has Ds) from ⟨(b4.cell (show p < w3.heap.size by omega)).trans p0, (b4.cell (show p < w3.heap.size by omega)).trans p1, ownsMap_below o3 b4 (by omega),
    (Dic.empty datS).congr (fun b s => by
      cases q : sz l n f b s n with
      | none => simp
      | some z => rw [if_pos (hds.has q)]), fun b s z q h => (by rw [hds.has q] at h; cases h), fun b s z b' s' z' q q' h => (by rw [hds.has q] at h; cases h), fun b s z q h => (by rw [hds.has q] at h; cases h)⟩)
  clear hos hds b3 b4 o3 p0 p1
  obtain ⟨ms, hms⟩ : ∃ ms, w3.heap.size = ms := ⟨_, rfl⟩
  rw [hms] at OS ⊢
  go_wp2_with (first | (at_range; refine wpList_range_own _ rfl _ 71 rfl 74 3 rowLaw Try.underlying71 _ ms Ns Ds rfl OS.out ?_; intro w5 hrg5 hg5 hs5))
  go_frame
  have cnt5 := OS.out.size_le
  have RG := Lib.hid hrg5
  have Q5 := Lib.hid (Q4.out.below ⟨hg5.os, hg5.tape, hg5.output, hg5.size, fun j hj => hg5.block j hj (by simp)⟩)
  have B5 := Lib.hid (B4.out.grown hg5 (by have := B4.out.size; omega) (fun j hj => by cases hj))
  clear hrg5 hg5 hs5
  obtain ⟨ri, hri⟩ : ∃ ri, w4.heap.size = ri := ⟨_, rfl⟩
  rw [hri] at RG hri2 ⊢
  go_loopw [9] (fun _ wr => ∃ left cnt G N D, wr.ranges Try.prog 74 (plainElem Try.prog 3) ms ri Ns Ds left cnt ∧ N + cnt ≤ n + 1 ∧ Hq wr m p m G N D l n f left ∧ Below m w2 wr) (fun _ wr => wr.rangeLeft ms ri)
  case atStart => exact ⟨_, _, _, _, _, RG.out, by omega, Q5.out, B5.out⟩
  case round =>
    obtain ⟨left, cnt, G, N, D, hrg, hNc, hq, hb⟩ := hrel
    have RGr := Lib.hid hrg
    have Qr := Lib.hid hq
    have Br := Lib.hid hb
    clear hrg hq hb
    go_wp2_with (first | (at_next; refine wpList_next_ranges _ rfl _ rfl 74 rowLaw (plainElem Try.prog 3) (fun x : Int × Int => .agg #[.int .u64 x.1, .int .i64 x.2]) (Value.int .i64) (fun key kl h => rk_inv h) (fun v y h => by obtain ⟨c, rfl, _⟩ := plainElem_int_inv Try.underlying3 h; exact ⟨c, rfl⟩) ms ri Ns Ds _ _ rfl RGr.out ?_ ?_))
    case refine_2 =>
      intro x1 x2 c kl yd yp w6 cnt6 hkey hlk hv hat hrg6 hlt6 hg6 hs6 hen
      obtain ⟨b, s, z, hx12, rfl, hz, rfl⟩ := next_row DS.out (x := (x1, x2)) (y := (yd, yp)) hkey hv hat
      obtain rfl : x1 = (b : Int) := congrArg Prod.fst hx12
      obtain rfl : x2 = (s : Int) := congrArg Prod.snd hx12
      have hb := (sz_dom hf b s z hz).1
      have hs := (sz_dom hf b s z hz).2
      have hz15 := sz_le hf n HM.out.2 z hz
      have I6 := Lib.hid (ranges_iter RGr.out)
      have Q6 := Lib.hid (Qr.out.iter hg6 (by omega) (by omega) I6.out)
      have B6 := Lib.hid (Br.out.grown hg6 (by have := Br.out.size; omega) (fun j hj => by cases hj; omega))
      have RG6 := Lib.hid hrg6
      have hlt := Lib.hid hlt6
      have HZ := Lib.hid hz
      clear hx12 hkey hlk hv hat hrg6 hlt6 hg6 hs6 hz
      go_wp2_with fail
      have r0 := (R2.new w6 74 (.int .u64 b) (.int .i64 s)).drew.at0
      have r1 := (R2.new w6 74 (.int .u64 b) (.int .i64 s)).drew.at1
      have RG7 := Lib.hid (RG6.out.alloc (.cells #[.int .u64 b, .int .i64 s] 74))
      have b7 := ((Below.refl w6.heap.size w6).alloc (Nat.le_refl _) (.cells #[.int .u64 b, .int .i64 s] 74))
      have Q7 := Lib.hid (Q6.out.below b7).drew
      have B7 := Lib.hid ((B6.out.trans (b7.mono (by have := B6.out.size; omega))).drew)
      have p1 := Q7.out.c1
      have hr9 : m < w6.heap.size := Nat.lt_of_lt_of_le (show m < ri by omega) (Nat.le_of_lt (RG6.out.lt))
      clear b7
      obtain ⟨r9, hr9n⟩ : ∃ r9, w6.heap.size = r9 := ⟨_, rfl⟩
      rw [hr9n] at r0 r1 hr9 ⊢
      generalize w6.alloc (.cells #[.int .u64 b, .int .i64 s] 74) = w7 at r0 r1 RG7 Q7 B7 p1 ⊢
      obtain ⟨Z, hZ⟩ : ∃ Z, 2 ^ z = Z := ⟨_, rfl⟩
      have hZ15 : Z ≤ 32768 := by rw [← hZ]; exact (Nat.pow_le_pow_right (by omega) hz15 : 2 ^ z ≤ 2 ^ 15)
      have hsl : IntKind.i64.wrap (2 ^ z) = (Z : Int) := by
        have : ((2 : Int) ^ z) = (Z : Int) := by rw [← hZ]; push_cast; rfl
        rw [this]
        exact IntWalk.i64_in _ ⟨by omega, by omega⟩
      have hpm : p ≠ m := by omega
      refine take_region (fun w' => w'.cell? ⟨p, 1, none⟩ = some (.map (some m)) ∧ w'.cell? ⟨r9, 0, none⟩ = some (.int .u64 b) ∧ w'.cell? ⟨r9, 1, none⟩ = some (.int .i64 s)) ⟨p1, r0, r1⟩ (fun h0 => ?_)
      first
      | (refine take_no (i := 0) (d := some 43) rfl rfl (by kernel_rfl) (by kernel_rfl) (by kernel_rfl) (fun _ _ _ h => h) (by rfl) h0 ?_; (try simp only [Act.put, List.setIfInBounds_toArray, List.set_cons_zero, List.set_cons_succ]))
      | (refine take_op (i := 0) (d := some 43) (v := ?_) rfl rfl (by kernel_rfl) (by kernel_rfl) (by kernel_rfl) (fun _ _ _ h => h) (by rfl) (fun w hSw => ?_) h0 ?_; rotate_left; (focus ((try dsimp only at hSw); go_simp; (try with_reducible rfl))); (try simp only [Act.put, List.setIfInBounds_toArray, List.set_cons_zero, List.set_cons_succ]))
      first
      | (refine take_no (i := 1) (d := some 44) rfl rfl (by kernel_rfl) (by kernel_rfl) (by kernel_rfl) (fun _ _ _ h => h) (by rfl) h0 ?_; (try simp only [Act.put, List.setIfInBounds_toArray, List.set_cons_zero, List.set_cons_succ]))
      | (refine take_op (i := 1) (d := some 44) (v := ?_) rfl rfl (by kernel_rfl) (by kernel_rfl) (by kernel_rfl) (fun _ _ _ h => h) (by rfl) (fun w hSw => ?_) h0 ?_; rotate_left; (focus ((try dsimp only at hSw); go_simp; (try with_reducible rfl))); (try simp only [Act.put, List.setIfInBounds_toArray, List.set_cons_zero, List.set_cons_succ]))
      first
      | (refine take_no (i := 2) (d := some 45) rfl rfl (by kernel_rfl) (by kernel_rfl) (by kernel_rfl) (fun _ _ _ h => h) (by rfl) h0 ?_; (try simp only [Act.put, List.setIfInBounds_toArray, List.set_cons_zero, List.set_cons_succ]))
      | (refine take_op (i := 2) (d := some 45) (v := ?_) rfl rfl (by kernel_rfl) (by kernel_rfl) (by kernel_rfl) (fun _ _ _ h => h) (by rfl) (fun w hSw => ?_) h0 ?_; rotate_left; (focus ((try dsimp only at hSw); go_simp; (try with_reducible rfl))); (try simp only [Act.put, List.setIfInBounds_toArray, List.set_cons_zero, List.set_cons_succ]))
      first
      | (refine take_no (i := 3) (d := some 46) rfl rfl (by kernel_rfl) (by kernel_rfl) (by kernel_rfl) (fun _ _ _ h => h) (by rfl) h0 ?_; (try simp only [Act.put, List.setIfInBounds_toArray, List.set_cons_zero, List.set_cons_succ]))
      | (refine take_op (i := 3) (d := some 46) (v := ?_) rfl rfl (by kernel_rfl) (by kernel_rfl) (by kernel_rfl) (fun _ _ _ h => h) (by rfl) (fun w hSw => ?_) h0 ?_; rotate_left; (focus ((try dsimp only at hSw); go_simp; (try with_reducible rfl))); (try simp only [Act.put, List.setIfInBounds_toArray, List.set_cons_zero, List.set_cons_succ]))
      first
      | (refine take_no (i := 4) (d := some 47) rfl rfl (by kernel_rfl) (by kernel_rfl) (by kernel_rfl) (fun _ _ _ h => h) (by rfl) h0 ?_; (try simp only [Act.put, List.setIfInBounds_toArray, List.set_cons_zero, List.set_cons_succ]))
      | (refine take_op (i := 4) (d := some 47) (v := ?_) rfl rfl (by kernel_rfl) (by kernel_rfl) (by kernel_rfl) (fun _ _ _ h => h) (by rfl) (fun w hSw => ?_) h0 ?_; rotate_left; (focus ((try dsimp only at hSw); go_simp; (try with_reducible rfl))); (try simp only [Act.put, List.setIfInBounds_toArray, List.set_cons_zero, List.set_cons_succ]))
      first
      | (refine take_no (i := 5) (d := some 48) rfl rfl (by kernel_rfl) (by kernel_rfl) (by kernel_rfl) (fun _ _ _ h => h) (by rfl) h0 ?_; (try simp only [Act.put, List.setIfInBounds_toArray, List.set_cons_zero, List.set_cons_succ]))
      | (refine take_op (i := 5) (d := some 48) (v := ?_) rfl rfl (by kernel_rfl) (by kernel_rfl) (by kernel_rfl) (fun _ _ _ h => h) (by rfl) (fun w hSw => ?_) h0 ?_; rotate_left; (focus ((try dsimp only at hSw); go_simp; (try with_reducible rfl))); (try simp only [Act.put, List.setIfInBounds_toArray, List.set_cons_zero, List.set_cons_succ]))
      first
      | (refine take_no (i := 6) (d := some 49) rfl rfl (by kernel_rfl) (by kernel_rfl) (by kernel_rfl) (fun _ _ _ h => h) (by rfl) h0 ?_; (try simp only [Act.put, List.setIfInBounds_toArray, List.set_cons_zero, List.set_cons_succ]))
      | (refine take_op (i := 6) (d := some 49) (v := ?_) rfl rfl (by kernel_rfl) (by kernel_rfl) (by kernel_rfl) (fun _ _ _ h => h) (by rfl) (fun w hSw => ?_) h0 ?_; rotate_left; (focus ((try dsimp only at hSw); go_simp; (try with_reducible rfl))); (try simp only [Act.put, List.setIfInBounds_toArray, List.set_cons_zero, List.set_cons_succ]))
      refine take_call (i := 7) (by kernel_rfl) rfl (fun K hK => ?_)
      rw [if_pos (by rfl)]
      try rw [hsl]
      refine wp_makeSlice (some 50) rfl 75 (.tmp 49) (.tmp 49) rfl (.int .i64 Z) (.int .i64 Z) _ rfl rfl (madeCell _ Z hZ15) ?_
      refine hK.out _ _ ⟨cell_more h0.1 _, cell_more h0.2.1 _, cell_more h0.2.2 _⟩ (fun h1 => ?_)
      clear hK K
      (try simp only [Act.put, List.setIfInBounds_toArray, List.set_cons_zero, List.set_cons_succ])
      refine take_call (i := 8) (by kernel_rfl) rfl (fun K hK => ?_)
      rw [if_pos (by rfl)]
      obtain ⟨w9, D9, hst, o9, d9, g9⟩ := storeS (Q7.out.own.alloc (.cells (madeCells #[.int .u16 0, .int .u8 0] (Z * 2)) 82)) Q7.out.dic (b := b) (s := s) (by omega) (by omega) (by unfold maxLen; omega) (w7.drew.heap.size, Z)
      have K9 := ((Kept.refl (fun j => j = m) w7.drew).alloc (.cells (madeCells #[.int .u16 0, .int .u8 0] (Z * 2)) 82)).grown g9 (fun k hk => .inl (by cases hk; rfl))
      have c9 := K9.cell h0.1 hpm
      have d0 := K9.cell h0.2.1 (show r9 ≠ m by omega)
      have d1 := K9.cell h0.2.2 (show r9 ≠ m by omega)
      refine wp_mapStore none rfl 68 (.tmp 46) (.tmp 47) (.tmp 50) rfl _ _ _ rfl rfl rfl hst ?_
      refine hK.out _ _ ⟨c9, d0, d1⟩ (fun h2 => ?_)
      clear hK K
      (try simp only [Act.put, List.setIfInBounds_toArray, List.set_cons_zero, List.set_cons_succ])
      refine wpAnyH_done (by kernel_rfl) ?_ _
      clear h0 h1 h2 c9 d0 d1 r0 r1 p1
      have RG9 := Lib.hid (((ranges_drew RG7.out).alloc (.cells (madeCells #[.int .u16 0, .int .u8 0] (Z * 2)) 82)).kept g9 (fun e => by cases e; omega) (fun e => by cases e; omega))
      have hrow : Hrow w9 w7.drew.heap.size (2 ^ z) (fun _ => (0, 0)) := by
        rw [hZ]
        have := Hrow.made w7.drew Z
        exact this.at' (g9.block _ this.lt (fun e => by cases e; have := Q7.out.own.lt; omega))
      have Q9 := Lib.hid (Q7.out.step HZ.out (by omega) (by omega) (fun b s z h => by have := sz_dom hf b s z h; omega) o9 (by rw [hZ]; exact d9) K9 hrow (Nat.le_refl _) (by have := B7.out.size; omega) hpm)
      have B9 := Lib.hid (B7.out.trans ((K9.below (B := m) (by have := B7.out.size; omega) (fun j hj => by omega))))
      clear K9 hrow o9 d9 g9 hst hen hsl
      go_wp2_with fail
      go_roundw
      case rel => exact ⟨_, cnt6, _, N + 1, D9, RG9.out, by have := hlt.out; omega, Q9.out, B9.out⟩
      case measure => rw [RG9.out.left_eq, RGr.out.left_eq]; exact hlt.out
    case refine_1 =>
      intro hc0 hl0
      have P0 := Lib.hid (Qr.out.done hl0)
      clear hc0 hl0
      go_wp2_with fail
      go_loopw [53] (fun v w' => ∃ k : Nat, k ≤ n ∧ v = .int .i64 k ∧ Hp w' m p m G N D l n f k ∧ Below m w2 w') (fun v _ => n - (intOf v).toNat)
      case atStart => exact ⟨0, Nat.zero_le _, rfl, P0.out, Br.out⟩
      case round =>
        obtain ⟨k, hkn, rfl, hp, hb⟩ := hrel
        have HPk := Lib.hid hp
        have HBk := Lib.hid hb
        clear hp hb
        by_cases hlt : k < n
        · obtain ⟨b, o, rfl, hbs, hc⟩ := C2.out (by omega)
          have g1 := (HBk.out.cell (p := ⟨b, o + k * 2, none⟩) (by rw [← hmn]; exact hbs)).trans (hc k hlt).1
          have g2 := (HBk.out.cell (p := ⟨b, o + k * 2 + 1, none⟩) (by rw [← hmn]; exact hbs)).trans (hc k hlt).2
          have h15 := HM.out.2 k hlt
          have hrs := rc_small (l := l) (n := n) (i := k) h15
          have hkk : ((k : Int)).toNat = k := by omega
          have HPT := Lib.hid (fun w H h0 hT => put_ok_any m p m N n f k G D l w HM.out h1 hf hlt h0 H hT)
          obtain ⟨x, hx⟩ : ∃ x, rc l n k = x := ⟨_, rfl⟩
          obtain ⟨z, hz⟩ : ∃ z, l k = z := ⟨_, rfl⟩
          rw [hx] at g1 hrs
          rw [hz] at g2 h15
          rw [hx, hz] at HPT
          have hms2 := HBk.out.size
          clear hc
          by_cases h0 : z = 0
          · subst h0
            go_wp2_with fail
            go_roundw
            case rel =>
              refine ⟨k + 1, by omega, by go_num, (HPk.out.below ((Below.refl _ _).alloc (Nat.le_refl _) _)).congr (fun b s x => ?_), HBk.out.alloc (by omega) _⟩
              simp only [cv]
              rw [if_neg (fun q => q.1 hz)]
            case measure => simp [intOf]; omega
          · have d0 : decide (0 < (z : Int)) = true := decide_eq_true (by omega)
            have d1 : decide (0 < z) = true := decide_eq_true (by omega)
            go_wp2_with fail
            refine (HPT.out _ (HPk.out.below ((Below.refl _ _).alloc (Nat.le_refl _) _)) h0 (by simp; omega)).mono ?_; rintro e w6 ⟨rfl, hp6, hb6⟩
            have P6 := Lib.hid hp6
            have B6 := Lib.hid ((HBk.out.alloc (by omega) _).trans hb6)
            clear hp6 hb6
            go_wp2_with fail
            go_roundw
            case rel => exact ⟨k + 1, by omega, by go_num, P6.out, B6.out⟩
            case measure => simp [intOf]; omega
        · obtain rfl : k = n := by omega
          go_wp2_with fail
          go_ret2
          exact ⟨m, p, m, G, N, D, rfl, by have := B2.out.size; omega, HPk.out, B2.out.trans (HBk.out.mono (by have := B2.out.size; omega))⟩
end Go.Proofs.Ytnkkccieidlacaa
