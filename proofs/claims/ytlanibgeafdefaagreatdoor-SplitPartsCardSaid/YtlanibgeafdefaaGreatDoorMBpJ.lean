/- Texts of one place, one behind the other: BpJ, BpU, BpK, BpL, BpM, BpN. -/
import Derived.Test.YtlanibgeafdefaaGreatDoorMBpE
import Derived.Test.YtlanibgeafdefaaGreatDoorMBlA
import Derived.Test.YtlanibgeafdefaaGreatDoorBpB
import Derived.Test.YtlanibgeafdefaaGreatDoorSaD
namespace Go.Proofs.YtlanibgeafdefaaGreatDoor.V
open Go Go.RowKit M U
set_option linter.unusedVariables false
set_option maxRecDepth 1000000
set_option linter.unusedSimpArgs false
set_option maxHeartbeats 4000000 in
theorem coded_best (A : Option Addr) (n c : Nat) (L : List Tk) (w : World) (H : Tabs w) (hL : IsTks w A n L) (hn : n ≤ 100000) (hm : ∀ t ∈ L, may t = true) :
    Calls Tryz.prog 41 #[.int .u8 2, .slice A n c] w (CodedP w (sys L) 286 (ll1 L) (ll2 L) (tbl (lx1 L) (lx2 L))) := by
  have hz := kdZero
  have hb : Below w.heap.size w (w.alloc (.cells (KV (fun _ => 0) (fun _ => 0) 0 (.slice none 0 0) (.slice none 0 0) (.slice none 0 0)) 94)) := (Below.refl _ _).alloc (Nat.le_refl _) _
  have HR0 := Lib.hid (Kd.new w (fun _ => 0) (fun _ => 0) 0 (.slice none 0 0) (.slice none 0 0) (.slice none 0 0))
  have HB0 := Lib.hid hb
  have HCo := Lib.hid (count_any A n c L _ (H.keep hb).2 (hL.below hb) hn hm)
  have HBs := Lib.hid (fun w1 => best_cs L w1 (by have := sys_len L; have := hL.leng; omega))
  obtain ⟨S, hS⟩ : ∃ S, sys L = S := ⟨_, rfl⟩
  obtain ⟨T, hT⟩ : ∃ T, tbl (lx1 L) (lx2 L) = T := ⟨_, rfl⟩
  have HTb := Lib.hid (show ∀ W a z, Below w.heap.size w W → Br W a 286 (ll1 L) → Br W z 30 (ll2 L) → Calls Tryz.prog 58 #[.agg #[.slice (some ⟨a, 0, none⟩) 286 286, .slice (some ⟨z, 0, none⟩) 30 30]] W (TblP W T) from fun W a z b ra rz => by
    have h := tables_any (some ⟨a, 0, none⟩) (some ⟨z, 0, none⟩) 286 30 (lx1 L) (lx2 L) W (H.keep b).1 (IsBys.of_br ra (by omega) (fun i => Nat.le_trans (hfl_le _ (by omega) (by decide) i) (by omega))) (IsBys.of_br rz (by omega) (fun i => Nat.le_trans (hfl_le _ (by omega) (by decide) i) (by omega))) (by omega) (by omega)
      (fun x hx => by obtain ⟨i, _, rfl⟩ := List.mem_map.1 hx; exact hfl_le _ (by omega) (by decide) i) (fun x hx => by obtain ⟨i, _, rfl⟩ := List.mem_map.1 hx; exact hfl_le _ (by omega) (by decide) i)
    rw [hT] at h; exact h)
  obtain ⟨l1, hl1⟩ : ∃ l1, ll1 L = l1 := ⟨_, rfl⟩
  obtain ⟨l2, hl2⟩ : ∃ l2, ll2 L = l2 := ⟨_, rfl⟩
  rw [hS] at HCo HBs
  rw [hl1, hl2] at HBs HTb
  rw [hS, hT, hl1, hl2]
  unfold CodesP at HBs
  unfold TblP at HTb
  have HSt := Lib.hid (fun w1 : World => by
    have h := (Kd.new w1 (fun _ => 0) (fun _ => 0) 0 (.slice none 0 0) (.slice none 0 0) (.slice none 0 0)).store (cs false S) (cs true S) (smb S) (.slice none 0 0) (.slice none 0 0) (.slice none 0 0) rfl rfl rfl
    rw [World.setRow_alloc_new] at h
    exact h)
  have HLc := Lib.hid (fun w1 : World => (Kd.new w1 (cs false S) (cs true S) (smb S) (.slice none 0 0) (.slice none 0 0) (.slice none 0 0)).counts)
  clear hb H hL hm hS hT hl1 hl2
  go_enter Tryz.func41, Tryz.ntmps41
  go_wp2_with (first
    | (go_at_call 55; (with_reducible refine HCo.out.mono ?_); rintro e w1 ⟨rfl, b1⟩; have R1 := Lib.hid (HR0.out.below b1); have B1 := Lib.hid (HB0.out.trans (b1.mono HB0.out.size)); clear b1)
    | refine wpList_kbuild rfl _ rfl _ _ _ rfl ?_
    | refine wpList_rstore rfl 94 _ _ rfl _ _ rfl _ rfl (HSt.out w1) ?_
    | refine wpList_rload rfl 91 _ rfl _ _ rfl _ (HLc.out w1) ?_
    | (go_at_call 57; (with_reducible refine (HBs.out _).mono ?_); rintro e w2 ⟨a, z, rfl, na, nz, ra, rz, b2⟩
       have kd := ((Kd.new w1 (cs false S) (cs true S) (smb S) (.slice none 0 0) (.slice none 0 0) (.slice none 0 0)).below b2).alloc (.cells #[.slice (some ⟨a, 0, none⟩) 286 286, .slice (some ⟨z, 0, none⟩) 30 30] 77)
       have k7 := kd.at1
       have k8 := kd.at2
       have f7 := kd.free 317
       have f8 := kd.free 318
       have KA := Lib.hid ((kd.set 317 (.slice (some ⟨a, 0, none⟩) 286 286) (.slice (some ⟨a, 0, none⟩) 286 286) (.slice none 0 0) (.slice none 0 0) (kF1 _)).set 318 (.slice (some ⟨z, 0, none⟩) 30 30) (.slice (some ⟨a, 0, none⟩) 286 286) (.slice (some ⟨z, 0, none⟩) 30 30) (.slice none 0 0) (kF2 _))
       have U1 := Lib.hid (show w.heap.size ≤ a from by have := B1.out.size; simp at na; omega)
       have U2 := Lib.hid (show w.heap.size ≤ z from by have := B1.out.size; simp at nz; omega)
       have hX : w.heap.size ≠ w1.heap.size := by have := R1.out.lt; omega
       have haX : a ≠ w1.heap.size := by simp at na; omega
       have hzX : z ≠ w1.heap.size := by simp at nz; omega
       have r2 := ((R1.out.alloc (.cells (KV (cs false S) (cs true S) (smb S) (.slice none 0 0) (.slice none 0 0) (.slice none 0 0)) 94)).below b2).alloc (.cells #[.slice (some ⟨a, 0, none⟩) 286 286, .slice (some ⟨z, 0, none⟩) 30 30] 77)
       have R2 := Lib.hid ((r2.other (a := ⟨w1.heap.size, 317, none⟩) hX (.slice (some ⟨a, 0, none⟩) 286 286)).other (a := ⟨w1.heap.size, 318, none⟩) hX (.slice (some ⟨z, 0, none⟩) 30 30))
       have N1 := Lib.hid (((ra.alloc (.cells #[.slice (some ⟨a, 0, none⟩) 286 286, .slice (some ⟨z, 0, none⟩) 30 30] 77)).other (a := ⟨w1.heap.size, 317, none⟩) haX (.slice (some ⟨a, 0, none⟩) 286 286)).other (a := ⟨w1.heap.size, 318, none⟩) haX (.slice (some ⟨z, 0, none⟩) 30 30))
       have N2 := Lib.hid (((rz.alloc (.cells #[.slice (some ⟨a, 0, none⟩) 286 286, .slice (some ⟨z, 0, none⟩) 30 30] 77)).other (a := ⟨w1.heap.size, 317, none⟩) hzX (.slice (some ⟨a, 0, none⟩) 286 286)).other (a := ⟨w1.heap.size, 318, none⟩) hzX (.slice (some ⟨z, 0, none⟩) 30 30))
       have bb := ((B1.out.alloc B1.out.size (.cells (KV (cs false S) (cs true S) (smb S) (.slice none 0 0) (.slice none 0 0) (.slice none 0 0)) 94)).trans (b2.mono (B1.out.alloc B1.out.size _).size))
       have B2 := Lib.hid (((bb.alloc bb.size (.cells #[.slice (some ⟨a, 0, none⟩) 286 286, .slice (some ⟨z, 0, none⟩) 30 30] 77)).setCell (p := ⟨w1.heap.size, 317, none⟩) B1.out.size (.slice (some ⟨a, 0, none⟩) 286 286)).setCell (p := ⟨w1.heap.size, 318, none⟩) B1.out.size (.slice (some ⟨z, 0, none⟩) 30 30))
       clear kd r2 ra rz na nz b2 hX haX hzX bb)
    | (go_at_call 58; (with_reducible refine (HTb.out _ _ _ B2.out N1.out N2.out).mono ?_); rintro e w3 ⟨A3, c3, rfl, i3, b3⟩
       have kd := KA.out.below b3
       have k9 := kd.at3
       have f9 := kd.free 319
       have KB := Lib.hid (kd.set 319 (.slice A3 T.length c3) (.slice (some ⟨a, 0, none⟩) 286 286) (.slice (some ⟨z, 0, none⟩) 30 30) (.slice A3 T.length c3) (kF3 _))
       have hX : w.heap.size ≠ w1.heap.size := by have := R1.out.lt; omega
       have R3 := Lib.hid ((R2.out.below b3).other (a := ⟨w1.heap.size, 319, none⟩) hX (.slice A3 T.length c3))
       have M1 := Lib.hid ((Off.cellSet w1.heap.size 319 w3 (.slice A3 T.length c3)).nums (br_nums (br_next N1.out b3)) (fun o => kd.no (by decide) o _))
       have M2 := Lib.hid ((Off.cellSet w1.heap.size 319 w3 (.slice A3 T.length c3)).nums (br_nums (br_next N2.out b3)) (fun o => kd.no (by decide) o _))
       have M3 := Lib.hid ((Off.cellSet w1.heap.size 319 w3 (.slice A3 T.length c3)).cds i3 (fun o x => kd.no (by decide) o x))
       have B3 := Lib.hid ((B2.out.trans (b3.mono B2.out.size)).setCell (p := ⟨w1.heap.size, 319, none⟩) B1.out.size (.slice A3 T.length c3))
       have LD := Lib.hid KB.out.load
       have ST := Lib.hid (R3.out.store (cs false S) (cs true S) (smb S) (.slice (some ⟨a, 0, none⟩) 286 286) (.slice (some ⟨z, 0, none⟩) 30 30) (.slice A3 T.length c3) rfl rfl rfl)
       clear kd i3 b3 hX)
    | refine wpList_rload rfl 94 _ rfl _ _ rfl _ LD.out ?_
    | refine wpList_rstore rfl 94 _ _ rfl _ _ rfl _ rfl ST.out ?_)
  have hF := R3.out.setRow (cs false S) (cs true S) (smb S) (.slice (some ⟨a, 0, none⟩) 286 286) (.slice (some ⟨z, 0, none⟩) 30 30) (.slice A3 T.length c3)
  refine bodyPost_ret (v := .tuple #[.agg (KV (cs false S) (cs true S) (smb S) (.slice (some ⟨a, 0, none⟩) 286 286) (.slice (some ⟨z, 0, none⟩) 30 30) (.slice A3 T.length c3)), .int .i64 0]) (results_row_tmp (p := 4) (u := 5) (ty := 94) rfl _ _ w.heap.size _ _ _ _ rfl hF Tryz.underlying94 rfl (by rw [KV_size]; exact kdSize)) rfl ⟨_, 286, _, 30, A3, c3, rfl, ?_, ?_, ?_, ?_, fun b o e => (by cases e; exact U1.out), fun b o e => (by cases e; exact U2.out)⟩
  · exact (Off.rowSet w.heap.size _ _).nums M1.out (fun o => R3.out.no (by decide) o _)
  · exact (Off.rowSet w.heap.size _ _).nums M2.out (fun o => R3.out.no (by decide) o _)
  · exact (Off.rowSet w.heap.size _ _).cds M3.out (fun o x => R3.out.no (by decide) o x)
  · exact below_setRow B3.out w.heap.size _ (Nat.le_refl _)
end Go.Proofs.YtlanibgeafdefaaGreatDoor.V

namespace Go.Proofs.YtlanibgeafdefaaGreatDoor.V
open Go Go.RowKit M U
set_option linter.unusedVariables false
set_option maxRecDepth 1000000
set_option linter.unusedSimpArgs false
def szc : List Cd → Nat
  | [] => 0
  | c :: l => c.2 + szc l
theorem szc_append : ∀ l r : List Cd, szc (l ++ r) = szc l + szc r
  | [], r => by simp [szc]
  | c :: l, r => by simp only [List.cons_append, szc, szc_append l r]; omega
theorem szc_succ (l : List Cd) (k : Nat) (hk : k < l.length) : szc (l.take (k + 1)) = szc (l.take k) + (l.getD k default).2 := by
  rw [List.take_add_one, List.getD, List.getElem?_eq_getElem hk, szc_append]
  simp [szc]
theorem szc_le {l : List Cd} (h : ∀ c ∈ l, c.2 ≤ 255) : szc l ≤ 255 * l.length := by
  induction l with
  | nil => simp [szc]
  | cons c l ih =>
    have h1 := ih (fun z hz => h z (List.mem_cons_of_mem _ hz))
    have h2 := h c List.mem_cons_self
    simp only [szc, List.length_cons]
    omega
theorem put_cons (n k : Nat) : put n (k + 1) = n % 2 :: put (n / 2) k := by
  unfold put
  rw [List.range_succ_eq_map, List.map_cons, List.map_map]
  congr 1
  · simp
  · apply List.map_congr_left
    intro i _
    show n / 2 ^ (i + 1) % 2 = n / 2 / 2 ^ i % 2
    rw [Nat.pow_succ, Nat.mul_comm, Nat.div_div_eq_div_mul]
theorem put_rv (c : Nat) : ∀ s, put (rv c s) s = cdb c s
  | 0 => rfl
  | s + 1 => by
    rw [put_cons, cdb_succ, ← put_rv c s]
    have h : rv c (s + 1) = 2 * rv c s + c / 2 ^ s % 2 := rfl
    rw [h]
    have h2 : c / 2 ^ s % 2 < 2 := Nat.mod_lt _ (by decide)
    rw [show (2 * rv c s + c / 2 ^ s % 2) % 2 = c / 2 ^ s % 2 by omega, show (2 * rv c s + c / 2 ^ s % 2) / 2 = rv c s by omega]
def cbs (c : Cd) : List Nat := put c.1 c.2
theorem cbs_len : ∀ l : List Cd, (l.flatMap cbs).length = szc l
  | [] => rfl
  | c :: l => by rw [List.flatMap_cons, List.length_append, cbs_len l]; show (put c.1 c.2).length + _ = _; rw [put_length]; rfl
theorem tr1_bits (f : Nat → Nat) (y : Rn) : (tr1 f y).flatMap cbs = wrn f y := by
  unfold tr1 wrn cbs
  simp only [List.flatMap_cons, List.flatMap_nil, List.append_nil]
  rw [← put_rv]
  rfl
theorem tbr_bits (f : Nat → Nat) : ∀ r : List Rn, (tbr f r).flatMap cbs = r.flatMap (wrn f)
  | [] => rfl
  | y :: r => by
    have ih := tbr_bits f r
    unfold tbr at ih ⊢
    rw [List.flatMap_cons, List.flatMap_append, tr1_bits, ih, List.flatMap_cons]
theorem tbl_bits (x1 x2 : List Nat) : (tbl x1 x2).flatMap cbs = dyb x1 x2 (rrn x1 x2) (rrf x1 x2) := by
  obtain ⟨f, hf⟩ : ∃ f, rrf x1 x2 = f := ⟨_, rfl⟩
  have h1 : (tb3 x1 x2 f).flatMap cbs = put (upt x1 257 - 257) 5 ++ put (upt x2 1 - 1) 5 ++ put (upt (inl f) 4 - 4) 4 := by simp [tb3, cbs]
  have h2 : (tbi f).flatMap cbs = ((inl f).take (upt (inl f) 4)).flatMap (fun x => put x 3) := by
    unfold tbi
    rw [List.flatMap_map]
    rfl
  unfold tbl dyb
  rw [hf, List.flatMap_append, List.flatMap_append, tbr_bits, h1, h2]
def Rft (r : Rn) : Prop := r.e < 2 ^ rbn r.s
theorem zrs_ft (n : Nat) : ∀ r ∈ zrs n, Rft r := by
  induction n using Nat.strongRecOn with
  | _ n ih =>
    intro r hr
    by_cases h : 11 ≤ n
    · rw [zrs_many h, List.mem_cons] at hr
      rcases hr with rfl | hr
      · show _ < 128; simp only; omega
      · exact ih _ (by omega) r hr
    · by_cases h3 : 3 ≤ n
      · rw [zrs_some h h3, List.mem_singleton] at hr
        subst hr
        show _ < 8; simp only; omega
      · rw [zrs_few h3] at hr
        rw [List.eq_of_mem_replicate hr]
        show 0 < 1; omega
theorem rbn_few {v : Nat} (hv : v ≤ 15) : rbn v = 0 := by unfold rbn; rw [if_pos (by omega)]
theorem oths_ft (v : Nat) (hv : v ≤ 15) (n : Nat) : ∀ r ∈ oths v n, Rft r := by
  induction n using Nat.strongRecOn with
  | _ n ih =>
    intro r hr
    by_cases h : 3 ≤ n
    · rw [oths_many h, List.mem_cons] at hr
      rcases hr with rfl | hr
      · show _ < 4; simp only; omega
      · exact ih _ (by omega) r hr
    · rw [oths_few h] at hr
      rw [List.eq_of_mem_replicate hr]
      unfold Rft
      rw [rbn_few hv]
      show 0 < 1; omega
theorem pk_ft : ∀ l : List Nat, (∀ v ∈ l, v ≤ 15) → ∀ r ∈ pk l, Rft r := by
  intro l
  generalize hn : l.length = n
  induction n using Nat.strongRecOn generalizing l with
  | _ n ih =>
    cases l with
    | nil => intro _ r hr; rw [pk_nil] at hr; cases hr
    | cons v l =>
      intro hl r hr
      rw [pk_cons, List.mem_append] at hr
      have hv := hl v (by simp)
      rcases hr with hr | hr
      · unfold one at hr
        split at hr
        · exact zrs_ft _ r hr
        · unfold oth at hr
          rw [List.mem_cons] at hr
          rcases hr with rfl | hr
          · unfold Rft; rw [rbn_few hv]; show 0 < 1; omega
          · exact oths_ft v hv _ r hr
      · rw [List.length_cons] at hn
        exact ih (l.drop (ru v l)).length (by rw [List.length_drop]; omega) _ rfl (fun x hx => hl x (by simp [List.mem_of_mem_drop hx])) r hr
theorem tbl_hdd (L : List Tk) : (tbl (lx1 L) (lx2 L)).flatMap cbs = hdd L := tbl_bits _ _
theorem tbl_small (L : List Tk) : (tbl (lx1 L) (lx2 L)).length ≤ 1000 ∧ ∀ c ∈ tbl (lx1 L) (lx2 L), c.2 ≤ 15 ∧ c.1 < 2 ^ c.2 := by
  have hr : rrn (lx1 L) (lx2 L) = rrs L := rfl
  have hf : rrf (lx1 L) (lx2 L) = ll3 L := rfl
  have hl := rrs_len L
  have hall : ∀ v ∈ (lx1 L).take (upt (lx1 L) 257) ++ (lx2 L).take (upt (lx2 L) 1), v ≤ 15 := fun v hv => by
    rcases List.mem_append.1 hv with q | q
    · obtain ⟨i, _, rfl⟩ := List.mem_map.1 (List.mem_of_mem_take q); exact hfl_le _ (by omega) (by decide) i
    · obtain ⟨i, _, rfl⟩ := List.mem_map.1 (List.mem_of_mem_take q); exact hfl_le _ (by omega) (by decide) i
  have hft : ∀ y ∈ rrs L, Rft y := pk_ft _ hall
  have h7 : ∀ i, ll3 L i ≤ 7 := fun i => hfl_le _ (by omega) (by decide) i
  unfold tbl
  rw [hr, hf]
  refine ⟨?_, fun c hc => ?_⟩
  · rw [List.length_append, List.length_append, tbr_len]
    have h1 : (tbi (ll3 L)).length ≤ 19 := by
      unfold tbi
      rw [List.length_map, List.length_take]
      have : (inl (ll3 L)).length = 19 := by simp [inl, ord]
      omega
    have h2 : (tb3 (lx1 L) (lx2 L) (ll3 L)).length = 3 := rfl
    omega
  · rcases List.mem_append.1 hc with hc | hc
    · rcases List.mem_append.1 hc with hc | hc
      · have u1 := upt_le (lx1 L) 257
        have u2 := upt_le (lx2 L) 1
        have u3 := upt_le (inl (ll3 L)) 4
        have l1 : (lx1 L).length = 286 := by unfold lx1; simp
        have l2 : (lx2 L).length = 30 := by unfold lx2; simp
        have l3 : (inl (ll3 L)).length = 19 := by simp [inl, ord]
        unfold tb3 at hc
        simp only [List.mem_cons, List.not_mem_nil, or_false] at hc
        rcases hc with rfl | rfl | rfl
        · exact ⟨by simp, by show _ < 32; simp only; omega⟩
        · exact ⟨by simp, by show _ < 32; simp only; omega⟩
        · exact ⟨by simp, by show _ < 16; simp only; omega⟩
      · unfold tbi at hc
        obtain ⟨x, hx, rfl⟩ := List.mem_map.1 hc
        have := inl_seven (ll3 L) h7 x (List.mem_of_mem_take hx)
        exact ⟨by simp, by show x < 8; omega⟩
    · unfold tbr at hc
      obtain ⟨y, hy, hc⟩ := List.mem_flatMap.1 hc
      have hy2 := hft y hy
      unfold tr1 at hc
      simp only [List.mem_cons, List.not_mem_nil, or_false] at hc
      rcases hc with rfl | rfl
      · exact ⟨Nat.le_trans (h7 _) (by omega), C.rc_lt _ _ _⟩
      · exact ⟨Nat.le_trans (rbn_le _) (by omega), hy2⟩
end Go.Proofs.YtlanibgeafdefaaGreatDoor.V

namespace Go.Proofs.YtlanibgeafdefaaGreatDoor.V
open Go Go.RowKit M U
set_option linter.unusedVariables false
set_option maxRecDepth 1000000
set_option linter.unusedSimpArgs false
theorem sm_cap {f : Nat → Nat} {c : Nat} : ∀ n, (∀ i, i < n → f i ≤ c) → M.sm f n ≤ n * c
  | 0, _ => by simp [M.sm]
  | n + 1, h => by
    have := sm_cap n (fun i hi => h i (by omega))
    have := h n (by omega)
    simp only [M.sm]
    rw [Nat.succ_mul]
    omega
set_option maxHeartbeats 2000000 in
theorem weighp_any (A B : Option Addr) (n c m d : Nat) (f g : Nat → Nat) (w : World) (H1 : Nums w .i64 A n (fun i => (f i : Int))) (H2 : Nums w .u8 B m (fun i => (g i : Int))) (hnm : n ≤ m) (hn : n ≤ 400) (hf : ∀ i, f i ≤ 200001) (hg : ∀ i, g i ≤ 255) :
    Calls Tryz.prog 59 #[.slice A n c, .slice B m d] w fun e w' => e = .returned (.int .i64 (M.sm (fun i => f i * g i) n : Nat)) ∧ w' = w := by
  have HN1 := Lib.hid H1
  have HN2 := Lib.hid H2
  have hp : ∀ i, f i * g i ≤ 51000255 := fun i => Nat.mul_le_mul (hf i) (hg i)
  have hcap : ∀ k, M.sm (fun i => f i * g i) k ≤ k * 51000255 := fun k => sm_cap k (fun i _ => hp i)
  have HP := Lib.hid hp
  have HCap := Lib.hid hcap
  have HF := Lib.hid hf
  have HG := Lib.hid hg
  clear H1 H2 hp hcap hf hg
  go_enter Tryz.func59, Tryz.ntmps59
  go_wp2_with fail
  go_loopw [5, 10] (fun s x wr => ∃ k : Nat, k ≤ n ∧ x = .int .i64 k ∧ s = .int .i64 (M.sm (fun i => f i * g i) k : Nat) ∧ w = wr) (fun _ x _ => n - (intOf x).toNat)
  case atStart => exact ⟨0, Nat.zero_le _, rfl, rfl, rfl⟩
  case round =>
    obtain ⟨k, hk, rfl, rfl, rfl⟩ := hrel
    by_cases hlt : k < n
    · have d1 : decide ((k : Int) < (n : Int)) = true := decide_eq_true (by omega)
      have d1' : decide (k < n) = true := decide_eq_true hlt
      obtain ⟨b1, o1, rfl, _hb1, hc1⟩ := HN1.out (by omega)
      obtain ⟨b2, o2, rfl, _hb2, hc2⟩ := HN2.out (by omega)
      have c0 := hc1 k hlt
      have c1 := hc2 k (by omega)
      simp only at c0 c1
      have hs : M.sm (fun i => f i * g i) (k + 1) = M.sm (fun i => f i * g i) k + f k * g k := rfl
      have hq := HP.out k
      have hS := HCap.out k
      have hS2 : M.sm (fun i => f i * g i) k ≤ 400 * 51000255 := Nat.le_trans hS (Nat.mul_le_mul_right _ (by omega))
      obtain ⟨a, ha⟩ : ∃ a, f k = a := ⟨_, rfl⟩
      obtain ⟨z, hz⟩ : ∃ z, g k = z := ⟨_, rfl⟩
      have ha2 : a ≤ 200001 := by rw [← ha]; exact HF.out k
      have hz2 : z ≤ 255 := by rw [← hz]; exact HG.out k
      rw [ha, hz] at hs hq
      rw [ha] at c0
      rw [hz] at c1
      obtain ⟨p, hp⟩ : ∃ p, a * z = p := ⟨_, rfl⟩
      rw [hp] at hs hq
      have e1 : (a : Int) * (z : Int) = (p : Int) := by rw [← hp]; exact (Int.natCast_mul a z).symm
      obtain ⟨s, hse⟩ : ∃ s, M.sm (fun i => f i * g i) k = s := ⟨_, rfl⟩
      rw [hse] at hs hS2
      have HS := Lib.hid hs
      have hkm : k < m := by omega
      have hk4 : k ≤ 400 := by omega
      simp only [hse]
      clear hc1 hc2 hs hS ha hz hp hse
      go_wp2_with fail
      go_roundw
      case rel => exact ⟨k + 1, by omega, by go_num, by rw [HS.out]; go_num, trivial⟩
      case measure => (simp [intOf]; try omega)
    · obtain rfl : k = n := by omega
      have d1 : decide ((k : Int) < (k : Int)) = false := decide_eq_false (by omega)
      have d1' : decide (k < k) = false := decide_eq_false (by omega)
      go_wp2_with fail
      go_ret
      exact ⟨rfl, rfl⟩
set_option maxHeartbeats 4000000 in
theorem csize_any (S : List Sy) (A1 A2 A3 : Option Addr) (n1 c1 c2 N c3 : Nat) (l1 l2 : Nat → Nat) (T : List Cd) (w : World) (hS : S.length ≤ 200001) (hSb : smb S ≤ 3000000) (H1 : Nums w .u8 A1 n1 (fun i => (l1 i : Int))) (H2 : Nums w .u8 A2 30 (fun i => (l2 i : Int))) (H3 : IsCds w A3 N T) (h1 : 286 ≤ n1) (hN : N ≤ 1000) (hT : ∀ c ∈ T, c.2 ≤ 255) (hl1 : ∀ i, l1 i ≤ 255) (hl2 : ∀ i, l2 i ≤ 255) :
    Calls Tryz.prog 42 #[.agg (KV (cs false S) (cs true S) (smb S) (.slice A1 n1 c1) (.slice A2 30 c2) (.slice A3 N c3))] w fun e w' => e = .returned (.int .i64 ((3 + szc T + (M.sm (fun i => cs false S i * l1 i) 286 + M.sm (fun i => cs true S i * l2 i) 30) + smb S : Nat) : Int)) ∧ Below w.heap.size w w' := by
  have HK := Lib.hid (Kd.new w (cs false S) (cs true S) (smb S) (.slice A1 n1 c1) (.slice A2 30 c2) (.slice A3 N c3))
  have HB0 := Lib.hid ((Below.refl w.heap.size w).alloc (Nat.le_refl _) (.cells (KV (cs false S) (cs true S) (smb S) (.slice A1 n1 c1) (.slice A2 30 c2) (.slice A3 N c3)) 94))
  have HW1 := Lib.hid (show ∀ W, Below (w.heap.size + 1) (w.alloc (.cells (KV (cs false S) (cs true S) (smb S) (.slice A1 n1 c1) (.slice A2 30 c2) (.slice A3 N c3)) 94)) W → ∀ q, Calls Tryz.prog 59 #[.slice (some ⟨w.heap.size, 0, none⟩) 286 286, .slice A1 n1 c1] (W.drewN q) fun e w' => e = .returned (.int .i64 (M.sm (fun i => cs false S i * l1 i) 286 : Nat)) ∧ w' = W.drewN q from fun W b q => by
    have hk : Kd W w.heap.size (cs false S) (cs true S) (smb S) (.slice A1 n1 c1) (.slice A2 30 c2) (.slice A3 N c3) := (Kd.new w _ _ _ _ _ _).below (b.mono (by simp))
    exact weighp_any _ _ 286 286 n1 c1 (cs false S) l1 (W.drewN q) (hk.nums.drewN q) ((H1.below (HB0.out.trans (b.mono (by omega)))).drewN q) h1 (by omega) (fun i => Nat.le_trans (cs_le false S i) hS) hl1)
  have HW2 := Lib.hid (show ∀ W, Below (w.heap.size + 1) (w.alloc (.cells (KV (cs false S) (cs true S) (smb S) (.slice A1 n1 c1) (.slice A2 30 c2) (.slice A3 N c3)) 94)) W → ∀ q, Calls Tryz.prog 59 #[.slice (some ⟨w.heap.size, 286, none⟩) 30 30, .slice A2 30 c2] (W.drewN q) fun e w' => e = .returned (.int .i64 (M.sm (fun i => cs true S i * l2 i) 30 : Nat)) ∧ w' = W.drewN q from fun W b q => by
    have hk : Kd W w.heap.size (cs false S) (cs true S) (smb S) (.slice A1 n1 c1) (.slice A2 30 c2) (.slice A3 N c3) := (Kd.new w _ _ _ _ _ _).below (b.mono (by simp))
    exact weighp_any _ _ 30 30 30 c2 (cs true S) l2 (W.drewN q) (hk.numsd.drewN q) ((H2.below (HB0.out.trans (b.mono (by omega)))).drewN q) (by omega) (by omega) (fun i => Nat.le_trans (cs_le true S i) hS) hl2)
  have H3' := Lib.hid H3
  have hT2 : ∀ k, szc (T.take k) ≤ 255000 := fun k => by
    have h := szc_le (l := T.take k) (fun c hc => hT c (List.mem_of_mem_take hc))
    have : (T.take k).length ≤ 1000 := by rw [List.length_take, H3.leng]; omega
    omega
  have HT2 := Lib.hid hT2
  have HTg := Lib.hid (show ∀ k, k < N → (T.getD k default).2 ≤ 255 from fun k hk => hT _ (by rw [List.getD, List.getElem?_eq_getElem (by rw [H3.leng]; exact hk)]; exact List.getElem_mem _))
  have HLen := Lib.hid H3.leng
  have e1 : M.sm (fun i => cs false S i * l1 i) 286 ≤ 286 * 51000255 := sm_cap 286 (fun i _ => Nat.mul_le_mul (Nat.le_trans (cs_le false S i) hS) (hl1 i))
  have e2 : M.sm (fun i => cs true S i * l2 i) 30 ≤ 30 * 51000255 := sm_cap 30 (fun i _ => Nat.mul_le_mul (Nat.le_trans (cs_le true S i) hS) (hl2 i))
  obtain ⟨X1, hX1⟩ : ∃ X1, M.sm (fun i => cs false S i * l1 i) 286 = X1 := ⟨_, rfl⟩
  obtain ⟨X2, hX2⟩ : ∃ X2, M.sm (fun i => cs true S i * l2 i) 30 = X2 := ⟨_, rfl⟩
  obtain ⟨b, hb⟩ : ∃ b, smb S = b := ⟨_, rfl⟩
  rw [hX1] at HW1 e1
  rw [hX2] at HW2 e2
  rw [hb] at HK HB0 HW1 HW2 hSb
  rw [hX1, hX2, hb]
  clear H1 H2 H3 hT hT2 hl1 hl2 hX1 hX2 hb h1 hS
  go_enter Tryz.func42, Tryz.ntmps42
  have k9 := HK.out.at3
  go_wp2_with fail
  go_loopw [3, 9] (fun s x wr => ∃ k : Nat, k ≤ N ∧ x = .int .i64 k ∧ s = .int .i64 (3 + szc (T.take k) : Nat) ∧ Below (w.heap.size + 1) (w.alloc (.cells (KV (cs false S) (cs true S) b (.slice A1 n1 c1) (.slice A2 30 c2) (.slice A3 N c3)) 94)) wr) (fun _ x _ => N - (intOf x).toNat)
  case atStart => exact ⟨0, Nat.zero_le _, rfl, rfl, Below.refl _ _⟩
  case round =>
    obtain ⟨k, hk, rfl, rfl, hb⟩ := hrel
    by_cases hlt : k < N
    · have d1 : decide ((k : Int) < (N : Int)) = true := decide_eq_true (by omega)
      have d1' : decide (k < N) = true := decide_eq_true hlt
      obtain ⟨b3, o3, rfl, hb3, hc3⟩ := H3'.out.at (by omega)
      obtain ⟨g0, g1⟩ := hc3 k hlt
      have hbw : Below w.heap.size w wr := HB0.out.trans (hb.mono (by omega))
      have c0 := (hbw.cell (p := ⟨b3, o3 + k * 2, none⟩) hb3).trans g0
      have y1 := (hbw.cell (p := ⟨b3, o3 + k * 2 + 1, none⟩) hb3).trans g1
      have hz := HTg.out k hlt
      have hs := szc_succ T k (by rw [HLen.out]; exact hlt)
      have hc := HT2.out k
      obtain ⟨t, ht⟩ : ∃ t, T.getD k default = t := ⟨_, rfl⟩
      rw [ht] at c0 y1 hz hs
      obtain ⟨t0, t1⟩ := t
      simp only at c0 y1 hz hs
      obtain ⟨s, hse⟩ : ∃ s, szc (T.take k) = s := ⟨_, rfl⟩
      rw [hse] at hs hc
      simp only [hse]
      have HS := Lib.hid hs
      have HB := Lib.hid hb
      have hk2 : k ≤ 1000 := by omega
      clear hb hbw hc3 hs ht hse g0 g1
      go_wp2_with fail
      go_roundw
      case rel => exact ⟨k + 1, by omega, by go_num, by rw [HS.out]; go_num, HB.out.alloc (by have := HB.out.size; simp at this; omega) _⟩
      case measure => (simp [intOf]; try omega)
    · obtain rfl : k = N := by omega
      have d1 : decide ((k : Int) < (k : Int)) = false := decide_eq_false (by omega)
      have d1' : decide (k < k) = false := decide_eq_false (by omega)
      have kd := HK.out.below (hb.mono (by simp))
      have k7 := kd.at1
      have k8 := kd.at2
      have k6 := kd.bits
      have hc := HT2.out k
      rw [List.take_of_length_le (by rw [HLen.out]; exact Nat.le_refl _)] at hc
      simp only [List.take_of_length_le (show T.length ≤ k by rw [HLen.out]; exact Nat.le_refl _)]
      obtain ⟨s, hse⟩ : ∃ s, szc T = s := ⟨_, rfl⟩
      rw [hse] at hc
      simp only [hse]
      have HSe := Lib.hid (show ((3 + szc T + (X1 + X2) + b : Nat) : Int) = 3 + (s : Int) + ((X1 : Int) + (X2 : Int)) + (b : Int) by rw [hse]; omega)
      have HBw := Lib.hid (HB0.out.trans (hb.mono (by omega)))
      have HQ1 := Lib.hid (HW1.out wr hb)
      have HQ2 := Lib.hid (HW2.out wr hb)
      clear kd hb hse
      go_wp2_with fail
      go_quiet (first
        | (go_at_call 59; with_reducible refine Calls.quiet_of_same (HQ1.out _))
        | (go_at_call 59; with_reducible refine Calls.quiet_of_same (HQ2.out _)))
      go_wp2_with fail
      go_ret
      exact ⟨by rw [HSe.out]; rfl, below_drewN HBw.out nq⟩
end Go.Proofs.YtlanibgeafdefaaGreatDoor.V

namespace Go.Proofs.YtlanibgeafdefaaGreatDoor.V
open Go Go.RowKit M U
set_option linter.unusedVariables false
set_option maxRecDepth 1000000
set_option linter.unusedSimpArgs false
attribute [local go_sem] Oper.semAt_some
abbrev Pz := { x : ByteArray × Bool // x.1.size ≤ 65535 }
def encZ (x : Pz) : Array Value := #[.string x.1.1, .bool x.1.2]
def pcs (s : ByteArray) : List Pz :=
  if h : s.size ≤ 65535 then [⟨(s, true), h⟩] else ⟨(s.extract 0 65535, false), by simp only [ByteArray.size_extract]; omega⟩ :: pcs (s.extract 65535 s.size)
termination_by s.size
decreasing_by
  rw [ByteArray.size_extract]
  omega
theorem pcs_one {s : ByteArray} (h : s.size ≤ 65535) : pcs s = [⟨(s, true), h⟩] := by rw [pcs, dif_pos h]
theorem pcs_more {s : ByteArray} (h : ¬ s.size ≤ 65535) : pcs s = ⟨(s.extract 0 65535, false), by simp only [ByteArray.size_extract]; omega⟩ :: pcs (s.extract 65535 s.size) := by rw [pcs, dif_neg h]
theorem pcs_len (s : ByteArray) : (pcs s).length ≤ s.size / 65535 + 1 := by
  generalize hn : s.size = n
  induction n using Nat.strongRecOn generalizing s with
  | _ n ih =>
    by_cases h : s.size ≤ 65535
    · rw [pcs_one h]; simp
    · rw [pcs_more h, List.length_cons]
      have := ih (n - 65535) (by omega) (s.extract 65535 s.size) (by rw [ByteArray.size_extract]; omega)
      omega
def stp (last : Bool) : Nat → List Pz → List Nat
  | _, [] => []
  | o, x :: l => stb o x.1.1 (last && x.1.2) ++ stp last (o + (stb o x.1.1 (last && x.1.2)).length) l
theorem stp_snoc (last : Bool) (x : Pz) : ∀ (l : List Pz) (o : Nat), stp last o (l ++ [x]) = stp last o l ++ stb (o + (stp last o l).length) x.1.1 (last && x.1.2)
  | [], o => by simp [stp]
  | y :: l, o => by
    simp only [List.cons_append, stp, stp_snoc last x l]
    rw [List.append_assoc, List.length_append, Nat.add_assoc]
theorem stp_pcs (last : Bool) (s : ByteArray) (o : Nat) : stp last o (pcs s) = stm o s last := by
  generalize hn : s.size = n
  induction n using Nat.strongRecOn generalizing s o with
  | _ n ih =>
    by_cases h : s.size ≤ 65535
    · rw [pcs_one h, stm_one h]; simp [stp]
    · rw [pcs_more h, stm_more h]
      simp only [stp, Bool.and_false]
      rw [ih (n - 65535) (by omega) (s.extract 65535 s.size) _ (by rw [ByteArray.size_extract]; omega)]
theorem stp_le (last : Bool) : ∀ (l : List Pz) (o : Nat), (stp last o l).length ≤ 524322 * l.length
  | [], o => by simp [stp]
  | x :: l, o => by
    have := stp_le last l (o + (stb o x.1.1 (last && x.1.2)).length)
    have h := x.2
    have hp : pd (o + 3) ≤ 7 := by unfold pd; omega
    simp only [stp, List.length_append, List.length_cons]
    rw [stb_length] at *
    omega
set_option maxHeartbeats 4000000 in
theorem pieces1_in (m l Bs : Nat) (s : ByteArray) (hm : 1 ≤ m) (hs : s.size ≤ 1000000) (Kp : World → World → Prop) (W0 : World) (J Jx : List Pz → World → Prop)
    (hY : ∀ pre x W, J pre W → pre.length < (pcs s).length → YieldAt Fence.wide (m - 1) Tryz.prog l (encZ x) W fun e W' =>
      (e = .returned (.bool true) ∧ J (pre ++ [x]) W' ∧ Kp W W') ∨ (e = .returned (.bool false) ∧ Jx (pre ++ [x]) W'))
    (hBs : W0.cell? ⟨Bs, 0, none⟩ = some (.string s)) (h0 : J [] W0) :
    CallsIn Fence.wide m Tryz.prog 71 #[.func (.yield l) #[] #[], .pointer (some ⟨Bs, 0, none⟩)] W0 fun e W' => (∃ v, e = .returned v) ∧
      ((∃ ys : List Pz, ys = pcs s ∧ J ys W') ∨ (∃ pre : List Pz, (∃ r, pre ++ r = pcs s) ∧ Jx pre W')) := by
  refine callsIn_of_wp Tryz.func71 rfl trivial ?_ rfl
  simp only [Tryz.ntmps71, List.size_toArray, List.length_cons, List.length_nil, Nat.reduceAdd, Nat.reduceSub, Array.replicate_succ, Array.replicate_zero, List.push_toArray, List.append_toArray, List.nil_append, List.cons_append]
  have HY := Lib.hid hY
  clear hY
  gi_wp2
  gi_loopw [3] (fun v wr => ∃ (t : ByteArray) (pre : List Pz), v = .string t ∧ t.size ≤ 1000000 ∧ pre ++ pcs t = pcs s ∧ J pre wr)
    (fun v _ => match v with | .string t => t.size | _ => 0)
  case atStart => exact ⟨s, [], rfl, hs, rfl, h0⟩
  case round =>
    obtain ⟨t, pre, rfl, ht, hp, hJs⟩ := hrel
    by_cases hlt : t.size ≤ 65535
    · have d1 : decide ((65535 : Int) < (t.size : Int)) = false := decide_eq_false (by omega)
      have d1' : decide (65535 < t.size) = false := decide_eq_false (by omega)
      rw [pcs_one hlt] at hp
      obtain ⟨fn, tmps, asg, body, hy, hR⟩ := HY.out pre ⟨(t, true), hlt⟩ wr hJs (by rw [← hp]; simp)
      unfold encZ at hy
      dsimp only at hy
      have HP := Lib.hid hp
      clear hp hJs h0
      gi_wp2
      refine hR.mono ?_
      rintro e W3 (⟨rfl, hJ3, hk3⟩ | ⟨rfl, hJx3⟩)
      · gi_wp2
        go_end0
        exact ⟨⟨_, rfl⟩, .inl ⟨_, HP.out, hJ3⟩⟩
      · gi_wp2
        go_end0
        exact ⟨⟨_, rfl⟩, .inr ⟨_, ⟨[], by rw [List.append_nil]; exact HP.out⟩, hJx3⟩⟩
    · have d1 : decide ((65535 : Int) < (t.size : Int)) = true := decide_eq_true (by omega)
      have d1' : decide (65535 < t.size) = true := decide_eq_true (by omega)
      have hts : 65535 ≤ t.size := by omega
      rw [pcs_more hlt] at hp
      obtain ⟨fn, tmps, asg, body, hy, hR⟩ := HY.out pre ⟨(t.extract 0 65535, false), by simp only [ByteArray.size_extract]; omega⟩ wr hJs (by rw [← hp]; simp)
      unfold encZ at hy
      dsimp only at hy
      have HP := Lib.hid hp
      clear hp hJs h0
      gi_wp2
      refine hR.mono ?_
      rintro e W3 (⟨rfl, hJ3, hk3⟩ | ⟨rfl, hJx3⟩)
      · gi_wp2
        go_roundw
        case rel => exact ⟨t.extract 65535 t.size, _, rfl, by rw [ByteArray.size_extract]; omega, by rw [List.append_assoc]; exact HP.out, hJ3⟩
        case measure => (simp; try omega)
      · gi_wp2
        refine bodyPost_ret (results_none rfl _ _ _) rfl ?_
        exact ⟨⟨_, rfl⟩, .inr ⟨_, ⟨_, by rw [List.append_assoc]; exact HP.out⟩, hJx3⟩⟩
theorem pieces_any (s : ByteArray) (w : World) : Calls Tryz.prog 54 #[.string s] w fun e w' =>
    e = .returned (.func (.func 71) #[] #[.pointer (some ⟨w.heap.size, 0, none⟩)]) ∧ w' = w.alloc (.cells #[.string s] 9) := by
  go_enter Tryz.func54, Tryz.ntmps54
  go_wp2
  go_ret
  exact ⟨by simp, rfl⟩
theorem pieces_stops (m Bs : Nat) (s : ByteArray) (hm : 1 ≤ m) (hs : s.size ≤ 1000000) (Kp : World → World → Prop) (w : World) (hBs : w.cell? ⟨Bs, 0, none⟩ = some (.string s)) :
    SeqStopsK Fence.wide m Tryz.prog 71 #[.pointer (some ⟨Bs, 0, none⟩)] encZ Kp (fun ys => ys = pcs s) (fun pre => ∃ r, pre ++ r = pcs s) (pcs s).length w := fun l J Jx W hW hJ _ hY h0 =>
  pieces1_in m l Bs s hm hs Kp W J Jx hY ((hW.cell (p := ⟨Bs, 0, none⟩) (World.block_lt_of_cell? _ _ hBs)).trans hBs) h0
end Go.Proofs.YtlanibgeafdefaaGreatDoor.V

namespace Go.Proofs.YtlanibgeafdefaaGreatDoor.V
open Go Go.RowKit M U
set_option linter.unusedVariables false
set_option maxRecDepth 1000000
set_option linter.unusedSimpArgs false
attribute [local go_sem] Oper.semAt_some
def MidZ (w2 : World) (E n₁ o : Nat) (pre : List Pz) (W : World) : Prop :=
  W.heap[E]? = some (.cells #[.int .i64 ((o + (stp false o pre).length : Nat) : Int)] 3 (0, 0)) ∧ Kept (Sx E E n₁) w2 W
theorem MidZ.own {w2 : World} {E n₁ o : Nat} (h0 : E < n₁) : OwnFrom n₁ (MidZ w2 E n₁ o) := fun pre W W' row hs hg hr => by
  obtain ⟨h1, h2⟩ := hs
  exact ⟨(hg.block E (Array.getElem?_eq_some_iff.1 h1).1 (fun e => by have := (hr E e.symm).1; omega)).trans h1, h2.grown hg (fun r e => .inl (.inr (.inr (hr r e).1)))⟩
set_option maxHeartbeats 4000000 in
theorem sizeStored_any (s : ByteArray) (p : Nat) (w : World) (hs : s.size ≤ 1000000) (hp : p ≤ 1000000) :
    Calls Tryz.prog 40 #[.string s, .int .i64 p] w fun e w' => e = .returned (.int .i64 ((stm (p % 8) s false).length : Nat)) ∧ Below w.heap.size w w' := by
  obtain ⟨o, ho⟩ : ∃ o, p % 8 = o := ⟨_, rfl⟩
  have ho8 : o ≤ 7 := by omega
  have m1 : (p : Int) % 8 = (o : Int) := by omega
  have m2 : (p : Int).tmod 8 = (o : Int) := by rw [Int.tmod_eq_emod_of_nonneg (by omega)]; omega
  have HN := Lib.hid (show (pcs s).length ≤ 17 from by have := pcs_len s; omega)
  have HPc := Lib.hid (show stp false o (pcs s) = stm o s false from stp_pcs false s o)
  rw [ho]
  clear ho
  refine (callsIn_wide (n := 5)).1 ?_
  refine callsIn_of_wp_marks Tryz.func40 rfl trivial ?_ rfl
  simp only [Tryz.ntmps40, List.size_toArray, List.length_cons, List.length_nil, Nat.reduceAdd, Nat.reduceSub, Array.replicate_succ, Array.replicate_zero, List.push_toArray, List.append_toArray, List.nil_append, List.cons_append]
  gi_wp2_with (refine ⟨trivial, ?_⟩; gi_at_call 54; refine (callsIn_wide.2 (pieces_any _ _)).mono ?_; rintro e w' ⟨rfl, rfl⟩)
  have hz2 : ((w.alloc (.cells #[.int .i64 o] 3)).alloc (.cells #[.string s] 9)).heap.size = w.heap.size + 1 + 1 := by simp
  have hb2 : Below w.heap.size w ((w.alloc (.cells #[.int .i64 o] 3)).alloc (.cells #[.string s] 9)) := ((Below.refl _ w).alloc (Nat.le_refl _) _).alloc (by simp) _
  have g0 : ((w.alloc (.cells #[.int .i64 o] 3)).alloc (.cells #[.string s] 9)).heap[w.heap.size]? = some (.cells #[.int .i64 o] 3 (0, 0)) := old_at _ (new_at _ _)
  have g1 : ((w.alloc (.cells #[.int .i64 o] 3)).alloc (.cells #[.string s] 9)).heap[w.heap.size + 1]? = some (.cells #[.string s] 9 (0, 0)) := by
    have := new_at (w.alloc (.cells #[.int .i64 o] 3)) (.cells #[.string s] 9)
    rw [World.size_alloc] at this; exact this
  obtain ⟨w2, hw2⟩ : ∃ w2, (w.alloc (.cells #[.int .i64 o] 3)).alloc (.cells #[.string s] 9) = w2 := ⟨_, rfl⟩
  rw [hw2] at hz2 hb2 g0 g1 ⊢
  clear hw2
  have HB2 := Lib.hid hb2
  have hEw : w.heap.size < w2.heap.size := by omega
  have HFd := Lib.hid (show ∀ W, Kept (Sx w.heap.size w.heap.size w2.heap.size) w2 W → Below w.heap.size w W from fun W hk =>
    HB2.out.trans (hk.below (by omega) (fun j hj => by rcases hj with hj | hj | hj <;> omega)))
  clear hb2 hz2 m1 m2
  refine wpIn_rangeFunc_ownF rfl (by omega) (gf := 71) (lb := #[.pointer (some ⟨w.heap.size + 1, 0, none⟩)]) rfl trivial (enters_of Tryz.func71 (by kernel_rfl) rfl)
    (pieces_stops 4 (w.heap.size + 1) s (by omega) hs (Kept (Sx w.heap.size w.heap.size w2.heap.size)) w2 (one_cell g1))
    (fun h k => keptSx_t h k) (fun W l o o' hl h _ _ => keptSx_b W l o o' hl h) (Below.refl _ _) (fun _ => rfl)
    (MidZ w2 w.heap.size w2.heap.size o) (fun _ _ _ => False) (MidZ.own hEw) (fun _ _ _ _ _ hs _ _ => hs)
    ⟨by simpa [stp] using g0, Kept.refl _ _⟩
    (fun x => { tmps := #[.string s, .int .i64 p, undef, undef, .int .i64 0, .int .i64 o, .pointer (some ⟨w.heap.size, 0, none⟩), .string x.1.1, .int .i64 p, .int .i64 o, .int .i64 o, .string s, .func (.func 71) #[] #[.pointer (some ⟨w.heap.size + 1, 0, none⟩)], .string x.1.1, .bool x.1.2, undef, undef, undef, undef, undef, undef, undef, undef, undef, undef, undef, undef, undef, undef, undef, undef, undef], defers := [] })
    ?assign ?body ?done ?stop
  case assign =>
    intro l x W K hK
    unfold encZ
    gi_wp2
    exact hK
  case body =>
    rintro l pre x W ⟨hm1, hm2⟩ hlt
    obtain ⟨⟨t, lb⟩, ht⟩ := x
    have hsn := stp_snoc false ⟨(t, lb), ht⟩ pre o
    have hle := stp_le false pre o
    have hN := HN.out
    simp only at ht
    have hlen : (stp false o (pre ++ [⟨(t, lb), ht⟩])).length = (stp false o pre).length + (3 + pd (o + (stp false o pre).length + 3) + 32 + t.size * 8) := by
      rw [hsn, List.length_append, stb_length]
    obtain ⟨e, he⟩ : ∃ e, o + (stp false o pre).length = e := ⟨_, rfl⟩
    have hMid : ∀ W', W'.heap[w.heap.size]? = some (.cells #[.int .i64 ((e + 3 + pd (e + 3) + (32 + 8 * t.size) : Nat) : Int)] 3 (0, 0)) → Kept (Sx w.heap.size w.heap.size w2.heap.size) w2 W' → MidZ w2 w.heap.size w2.heap.size o (pre ++ [⟨(t, lb), ht⟩]) W' := fun W' h1 h2 => ⟨by
      rw [hlen]
      rw [he]
      rw [show o + ((stp false o pre).length + (3 + pd (e + 3) + 32 + t.size * 8)) = e + 3 + pd (e + 3) + (32 + 8 * t.size) by omega]
      exact h1, h2⟩
    have HMid := Lib.hid hMid
    rw [he] at hm1
    have he2 : e ≤ 10000000 := by omega
    have s0 := one_cell hm1
    have f0 := one_free hm1
    have H1 := Lib.hid hm1
    have H2 := Lib.hid hm2
    obtain ⟨q, hq⟩ : ∃ q, pd (e + 3) = q := ⟨_, rfl⟩
    have hq7 : q ≤ 7 := by rw [← hq]; unfold pd; omega
    obtain ⟨r, hr⟩ : ∃ r, (e + 3) % 8 = r := ⟨_, rfl⟩
    have r1 : ((e : Int) + 3) % 8 = (r : Int) := by omega
    have r2 : ((e : Int) + 3).tmod 8 = (r : Int) := by rw [Int.tmod_eq_emod_of_nonneg (by omega)]; omega
    have r3 : ((8 : Int) - (r : Int)) % 8 = (q : Int) := by rw [← hq]; unfold pd; omega
    have r4 : ((8 : Int) - (r : Int)).tmod 8 = (q : Int) := by rw [Int.tmod_eq_emod_of_nonneg (by omega)]; rw [← hq]; unfold pd; omega
    have hr7 : r ≤ 7 := by omega
    rw [hq] at HMid
    dsimp only
    clear hm1 hm2 hsn hle hlen hMid he hq hr hN g0 g1 hlt
    gi_wp2
    exact ⟨((KeepsOthers.setCell _ _ _).trans (KeepsOthers.setCell _ _ _)).trans (KeepsOthers.setCell _ _ _), (((Kept.refl _ W).setCell ⟨w.heap.size, 0, none⟩ (.inl (.inl rfl)) _).setCell ⟨w.heap.size, 0, none⟩ (.inl (.inl rfl)) _).setCell ⟨w.heap.size, 0, none⟩ (.inl (.inl rfl)) _, HMid.out _ (one_set (one_set (one_set H1.out _) _) _) (((H2.out.setCell ⟨w.heap.size, 0, none⟩ (.inl (.inl rfl)) _).setCell ⟨w.heap.size, 0, none⟩ (.inl (.inl rfl)) _).setCell ⟨w.heap.size, 0, none⟩ (.inl (.inl rfl)) _)⟩
  case done =>
    rintro D ys W hD rfl ⟨hm1, hm2⟩ hK
    rw [HPc.out] at hm1
    have s0 := one_cell hm1
    have HKd := Lib.hid hK
    have HB := Lib.hid (HFd.out W hm2)
    have hle := stp_le false (pcs s) o
    rw [HPc.out] at hle
    have hN := HN.out
    obtain ⟨Z, hZ⟩ : ∃ Z, (stm o s false).length = Z := ⟨_, rfl⟩
    rw [hZ] at s0 hle
    have hZ2 : Z ≤ 10000000 := by omega
    have HZe := Lib.hid hZ
    clear hm1 hm2 hK hZ hle hN g0 g1
    gi_wp2
    have hK' := HKd.out
    refine ⟨by simp, .inl ⟨_, _, rfl, run_takeDeferred hK', ?_⟩⟩
    exact ⟨_, results_tmp rfl _ _ _, by rw [HZe.out, show (o : Int) + (Z : Int) - (o : Int) = (Z : Int) by omega]; rfl, HB.out.trans (belowK_b (w := w) (Nat.le_refl _) _ D _ _ (by omega) hK' rfl rfl)⟩
  case stop =>
    rintro D c pre W _ _ h _
    exact h.elim
end Go.Proofs.YtlanibgeafdefaaGreatDoor.V

namespace Go.Proofs.YtlanibgeafdefaaGreatDoor.V
open Go Go.RowKit M U
set_option linter.unusedVariables false
set_option maxRecDepth 1000000
set_option linter.unusedSimpArgs false
theorem wgh_csize (l1 l2 : Nat → Nat) {S : List Sy} (h : ∀ y ∈ S, (y.d = false → y.n < 286) ∧ (y.d = true → y.n < 30)) : M.sm (fun i => cs false S i * l1 i) 286 + M.sm (fun i => cs true S i * l2 i) 30 + smb S = wgh l1 l2 S := by
  rw [wgh_parts l1 l2 S h]
  congr 2
  · exact M.sm_congr _ (fun i _ => Nat.mul_comm _ _)
  · exact M.sm_congr _ (fun i _ => Nat.mul_comm _ _)
theorem smb_sys {L : List Tk} {n : Nat} (hl : L.length = n) (hn : n ≤ 100000) (hm : ∀ t ∈ L, may t = true) : (sys L).length ≤ 200001 ∧ smb (sys L) ≤ 3000000 := by
  have h1 := sys_len L
  have h2 := smb_le (S := sys L) (fun y hy => (sys_b hm y hy).1)
  omega
set_option maxHeartbeats 4000000 in
theorem size_gen (k : Nat) (A : Option Addr) (n c : Nat) (L : List Tk) (raw : ByteArray) (p : Nat) (n1 : Nat) (l1 l2 : Nat → Nat) (T : List Cd) (w : World) (hk0 : k ≠ 0) (hk2 : k ≤ 2) (hL : IsTks w A n L) (hn : n ≤ 100000) (hr : raw.size ≤ 1000000) (hp : p ≤ 1000000) (hm : ∀ t ∈ L, may t = true)
    (HC : ∀ w1, Below w.heap.size w w1 → Calls Tryz.prog 41 #[.int .u8 k, .slice A n c] w1 (CodedP w1 (sys L) n1 l1 l2 T)) (h1 : 286 ≤ n1) (hT : T.length ≤ 1000 ∧ ∀ c ∈ T, c.2 ≤ 255) (hl1 : ∀ i, l1 i ≤ 255) (hl2 : ∀ i, l2 i ≤ 255) :
    Calls Tryz.prog 28 #[.int .u8 k, .slice A n c, .string raw, .int .i64 p] w fun e w' => e = .returned (.tuple #[.int .i64 ((3 + szc T + wgh l1 l2 (sys L) : Nat) : Int), .int .i64 0]) ∧ Below w.heap.size w w' := by
  have hz := kdZero
  have hrf := refuse_any k A n c L raw p w hL hn hr (by omega) (by omega)
  rw [show rfs k L = 0 by unfold rfs; rw [if_neg (by rw [allMay_yes hm]; simp; omega)]] at hrf
  have HR := Lib.hid hrf
  have HCo := Lib.hid HC
  obtain ⟨hs1, hs2⟩ := smb_sys hL.leng hn hm
  have hin := sys_in hm hL.good
  have hw := wgh_csize l1 l2 hin
  obtain ⟨S, hS⟩ : ∃ S, sys L = S := ⟨_, rfl⟩
  rw [hS] at HCo hs1 hs2 hw
  have HSz := Lib.hid (fun (A1 A2 A3 : Option Addr) (c1 c2 c3 : Nat) (w : World) (q1 : Nums w .u8 A1 n1 (fun i => (l1 i : Int))) (q2 : Nums w .u8 A2 30 (fun i => (l2 i : Int))) (q3 : IsCds w A3 T.length T) => csize_any S A1 A2 A3 n1 c1 c2 T.length c3 l1 l2 T w hs1 hs2 q1 q2 q3 h1 hT.1 hT.2 hl1 hl2)
  rw [show (3 + szc T + (M.sm (fun i => cs false S i * l1 i) 286 + M.sm (fun i => cs true S i * l2 i) 30) + smb S : Nat) = 3 + szc T + wgh l1 l2 S by rw [← hw]; omega] at HSz
  rw [hS]
  obtain ⟨Z, hZ⟩ : ∃ Z, 3 + szc T + wgh l1 l2 S = Z := ⟨_, rfl⟩
  rw [hZ] at HSz ⊢
  have HSt := Lib.hid (fun (w1 : World) (A1 A2 A3 : Option Addr) (c1 c2 c3 : Nat) => by
    have h := (Kd.new w1 (fun _ => 0) (fun _ => 0) 0 (.slice none 0 0) (.slice none 0 0) (.slice none 0 0)).store (cs false S) (cs true S) (smb S) (.slice A1 n1 c1) (.slice A2 30 c2) (.slice A3 T.length c3) rfl rfl rfl
    rw [World.setRow_alloc_new] at h
    exact h)
  have HLd := Lib.hid (fun (w1 : World) (A1 A2 A3 : Option Addr) (c1 c2 c3 : Nat) => (Kd.new w1 (cs false S) (cs true S) (smb S) (.slice A1 n1 c1) (.slice A2 30 c2) (.slice A3 T.length c3)).load)
  have e1 : ((k : Int) == 0) = false := by rw [beq_eq_false_iff_ne]; omega
  have e2 : decide ((k : Int) = 0) = false := decide_eq_false (by omega)
  unfold CodedP at HCo
  clear hrf HC hL hm hin hw hS hZ hs1 hs2 hT hl1 hl2 h1
  go_enter Tryz.func28, Tryz.ntmps28
  go_wp2_with (first
    | (go_at_call 39; (with_reducible refine HR.out.mono ?_); rintro e w1 ⟨rfl, b1⟩; have B1 := Lib.hid b1; clear b1)
    | (go_at_call 41; (with_reducible refine (HCo.out _ B1.out).mono ?_); rintro e w2 ⟨A1, c1, A2, c2, A3, c3, rfl, q1, q2, q3, b2, -, -⟩
       have bb : Below w2.heap.size w2 (w2.alloc (.cells (KV (cs false S) (cs true S) (smb S) (.slice A1 n1 c1) (.slice A2 30 c2) (.slice A3 T.length c3)) 94)) := (Below.refl _ _).alloc (Nat.le_refl _) _
       have Q1 := Lib.hid (q1.below bb)
       have Q2 := Lib.hid (q2.below bb)
       have Q3 := Lib.hid (q3.below bb)
       have B2 := Lib.hid ((B1.out.trans (b2.mono B1.out.size)).trans (bb.mono (B1.out.trans (b2.mono B1.out.size)).size))
       clear q1 q2 q3 b2 bb)
    | refine wpList_rstore rfl 94 _ _ rfl _ _ rfl _ rfl (HSt.out _ _ _ _ _ _ _) ?_
    | refine wpList_rload rfl 94 _ rfl _ _ rfl _ (HLd.out _ _ _ _ _ _ _) ?_
    | (go_at_call 42; (with_reducible refine (HSz.out _ _ _ _ _ _ _ Q1.out Q2.out Q3.out).mono ?_); rintro e w3 ⟨rfl, b3⟩; have B3 := Lib.hid (B2.out.trans (b3.mono B2.out.size)); clear b3))
  exact bodyPost_ret (v := .tuple #[.int .i64 Z, .int .i64 0]) (by simp [results, Tryz.results28, go_sem]) rfl ⟨rfl, B3.out⟩
theorem bkm_one (L : List Tk) (raw : ByteArray) (last : Bool) (o : Nat) : bkm 1 L raw last o = hdb 1 last ++ sfx L := rfl
theorem bkm_two (L : List Tk) (raw : ByteArray) (last : Bool) (o : Nat) : bkm 2 L raw last o = hdb 2 last ++ hdd L ++ sbs L := rfl
theorem size_p (k : Nat) (A : Option Addr) (n c : Nat) (L : List Tk) (raw : ByteArray) (p : Nat) (w : World) (H : Tabs w) (hL : IsTks w A n L) (hn : n ≤ 100000) (hr : raw.size ≤ 1000000) (hp : p ≤ 1000000) (hk : k ≤ 2) (hm : k ≠ 0 → ∀ t ∈ L, may t = true) :
    Calls Tryz.prog 28 #[.int .u8 k, .slice A n c, .string raw, .int .i64 p] w fun e w' => e = .returned (.tuple #[.int .i64 ((bkm k L raw false (p % 8)).length : Nat), .int .i64 0]) ∧ Below w.heap.size w w' := by
  by_cases h0 : k = 0
  · subst h0
    have hrf := refuse_any 0 A n c L raw p w hL hn hr (by omega) (by omega)
    rw [show rfs 0 L = 0 by unfold rfs; rw [if_neg (by omega)]] at hrf
    have HR := Lib.hid hrf
    have HS := Lib.hid (fun w1 => sizeStored_any raw p w1 hr hp)
    show Calls Tryz.prog 28 #[.int .u8 0, .slice A n c, .string raw, .int .i64 p] w fun e w' => e = .returned (.tuple #[.int .i64 ((stm (p % 8) raw false).length : Nat), .int .i64 0]) ∧ Below w.heap.size w w'
    obtain ⟨Z, hZ⟩ : ∃ Z, (stm (p % 8) raw false).length = Z := ⟨_, rfl⟩
    rw [hZ] at HS ⊢
    clear hrf hL hm H hZ
    go_enter Tryz.func28, Tryz.ntmps28
    go_wp2_with (first
      | (go_at_call 39; refine HR.out.mono ?_; rintro e w1 ⟨rfl, b1⟩; have B1 := Lib.hid b1; clear b1)
      | (go_at_call 40; (with_reducible refine (HS.out _).mono ?_); rintro e w2 ⟨rfl, b2⟩; have B2 := Lib.hid (B1.out.trans (b2.mono B1.out.size)); clear b2))
    exact bodyPost_ret (v := .tuple #[.int .i64 Z, .int .i64 0]) (by simp [results, Tryz.results28, go_sem]) rfl ⟨rfl, B2.out⟩
  · have hm' := hm h0
    by_cases h1 : k = 1
    · subst h1
      have h := size_gen 1 A n c L raw p 288 fxl (fun _ => 5) [] w (by omega) (by omega) hL hn hr hp hm' (fun w1 b => coded_fixed A n c L w1 (H.keep b).2 (hL.below b) hn hm') (by omega) ⟨by simp, fun c hc => absurd hc (by simp)⟩ (fun i => Nat.le_trans (fxl_in i).2 (by omega)) (fun _ => by omega)
      rw [bkm_one, List.length_append, hdb_length]
      unfold sfx
      rw [flat_len]
      exact h
    · obtain rfl : k = 2 := by omega
      have ht := tbl_small L
      have h := size_gen 2 A n c L raw p 286 (ll1 L) (ll2 L) (tbl (lx1 L) (lx2 L)) w (by omega) (by omega) hL hn hr hp hm' (fun w1 b => coded_best A n c L w1 (H.keep b) (hL.below b) hn hm') (by omega) ⟨ht.1, fun c hc => Nat.le_trans (ht.2 c hc).1 (by omega)⟩ (fun i => Nat.le_trans (hfl_le _ (by omega) (by decide) i) (by omega)) (fun i => Nat.le_trans (hfl_le _ (by omega) (by decide) i) (by omega))
      rw [← cbs_len, tbl_hdd] at h
      rw [bkm_two, List.length_append, List.length_append, hdb_length]
      unfold sbs
      rw [flat_len]
      exact h
theorem size_n (k : Nat) (A : Option Addr) (n c : Nat) (L : List Tk) (raw : ByteArray) (p : Nat) (w : World) (hL : IsTks w A n L) (hn : n ≤ 100000) (hr : raw.size ≤ 1000000) (hp : p ≤ 1000000) (hk : k ≤ 255) (hb : 2 < k ∨ (k ≠ 0 ∧ ∃ i, i < n ∧ may (L.getD i default) = false)) :
    Calls Tryz.prog 28 #[.int .u8 k, .slice A n c, .string raw, .int .i64 p] w fun e w' => e = .returned (.tuple #[.int .i64 0, .int .i64 2]) ∧ Below w.heap.size w w' := by
  have hrf := refuse_any k A n c L raw p w hL hn hr (by omega) hk
  rw [show rfs k L = 2 by
    unfold rfs
    rw [if_pos]
    rcases hb with h | ⟨h1, h2⟩
    · exact .inl h
    · exact .inr ⟨h1, allMay_no hL.leng h2⟩] at hrf
  have HR := Lib.hid (show Calls Tryz.prog 39 #[.int .u8 k, .slice A n c, .string raw, .int .i64 p] w fun e w' => e = .returned (.int .i64 2) ∧ Below w.heap.size w w' from hrf)
  clear hrf hL hb
  go_enter Tryz.func28, Tryz.ntmps28
  go_wp2_with (go_at_call 39; (with_reducible refine HR.out.mono ?_); rintro e w1 ⟨rfl, b1⟩; have B1 := Lib.hid b1; clear b1)
  exact bodyPost_ret (v := .tuple #[.int .i64 0, .int .i64 2]) (by simp [results, Tryz.results28, go_sem]) rfl ⟨rfl, B1.out⟩
theorem order_n (w : World) : Calls Tryz.prog 100 #[] w fun e w' => ∃ A c, e = .returned (.slice A 19 c) ∧ Nums w' .u8 A 19 (fun i => ((ord.getD i 0 : Nat) : Int)) ∧ Below w.heap.size w w' :=
  (order_p w).mono fun e w' ⟨h1, h2, h3⟩ => ⟨_, 19, h1, IsBys.nums' h2, h3⟩
theorem bks : Bks Tabs where
  keep := fun h b => h.keep b
  fixed := fun w _ => fixed_p w
  order := fun w _ => order_n w
  size := fun k A n c L raw p w H hL hn hr hp hk hm => size_p k A n c L raw p w H hL hn hr hp hk hm
  sizeNo := fun k A n c L raw p w H hL hn hr hp hk hb => size_n k A n c L raw p w hL hn hr hp hk hb
end Go.Proofs.YtlanibgeafdefaaGreatDoor.V
