/- What does answers: a call of both writers, which answer the same. Conditions: as each theorem names them. -/
import Derived.Test.YtilogllncjlkfaaMix
import Derived.Test.YtilogllncjlkfaaMathR
import Derived.Deep.RegionHeld3
namespace Go.Proofs.Ytilogllncjlkfaa
open Go.RowKit M
set_option linter.unusedVariables false

/-- What a call answers: 4 is Code. -/
def callP (most : Int) (V L : Nat) (c : Cl) : Int × Nat × Nat :=
  if c.d % 8 = 5 then (0, V, alignL L) else if c.d % 8 = 6 ∨ c.d % 8 = 7 then bytesR most V L c.s
  else if c.d % 8 = 4 then bitsR most V L (c.n % 4294967296).toNat (c.z % 256) else bitsR most V L c.n.toNat c.z
theorem callP_5 {most : Int} {V L : Nat} {c : Cl} (h : c.d % 8 = 5) : callP most V L c = (0, V, alignL L) := if_pos h
theorem callP_67 {most : Int} {V L : Nat} {c : Cl} (h : c.d % 8 = 6 ∨ c.d % 8 = 7) : callP most V L c = bytesR most V L c.s := by
  unfold callP; rw [if_neg (by omega), if_pos h]
theorem callP_4 {most : Int} {V L : Nat} {c : Cl} (h : c.d % 8 = 4) : callP most V L c = bitsR most V L (c.n % 4294967296).toNat (c.z % 256) := by
  unfold callP; rw [if_neg (by omega), if_neg (by omega), if_pos h]
theorem callP_0 {most : Int} {V L : Nat} {c : Cl} (h4 : c.d % 8 ≠ 4) (h5 : c.d % 8 ≠ 5) (h6 : c.d % 8 ≠ 6) (h7 : c.d % 8 ≠ 7) : callP most V L c = bitsR most V L c.n.toNat c.z := by
  unfold callP; rw [if_neg h5, if_neg (by omega), if_neg h4]
theorem bitsR_len (most : Int) (V L N : Nat) (z : Int) : (bitsR most V L N z).2.2 ≤ L + 56 := by
  unfold bitsR
  split
  · rename_i h
    split
    · simp only; omega
    · simp only; omega
  · simp only; omega
theorem callP_len (most : Int) (V L : Nat) (c : Cl) : (callP most V L c).2.2 ≤ L + 64 + 8 * c.s.size := by
  unfold callP
  split
  · have := align_lt L; simp only; omega
  · split
    · unfold bytesR
      split
      · have := align_lt L; simp only; omega
      · simp only; omega
    · split
      · have := bitsR_len most V L (c.n % 4294967296).toNat (c.z % 256); omega
      · have := bitsR_len most V L c.n.toNat c.z; omega

variable {B pa px V L : Nat} {m : Int}

set_option maxRecDepth 100000 in
theorem does_5 (w : World) (c : Cl) (h : Mix w B pa px NoB m V L V L) (ok : c.ok) (hL : L ≤ 600000000) (h5 : c.d % 8 = 5) :
    Calls Try.prog 12 #[.pointer (some ⟨pa, 0, none⟩), .pointer (some ⟨px, 0, none⟩), .agg #[.int .u8 c.d, .int .u64 c.n, .int .i64 c.z, .string c.s]] w fun e w' => e = .returned (.bool true) ∧ Mix w' B pa px NoB m V (alignL L) V (alignL L) ∧ Below B w w' := by
  obtain ⟨h2, f2⟩ := h.more (.cells #[.int .u8 c.d, .int .u64 c.n, .int .i64 c.z, .string c.s] 32)
  have H2 := Lib.hid h2
  have B2 := Lib.hid f2.1
  have q0 := ok.d
  have q1 := ok.n
  have q2 := ok.z
  have q3 := ok.s
  have s5 : (c.d % 8 == 5) = true := by simp [h5]
  clear h h2 f2 ok h5
  go_enter Try.func12, Try.ntmps12
  go_wp2_with fail
  refine (H2.out.did_x (fun S hS => ralign_any hS (by omega))).mono ?_; rintro e w3 ⟨rfl, h3, f3⟩
  have H3 := Lib.hid h3
  have B3 := Lib.hid (B2.out.trans f3.1)
  clear h3 f3
  go_wp2_with fail
  refine (H3.out.did_a (fun S hS => align_any hS (by omega)) 0 V (alignL L) rfl).mono ?_; rintro e w4 ⟨rfl, h4, f4⟩
  have H4 := Lib.hid h4
  have B4 := Lib.hid (B3.out.trans f4.1)
  clear h4 f4
  go_wp2_with fail
  go_ret
  exact ⟨rfl, H4.out.less (fun _ g => g.elim), B4.out⟩

set_option maxRecDepth 100000 in
theorem does_0 (w : World) (c : Cl) (h : Mix w B pa px NoB m V L V L) (ok : c.ok) (hL : L ≤ 600000000) (h4 : c.d % 8 ≠ 4) (h5 : c.d % 8 ≠ 5) (h6 : c.d % 8 ≠ 6) (h7 : c.d % 8 ≠ 7) (E : Int) (V1 L1 : Nat) (hE : bitsR m V L c.n.toNat c.z = (E, V1, L1)) :
    Calls Try.prog 12 #[.pointer (some ⟨pa, 0, none⟩), .pointer (some ⟨px, 0, none⟩), .agg #[.int .u8 c.d, .int .u64 c.n, .int .i64 c.z, .string c.s]] w fun e w' => e = .returned (.bool true) ∧ Mix w' B pa px NoB m V1 L1 V1 L1 ∧ Below B w w' := by
  obtain ⟨h2, f2⟩ := h.more (.cells #[.int .u8 c.d, .int .u64 c.n, .int .i64 c.z, .string c.s] 32)
  have p1 : (w.alloc (.cells #[.int .u8 c.d, .int .u64 c.n, .int .i64 c.z, .string c.s] 32)).drew.cell? ⟨w.heap.size, 1, none⟩ = some (.int .u64 c.n) := by simp
  have p2 : (w.alloc (.cells #[.int .u8 c.d, .int .u64 c.n, .int .i64 c.z, .string c.s] 32)).drew.cell? ⟨w.heap.size, 2, none⟩ = some (.int .i64 c.z) := by simp
  have p3 : (w.alloc (.cells #[.int .u8 c.d, .int .u64 c.n, .int .i64 c.z, .string c.s] 32)).drew.cell? ⟨w.heap.size, 3, none⟩ = some (.string c.s) := by simp
  have H2 := Lib.hid h2.drew
  have B2 := Lib.hid f2.1.drew
  have q0 := ok.d
  have q1 := ok.n
  have q2 := ok.z
  have q3 := ok.s
  have s4 : (c.d % 8 == 4) = false := by simp [h4]
  have s5 : (c.d % 8 == 5) = false := by simp [h5]
  have s6 : (c.d % 8 == 6) = false := by simp [h6]
  have s7 : (c.d % 8 == 7) = false := by simp [h7]
  have HE := Lib.hid hE
  clear h h2 f2 ok h4 h5 h6 h7 hE
  go_enter Try.func12, Try.ntmps12
  go_wp2_with fail
  go_region_held3 (fun w' => w'.cell? ⟨w.heap.size, 1, none⟩ = some (.int .u64 c.n) ∧ w'.cell? ⟨w.heap.size, 2, none⟩ = some (.int .i64 c.z)) (first | exact ⟨g1, g2⟩ | exact ⟨e1, e2⟩ | exact ⟨p1, p2⟩) (first
    | (go_at_call 17; refine (H2.out.did_a (fun S hS => bits_any hS c.n c.z q1.1 (by omega)) E V1 L1 HE.out).mono ?_; rintro e w3 ⟨rfl, h3, f3⟩; have e1 := (f3.cell (q := w.heap.size) (Or.inr rfl) 1).trans p1; have e2 := (f3.cell (q := w.heap.size) (Or.inr rfl) 2).trans p2; have H3 := Lib.hid h3; have B3 := Lib.hid (B2.out.trans f3.1); clear h3 f3)
    | (go_at_call 23; refine (H3.out.rid_x (fun S hS => rbits_any hS c.n c.z q1.1 (by omega)) E V1 L1 HE.out).mono ?_; rintro e w4 ⟨rfl, h4, f4⟩; have g1 := (f4.cell (q := w.heap.size) (Or.inr rfl) 1).trans e1; have g2 := (f4.cell (q := w.heap.size) (Or.inr rfl) 2).trans e2; have H4 := Lib.hid h4; have B4 := Lib.hid (B3.out.trans f4.1); clear h4 f4))
  go_wp2_with fail
  go_ret
  exact ⟨rfl, H4.out.less (fun _ g => g.elim), B4.out⟩

set_option maxRecDepth 100000 in
theorem does_6 (w : World) (c : Cl) (h : Mix w B pa px NoB m V L V L) (ok : c.ok) (hL : L ≤ 600000000) (hs : c.s.size ≤ 10000000) (h6 : c.d % 8 = 6) (E : Int) (V1 L1 : Nat) (hE : bytesR m V L c.s = (E, V1, L1)) :
    Calls Try.prog 12 #[.pointer (some ⟨pa, 0, none⟩), .pointer (some ⟨px, 0, none⟩), .agg #[.int .u8 c.d, .int .u64 c.n, .int .i64 c.z, .string c.s]] w fun e w' => e = .returned (.bool true) ∧ Mix w' B pa px NoB m V1 L1 V1 L1 ∧ Below B w w' := by
  obtain ⟨h2, f2⟩ := h.more (.cells #[.int .u8 c.d, .int .u64 c.n, .int .i64 c.z, .string c.s] 32)
  have p3 : (w.alloc (.cells #[.int .u8 c.d, .int .u64 c.n, .int .i64 c.z, .string c.s] 32)).drew.cell? ⟨w.heap.size, 3, none⟩ = some (.string c.s) := by simp
  have H2 := Lib.hid h2.drew
  have B2 := Lib.hid f2.1.drew
  have q0 := ok.d
  have q1 := ok.n
  have q2 := ok.z
  have q3 := ok.s
  have s5 : (c.d % 8 == 5) = false := by simp [h6]
  have s6 : (c.d % 8 == 6) = true := by simp [h6]
  have HE := Lib.hid hE
  clear h h2 f2 ok h6 hE
  go_enter Try.func12, Try.ntmps12
  go_wp2_with fail
  go_region_held3 (fun w' => w'.cell? ⟨w.heap.size, 3, none⟩ = some (.string c.s)) (first | exact g3 | exact e3 | exact p3) (first
    | (go_at_call 18; refine (H2.out.did_a (fun S hS => bytes_any hS c.s (by omega) (by omega)) E V1 L1 HE.out).mono ?_; rintro e w3 ⟨rfl, h3, f3⟩; have e3 := (f3.cell (q := w.heap.size) (Or.inr rfl) 3).trans p3; have H3 := Lib.hid h3; have B3 := Lib.hid (B2.out.trans f3.1); clear h3 f3)
    | (go_at_call 22; refine (H3.out.rid_x (fun S hS => rbytes_any hS c.s (by omega) (by omega)) E V1 L1 HE.out).mono ?_; rintro e w4 ⟨rfl, h4, f4⟩; have g3 := (f4.cell (q := w.heap.size) (Or.inr rfl) 3).trans e3; have H4 := Lib.hid h4; have B4 := Lib.hid (B3.out.trans f4.1); clear h4 f4))
  go_wp2_with fail
  go_ret
  exact ⟨rfl, H4.out.less (fun _ g => g.elim), B4.out⟩

set_option maxRecDepth 100000 in
theorem does_7 (w : World) (c : Cl) (h : Mix w B pa px NoB m V L V L) (ok : c.ok) (hL : L ≤ 600000000) (hs : c.s.size ≤ 10000000) (h6 : c.d % 8 = 7) (E : Int) (V1 L1 : Nat) (hE : bytesR m V L c.s = (E, V1, L1)) :
    Calls Try.prog 12 #[.pointer (some ⟨pa, 0, none⟩), .pointer (some ⟨px, 0, none⟩), .agg #[.int .u8 c.d, .int .u64 c.n, .int .i64 c.z, .string c.s]] w fun e w' => e = .returned (.bool true) ∧ Mix w' B pa px NoB m V1 L1 V1 L1 ∧ Below B w w' := by
  obtain ⟨h2, f2⟩ := h.more (.cells #[.int .u8 c.d, .int .u64 c.n, .int .i64 c.z, .string c.s] 32)
  have p3 : (w.alloc (.cells #[.int .u8 c.d, .int .u64 c.n, .int .i64 c.z, .string c.s] 32)).drew.cell? ⟨w.heap.size, 3, none⟩ = some (.string c.s) := by simp
  have H2 := Lib.hid h2.drew
  have B2 := Lib.hid f2.1.drew
  have q0 := ok.d
  have q1 := ok.n
  have q2 := ok.z
  have q3 := ok.s
  have s5 : (c.d % 8 == 5) = false := by simp [h6]
  have s6 : (c.d % 8 == 6) = false := by simp [h6]
  have s7 : (c.d % 8 == 7) = true := by simp [h6]
  have HE := Lib.hid hE
  clear h h2 f2 ok h6 hE
  go_enter Try.func12, Try.ntmps12
  go_wp2_with fail
  go_region_held3 (fun w' => w'.cell? ⟨w.heap.size, 3, none⟩ = some (.string c.s)) (first | exact g3 | exact e3 | exact p3) (first
    | (go_at_call 18; refine (H2.out.did_a (fun S hS => bytes_any hS c.s (by omega) (by omega)) E V1 L1 HE.out).mono ?_; rintro e w3 ⟨rfl, h3, f3⟩; have e3 := (f3.cell (q := w.heap.size) (Or.inr rfl) 3).trans p3; have H3 := Lib.hid h3; have B3 := Lib.hid (B2.out.trans f3.1); clear h3 f3)
    | (go_at_call 22; refine (H3.out.rid_x (fun S hS => rbytes_any hS c.s (by omega) (by omega)) E V1 L1 HE.out).mono ?_; rintro e w4 ⟨rfl, h4, f4⟩; have g3 := (f4.cell (q := w.heap.size) (Or.inr rfl) 3).trans e3; have H4 := Lib.hid h4; have B4 := Lib.hid (B3.out.trans f4.1); clear h4 f4))
  go_wp2_with fail
  go_ret
  exact ⟨rfl, H4.out.less (fun _ g => g.elim), B4.out⟩

end Go.Proofs.Ytilogllncjlkfaa
