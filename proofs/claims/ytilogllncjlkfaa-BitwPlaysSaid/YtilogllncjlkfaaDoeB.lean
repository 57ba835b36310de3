/- What does answers where it is Code, and where it is any call. Conditions: as each theorem names them. -/
import Derived.Test.YtilogllncjlkfaaDoe
namespace Go.Proofs.Ytilogllncjlkfaa
open Go.RowKit M
set_option linter.unusedVariables false
variable {B pa px V L : Nat} {m : Int}

set_option maxRecDepth 100000 in
theorem does_4 (w : World) (c : Cl) (h : Mix w B pa px NoB m V L V L) (ok : c.ok) (hL : L ≤ 600000000) (h4 : c.d % 8 = 4) (E : Int) (V1 L1 : Nat) (hE : bitsR m V L (c.n % 4294967296).toNat (c.z % 256) = (E, V1, L1)) :
    Calls Try.prog 12 #[.pointer (some ⟨pa, 0, none⟩), .pointer (some ⟨px, 0, none⟩), .agg #[.int .u8 c.d, .int .u64 c.n, .int .i64 c.z, .string c.s]] w fun e w' => e = .returned (.bool true) ∧ Mix w' B pa px NoB m V1 L1 V1 L1 ∧ Below B w w' := by
  obtain ⟨n4, hn4⟩ : ∃ n, c.n % 4294967296 = n := ⟨_, rfl⟩
  obtain ⟨z4, hz4⟩ : ∃ n, c.z % 256 = n := ⟨_, rfl⟩
  rw [hn4, hz4] at hE
  obtain ⟨h2, f2⟩ := h.more (.cells #[.int .u8 c.d, .int .u64 c.n, .int .i64 c.z, .string c.s] 32)
  obtain ⟨h3, f3⟩ := h2.more (.cells #[.int .u32 n4, .int .u8 z4] 50)
  have hsz : (w.alloc (.cells #[.int .u8 c.d, .int .u64 c.n, .int .i64 c.z, .string c.s] 32)).heap.size = w.heap.size + 1 := by simp
  have h3' : Mix ((w.alloc (.cells #[.int .u8 c.d, .int .u64 c.n, .int .i64 c.z, .string c.s] 32)).alloc (.cells #[.int .u32 n4, .int .u8 z4] 50)) B pa px (fun j => j = w.heap.size + 1) m V L V L := h3.less (fun j hj => .inr (by rw [hsz]; exact hj))
  have p0 : ((w.alloc (.cells #[.int .u8 c.d, .int .u64 c.n, .int .i64 c.z, .string c.s] 32)).alloc (.cells #[.int .u32 n4, .int .u8 z4] 50)).drew.cell? ⟨w.heap.size + 1, 0, none⟩ = some (.int .u32 n4) := by
    rw [← hsz]; simp only [World.cell?_drew]; rw [hsz]; simp
  have p1 : ((w.alloc (.cells #[.int .u8 c.d, .int .u64 c.n, .int .i64 c.z, .string c.s] 32)).alloc (.cells #[.int .u32 n4, .int .u8 z4] 50)).drew.cell? ⟨w.heap.size + 1, 1, none⟩ = some (.int .u8 z4) := by simp
  have H2 := Lib.hid h3'.drew
  have B2 := Lib.hid (f2.1.trans f3.1).drew
  have q0 := ok.d
  have q1 := ok.n
  have q2 := ok.z
  have q3 := ok.s
  have s4 : (c.d % 8 == 4) = true := by simp [h4]
  have s5 : (c.d % 8 == 5) = false := by simp [h4]
  have s6 : (c.d % 8 == 6) = false := by simp [h4]
  have s7 : (c.d % 8 == 7) = false := by simp [h4]
  have n0 : 0 ≤ n4 := by omega
  have n1 : n4 ≤ 4294967295 := by omega
  have z0 : 0 ≤ z4 := by omega
  have z1 : z4 ≤ 255 := by omega
  have HE := Lib.hid hE
  clear h h2 h3 h3' f2 f3 ok h4 hE hsz
  go_enter Try.func12, Try.ntmps12
  go_wp2_with fail
  have hwn : IntKind.u64.wrap n4 = n4 := by rw [IntKind.wrap_u64]; omega
  have hwz : IntKind.i64.wrap z4 = z4 := by rw [IntWalk.i64_in _ ⟨by omega, by omega⟩]
  clear hn4 hz4
  go_region_held3 (fun w' => w'.cell? ⟨w.heap.size + 1, 0, none⟩ = some (.int .u32 n4) ∧ w'.cell? ⟨w.heap.size + 1, 1, none⟩ = some (.int .u8 z4)) (first | exact ⟨g1, g2⟩ | exact ⟨e1, e2⟩ | exact ⟨p0, p1⟩) (first
    | (go_at_call 20; refine (H2.out.did_a (fun S hS => code_any hS n4 z4 ⟨n0, n1⟩ ⟨z0, z1⟩ (by omega)) E V1 L1 HE.out).mono ?_; rintro e w3 ⟨rfl, h3, f3⟩; have e1 := (f3.cell (q := w.heap.size + 1) rfl 0).trans p0; have e2 := (f3.cell (q := w.heap.size + 1) rfl 1).trans p1; have H3 := Lib.hid h3; have B3 := Lib.hid (B2.out.trans f3.1); clear h3 f3)
    | (go_at_call 23; refine (H3.out.rid_x (fun S hS => rbits_any hS n4 z4 n0 (by omega)) E V1 L1 HE.out).mono ?_; rintro e w4 ⟨rfl, h4, f4⟩; have g1 := (f4.cell (q := w.heap.size + 1) rfl 0).trans e1; have g2 := (f4.cell (q := w.heap.size + 1) rfl 1).trans e2; have H4 := Lib.hid h4; have B4 := Lib.hid (B3.out.trans f4.1); clear h4 f4))
  go_wp2_with fail
  go_ret
  exact ⟨rfl, H4.out.less (fun _ g => g.elim), B4.out⟩

theorem does_any (w : World) (c : Cl) (h : Mix w B pa px NoB m V L V L) (ok : c.ok) (hL : L ≤ 600000000) (hs : c.s.size ≤ 10000000) (E : Int) (V1 L1 : Nat) (hE : callP m V L c = (E, V1, L1)) :
    Calls Try.prog 12 #[.pointer (some ⟨pa, 0, none⟩), .pointer (some ⟨px, 0, none⟩), .agg #[.int .u8 c.d, .int .u64 c.n, .int .i64 c.z, .string c.s]] w fun e w' => e = .returned (.bool true) ∧ Mix w' B pa px NoB m V1 L1 V1 L1 ∧ Below B w w' := by
  by_cases h5 : c.d % 8 = 5
  · rw [callP_5 h5] at hE
    simp only [Prod.mk.injEq] at hE
    obtain ⟨rfl, rfl, rfl⟩ := hE
    exact does_5 w c h ok hL h5
  by_cases h6 : c.d % 8 = 6
  · rw [callP_67 (.inl h6)] at hE
    exact does_6 w c h ok hL hs h6 E V1 L1 hE
  by_cases h7 : c.d % 8 = 7
  · rw [callP_67 (.inr h7)] at hE
    exact does_7 w c h ok hL hs h7 E V1 L1 hE
  by_cases h4 : c.d % 8 = 4
  · rw [callP_4 h4] at hE
    exact does_4 w c h ok hL h4 E V1 L1 hE
  · rw [callP_0 h4 h5 h6 h7] at hE
    exact does_0 w c h ok hL h4 h5 h6 h7 E V1 L1 hE
end Go.Proofs.Ytilogllncjlkfaa
