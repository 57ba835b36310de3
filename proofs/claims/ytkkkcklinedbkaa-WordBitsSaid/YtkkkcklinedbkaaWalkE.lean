/- What the document's Put answers, for any number and size. Conditions: as each theorem names them. -/
import Derived.Test.YtkkkcklinedbkaaWalkD
namespace Go.Proofs.Ytkkkcklinedbkaa
open Go.RowKit M

theorem info_u8 : (Try.prog.info? 5).map (fun i => (i.zero, i.size, i.bytes)) = some (some (.int .u8 0), 1, 1) := by kernel_rfl

/-- an owned row of bytes, as a string -/
theorem conv_own {w : World} {B n : Nat} {v : Value} {ns : List Int} (h : w.ownsRow B 5 1 v n (ns.map (Value.int .u8))) :
    (convert 44 9 v).run Try.prog w = .ok (.string (bstr (ns.map fun n => UInt8.ofNat n.toNat))) w := by
  have hlen := h.1
  rw [List.length_map, Nat.mul_one] at hlen
  rcases h.2 with ⟨rfl, hn⟩ | ⟨g, cap, cur, rfl, r⟩
  · subst hn
    obtain rfl := List.eq_nil_of_length_eq_zero hlen
    rw [run_convert_bytes_string (P := Try.prog) w 44 9 5 _ _ _ Try.underlying44 Try.underlying5 Try.underlying9]
    rfl
  · have hc := h.cellAt
    rw [run_convert_bytes_string (P := Try.prog) w 44 9 5 _ _ _ Try.underlying44 Try.underlying5 Try.underlying9]
    have hl := run_loadCells_list (P := Try.prog) w ⟨g, 0, none⟩ (ns.map (Value.int .u8)) (fun j v hj => by
      have hjl : j < n := by
        have := (List.getElem?_eq_some_iff.1 hj).1
        rw [List.length_map] at this; omega
      have := hc j (by omega)
      rw [hj] at this
      by_cases e : j = 0
      · subst e; simpa [Addr.add] using this
      · simpa [Addr.add, e] using this)
    rw [List.length_map, hlen] at hl
    rw [run_bytesToString (P := Try.prog) w ⟨g, 0, none⟩ n cap ns hl, foldl_push]
    rfl

/-- what Put answers -/
def putAns (N s : Nat) : Value := if N < 256 ^ s then .tuple #[.string (bstr (le N s)), .bool true] else .tuple #[.string ⟨#[]⟩, .bool false]

theorem rput_run (N s : Nat) (w : World) (hN : N < big) (h1 : 1 ≤ s) (h8 : s ≤ 8) :
    Calls Try.prog 11 #[.int .u64 N, .int .i64 s] w fun e w' => e = .returned (putAns N s) ∧ Below w.heap.size w w' := by
  obtain ⟨i0, hi, hz0, hz1, hz2⟩ := info_parts info_u8
  obtain ⟨W, rfl⟩ : ∃ W : World, W = w := ⟨_, rfl⟩
  go_enter Try.func11, Try.ntmps11
  go_wp2_with fail
  go_loopw [0, 6, 7] (fun a v i wr => ∃ k : Nat, k ≤ s ∧ i = .int .i64 k ∧ a = .int .u64 ((N : Int) / 256 ^ k) ∧ wr.ownsRow W.heap.size 5 1 v k ((bys N k).map (Value.int .u8)) ∧ Below W.heap.size W wr) (fun _ _ i _ => s - (intOf i).toNat)
  case atStart => exact ⟨0, Nat.zero_le _, rfl, by simp, ⟨rfl, Or.inl ⟨rfl, rfl⟩⟩, Below.refl _ _⟩
  case round =>
    obtain ⟨k, hk, rfl, rfl, hown, hb⟩ := hrel
    have hz := hb.size
    have hd0 := d256_nonneg N k
    have hd1 := d256_le N k hN
    by_cases hlt : k < s
    · have hb' := Lib.hid hb
      clear hb
      go_wp2_with (at_builtin; refine wpList_append_own _ rfl _ _ 44 rfl W.heap.size 5 i0 (.int .u8 0) 1 1 Try.underlying44 hi hz0 hz1 hz2 rfl (by decide) _ _ _ rfl (hown.alloc _) ⟨wr.heap.size, 0, none⟩ 1 1 [.int .u8 ((N : Int) / 256 ^ k % 256)] rfl rfl ?c1 ?c2 ?c3 ?c4 ?c5 ?_)
      case c1 =>
        intro j u hj
        match j, hj with
        | 0, hj => simp at hj; subst hj; simp [Addr.add]
      case c2 => intro u hu; simp at hu; subst hu; rfl
      case c3 => unfold maxLen; omega
      case c4 => omega
      case c5 => simp; omega
      intro v' w1 hown1 hg _
      have R := Lib.hid (show w1.ownsRow W.heap.size 5 1 v' (k + 1) ((bys N (k + 1)).map (Value.int .u8)) ∧ Below W.heap.size W w1 from
        ⟨by rw [bys_succ, List.map_append]; exact hown1, (hb'.out.alloc hz _).grown hg (by simp; omega) (fun j hj => (hown.lt j hj).1)⟩)
      clear hown1 hg hown
      go_wp2
      go_roundw
      case rel => exact ⟨k + 1, by omega, by go_num, congrArg (Value.int .u64) (d256_step N k), R.out.1, R.out.2⟩
      case measure => simp [intOf]; omega
    · obtain rfl : k = s := by omega
      have hconv := conv_own hown
      rw [bys_le] at hconv
      have hb' := Lib.hid hb
      clear hb
      by_cases hfit : N < 256 ^ k
      · have hv : Hid (putAns N k = .tuple #[.string (bstr (le N k)), .bool true]) := if_pos hfit
        have hq : ((N : Int) / 256 ^ k != 0) = false := by simp [(d256_zero N k).2 hfit]
        clear hfit
        go_wp2
        go_ret2
        exact ⟨by rw [hv.out]; rfl, hb'.out⟩
      · have hv : Hid (putAns N k = .tuple #[.string ⟨#[]⟩, .bool false]) := if_neg hfit
        have hq : ((N : Int) / 256 ^ k != 0) = true := by
          rw [bne_iff_ne]
          exact fun g => hfit ((d256_zero N k).1 g)
        clear hfit
        go_wp2
        go_ret2
        exact ⟨by rw [hv.out]; rfl, hb'.out⟩

theorem rput_no (n x : Int) (w : World) (h : ¬ (1 ≤ x ∧ x ≤ 8)) :
    Calls Try.prog 11 #[.int .u64 n, .int .i64 x] w fun e w' => e = .returned (.tuple #[.string ⟨#[]⟩, .bool false]) ∧ w = w' := by
  by_cases h1 : 1 ≤ x
  · have h2 : 8 < x := by omega
    clear h
    go_enter Try.func11, Try.ntmps11
    go_wp2_with fail
    go_ret2
    exact ⟨rfl, rfl⟩
  · have h2 : x < 1 := by omega
    clear h h1
    go_enter Try.func11, Try.ntmps11
    go_wp2_with fail
    go_ret2
    exact ⟨rfl, rfl⟩

end Go.Proofs.Ytkkkcklinedbkaa
