/- Texts of one place, one behind the other: BwQ, SpM. -/
import Derived.Test.YtolcaknhjjejeaaGreatDoorKMBwK
import Derived.Test.YtolcaknhjjejeaaGreatDoorKMBwX
import Derived.Test.YtolcaknhjjejeaaGreatDoorKMRns
namespace Go.Proofs.YtolcaknhjjejeaaGreatDoor.V
open Go Go.RowKit M U
set_option linter.unusedVariables false
set_option linter.unusedSimpArgs false
theorem writem_any {B P : Nat} {v : Value} {bs : List Nat} {w : World} (h : Bw B w P v bs) (k : Nat) (hk : k ≤ 2) (A : Option Addr) (n c : Nat) (L : List Tk) (raw : ByteArray) (last : Bool) (hr : k = 0 → raw.size ≤ 70000) (hT : ∀ w', Below B w w' → IsTks w' A n L) (hn : n ≤ 10000) (hm : k ≠ 0 → ∀ t ∈ L, may t = true) (hl : bs.length ≤ 9000000) (hB : B ≤ w.heap.size) :
    Calls Tryz.prog 15 #[.pointer (some ⟨P, 0, none⟩), .int .u8 k, .slice A n c, .string raw, .bool last] w fun e w' => e = .returned (.tuple #[]) ∧ ∃ v', Bw B w' P v' (bs ++ bkm k L raw last bs.length) ∧ Chg P v.ownBlock w v'.ownBlock w' := by
  match k, hk with
  | 0, _ => exact write_stored h A n c L raw last (hr rfl) hl hB
  | 1, _ => exact write_fixed h A n c L raw last hT hn (hm (by decide)) hl hB
  | 2, _ => exact write_dynamic h A n c L raw last hT hn (hm (by decide)) hl hB
end Go.Proofs.YtolcaknhjjejeaaGreatDoor.V

namespace Go.Proofs.YtolcaknhjjejeaaGreatDoor.V
open Go Go.RowKit M U
set_option linter.unusedVariables false
set_option linter.unusedSimpArgs false
def seg (L : List Tk) (f t : Nat) : List Tk := (L.drop f).take (t - f)
theorem seg_length {L : List Tk} {f t : Nat} (h : t ≤ L.length) : (seg L f t).length = t - f := by
  unfold seg
  rw [List.length_take, List.length_drop]
  omega
theorem seg_mem {L : List Tk} {f t : Nat} {x : Tk} (h : x ∈ seg L f t) : x ∈ L := List.mem_of_mem_drop (List.mem_of_mem_take h)
theorem take_seg (L : List Tk) {f t : Nat} (h : f ≤ t) : L.take t = L.take f ++ seg L f t := by
  unfold seg
  conv => lhs; rw [show t = f + (t - f) by omega, List.take_add]
def szt (L : List Tk) (i : Nat) : Nat := Tx.szs (L.take i)
theorem szt_zero (L : List Tk) : szt L 0 = 0 := rfl
theorem szs_seg (L : List Tk) {f t : Nat} (h : f ≤ t) : szt L f + Tx.szs (seg L f t) = szt L t := by
  unfold szt
  rw [take_seg L h, Tx.szs_append]
theorem szt_mono (L : List Tk) {f t : Nat} (h : f ≤ t) : szt L f ≤ szt L t := by
  have := szs_seg L h
  omega
theorem szt_all {L : List Tk} {n : Nat} (h : L.length ≤ n) : szt L n = Tx.szs L := by
  unfold szt
  rw [List.take_of_length_le h]
end Go.Proofs.YtolcaknhjjejeaaGreatDoor.V
