/- The plain mathematics of layer 4: a text in which one byte is another one. No program. -/
import Derived.Test.YtoloamlodmefkaaMathN
namespace Go.Proofs.Ytoloamlodmefkaa.M
open Go
set_option linter.unusedVariables false

/-- byte j of the text is c -/
def put1 (s : ByteArray) (j c : Nat) : ByteArray := ⟨(s.data.toList.set j (UInt8.ofNat c)).toArray⟩
theorem put1_nums (s : ByteArray) (j c : Nat) (hc : c < 256) : nums (put1 s j c) = (nums s).set j c := by
  unfold nums put1
  rw [List.toList_toArray, List.map_set]
  congr 1
  rw [UInt8.toNat_ofNat']
  exact Nat.mod_eq_of_lt hc
theorem put1_size (s : ByteArray) (j c : Nat) : (put1 s j c).size = s.size := by
  show (s.data.toList.set j (UInt8.ofNat c)).toArray.size = s.data.size
  rw [List.size_toArray, List.length_set, Array.length_toList]
theorem nums_at (s : ByteArray) (j : Nat) (h : j < s.size) : (nums s)[j]? = some s[j].toNat := by
  have hl : j < (nums s).length := by rw [nums_length]; exact h
  rw [List.getElem?_eq_getElem hl]
  congr 1
  simp only [nums, List.getElem_map]
  rfl
theorem set_parts (l : List Nat) (j c : Nat) (h : j < l.length) : l.set j c = l.take j ++ c :: l.drop (j + 1) := by
  rw [List.set_eq_take_append_cons_drop, if_pos h]
theorem self_parts (s : ByteArray) (j : Nat) (h : j < s.size) : nums s = (nums s).take j ++ s[j].toNat :: (nums s).drop (j + 1) := by
  have hl : j < (nums s).length := by rw [nums_length]; exact h
  have e := set_parts (nums s) j s[j].toNat hl
  rw [← e]
  have g := nums_at s j h
  rw [List.getElem?_eq_getElem hl] at g
  have g2 : (nums s)[j] = s[j].toNat := by injection g
  rw [← g2, List.set_getElem_self]
theorem put1_same (s : ByteArray) (j : Nat) (h : j < s.size) : nums (put1 s j s[j].toNat) = nums s := by
  have hl : j < (nums s).length := by rw [nums_length]; exact h
  rw [put1_nums s j _ (UInt8.toNat_lt _), set_parts _ _ _ hl, ← self_parts s j h]
theorem adl_nums {s t : ByteArray} (h : nums s = nums t) (a : Nat) : adl a s = adl a t := by unfold adl; rw [h]
theorem crc_nums {s t : ByteArray} (h : nums s = nums t) : crc s = crc t := by unfold crc; rw [h]

/-- unlike sums just if the byte is another one -/
theorem apart_adl (s : ByteArray) (j c : Nat) (h : j < s.size) (hc : c < 256) : adl 1 s = adl 1 (put1 s j c) ↔ c = s[j].toNat := by
  constructor
  · intro g
    by_cases e : c = s[j].toNat
    · exact e
    · have hl : j < (nums s).length := by rw [nums_length]; exact h
      exact absurd g (adl_ne s (put1 s j c) ((nums s).take j) ((nums s).drop (j + 1)) s[j].toNat c (self_parts s j h) (by rw [put1_nums s j c hc, set_parts _ _ _ hl]) (UInt8.toNat_lt _) hc (fun g => e g.symm))
  · intro e
    subst e
    exact adl_nums (put1_same s j h).symm 1
theorem apart_crc (s : ByteArray) (j c : Nat) (h : j < s.size) (hc : c < 256) : crc s = crc (put1 s j c) ↔ c = s[j].toNat := by
  constructor
  · intro g
    by_cases e : c = s[j].toNat
    · exact e
    · have hl : j < (nums s).length := by rw [nums_length]; exact h
      exact absurd g (crc_ne s (put1 s j c) ((nums s).take j) ((nums s).drop (j + 1)) s[j].toNat c (self_parts s j h) (by rw [put1_nums s j c hc, set_parts _ _ _ hl]) (fun g => e g.symm))
  · intro e
    subst e
    exact crc_nums (put1_same s j h).symm
theorem xor_self_iff (b y : Nat) : b ^^^ y = b ↔ y = 0 := by
  constructor
  · intro h
    have : b ^^^ (b ^^^ y) = b ^^^ b := by rw [h]
    rwa [← Nat.xor_assoc, Nat.xor_self, Nat.zero_xor] at this
  · intro h; rw [h, Nat.xor_zero]
/-- the three tests of the statement are one -/
theorem apart_bool (p q : Nat) (y : Nat) (h : p = q ↔ y = 0) : ((p : Int) == (q : Int)) = ((y : Int) == 0) := by
  by_cases e : y = 0
  · rw [h.2 e, e]; simp
  · have e2 : p ≠ q := fun g => e (h.1 g)
    rw [beq_eq_false_iff_ne.2 (by omega), beq_eq_false_iff_ne.2 (by omega)]
end Go.Proofs.Ytoloamlodmefkaa.M
