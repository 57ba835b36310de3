/- The closure that puts a text together, in all its ways. Conditions: as each theorem names them. -/
import Derived.Test.YtglakcdkpeabmaaTkG
namespace Go.Proofs.Ytglakcdkpeabmaa
open Go Go.RowKit M
set_option linter.unusedVariables false
set_option linter.unusedSimpArgs false

theorem put_any (l n d : Int) (b : List UInt8) (ah : ByteArray) (Ba Bh R n₁ : Nat) (W : World) (hl : 0 ≤ l ∧ l ≤ 255) (hn : -9223372036854775808 ≤ n ∧ n ≤ 9223372036854775807) (hd : -9223372036854775808 ≤ d ∧ d ≤ 9223372036854775807)
    (hb : b.length ≤ 2000000) (hah : ah.size ≤ b.length) (hBa : Ba < n₁) (hR : R < n₁) (hRB : R ≠ Ba) (hn1 : n₁ ≤ W.heap.size) (hBh : Bh < n₁) (hBh2 : Bh ≠ R) (hBh3 : Bh ≠ Ba)
    (hh : W.heap[Bh]? = some (.cells #[.string ah] 9 (0, 0))) (hst : St W Ba R n₁ b) :
    Calls Try.prog 18 #[.agg #[.int .u8 l, .int .i64 n, .int .i64 d], .pointer (some ⟨Ba, 0, none⟩), .pointer (some ⟨Bh, 0, none⟩)] W fun e W' => e = .returned (.int .i64 (M.step ah.size b ⟨l, n, d⟩).1) ∧ Put W W' Ba R n₁ (M.step ah.size b ⟨l, n, d⟩).2 := by
  rcases step_ways ah.size b ⟨l, n, d⟩ with h1 | ⟨h1, h2⟩ | ⟨h1, h2, h3⟩ | ⟨h2, h3, h4⟩ | ⟨h2, h3, h4⟩
  · rw [step_arg h1]
    exact put_arg l n d b ah Ba Bh R n₁ W hl hn hd hb hah hBa hR hRB hn1 hBh hBh2 hBh3 hh hst h1
  · rw [step_far h1 h2]
    exact put_far l n d b ah Ba Bh R n₁ W hl hn hd hb hah hBa hR hRB hn1 hBh hBh2 hBh3 hh hst h1 h2
  · rw [step_long h1 h2 h3]
    exact put_long l n d b ah Ba Bh R n₁ W hl hn hd hb hah hBa hR hRB hn1 hBh hBh2 hBh3 hh hst h1 h2 h3
  · rw [step_byte h2 h3 h4]
    exact put_byte l n d b ah Ba Bh R n₁ W hl hn hd hb hah hBa hR hRB hn1 hBh hBh2 hBh3 hh hst h4 h2 h3
  · rw [step_match h2 h3 h4]
    exact put_match l n d b ah Ba Bh R n₁ W hl hn hd hb hah hBa hR hRB hn1 hBh hBh2 hBh3 hh hst h4 h2 h3
end Go.Proofs.Ytglakcdkpeabmaa
