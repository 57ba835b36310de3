/- What package runs answers, all together. Conditions: as each theorem names them. -/
import Derived.Test.YtogbohompffcbaaDoorSaD
import Derived.Test.YtogbohompffcbaaDoorSaE
namespace Go.Proofs.YtogbohompffcbaaDoor.U
open Go Go.RowKit M
set_option linter.unusedVariables false

theorem cts : Cts Tab where
  keep h b := h.below b (Nat.le_refl _)
  pack A n c l w T H hc hn hok := pack_any A n c l w T H hc hn hok
  packNo A n c l w _ H hn hb := pack_no A n c l w H hn hb
  unpack A m c L n w T H hm hn := unpack_any A m c L n w T H hm hn
  unpackNo A m c x w _ hx := unpack_no A m c x w hx
  times s e w T hs he := times_any s e w T hs he
  bits s w T hs := (bits_any s w T hs).mono fun _ _ h => ⟨h.1, by rw [← h.2]; exact Below.refl _ _⟩
end Go.Proofs.YtogbohompffcbaaDoor.U
