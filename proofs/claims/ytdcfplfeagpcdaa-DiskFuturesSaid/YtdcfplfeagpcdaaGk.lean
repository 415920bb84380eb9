/- The chapter's row, from the call's own world on. -/
import Derived.Test.YtdcfplfeagpcdaaGb
set_option linter.unusedVariables false
namespace Go.Proofs.Ytdcfplfeagpcdaa
open Go.RowKit
theorem known_b (w w1 : World) (hb : Below w.heap.size w w1) : Calls Try.prog 7 #[] w1 fun e w' => e = .returned (.bool true) ∧ Below w.heap.size w w' :=
  (known_any w1).mono fun e w' hp => ⟨hp.1, hb.trans (hp.2.mono hb.size)⟩

end Go.Proofs.Ytdcfplfeagpcdaa
