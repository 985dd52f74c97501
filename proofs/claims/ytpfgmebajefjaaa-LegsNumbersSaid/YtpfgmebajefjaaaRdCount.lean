/-
  Contracts: Count, instrument, of the program.
-/
import Derived.Test.YtpfgmebajefjaaaRdInst
import Derived.Laws.ResultCell
namespace Go.Proofs.Ytpfgmebajefjaaa
open Go.RowKit
set_option linter.unusedVariables false
set_option linter.unusedSimpArgs false

end Go.Proofs.Ytpfgmebajefjaaa
