/-
  The document's shares by size: Plain, Share.
-/
import Derived.Test.YtoojdifigfgfcaaPrShare
import Derived.Test.YtoojdifigfgfcaaPrRefBy
namespace Go.Proofs.Ytoojdifigfgfcaa
open Go.RowKit
set_option linter.unusedVariables false
set_option linter.unusedSimpArgs false

end Go.Proofs.Ytoojdifigfgfcaa
