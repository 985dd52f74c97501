/-
  The contracts of the leaves of package ints, and of the document's own.
-/
import Derived.Test.YtabogoonbapjiaaRows
import Derived.Test.YtabogoonbapjiaaPlain
import Derived.WalkKit
import Derived.WalkSpells
import Derived.WalkLawsBesides
import Derived.Lib.Hide
namespace Go.Proofs.Ytabogoonbapjiaa
open Go.RowKit
set_option linter.unusedVariables false

end Go.Proofs.Ytabogoonbapjiaa
