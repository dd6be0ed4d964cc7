/-
  One record: the law's own copying and comparing of it.
-/
import Derived.Test.YteiclanlhnccnaaRcds
namespace Go.Proofs.Yteiclanlhnccnaa
set_option maxRecDepth 20000
open Go.RowKit
set_option linter.unusedSimpArgs false
set_option linter.unusedVariables false

end Go.Proofs.Yteiclanlhnccnaa
