/-
  Texts of one proof, joined: each has its own namespace.
-/
import Derived.Test.YtjlkmfijkhjjkaaDoorBFnHints9
import Derived.Test.YtjlkmfijkhjjkaaDoorBFnHints12
/-
  The big region of the law of hints: its order, part 3.
-/
namespace Go.Proofs.YtjlkmfijkhjjkaaDoor
set_option maxRecDepth 20000
open Go.RowKit

theorem hlPart3 : mixB .any (opsOf Tryd.f3 13).toArray hlL3 hlP3 = true := by kernel_rfl
end Go.Proofs.YtjlkmfijkhjjkaaDoor
