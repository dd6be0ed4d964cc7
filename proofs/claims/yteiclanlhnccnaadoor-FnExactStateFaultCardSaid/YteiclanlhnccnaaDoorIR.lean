import Derived.Test.YteiclanlhnccnaaDoorBase
namespace Go.Proofs.YteiclanlhnccnaaDoor
set_option maxRecDepth 20000
open Go.RowKit

/-- An answer of a code and a number. -/
def RetIR (r : Int × Int) (w : World) (e : Ending) (w' : World) : Prop :=
  e = .returned (.agg #[.int .i64 r.1, .int .i64 r.2]) ∧ Below w.heap.size w w'

end Go.Proofs.YteiclanlhnccnaaDoor
