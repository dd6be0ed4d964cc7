/-
  Rows of hints marked and held, as the law does it; answers that hold hints.
-/
import Derived.Test.YteiclanlhnccnaaDoorHnts
namespace Go.Proofs.YteiclanlhnccnaaDoor
set_option maxRecDepth 20000
open Go.RowKit
set_option linter.unusedSimpArgs false

def markH (k i : Nat) : Hnt := ((k : Int) + 7 * i, ((k : Int) + 7 * i + 1, (k : Int) + 7 * i + 2, (k : Int) + 7 * i + 3, (k : Int) + 7 * i + 4), (k : Int) + 7 * i + 5, (k : Int) + 7 * i + 6)
/-- What a mark lays: seven numbers a hint. -/
def marksH (k n : Nat) : List Hnt := (List.range n).map (markH k)
theorem marksH_len (k n : Nat) : (marksH k n).length = n := by simp [marksH]
theorem marksH_at {k n i : Nat} (h : i < n) : (marksH k n)[i]? = some (markH k i) := by simp [marksH, h]

/-- A code and hints of the call's own. -/
def RetHs (r : Int × List Hnt) (w : World) (e : Ending) (w' : World) : Prop :=
  ∃ A n c, e = .returned (.agg #[.int .i64 r.1, .slice A n c]) ∧ Ow eH w' w.heap.size A n c r.2 ∧ Below w.heap.size w w'

end Go.Proofs.YteiclanlhnccnaaDoor
