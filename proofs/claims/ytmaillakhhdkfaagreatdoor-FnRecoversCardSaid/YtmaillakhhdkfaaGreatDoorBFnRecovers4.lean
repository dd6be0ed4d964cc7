/-
  Texts of one proof, joined: each has its own namespace.
-/
import Derived.Test.YtmaillakhhdkfaaGreatDoorBFnRecovers0
import Derived.StillTailTactics
import Derived.Test.YtmaillakhhdkfaaGreatDoorBFnRecovers3
namespace Go.Proofs.YtmaillakhhdkfaaGreatDoor
set_option maxRecDepth 20000
open Go.RowKit

/-- Rows marked from k on. -/
def markRows : Nat → List (List UInt8 × List Hd) → List (List UInt8 × List Hd)
  | _, [] => []
  | k, p :: r => (marks k p.1.length, p.2) :: markRows (k + p.1.length) r
/-- The first j rows are marked. -/
def mixed (k : Nat) (ps : List (List UInt8 × List Hd)) (j : Nat) : List (List UInt8 × List Hd) := (markRows k ps).take j ++ ps.drop j
/-- An answer of a code, rows of bytes of the call's own, and a number. -/
def RetFR (r : Int × List (List UInt8) × Int) (w : World) (e : Ending) (w' : World) : Prop :=
  ∃ A n c ps, e = .returned (.agg #[.int .i64 r.1, .slice A n c, .int .i64 r.2.2]) ∧ DOw eBB w' w.heap.size A n c ps ∧ ps.map (·.1) = r.2.1 ∧ Below w.heap.size w w'

end Go.Proofs.YtmaillakhhdkfaaGreatDoor
