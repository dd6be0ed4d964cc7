/-
  Texts of one proof, joined: each has its own namespace.
-/
import Derived.Test.YtmaillakhhdkfaaGreatDoorBFnRecords0
import Derived.StillTailTactics
import Derived.Test.YtmaillakhhdkfaaGreatDoorBFnRecords1
namespace Go.Proofs.YtmaillakhhdkfaaGreatDoor
set_option maxRecDepth 20000
open Go.RowKit

/-- Rows marked from k on. -/
def markRows : Nat → List (List UInt8 × List Hd) → List (List UInt8 × List Hd)
  | _, [] => []
  | k, p :: r => (marks k p.1.length, p.2) :: markRows (k + p.1.length) r
/-- The first j rows are marked. -/
def mixed (k : Nat) (ps : List (List UInt8 × List Hd)) (j : Nat) : List (List UInt8 × List Hd) := (markRows k ps).take j ++ ps.drop j
end Go.Proofs.YtmaillakhhdkfaaGreatDoor
