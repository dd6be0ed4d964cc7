/-
  Rows of records: how they lie in memory.
-/
import Derived.Test.YteiclanlhnccnaaHnts
namespace Go.Proofs.Yteiclanlhnccnaa
set_option maxRecDepth 20000
open Go.RowKit
set_option linter.unusedSimpArgs false

/-- A record: its kind, its node, its sample, its number. -/
abbrev Rcd := Int × Int × Smp × Int
def rcdCells (x : Rcd) : List Value := [.int .i64 x.1, .int .i64 x.2.1, .int .i64 x.2.2.1.1, .int .i64 x.2.2.1.2.1, .int .i64 x.2.2.1.2.2.1, .int .i64 x.2.2.1.2.2.2, .int .i64 x.2.2.2]
theorem rcd_one (a : Rcd) (u : Value) (hu : u ∈ rcdCells a) : u.oneCell' = true := by
  simp only [rcdCells, List.mem_cons, List.not_mem_nil, or_false] at hu
  rcases hu with rfl | rfl | rfl | rfl | rfl | rfl | rfl <;> rfl
abbrev zeroR : Rcd := (0, 0, (0, 0, 0, 0), 0)
section
variable {w w' : World} {base hi n c : Nat} {A : Option Addr} {l : List Rcd}
end
end Go.Proofs.Yteiclanlhnccnaa
