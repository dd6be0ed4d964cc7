/-
  What is asked of records, of the pure answers: their form, their faults, their bytes.
-/
import Derived.Test.YteiclanlhnccnaaDoorRcds
import Derived.Test.YteiclanlhnccnaaDoorHPure
import Derived.Test.YteiclanlhnccnaaDoorStoreS
namespace Go.Proofs.YteiclanlhnccnaaDoor
set_option maxRecDepth 20000
open Go.RowKit
set_option linter.unusedSimpArgs false
set_option linter.unusedVariables false

/-- What a record does not need is zero. -/
def formM (r : Rcd) (a b c : Bool) : Bool := (a || decide (r.2.1 = 0)) && ((b || decide (r.2.2.1 = (0, 0, 0, 0))) && (c || decide (r.2.2.2 = 0)))
def recFormM (r : Rcd) : Bool := if r.1 = 1 then formM r false true false else if r.1 = 2 then formM r true true false else if r.1 = 3 then formM r true false true else if r.1 = 4 then formM r false false true else false
def mostM (r : Rcd) : Int := if r.1 = 4 then 60000 else 9999
def rrangeM (r : Rcd) (m : Int) : Int := if (inB (r.2.1, 0, 3) && inB (r.2.2.2, 0, m)) = true then faultM r.2.2.1 else 3
def recFaultM (r : Rcd) : Int := if recFormM r = true then rrangeM r (mostM r) else 1
theorem recFault_form {r : Rcd} (h : recFormM r = false) : recFaultM r = 1 := by unfold recFaultM; rw [if_neg (by simp [h])]
theorem recFault_range {r : Rcd} (h : recFormM r = true) : recFaultM r = rrangeM r (mostM r) := by unfold recFaultM; rw [if_pos h]
/-- A store, hints, a life. -/
abbrev Sta := List Smp × List Hnt × Int
def stateFaultM (s : Sta) : Int := if storeFaultM s.1 ≠ 0 then storeFaultM s.1 else if hintsFaultM s.2.1 ≠ 0 then hintsFaultM s.2.1 else if inB (s.2.2, 0, 60000) = true then 0 else 3
end Go.Proofs.YteiclanlhnccnaaDoor
