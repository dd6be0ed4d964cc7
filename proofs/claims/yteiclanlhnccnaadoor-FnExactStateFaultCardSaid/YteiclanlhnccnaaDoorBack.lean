/-
  How long one waits: two to the power of the tries: the model's and the program's.
-/
import Derived.Test.YteiclanlhnccnaaDoorBound
import Derived.Test.YteiclanlhnccnaaDoorIR
namespace Go.Proofs.YteiclanlhnccnaaDoor
set_option maxRecDepth 20000
open Go.RowKit
set_option linter.unusedSimpArgs false

def pw (j : Nat) : Int := (2 : Int) ^ j
theorem pw_next (j : Nat) : pw (j + 1) = pw j * 2 := by unfold pw; rw [Int.pow_succ]
theorem pw_le {j : Nat} (h : j ≤ 4) : 1 ≤ pw j ∧ pw j ≤ 16 := by
  rcases (show j = 0 ∨ j = 1 ∨ j = 2 ∨ j = 3 ∨ j = 4 by omega) with rfl | rfl | rfl | rfl | rfl <;> decide
def backM (t : Int) : Int × Int := if inB (t, 0, 4) then (0, pw t.toNat) else (3, 0)
theorem backM_no {t : Int} (h : inB (t, 0, 4) = false) : backM t = (3, 0) := by unfold backM; rw [h]; rfl
theorem backM_yes {t : Int} (h : inB (t, 0, 4) = true) : backM t = (0, pw t.toNat) := by unfold backM; rw [h]; rfl

theorem pw_shl {n : Nat} (hn : n ≤ 4) : wrap64 ((2 : Int) ^ n) = pw n := by
  rcases (show n = 0 ∨ n = 1 ∨ n = 2 ∨ n = 3 ∨ n = 4 by omega) with rfl | rfl | rfl | rfl | rfl <;> first | decide +kernel | simp [pw, wrap64]

end Go.Proofs.YteiclanlhnccnaaDoor
