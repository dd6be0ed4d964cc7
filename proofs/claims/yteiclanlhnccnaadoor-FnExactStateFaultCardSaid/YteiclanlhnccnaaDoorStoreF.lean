/-
  A key looked for in a store, a store copied: the model's.
-/
import Derived.Test.YteiclanlhnccnaaDoorStoreS
import Derived.Laws.AppendOwn
namespace Go.Proofs.YteiclanlhnccnaaDoor
set_option maxRecDepth 20000
open Go.RowKit
set_option linter.unusedSimpArgs false

def hitM (l : List Smp) (x : Smp) (i : Nat) : Bool := match l[i]? with | some a => sameKeyM a x | none => false
theorem hitM_at {l : List Smp} {x a : Smp} {i : Nat} (h : l[i]? = some a) : hitM l x i = sameKeyM a x := by
  unfold hitM
  rw [h]
/-- Where the key stands. -/
def findM (l : List Smp) (x : Smp) : Option Nat := (List.range l.length).find? (hitM l x)
def findI (l : List Smp) (x : Smp) : Int := match findM l x with | some i => (i : Int) | none => -1
theorem findI_some {l : List Smp} {x : Smp} {k : Nat} (hk : k < l.length) (h : hitM l x k = true) (hal : ∀ j, j < k → hitM l x j = false) : findI l x = (k : Int) := by
  have : findM l x = some k := by
    unfold findM
    rw [List.find?_range_eq_some]
    exact ⟨h, by simpa using hk, fun j hj => by simp [hal j hj]⟩
  unfold findI
  rw [this]
theorem findI_none {l : List Smp} {x : Smp} {n : Nat} (hn : l.length = n) (hal : ∀ j, j < n → hitM l x j = false) : findI l x = -1 := by
  have : findM l x = none := by
    unfold findM
    rw [List.find?_range_eq_none]
    exact fun j hj => by simp [hal j (by omega)]
  unfold findI
  rw [this]

def FindRel (w : World) (l : List Smp) (x : Smp) (n : Nat) (i : Value) (wr : World) : Prop :=
  ∃ k : Nat, k ≤ n ∧ i = .int .i64 k ∧ (∀ j, j < k → hitM l x j = false) ∧ Below w.heap.size w wr

end Go.Proofs.YteiclanlhnccnaaDoor
