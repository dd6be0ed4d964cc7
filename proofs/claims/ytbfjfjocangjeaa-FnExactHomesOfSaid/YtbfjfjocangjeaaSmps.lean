/-
  Rows of samples: how they lie in memory; the law's own copying, comparing and marking of them.
-/
import Derived.Test.YtbfjfjocangjeaaMix
import Derived.Test.YtbfjfjocangjeaaKeys
import Derived.Test.YtbfjfjocangjeaaTo
import Derived.Test.YtbfjfjocangjeaaMark
namespace Go.Proofs.Ytbfjfjocangjeaa
set_option maxRecDepth 20000
open Go.RowKit
set_option linter.unusedSimpArgs false

def smpCells (x : Smp) : List Value := [.int .i64 x.1, .int .i64 x.2.1, .int .i64 x.2.2.1, .int .i64 x.2.2.2]
/-- Four cells. -/
def S4 (u : World) (g p : Nat) (a0 a1 a2 a3 : Int) : Prop :=
  u.cell? ⟨g, p, none⟩ = some (.int .i64 a0) ∧ u.cell? ⟨g, p + 1, none⟩ = some (.int .i64 a1) ∧ u.cell? ⟨g, p + 2, none⟩ = some (.int .i64 a2) ∧ u.cell? ⟨g, p + 3, none⟩ = some (.int .i64 a3)
theorem S4.below {B : Nat} {w w' : World} {g p : Nat} {a0 a1 a2 a3 : Int} (h : S4 w g p a0 a1 a2 a3) (hb : Below B w w') (hg : g < B) : S4 w' g p a0 a1 a2 a3 :=
  ⟨(hb.cell (p := ⟨g, p, none⟩) hg).trans h.1, (hb.cell (p := ⟨g, p + 1, none⟩) hg).trans h.2.1, (hb.cell (p := ⟨g, p + 2, none⟩) hg).trans h.2.2.1, (hb.cell (p := ⟨g, p + 3, none⟩) hg).trans h.2.2.2⟩
theorem S4.drew {w : World} {g p : Nat} {a0 a1 a2 a3 : Int} (h : S4 w g p a0 a1 a2 a3) : S4 w.drew g p a0 a1 a2 a3 := h

section
variable {w w' : World} {base hi n c : Nat} {A : Option Addr} {l : List Smp}
end

theorem alike_all' {α : Type} {xs ys : List α} {n : Nat} (hx : xs.length = n) (hy : ys.length = n) (h : ∀ i, i < n → xs[i]? = ys[i]?) : xs = ys := by
  apply List.ext_getElem?
  intro i
  rcases Nat.lt_or_ge i n with h1 | h1
  · exact h i h1
  · rw [List.getElem?_eq_none (by omega), List.getElem?_eq_none (by omega)]
def EqRelS (xs ys : List Smp) (w : World) (n : Nat) (i : Value) (wr : World) : Prop :=
  ∃ k : Nat, k ≤ n ∧ i = .int .i64 k ∧ (∀ i, i < k → xs[i]? = ys[i]?) ∧ Below w.heap.size w wr

end Go.Proofs.Ytbfjfjocangjeaa
