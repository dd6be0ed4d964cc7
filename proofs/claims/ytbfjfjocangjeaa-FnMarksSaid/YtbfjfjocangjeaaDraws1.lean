/-
  The law's draws of arguments.
-/
import Derived.Test.YtbfjfjocangjeaaDraw
import Derived.OwnWalk
namespace Go.Proofs.Ytbfjfjocangjeaa
set_option maxRecDepth 20000
open Go.RowKit

/-- Bytes of the draw's own. -/
def RetOwn (N : Nat) (w : World) (e : Ending) (w' : World) : Prop :=
  ∃ (A : Option Addr) (n c : Nat) (xs : List UInt8), e = .returned (.slice A n c) ∧ n ≤ N ∧ Ow eB w' w.heap.size A n c xs ∧ Below w.heap.size w w'

/-- Two numbers of a draw. -/
def RetInts (w : World) (e : Ending) (w' : World) : Prop :=
  ∃ a b : Int, e = .returned (.tuple #[.int .i64 a, .int .i64 b]) ∧ a ≤ 9223372036854775807 ∧ Below w.heap.size w w'
/-- Bytes of the draw's own, and two numbers. -/
def RetOwnInts (N : Nat) (w : World) (e : Ending) (w' : World) : Prop :=
  ∃ (A : Option Addr) (n c : Nat) (xs : List UInt8) (a b : Int), e = .returned (.tuple #[.slice A n c, .int .i64 a, .int .i64 b]) ∧ n ≤ N ∧ Ow eB w' w.heap.size A n c xs ∧ Below w.heap.size w w'

theorem pick_le {xs : List Int} {v : Int} (h : v ∈ xs) (ha : (xs.all fun x => decide (x ≤ 9223372036854775807)) = true) : v ≤ 9223372036854775807 := by
  have := List.all_eq_true.1 ha v h
  simpa using this
theorem Ow.past {α : Type} {E : Enc α} {w w' : World} {base n c lo hi : Nat} {A : Option Addr} {l : List α} (h : Ow E w base A n c l) (k : Within lo hi w w') (hd : hi ≤ base) : Ow E w' base A n c l := h.within k h.lt (.inr hd)
theorem pick_nat {xs : List Int} {v : Int} (N : Nat) (h : v ∈ xs) (ha : (xs.all fun x => decide (0 ≤ x ∧ x ≤ (N : Int))) = true) : ∃ q : Nat, v = (q : Int) ∧ q ≤ N := by
  have := List.all_eq_true.1 ha v h
  simp only [decide_eq_true_eq] at this
  exact ⟨v.toNat, by omega, by omega⟩
theorem Src.alloc {w : World} {base g n c k : Nat} {A : Option Addr} {l : List UInt8} (h : Src w base g A n c k l) (o : Obj) : Src (w.alloc o) base g A n c k l := h.below ((Below.refl _ _).alloc (Nat.le_refl _) o) h.at_.lt

end Go.Proofs.Ytbfjfjocangjeaa
