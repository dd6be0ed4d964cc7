/-
  A store's bounds and order: the model's StoreFault.
-/
import Derived.Test.YteiclanlhnccnaaSmps
import Derived.Test.YteiclanlhnccnaaFault
namespace Go.Proofs.Yteiclanlhnccnaa
set_option maxRecDepth 20000
open Go.RowKit
set_option linter.unusedSimpArgs false

/-- The i-th is ahead of the next one. -/
def stepM (l : List Smp) (i : Nat) : Bool := match l[i]?, l[i + 1]? with | some a, some b => aheadM a b | _, _ => true
theorem stepM_at {l : List Smp} {i : Nat} {a b : Smp} (ha : l[i]? = some a) (hb : l[i + 1]? = some b) : stepM l i = aheadM a b := by
  unfold stepM
  rw [ha, hb]
def risesM (l : List Smp) : Bool := (List.range l.length).all (stepM l)
def rightM (l : List Smp) : Bool := l.all fun x => decide (faultM x = 0)
def storeFaultM (l : List Smp) : Int := if 160 < l.length then 2 else if rightM l = false then 3 else if risesM l = false then 1 else 0
theorem storeFault_many {l : List Smp} (h : 160 < l.length) : storeFaultM l = 2 := if_pos h
theorem storeFault_wrong {l : List Smp} {k : Nat} {x : Smp} (h : ¬ 160 < l.length) (hx : l[k]? = some x) (hf : faultM x = 3) : storeFaultM l = 3 := by
  have hr : rightM l = false := by
    unfold rightM
    rw [List.all_eq_false]
    exact ⟨x, List.mem_of_getElem? hx, by simp [hf]⟩
  unfold storeFaultM
  rw [if_neg h, if_pos hr]
theorem rightM_of {l : List Smp} {n : Nat} (hn : l.length = n) (hal : ∀ j x, j < n → l[j]? = some x → faultM x = 0) : rightM l = true := by
  unfold rightM
  rw [List.all_eq_true]
  intro x hx
  obtain ⟨j, hj⟩ := List.mem_iff_getElem?.1 hx
  exact decide_eq_true (hal j x (by have := getElem?_some_lt hj; omega) hj)
theorem storeFault_form {l : List Smp} {k : Nat} (h : ¬ 160 < l.length) (hr : rightM l = true) (hk : k < l.length) (hs : stepM l k = false) : storeFaultM l = 1 := by
  have hq : risesM l = false := by
    unfold risesM
    rw [List.all_eq_false]
    exact ⟨k, List.mem_range.2 hk, by simp [hs]⟩
  unfold storeFaultM
  rw [if_neg h, if_neg (by simp [hr]), if_pos hq]
theorem storeFault_ok {l : List Smp} {n : Nat} (hn : l.length = n) (h : ¬ 160 < l.length) (hr : rightM l = true) (hal : ∀ j, j + 1 < n → stepM l j = true) : storeFaultM l = 0 := by
  have hq : risesM l = true := by
    unfold risesM
    rw [List.all_eq_true]
    intro j hj
    have hj' := List.mem_range.1 hj
    rcases Nat.lt_or_ge (j + 1) n with h1 | h1
    · exact hal j h1
    · unfold stepM
      rw [List.getElem?_eq_none (l := l) (i := j + 1) (by omega)]
      cases l[j]? <;> rfl
  unfold storeFaultM
  rw [if_neg h, if_neg (by simp [hr]), if_neg (by simp [hq])]

def RightRel (w : World) (l : List Smp) (n : Nat) (i : Value) (wr : World) : Prop :=
  ∃ k : Nat, k ≤ n ∧ i = .int .i64 k ∧ (∀ j x, j < k → l[j]? = some x → faultM x = 0) ∧ Below w.heap.size w wr
def RiseRel (w : World) (l : List Smp) (n : Nat) (i : Value) (wr : World) : Prop :=
  ∃ k : Nat, (k + 1 ≤ n ∨ k = 0) ∧ i = .int .i64 ((k + 1 : Nat) : Int) ∧ (∀ j, j < k → stepM l j = true) ∧ Below w.heap.size w wr

end Go.Proofs.Yteiclanlhnccnaa
