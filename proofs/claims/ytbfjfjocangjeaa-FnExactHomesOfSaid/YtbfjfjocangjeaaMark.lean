import Derived.Test.YtbfjfjocangjeaaBase
namespace Go.Proofs.Ytbfjfjocangjeaa
set_option maxRecDepth 20000
open Go.RowKit

/-- What a mark lays: k, k + 1, .. as bytes. -/
def marks (k n : Nat) : List UInt8 := (List.range n).map fun i => UInt8.ofNat (k + i)
theorem marks_len (k n : Nat) : (marks k n).length = n := by simp [marks]
theorem marks_at {k n i : Nat} (h : i < n) : (marks k n)[i]? = some (UInt8.ofNat (k + i)) := by simp [marks, h]
theorem byte_num (n : Nat) : ((UInt8.ofNat n).toNat : Int) = (n : Int) % 256 := by
  rw [UInt8.toNat_ofNat']
  omega

theorem laid_set {α : Type} (f : Nat → α) (l : List α) (n i : Nat) (hi : i < n) (hn : l.length = n) : ((List.range i).map f ++ l.drop i).set i (f i) = (List.range (i + 1)).map f ++ l.drop (i + 1) := by
  apply List.ext_getElem?
  intro j
  have h1 : ((List.range i).map f).length = i := by simp
  have h2 : ((List.range (i + 1)).map f).length = i + 1 := by simp
  rw [List.getElem?_set]
  by_cases hj : i = j
  · subst hj
    rw [if_pos rfl, if_pos (by simp; omega), List.getElem?_append_left (by omega)]
    simp
  · rw [if_neg hj]
    rcases Nat.lt_or_ge j i with h3 | h3
    · rw [List.getElem?_append_left (by omega), List.getElem?_append_left (by omega)]
      simp [h3, show j < i + 1 by omega]
    · rw [List.getElem?_append_right (by omega), List.getElem?_append_right (by omega), h1, h2, List.getElem?_drop, List.getElem?_drop]
      congr 1
      omega

/-- Elements of a row laid over, one by one: 'f i' at place i; each bears 'per' numbers. -/
def MarkRel {α : Type} (E : Enc α) (f : Nat → α) (per : Nat) (w : World) (base : Nat) (A : Option Addr) (n c : Nat) (l : List α) (k : Nat) (vk i : Value) (wr : World) : Prop :=
  ∃ j : Nat, j ≤ n ∧ i = .int .i64 j ∧ vk = .int .i64 ((k : Int) + per * j) ∧ Ow E wr base A n c ((List.range j).map f ++ l.drop j) ∧ w.grownBy wr (A.map (·.block))
theorem markRel_start {α : Type} {E : Enc α} (f : Nat → α) (per : Nat) {w : World} {base : Nat} {A : Option Addr} {n c : Nat} {l : List α} (k : Nat) (h : Ow E w base A n c l) : MarkRel E f per w base A n c l k (.int .i64 k) (.int .i64 0) w :=
  ⟨0, Nat.zero_le _, rfl, by simp, by simpa using h, World.grownBy.refl _ _⟩
theorem markRel_at {α : Type} (f : Nat → α) (l : List α) (n j : Nat) (hj : j < n) (hn : l.length = n) : ∃ a, ((List.range j).map f ++ l.drop j)[j]? = some a := by
  refine ⟨l[j], ?_⟩
  rw [List.getElem?_append_right (by simp)]
  simp [show j < l.length by omega]
theorem markRel_end {α : Type} {E : Enc α} {f : Nat → α} {wr : World} {base : Nat} {A : Option Addr} {n c j : Nat} {l : List α} (h : Ow E wr base A n c ((List.range j).map f ++ l.drop j)) (hj : j = n) (hn : l.length = n) :
    Ow E wr base A n c ((List.range n).map f) := by
  subst hj
  rw [List.drop_of_length_le (by omega), List.append_nil] at h
  exact h

def HeldRel (w : World) (n : Nat) (per k : Nat) (vk i : Value) (wr : World) : Prop :=
  ∃ j : Nat, j ≤ n ∧ i = .int .i64 j ∧ vk = .int .i64 ((k : Int) + per * j) ∧ Below w.heap.size w wr
theorem heldRel_start (w : World) (n per k : Nat) : HeldRel w n per k (.int .i64 k) (.int .i64 0) w := ⟨0, Nat.zero_le _, rfl, by simp, Below.refl _ _⟩

end Go.Proofs.Ytbfjfjocangjeaa
