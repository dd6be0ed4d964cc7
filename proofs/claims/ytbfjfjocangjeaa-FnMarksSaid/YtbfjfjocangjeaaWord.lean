import Derived.Test.YtbfjfjocangjeaaBound
import Derived.Test.YtbfjfjocangjeaaBR
import Derived.Test.YtbfjfjocangjeaaTo
namespace Go.Proofs.Ytbfjfjocangjeaa
set_option maxRecDepth 20000
open Go.RowKit

/-- The first s bytes of a number, the lowest one first. -/
def packL (m s : Nat) : List UInt8 := (List.range s).map fun i => UInt8.ofNat (m / 256 ^ i)
theorem packL_len (m s : Nat) : (packL m s).length = s := by simp [packL]
theorem packL_succ (m s : Nat) : packL m (s + 1) = packL m s ++ [UInt8.ofNat (m / 256 ^ s)] := by simp [packL, List.range_succ]
theorem div_next (m k q : Nat) (h : q = m / 256 ^ k) : q / 256 = m / 256 ^ (k + 1) := by
  rw [h, Nat.div_div_eq_div_mul, Nat.pow_succ]

def PackRel (w : World) (m s : Nat) (vn vs out : Value) (wr : World) : Prop :=
  ∃ (k q : Nat) (A : Option Addr) (c : Nat), k ≤ s ∧ vn = .int .i64 q ∧ q = m / 256 ^ k ∧ vs = .int .i64 ((s : Int) - k) ∧ out = .slice A k c ∧ Ow eB wr w.heap.size A k c (packL m k) ∧ Below w.heap.size w wr

/-- What PackWord answers: the code and the bytes. -/
def packM (n size : Int) : Int × List UInt8 :=
  if 1 ≤ size ∧ size ≤ 4 ∧ 0 ≤ n ∧ n < 256 ^ size.toNat then (0, packL n.toNat size.toNat) else (3, [])

def LeftRel (w : World) (m s : Nat) (vq vi : Value) (wr : World) : Prop :=
  ∃ k q : Nat, k ≤ s ∧ vi = .int .i64 k ∧ vq = .int .i64 q ∧ q = m / 256 ^ k ∧ Below w.heap.size w wr

theorem packM_bad {n size : Int} (h : ¬ (1 ≤ size ∧ size ≤ 4 ∧ 0 ≤ n ∧ n < 256 ^ size.toNat)) : packM n size = (3, []) := if_neg h
theorem packM_nat {m s : Nat} (h1 : 1 ≤ s) (h4 : s ≤ 4) (hm : m < 256 ^ s) : packM m s = (0, packL m s) := by
  have h : (m : Int) < 256 ^ (s : Int).toNat := by
    rw [Int.toNat_natCast]
    have h := Int.ofNat_lt.2 hm
    rw [Int.natCast_pow] at h
    exact h
  unfold packM
  rw [if_pos ⟨by omega, by omega, by omega, h⟩, Int.toNat_natCast, Int.toNat_natCast]

theorem div_zero_iff (m s : Nat) : m / 256 ^ s = 0 ↔ m < 256 ^ s := by
  rw [Nat.div_eq_zero_iff]
  have : 0 < 256 ^ s := Nat.pow_pos (by omega)
  omega

/-! ### impl.PackWord -/
theorem packL_at {m s k : Nat} (h : k < s) : (packL m s)[k]? = some (UInt8.ofNat (m / 256 ^ k)) := by simp [packL, h]
theorem shr_byte (m j : Nat) : (m : Int) / 2 ^ (8 * j) % 256 = ((UInt8.ofNat (m / 256 ^ j)).toNat : Int) := by
  rw [byte_num, Int.natCast_ediv, Int.natCast_pow]
  have h : (2 : Int) ^ (8 * j) = ((256 : Nat) : Int) ^ j := by rw [Int.pow_mul]; rfl
  rw [h]
def ImplRel (w : World) (m s g t : Nat) (vi : Value) (wr : World) : Prop :=
  At wr w.heap.size t #[.int .i64 0, .slice none 0 0] ∧ ToRel eB 0 w g (packL m s) s vi wr

end Go.Proofs.Ytbfjfjocangjeaa
