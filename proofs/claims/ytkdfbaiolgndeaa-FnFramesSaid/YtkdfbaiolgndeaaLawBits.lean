/-
  Small steps of the law: a field of an answer, two answers compared.
-/
import Derived.Test.YtkdfbaiolgndeaaPure
namespace Go.Proofs.Ytkdfbaiolgndeaa
open Go.RowKit

theorem fldB0 (z : Int) (A : Option Addr) (k c : Nat) (u : World) : (Instr.field 30 (.agg #[.int .i64 z, .slice A k c]) 0).run Try.prog u = .ok (.int .i64 z) u := by kernel_rfl
theorem fldB1 (z : Int) (A : Option Addr) (k c : Nat) (u : World) : (Instr.field 30 (.agg #[.int .i64 z, .slice A k c]) 1).run Try.prog u = .ok (.slice A k c) u := by kernel_rfl
theorem fldF1 (z y : Int) (A : Option Addr) (k c : Nat) (u : World) : (Instr.field 27 (.agg #[.int .i64 z, .slice A k c, .int .i64 y]) 1).run Try.prog u = .ok (.slice A k c) u := by kernel_rfl
theorem neqI (a b : Int) (u : World) : (binOp .neq 40 (.agg #[.int .i64 a, .int .i64 b]) (.agg #[.int .i64 a, .int .i64 b])).run Try.prog u = .ok (.bool false) u := by
  go_simp

theorem few (l : List (List UInt8)) : l.length ≤ (l.flatMap frameL).length := by
  induction l with
  | nil => simp
  | cons b l ih =>
    rw [List.flatMap_cons, List.length_append, List.length_cons, frameL_len]
    omega
theorem flat_take (l : List (List UInt8)) {i : Nat} {b : List UInt8} (h : l[i]? = some b) : (l.take (i + 1)).flatMap frameL = (l.take i).flatMap frameL ++ frameL b := by
  have hl := getElem?_some_lt h
  rw [List.getElem?_eq_getElem hl] at h
  rw [List.take_succ_eq_append_getElem hl, List.flatMap_append, Option.some.inj h]
  simp

/-- One bit. -/
theorem bit8 (k : Nat) (hk : k < 8) : ∃ y : UInt8, y ≠ 0 ∧ IntKind.u8.wrap ((2 : Int) ^ min (IntKind.u64.wrap (k : Int)).toNat 8) = (y.toNat : Int) := by
  rcases (show k = 0 ∨ k = 1 ∨ k = 2 ∨ k = 3 ∨ k = 4 ∨ k = 5 ∨ k = 6 ∨ k = 7 by omega) with rfl | rfl | rfl | rfl | rfl | rfl | rfl | rfl
  · exact ⟨1, by decide, by decide⟩
  · exact ⟨2, by decide, by decide⟩
  · exact ⟨4, by decide, by decide⟩
  · exact ⟨8, by decide, by decide⟩
  · exact ⟨16, by decide, by decide⟩
  · exact ⟨32, by decide, by decide⟩
  · exact ⟨64, by decide, by decide⟩
  · exact ⟨128, by decide, by decide⟩
theorem xor_other {x y : UInt8} (h : y ≠ 0) : x ≠ x ^^^ y := by
  intro he
  have h1 := congrArg (x ^^^ ·) he
  simp only [UInt8.xor_self, ← UInt8.xor_assoc, UInt8.zero_xor] at h1
  exact h h1.symm

/-- What the rounds have packed. -/
def AllRel (W : World) (bods : List (List UInt8)) (K : Nat) (va vi : Value) (wr : World) : Prop :=
  ∃ (i : Nat) (A : Option Addr) (L c : Nat), i ≤ K ∧ vi = .int .i64 (i : Nat) ∧ va = .slice A L c ∧ Ow eB wr W.heap.size A L c ((bods.take i).flatMap frameL) ∧ L ≤ 43 * i ∧ Below W.heap.size W wr
end Go.Proofs.Ytkdfbaiolgndeaa
