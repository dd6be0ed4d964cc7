/-
  Members: the law's own copying and comparing of them, and of an answer of a code and a member.
-/
import Derived.Test.YtbfjfjocangjeaaMrks
namespace Go.Proofs.Ytbfjfjocangjeaa
set_option maxRecDepth 20000
open Go.RowKit
set_option linter.unusedSimpArgs false

/-- An answer of a code and a member. -/
def RetMb (r : Int × Mbr) (w : World) (e : Ending) (w' : World) : Prop :=
  e = .returned (.agg #[.int .i64 r.1, .int .i64 r.2.1.1, .int .i64 r.2.1.2, .int .i64 r.2.2]) ∧ Below w.heap.size w w'
theorem At.twoC {w : World} {g : Nat} {t : TypeId} {a b : Value} (k : At w g t #[a, b]) : w.cell? ⟨g, 0, none⟩ = some a ∧ w.cell? ⟨g, 1, none⟩ = some b :=
  ⟨k.cell 0, k.cell 1⟩
theorem At.threeC {w : World} {g : Nat} {t : TypeId} {a b c : Value} (k : At w g t #[a, b, c]) : w.cell? ⟨g, 0, none⟩ = some a ∧ w.cell? ⟨g, 1, none⟩ = some b ∧ w.cell? ⟨g, 2, none⟩ = some c ∧ w.frozen? ⟨g, 0, none⟩ = false ∧ w.frozen? ⟨g, 1, none⟩ = false ∧ w.frozen? ⟨g, 2, none⟩ = false :=
  ⟨k.cell 0, k.cell 1, k.cell 2, k.frozen 0, k.frozen 1, k.frozen 2⟩

theorem eqMember_same (a0 a1 a2 : Int) (w : World) :
    Calls Try.prog 107 #[.agg #[.int .i64 a0, .int .i64 a1, .int .i64 a2], .agg #[.int .i64 a0, .int .i64 a1, .int .i64 a2]] w fun e w' =>
      e = .returned (.bool true) ∧ Below w.heap.size w w' := by
  have hb0 : Below w.heap.size w ((w.alloc (.cells #[.int .i64 a0, .int .i64 a1, .int .i64 a2] 27)).alloc (.cells #[.int .i64 a0, .int .i64 a1, .int .i64 a2] 27)) := ((Below.refl _ _).alloc (Nat.le_refl _) _).alloc (by simp) _
  have x1 : At ((w.alloc (.cells #[.int .i64 a0, .int .i64 a1, .int .i64 a2] 27)).alloc (.cells #[.int .i64 a0, .int .i64 a1, .int .i64 a2] 27)) w.heap.size 27 #[.int .i64 a0, .int .i64 a1, .int .i64 a2] := (At.new w 27 #[.int .i64 a0, .int .i64 a1, .int .i64 a2]).alloc _
  have x2 : At ((w.alloc (.cells #[.int .i64 a0, .int .i64 a1, .int .i64 a2] 27)).alloc (.cells #[.int .i64 a0, .int .i64 a1, .int .i64 a2] 27)) (w.heap.size + 1) 27 #[.int .i64 a0, .int .i64 a1, .int .i64 a2] := by
    have := At.new (w.alloc (.cells #[.int .i64 a0, .int .i64 a1, .int .i64 a2] 27)) 27 #[.int .i64 a0, .int .i64 a1, .int .i64 a2]
    simpa using this
  have hn : (a2 != a2) = false := by simp
  go_enter Try.func107, Try.ntmps107
  go_wp2_with fail
  refine (eqMark a0 a1 a0 a1 _).mono ?_
  rintro e w1 ⟨he, hb1⟩
  obtain rfl : e = .returned (.bool true) := by rw [he]; simp
  clear he
  obtain ⟨p0, p1, p2, _, _, _⟩ := (x1.below hb1 x1.lt).threeC
  obtain ⟨q0, q1, q2, _, _, _⟩ := (x2.below hb1 x2.lt).threeC
  go_wp2
  go_ret
  exact ⟨rfl, hb0.trans (hb1.mono hb0.size)⟩

theorem eqMemberResult_same (z a0 a1 a2 : Int) (w : World) :
    Calls Try.prog 52 #[.agg #[.int .i64 z, .int .i64 a0, .int .i64 a1, .int .i64 a2], .agg #[.int .i64 z, .int .i64 a0, .int .i64 a1, .int .i64 a2]] w fun e w' =>
      e = .returned (.bool true) ∧ Below w.heap.size w w' := by
  have hb0 : Below w.heap.size w ((w.alloc (.cells #[.int .i64 z, .int .i64 a0, .int .i64 a1, .int .i64 a2] 31)).alloc (.cells #[.int .i64 z, .int .i64 a0, .int .i64 a1, .int .i64 a2] 31)) := ((Below.refl _ _).alloc (Nat.le_refl _) _).alloc (by simp) _
  have hn : (z != z) = false := by simp
  go_enter Try.func52, Try.ntmps52
  go_wp2_with fail
  refine (eqMember_same a0 a1 a2 _).mono ?_
  rintro e w1 ⟨rfl, hb1⟩
  go_wp2
  go_ret
  exact ⟨rfl, hb0.trans (hb1.mono hb0.size)⟩

set_option maxHeartbeats 400000 in
theorem toMember (a0 a1 a2 : Int) (w : World) :
    Calls Try.prog 51 #[.agg #[.int .i64 a0, .int .i64 a1, .int .i64 a2]] w fun e w' => e = .returned (.agg #[.int .i64 a0, .int .i64 a1, .int .i64 a2]) ∧ Below w.heap.size w w' := by
  have hb4 : Below w.heap.size w (((w.alloc (.cells #[.int .i64 a0, .int .i64 a1, .int .i64 a2] 72)).alloc (.cells #[.int .i64 0, .int .i64 0, .int .i64 0] 27)).alloc (.cells #[.int .i64 0, .int .i64 0, .int .i64 0] 27)) := (((Below.refl _ _).alloc (Nat.le_refl _) _).alloc (by simp) _).alloc (by simp; omega) _
  have x4 : At (((w.alloc (.cells #[.int .i64 a0, .int .i64 a1, .int .i64 a2] 72)).alloc (.cells #[.int .i64 0, .int .i64 0, .int .i64 0] 27)).alloc (.cells #[.int .i64 0, .int .i64 0, .int .i64 0] 27)) w.heap.size 72 #[.int .i64 a0, .int .i64 a1, .int .i64 a2] := ((At.new w 72 #[.int .i64 a0, .int .i64 a1, .int .i64 a2]).alloc _).alloc _
  have r4 : At (((w.alloc (.cells #[.int .i64 a0, .int .i64 a1, .int .i64 a2] 72)).alloc (.cells #[.int .i64 0, .int .i64 0, .int .i64 0] 27)).alloc (.cells #[.int .i64 0, .int .i64 0, .int .i64 0] 27)) (w.heap.size + 1) 27 #[.int .i64 0, .int .i64 0, .int .i64 0] := by
    have := (At.new (w.alloc (.cells #[.int .i64 a0, .int .i64 a1, .int .i64 a2] 72)) 27 #[.int .i64 0, .int .i64 0, .int .i64 0]).alloc (.cells #[.int .i64 0, .int .i64 0, .int .i64 0] 27)
    simpa using this
  have o4 : At (((w.alloc (.cells #[.int .i64 a0, .int .i64 a1, .int .i64 a2] 72)).alloc (.cells #[.int .i64 0, .int .i64 0, .int .i64 0] 27)).alloc (.cells #[.int .i64 0, .int .i64 0, .int .i64 0] 27)) (w.heap.size + 2) 27 #[.int .i64 0, .int .i64 0, .int .i64 0] := by
    have := At.new ((w.alloc (.cells #[.int .i64 a0, .int .i64 a1, .int .i64 a2] 72)).alloc (.cells #[.int .i64 0, .int .i64 0, .int .i64 0] 27)) 27 #[.int .i64 0, .int .i64 0, .int .i64 0]
    simpa using this
  go_enter Try.func51, Try.ntmps51
  go_wp2_with fail
  refine (toMark a0 a1 _).mono ?_
  rintro e w1 ⟨rfl, hb1⟩
  obtain ⟨p0, p1, p2, _, _, _⟩ := (x4.below hb1 x4.lt).threeC
  obtain ⟨q0, q1, q2, qf0, qf1, qf2⟩ := (r4.below hb1 r4.lt).threeC
  obtain ⟨s0, s1, s2, sf0, sf1, sf2⟩ := (o4.below hb1 o4.lt).threeC
  have hb5 := hb4.trans (hb1.mono hb4.size)
  clear x4 r4 o4 hb4
  go_wp2
  refine bodyPost_ret (v := .agg #[.int .i64 a0, .int .i64 a1, .int .i64 a2]) (by simp [results, Try.results51, go_sem, q0, q1, q2]) rfl ?_
  refine ⟨rfl, ?_⟩
  repeat (refine Below.setCell ?_ (by simp <;> omega) _)
  exact hb5
end Go.Proofs.Ytbfjfjocangjeaa
