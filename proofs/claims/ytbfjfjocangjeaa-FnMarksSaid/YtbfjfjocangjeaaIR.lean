import Derived.Test.YtbfjfjocangjeaaBase
namespace Go.Proofs.Ytbfjfjocangjeaa
set_option maxRecDepth 20000
open Go.RowKit

/-- An answer of a code and a number. -/
def RetIR (r : Int × Int) (w : World) (e : Ending) (w' : World) : Prop :=
  e = .returned (.agg #[.int .i64 r.1, .int .i64 r.2]) ∧ Below w.heap.size w w'

set_option maxHeartbeats 400000 in
theorem eqIntResult (a b c d : Int) (w : World) :
    Calls Try.prog 53 #[.agg #[.int .i64 a, .int .i64 b], .agg #[.int .i64 c, .int .i64 d]] w fun e w' => e = .returned (.bool (decide (a = c) && decide (b = d))) ∧ Below w.heap.size w w' := by
  have hb0 : ∀ x y : Array Value, Below w.heap.size w ((w.alloc (.cells x 39)).alloc (.cells y 39)) := fun x y => ((Below.refl _ _).alloc (Nat.le_refl _) _).alloc (by simp) _
  by_cases h : a = c
  · subst h
    by_cases h2 : b = d
    · subst h2
      go_enter Try.func53, Try.ntmps53
      go_wp2
      go_ret
      exact ⟨by simp, hb0 _ _⟩
    · have hne : (b != d) = true := by rw [bne_iff_ne]; exact h2
      have Hd := Lib.hid (show decide (b = d) = false by simpa using h2)
      clear h2
      go_enter Try.func53, Try.ntmps53
      go_wp2
      go_ret
      exact ⟨by rw [Hd.out]; simp, hb0 _ _⟩
  · have hne : (a != c) = true := by rw [bne_iff_ne]; exact h
    have Hd := Lib.hid (show decide (a = c) = false by simpa using h)
    clear h
    go_enter Try.func53, Try.ntmps53
    go_wp2
    go_ret
    exact ⟨by rw [Hd.out]; rfl, hb0 _ _⟩
end Go.Proofs.Ytbfjfjocangjeaa
