/-
  Two answers that hold a record, held against one another as the law does it.
-/
import Derived.Test.YteiclanlhnccnaaDoorRcdTo
namespace Go.Proofs.YteiclanlhnccnaaDoor
set_option maxRecDepth 20000
open Go.RowKit
set_option linter.unusedSimpArgs false
set_option linter.unusedVariables false

theorem At.eightR {w : World} {g : Nat} {t : TypeId} {a b c d e f h i : Value} (k : At w g t #[a, b, c, d, e, f, h, i]) : w.cell? ⟨g, 0, none⟩ = some a ∧ w.cell? ⟨g, 1, none⟩ = some b ∧ w.cell? ⟨g, 2, none⟩ = some c ∧ w.cell? ⟨g, 3, none⟩ = some d ∧ w.cell? ⟨g, 4, none⟩ = some e ∧ w.cell? ⟨g, 5, none⟩ = some f ∧ w.cell? ⟨g, 6, none⟩ = some h ∧ w.cell? ⟨g, 7, none⟩ = some i :=
  ⟨k.cell 0, k.cell 1, k.cell 2, k.cell 3, k.cell 4, k.cell 5, k.cell 6, k.cell 7⟩
set_option maxHeartbeats 2000000 in
theorem eqRecordResult (z y a0 a1 a2 a3 a4 a5 a6 b0 b1 b2 b3 b4 b5 b6 : Int) (w : World) :
    Calls Tryd.prog 18 #[.agg #[.int .i64 z, .int .i64 a0, .int .i64 a1, .int .i64 a2, .int .i64 a3, .int .i64 a4, .int .i64 a5, .int .i64 a6], .agg #[.int .i64 y, .int .i64 b0, .int .i64 b1, .int .i64 b2, .int .i64 b3, .int .i64 b4, .int .i64 b5, .int .i64 b6]] w fun e w' => e = .returned (.bool (decide (z = y) && decide ((a0, a1, (a2, a3, a4, a5), a6) = (b0, b1, (b2, b3, b4, b5), b6)))) ∧ Below w.heap.size w w' := by
  have hb0 : Below w.heap.size w ((w.alloc (.cells #[.int .i64 z, .int .i64 a0, .int .i64 a1, .int .i64 a2, .int .i64 a3, .int .i64 a4, .int .i64 a5, .int .i64 a6] 39)).alloc (.cells #[.int .i64 y, .int .i64 b0, .int .i64 b1, .int .i64 b2, .int .i64 b3, .int .i64 b4, .int .i64 b5, .int .i64 b6] 39)) := ((Below.refl _ _).alloc (Nat.le_refl _) _).alloc (by simp) _
  by_cases h0 : z = y
  rotate_left
  · have hn : (z != y) = true := by rw [bne_iff_ne]; exact h0
    have Hf := Lib.hid (show (decide (z = y) && decide ((a0, a1, (a2, a3, a4, a5), a6) = (b0, b1, (b2, b3, b4, b5), b6))) = false by simp [h0])
    clear h0
    go_enter Tryd.func18, Tryd.ntmps18
    go_wp2
    go_ret
    exact ⟨by rw [Hf.out]; try rfl, hb0⟩
  subst h0
  have hn0 : (z != z) = false := by simp
  rcases hd : decide ((a0, a1, (a2, a3, a4, a5), a6) = (b0, b1, (b2, b3, b4, b5), b6))
  all_goals
    have Hd := Lib.hid hd
    clear hd
    go_enter Tryd.func18, Tryd.ntmps18
    go_wp2_with fail
    refine (eqRecord a0 a1 a2 a3 a4 a5 a6 b0 b1 b2 b3 b4 b5 b6 _).mono ?_
    rintro e w1 ⟨rfl, hb1⟩
    rw [Hd.out]
    go_wp2
    go_ret
    exact ⟨by simp, hb0.trans (hb1.mono hb0.size)⟩
end Go.Proofs.YteiclanlhnccnaaDoor
