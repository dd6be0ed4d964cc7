/-
  The law FnExactRecordFault, walked over a contract of the program's function.
-/
import Derived.Test.YteiclanlhnccnaaDoorRcdTo
import Derived.Test.YteiclanlhnccnaaDoorRecS
namespace Go.Proofs.YteiclanlhnccnaaDoor
set_option maxRecDepth 20000
open Go.RowKit
set_option linter.unusedSimpArgs false
set_option linter.unusedVariables false

set_option maxHeartbeats 1000000 in
theorem fnExactRecordFault_walk (HI : ∀ (x0 x1 x2 x3 x4 x5 x6 : Int) (W : World), Flds W → Calls Tryd.prog 9 #[.agg #[.int .i64 x0, .int .i64 x1, .int .i64 x2, .int .i64 x3, .int .i64 x4, .int .i64 x5, .int .i64 x6]] W fun e W' => e = .returned (.int .i64 (recFaultM (x0, x1, (x2, x3, x4, x5), x6))) ∧ Below W.heap.size W W')
    (a0 a1 a2 a3 a4 a5 a6 : Int) (w : World) (hF : Flds w) :
    Calls Tryd.prog 3 #[.agg #[.int .i64 a0, .int .i64 a1, .int .i64 a2, .int .i64 a3, .int .i64 a4, .int .i64 a5, .int .i64 a6]] w fun e w' => e = .returned (.bool true) ∧ Below w.heap.size w w' := by
  have x0 := At.new w 25 #[.int .i64 a0, .int .i64 a1, .int .i64 a2, .int .i64 a3, .int .i64 a4, .int .i64 a5, .int .i64 a6]
  have hB0 : Below w.heap.size w (w.alloc (.cells #[.int .i64 a0, .int .i64 a1, .int .i64 a2, .int .i64 a3, .int .i64 a4, .int .i64 a5, .int .i64 a6] 25)) := (Below.refl _ _).alloc (Nat.le_refl _) _
  obtain ⟨r0, r1, r2, r3, r4, r5, r6⟩ := x0.seven
  go_enter Tryd.func3, Tryd.ntmps3
  go_wp2_with fail
  refine (toRecord a0 a1 a2 a3 a4 a5 a6 _).mono ?_
  rintro e w1 ⟨rfl, hb1⟩
  have x1 := x0.below hb1 x0.lt
  have hB1 := hB0.trans (hb1.mono hB0.size)
  clear r0 r1 r2 r3 r4 r5 r6
  obtain ⟨r0, r1, r2, r3, r4, r5, r6⟩ := x1.seven
  go_wp2_with fail
  refine (specRecordFault a0 a1 a2 a3 a4 a5 a6 _).mono ?_
  rintro e w2 ⟨rfl, hb2⟩
  have x2 := x1.below hb2 x1.lt
  have hB2 := hB1.trans (hb2.mono hB1.size)
  clear r0 r1 r2 r3 r4 r5 r6
  obtain ⟨r0, r1, r2, r3, r4, r5, r6⟩ := x2.seven
  go_wp2_with fail
  refine (toRecord a0 a1 a2 a3 a4 a5 a6 _).mono ?_
  rintro e w3 ⟨rfl, hb3⟩
  have x3 := x2.below hb3 x2.lt
  have hB3 := hB2.trans (hb3.mono hB2.size)
  clear r0 r1 r2 r3 r4 r5 r6
  obtain ⟨r0, r1, r2, r3, r4, r5, r6⟩ := x3.seven
  go_wp2_with fail
  refine (HI a0 a1 a2 a3 a4 a5 a6 _ (hF.below hB3)).mono ?_
  rintro e w4 ⟨rfl, hb4⟩
  have x4 := x3.below hb4 x3.lt
  have hB4 := hB3.trans (hb4.mono hB3.size)
  clear r0 r1 r2 r3 r4 r5 r6
  obtain ⟨r0, r1, r2, r3, r4, r5, r6⟩ := x4.seven
  go_wp2_with fail
  go_ret
  exact ⟨by simp, hB4⟩
end Go.Proofs.YteiclanlhnccnaaDoor
