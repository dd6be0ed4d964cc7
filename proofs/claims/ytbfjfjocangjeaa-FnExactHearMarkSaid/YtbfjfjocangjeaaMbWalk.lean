/-
  The exact laws of marks and members without a row: the walks.
-/
import Derived.Test.YtbfjfjocangjeaaMbT
import Derived.Test.YtbfjfjocangjeaaIR
namespace Go.Proofs.Ytbfjfjocangjeaa
set_option maxRecDepth 20000
open Go.RowKit
set_option linter.unusedSimpArgs false
set_option linter.unusedVariables false
attribute [local irreducible] mixW

set_option maxHeartbeats 1000000 in
theorem fnExactMarkFault_walk (d e0 : Int) (w : World) :
    Calls Try.prog 8 #[.agg #[.int .i64 d, .int .i64 e0]] w fun e w' => e = .returned (.bool true) ∧ Below w.heap.size w w' := by
  have SP := specMarkFault d e0
  have IP := implMarkFault d e0
  have hB0 := (Below.refl w.heap.size w).alloc (Nat.le_refl _) (.cells #[.int .i64 d, .int .i64 e0] 67)
  have x0 := At.new w 67 #[.int .i64 d, .int .i64 e0]
  go_enter Try.func8, Try.ntmps8
  have hne : (markFaultM (d, e0) != markFaultM (d, e0)) = false := by simp
  go_wp2_with fail
  refine (toMark d e0 _).mono ?_
  rintro e w1 ⟨rfl, hb1⟩
  have x1 := x0.below hb1 x0.lt
  have hB1 := hB0.trans (hb1.mono hB0.size)
  go_wp2_with fail
  refine (SP _).mono ?_
  rintro e w2 ⟨rfl, hb2⟩
  have x2 := x1.below hb2 x1.lt
  have hB2 := hB1.trans (hb2.mono hB1.size)
  obtain ⟨p0, p1⟩ := x2.twoC
  go_wp2_with fail
  refine (toMark d e0 _).mono ?_
  rintro e w3 ⟨rfl, hb3⟩
  have x3 := x2.below hb3 x2.lt
  have hB3 := hB2.trans (hb3.mono hB2.size)
  go_wp2_with fail
  refine (IP _).mono ?_
  rintro e w4 ⟨rfl, hb4⟩
  have x4 := x3.below hb4 x3.lt
  have hB4 := hB3.trans (hb4.mono hB3.size)
  go_wp2
  go_ret
  exact ⟨rfl, hB4⟩

set_option maxHeartbeats 1000000 in
theorem fnExactMemberFault_walk (a b c : Int) (w : World) :
    Calls Try.prog 10 #[.agg #[.int .i64 a, .int .i64 b, .int .i64 c]] w fun e w' => e = .returned (.bool true) ∧ Below w.heap.size w w' := by
  have SP := specMemberFault a b c
  have IP := implMemberFault a b c
  have hB0 := (Below.refl w.heap.size w).alloc (Nat.le_refl _) (.cells #[.int .i64 a, .int .i64 b, .int .i64 c] 72)
  have x0 := At.new w 72 #[.int .i64 a, .int .i64 b, .int .i64 c]
  go_enter Try.func10, Try.ntmps10
  have hne : (memFaultM ((a, b), c) != memFaultM ((a, b), c)) = false := by simp
  go_wp2_with fail
  refine (toMember a b c _).mono ?_
  rintro e w1 ⟨rfl, hb1⟩
  have x1 := x0.below hb1 x0.lt
  have hB1 := hB0.trans (hb1.mono hB0.size)
  go_wp2_with fail
  refine (SP _).mono ?_
  rintro e w2 ⟨rfl, hb2⟩
  have x2 := x1.below hb2 x1.lt
  have hB2 := hB1.trans (hb2.mono hB1.size)
  obtain ⟨p0, p1, p2, _, _, _⟩ := x2.threeC
  go_wp2_with fail
  refine (toMember a b c _).mono ?_
  rintro e w3 ⟨rfl, hb3⟩
  have x3 := x2.below hb3 x2.lt
  have hB3 := hB2.trans (hb3.mono hB2.size)
  go_wp2_with fail
  refine (IP _).mono ?_
  rintro e w4 ⟨rfl, hb4⟩
  have x4 := x3.below hb4 x3.lt
  have hB4 := hB3.trans (hb4.mono hB3.size)
  go_wp2
  go_ret
  exact ⟨rfl, hB4⟩

set_option maxHeartbeats 1000000 in
theorem fnExactSuspectMember_walk (a b c n : Int) (w : World) :
    Calls Try.prog 12 #[.agg #[.int .i64 a, .int .i64 b, .int .i64 c], .int .i64 n] w fun e w' => e = .returned (.bool true) ∧ Below w.heap.size w w' := by
  have SP := specSuspectMember a b c n
  have IP := implSuspectMember a b c n
  generalize suspM ((a, b), c) n = R at SP IP
  obtain ⟨r, ⟨r1, r2⟩, r3⟩ := R
  (try simp only [RetMb] at SP IP)
  have hB0 := (Below.refl w.heap.size w).alloc (Nat.le_refl _) (.cells #[.int .i64 a, .int .i64 b, .int .i64 c] 72)
  have x0 := At.new w 72 #[.int .i64 a, .int .i64 b, .int .i64 c]
  go_enter Try.func12, Try.ntmps12
  go_wp2_with fail
  refine (toMember a b c _).mono ?_
  rintro e w1 ⟨rfl, hb1⟩
  have x1 := x0.below hb1 x0.lt
  have hB1 := hB0.trans (hb1.mono hB0.size)
  go_wp2_with fail
  refine (SP _).mono ?_
  rintro e w2 ⟨rfl, hb2⟩
  have x2 := x1.below hb2 x1.lt
  have hB2 := hB1.trans (hb2.mono hB1.size)
  have z3 := At.new w2 31 #[.int .i64 r, .int .i64 r1, .int .i64 r2, .int .i64 r3]
  have x3 := x2.alloc (.cells #[.int .i64 r, .int .i64 r1, .int .i64 r2, .int .i64 r3] 31)
  have hB3 := hB2.alloc hB2.size (.cells #[.int .i64 r, .int .i64 r1, .int .i64 r2, .int .i64 r3] 31)
  obtain ⟨p0, p1, p2, _, _, _⟩ := x3.threeC
  go_wp2_with fail
  refine (toMember a b c _).mono ?_
  rintro e w4 ⟨rfl, hb4⟩
  have x4 := x3.below hb4 x3.lt
  have hB4 := hB3.trans (hb4.mono hB3.size)
  have z4 := z3.below hb4 z3.lt
  go_wp2_with fail
  refine (IP _).mono ?_
  rintro e w5 ⟨rfl, hb5⟩
  have x5 := x4.below hb5 x4.lt
  have hB5 := hB4.trans (hb5.mono hB4.size)
  have z5 := z4.below hb5 z4.lt
  obtain ⟨p0, p1, p2, p3, _, _, _, _⟩ := (z5.alloc (.cells #[.int .i64 r, .int .i64 r1, .int .i64 r2, .int .i64 r3] 31)).four
  have hB6 := hB5.alloc hB5.size (.cells #[.int .i64 r, .int .i64 r1, .int .i64 r2, .int .i64 r3] 31)
  go_wp2_with fail
  refine (eqMemberResult_same r r1 r2 r3 _).mono ?_
  rintro e w9 ⟨rfl, hb9⟩
  have hB9 := hB6.trans (hb9.mono hB6.size)
  go_wp2
  go_ret
  exact ⟨rfl, hB9⟩

set_option maxHeartbeats 1000000 in
theorem fnExactAgeMember_walk (a b c n : Int) (w : World) :
    Calls Try.prog 13 #[.agg #[.int .i64 a, .int .i64 b, .int .i64 c], .int .i64 n] w fun e w' => e = .returned (.bool true) ∧ Below w.heap.size w w' := by
  have SP := specAgeMember a b c n
  have IP := implAgeMember a b c n
  generalize ageM ((a, b), c) n = R at SP IP
  obtain ⟨r, ⟨r1, r2⟩, r3⟩ := R
  (try simp only [RetMb] at SP IP)
  have hB0 := (Below.refl w.heap.size w).alloc (Nat.le_refl _) (.cells #[.int .i64 a, .int .i64 b, .int .i64 c] 72)
  have x0 := At.new w 72 #[.int .i64 a, .int .i64 b, .int .i64 c]
  go_enter Try.func13, Try.ntmps13
  go_wp2_with fail
  refine (toMember a b c _).mono ?_
  rintro e w1 ⟨rfl, hb1⟩
  have x1 := x0.below hb1 x0.lt
  have hB1 := hB0.trans (hb1.mono hB0.size)
  go_wp2_with fail
  refine (SP _).mono ?_
  rintro e w2 ⟨rfl, hb2⟩
  have x2 := x1.below hb2 x1.lt
  have hB2 := hB1.trans (hb2.mono hB1.size)
  have z3 := At.new w2 31 #[.int .i64 r, .int .i64 r1, .int .i64 r2, .int .i64 r3]
  have x3 := x2.alloc (.cells #[.int .i64 r, .int .i64 r1, .int .i64 r2, .int .i64 r3] 31)
  have hB3 := hB2.alloc hB2.size (.cells #[.int .i64 r, .int .i64 r1, .int .i64 r2, .int .i64 r3] 31)
  obtain ⟨p0, p1, p2, _, _, _⟩ := x3.threeC
  go_wp2_with fail
  refine (toMember a b c _).mono ?_
  rintro e w4 ⟨rfl, hb4⟩
  have x4 := x3.below hb4 x3.lt
  have hB4 := hB3.trans (hb4.mono hB3.size)
  have z4 := z3.below hb4 z3.lt
  go_wp2_with fail
  refine (IP _).mono ?_
  rintro e w5 ⟨rfl, hb5⟩
  have x5 := x4.below hb5 x4.lt
  have hB5 := hB4.trans (hb5.mono hB4.size)
  have z5 := z4.below hb5 z4.lt
  obtain ⟨p0, p1, p2, p3, _, _, _, _⟩ := (z5.alloc (.cells #[.int .i64 r, .int .i64 r1, .int .i64 r2, .int .i64 r3] 31)).four
  have hB6 := hB5.alloc hB5.size (.cells #[.int .i64 r, .int .i64 r1, .int .i64 r2, .int .i64 r3] 31)
  go_wp2_with fail
  refine (eqMemberResult_same r r1 r2 r3 _).mono ?_
  rintro e w9 ⟨rfl, hb9⟩
  have hB9 := hB6.trans (hb9.mono hB6.size)
  go_wp2
  go_ret
  exact ⟨rfl, hB9⟩

set_option maxHeartbeats 1000000 in
theorem fnExactRefuteLife_walk (l d e0 : Int) (w : World) :
    Calls Try.prog 14 #[.int .i64 l, .agg #[.int .i64 d, .int .i64 e0]] w fun e w' => e = .returned (.bool true) ∧ Below w.heap.size w w' := by
  have SP := specRefuteLife l d e0
  have IP := implRefuteLife l d e0
  generalize refuteM l (d, e0) = R at SP IP
  obtain ⟨r, r1⟩ := R
  (try simp only [RetMb] at SP IP)
  have eqIntRes : ∀ w : World, Calls Try.prog 53 #[.agg #[.int .i64 r, .int .i64 r1], .agg #[.int .i64 r, .int .i64 r1]] w fun e w' => e = .returned (.bool true) ∧ Below w.heap.size w w' := fun w => (eqIntResult r r1 r r1 w).mono (fun e w' h => ⟨by rw [h.1]; simp, h.2⟩)
  have hB0 := (Below.refl w.heap.size w).alloc (Nat.le_refl _) (.cells #[.int .i64 d, .int .i64 e0] 67)
  have x0 := At.new w 67 #[.int .i64 d, .int .i64 e0]
  go_enter Try.func14, Try.ntmps14
  go_wp2_with fail
  refine (toMark d e0 _).mono ?_
  rintro e w1 ⟨rfl, hb1⟩
  have x1 := x0.below hb1 x0.lt
  have hB1 := hB0.trans (hb1.mono hB0.size)
  go_wp2_with fail
  refine (SP _).mono ?_
  rintro e w2 ⟨rfl, hb2⟩
  have x2 := x1.below hb2 x1.lt
  have hB2 := hB1.trans (hb2.mono hB1.size)
  have z3 := At.new w2 39 #[.int .i64 r, .int .i64 r1]
  have x3 := x2.alloc (.cells #[.int .i64 r, .int .i64 r1] 39)
  have hB3 := hB2.alloc hB2.size (.cells #[.int .i64 r, .int .i64 r1] 39)
  obtain ⟨p0, p1⟩ := x3.twoC
  go_wp2_with fail
  refine (toMark d e0 _).mono ?_
  rintro e w4 ⟨rfl, hb4⟩
  have x4 := x3.below hb4 x3.lt
  have hB4 := hB3.trans (hb4.mono hB3.size)
  have z4 := z3.below hb4 z3.lt
  go_wp2_with fail
  refine (IP _).mono ?_
  rintro e w5 ⟨rfl, hb5⟩
  have x5 := x4.below hb5 x4.lt
  have hB5 := hB4.trans (hb5.mono hB4.size)
  have z5 := z4.below hb5 z4.lt
  obtain ⟨p0, p1⟩ := (z5.alloc (.cells #[.int .i64 r, .int .i64 r1] 39)).twoC
  have hB6 := hB5.alloc hB5.size (.cells #[.int .i64 r, .int .i64 r1] 39)
  go_wp2_with fail
  refine (eqIntRes _).mono ?_
  rintro e w9 ⟨rfl, hb9⟩
  have hB9 := hB6.trans (hb9.mono hB6.size)
  go_wp2
  go_ret
  exact ⟨rfl, hB9⟩

set_option maxHeartbeats 1000000 in
theorem fnExactIsStronger_walk (a0 a1 b0 b1 : Int) (w : World) :
    Calls Try.prog 9 #[.agg #[.int .i64 a0, .int .i64 a1], .agg #[.int .i64 b0, .int .i64 b1]] w fun e w' => e = .returned (.bool true) ∧ Below w.heap.size w w' := by
  have x0 := ((At.new w 67 #[.int .i64 a0, .int .i64 a1]).alloc (.cells #[.int .i64 b0, .int .i64 b1] 67)).drew
  have y0 := (At.new (w.alloc (.cells #[.int .i64 a0, .int .i64 a1] 67)) 67 #[.int .i64 b0, .int .i64 b1]).drew
  have hB0 : Below w.heap.size w (((w.alloc (.cells #[.int .i64 a0, .int .i64 a1] 67)).alloc (.cells #[.int .i64 b0, .int .i64 b1] 67)).drew) := ((((Below.refl _ _).alloc (Nat.le_refl _) _).alloc (by simp) _)).drew
  rw [show (w.alloc (.cells #[.int .i64 a0, .int .i64 a1] 67)).heap.size = w.heap.size + 1 by simp] at y0
  go_enter Try.func9, Try.ntmps9
  go_wp2
  refine wp_region_mix [(0, false), (2, false), (1, true), (3, true), (4, true), (5, false)] (fun u => At u w.heap.size 67 #[.int .i64 a0, .int .i64 a1] ∧ At u (w.heap.size + 1) 67 #[.int .i64 b0, .int .i64 b1]) (by kernel_rfl) (by kernel_rfl) (fun _ _ _ _ _ h => h) ⟨x0, y0⟩ ?_
  simp only [mixOps, List.map_cons, List.map_nil, List.getElem?_cons_succ, List.getElem?_cons_zero, Option.getD_some]
  iterate 2
    refine mix_pure (v := ?_) (by rfl) (fun u hu => ?_) ?_
    rotate_left
    · obtain ⟨_, _⟩ := hu.1.twoC
      obtain ⟨_, _⟩ := hu.2.twoC
      go_simp
      (with_reducible rfl)
    (try simp only [Act.put, List.setIfInBounds_toArray, List.set_cons_zero, List.set_cons_succ])
  refine mix_call (by rfl) (fun K hK => ?_)
  go_simp
  refine (toMark a0 a1 _).mono ?_
  rintro e w1 ⟨rfl, hb1⟩
  have x1 := x0.below hb1 x0.lt
  have y1 := y0.below hb1 y0.lt
  have hB1 := hB0.trans (hb1.mono hB0.size)
  refine hK _ _ _ (fun _ h => h) ⟨x1, y1⟩ ?_
  (try simp only [Act.put, List.setIfInBounds_toArray, List.set_cons_zero, List.set_cons_succ])
  refine mix_call (by rfl) (fun K hK => ?_)
  go_simp
  refine (toMark b0 b1 _).mono ?_
  rintro e w2 ⟨rfl, hb2⟩
  have x2 := x1.below hb2 x1.lt
  have y2 := y1.below hb2 y1.lt
  have hB2 := hB1.trans (hb2.mono hB1.size)
  refine hK _ _ _ (fun _ h => h) ⟨x2, y2⟩ ?_
  (try simp only [Act.put, List.setIfInBounds_toArray, List.set_cons_zero, List.set_cons_succ])
  refine mix_call (by rfl) (fun K hK => ?_)
  go_simp
  refine (specIsStronger a0 a1 b0 b1 _).mono ?_
  rintro e w3 ⟨rfl, hb3⟩
  have x3 := x2.below hb3 x2.lt
  have y3 := y2.below hb3 y2.lt
  have hB3 := hB2.trans (hb3.mono hB2.size)
  refine hK _ _ _ (fun _ h => h) ⟨x3, y3⟩ ?_
  (try simp only [Act.put, List.setIfInBounds_toArray, List.set_cons_zero, List.set_cons_succ])
  refine mix_pure (v := ?_) (by rfl) (fun u hu => ?_) ?_
  rotate_left
  · go_simp
    (with_reducible rfl)
  (try simp only [Act.put, List.setIfInBounds_toArray, List.set_cons_zero, List.set_cons_succ])
  refine mix_nil ?_
  go_wp2
  have x4 := x3.drew
  have y4 := y3.drew
  have hB4 := hB3.drew
  refine wp_region_mix [(0, false), (2, false), (1, true), (3, true), (4, true), (5, false)] (fun u => At u w.heap.size 67 #[.int .i64 a0, .int .i64 a1] ∧ At u (w.heap.size + 1) 67 #[.int .i64 b0, .int .i64 b1]) (by kernel_rfl) (by kernel_rfl) (fun _ _ _ _ _ h => h) ⟨x4, y4⟩ ?_
  simp only [mixOps, List.map_cons, List.map_nil, List.getElem?_cons_succ, List.getElem?_cons_zero, Option.getD_some]
  iterate 2
    refine mix_pure (v := ?_) (by rfl) (fun u hu => ?_) ?_
    rotate_left
    · obtain ⟨_, _⟩ := hu.1.twoC
      obtain ⟨_, _⟩ := hu.2.twoC
      go_simp
      (with_reducible rfl)
    (try simp only [Act.put, List.setIfInBounds_toArray, List.set_cons_zero, List.set_cons_succ])
  refine mix_call (by rfl) (fun K hK => ?_)
  go_simp
  refine (toMark a0 a1 _).mono ?_
  rintro e w5 ⟨rfl, hb5⟩
  have x5 := x4.below hb5 x4.lt
  have y5 := y4.below hb5 y4.lt
  have hB5 := hB4.trans (hb5.mono hB4.size)
  refine hK _ _ _ (fun _ h => h) ⟨x5, y5⟩ ?_
  (try simp only [Act.put, List.setIfInBounds_toArray, List.set_cons_zero, List.set_cons_succ])
  refine mix_call (by rfl) (fun K hK => ?_)
  go_simp
  refine (toMark b0 b1 _).mono ?_
  rintro e w6 ⟨rfl, hb6⟩
  have x6 := x5.below hb6 x5.lt
  have y6 := y5.below hb6 y5.lt
  have hB6 := hB5.trans (hb6.mono hB5.size)
  refine hK _ _ _ (fun _ h => h) ⟨x6, y6⟩ ?_
  (try simp only [Act.put, List.setIfInBounds_toArray, List.set_cons_zero, List.set_cons_succ])
  refine mix_call (by rfl) (fun K hK => ?_)
  go_simp
  refine (implIsStronger a0 a1 b0 b1 _).mono ?_
  rintro e w7 ⟨rfl, hb7⟩
  have x7 := x6.below hb7 x6.lt
  have y7 := y6.below hb7 y6.lt
  have hB7 := hB6.trans (hb7.mono hB6.size)
  refine hK _ _ _ (fun _ h => h) ⟨x7, y7⟩ ?_
  (try simp only [Act.put, List.setIfInBounds_toArray, List.set_cons_zero, List.set_cons_succ])
  refine mix_pure (v := ?_) (by rfl) (fun u hu => ?_) ?_
  rotate_left
  · go_simp
    (with_reducible rfl)
  (try simp only [Act.put, List.setIfInBounds_toArray, List.set_cons_zero, List.set_cons_succ])
  refine mix_nil ?_
  go_wp2
  go_ret
  exact ⟨by simp, hB7⟩


end Go.Proofs.Ytbfjfjocangjeaa
