/-
  One record: the law's own copying and comparing of it.
-/
import Derived.Test.YteiclanlhnccnaaDoorRcds
namespace Go.Proofs.YteiclanlhnccnaaDoor
set_option maxRecDepth 20000
open Go.RowKit
set_option linter.unusedSimpArgs false
set_option linter.unusedVariables false

set_option maxHeartbeats 1000000 in
theorem toRecord (a0 a1 a2 a3 a4 a5 a6 : Int) (w : World) :
    Calls Tryd.prog 8 #[.agg #[.int .i64 a0, .int .i64 a1, .int .i64 a2, .int .i64 a3, .int .i64 a4, .int .i64 a5, .int .i64 a6]] w fun e w' => e = .returned (.agg #[.int .i64 a0, .int .i64 a1, .int .i64 a2, .int .i64 a3, .int .i64 a4, .int .i64 a5, .int .i64 a6]) ∧ Below w.heap.size w w' := by
  have hb4 : Below w.heap.size w (((w.alloc (.cells #[.int .i64 a0, .int .i64 a1, .int .i64 a2, .int .i64 a3, .int .i64 a4, .int .i64 a5, .int .i64 a6] 25)).alloc (.cells #[.int .i64 0, .int .i64 0, .int .i64 0, .int .i64 0, .int .i64 0, .int .i64 0, .int .i64 0] 29)).alloc (.cells #[.int .i64 a0, .int .i64 a1, .int .i64 0, .int .i64 0, .int .i64 0, .int .i64 0, .int .i64 0] 29)) := (((Below.refl _ _).alloc (Nat.le_refl _) _).alloc (by simp) _).alloc (by simp; omega) _
  have x4 : At (((w.alloc (.cells #[.int .i64 a0, .int .i64 a1, .int .i64 a2, .int .i64 a3, .int .i64 a4, .int .i64 a5, .int .i64 a6] 25)).alloc (.cells #[.int .i64 0, .int .i64 0, .int .i64 0, .int .i64 0, .int .i64 0, .int .i64 0, .int .i64 0] 29)).alloc (.cells #[.int .i64 a0, .int .i64 a1, .int .i64 0, .int .i64 0, .int .i64 0, .int .i64 0, .int .i64 0] 29)) w.heap.size 25 #[.int .i64 a0, .int .i64 a1, .int .i64 a2, .int .i64 a3, .int .i64 a4, .int .i64 a5, .int .i64 a6] := ((At.new w 25 #[.int .i64 a0, .int .i64 a1, .int .i64 a2, .int .i64 a3, .int .i64 a4, .int .i64 a5, .int .i64 a6]).alloc _).alloc _
  have r4 : At (((w.alloc (.cells #[.int .i64 a0, .int .i64 a1, .int .i64 a2, .int .i64 a3, .int .i64 a4, .int .i64 a5, .int .i64 a6] 25)).alloc (.cells #[.int .i64 0, .int .i64 0, .int .i64 0, .int .i64 0, .int .i64 0, .int .i64 0, .int .i64 0] 29)).alloc (.cells #[.int .i64 a0, .int .i64 a1, .int .i64 0, .int .i64 0, .int .i64 0, .int .i64 0, .int .i64 0] 29)) (w.heap.size + 1) 29 #[.int .i64 0, .int .i64 0, .int .i64 0, .int .i64 0, .int .i64 0, .int .i64 0, .int .i64 0] := by
    have := (At.new (w.alloc (.cells #[.int .i64 a0, .int .i64 a1, .int .i64 a2, .int .i64 a3, .int .i64 a4, .int .i64 a5, .int .i64 a6] 25)) 29 #[.int .i64 0, .int .i64 0, .int .i64 0, .int .i64 0, .int .i64 0, .int .i64 0, .int .i64 0]).alloc (.cells #[.int .i64 a0, .int .i64 a1, .int .i64 0, .int .i64 0, .int .i64 0, .int .i64 0, .int .i64 0] 29)
    simpa using this
  have o4 : At (((w.alloc (.cells #[.int .i64 a0, .int .i64 a1, .int .i64 a2, .int .i64 a3, .int .i64 a4, .int .i64 a5, .int .i64 a6] 25)).alloc (.cells #[.int .i64 0, .int .i64 0, .int .i64 0, .int .i64 0, .int .i64 0, .int .i64 0, .int .i64 0] 29)).alloc (.cells #[.int .i64 a0, .int .i64 a1, .int .i64 0, .int .i64 0, .int .i64 0, .int .i64 0, .int .i64 0] 29)) (w.heap.size + 2) 29 #[.int .i64 a0, .int .i64 a1, .int .i64 0, .int .i64 0, .int .i64 0, .int .i64 0, .int .i64 0] := by
    have := At.new ((w.alloc (.cells #[.int .i64 a0, .int .i64 a1, .int .i64 a2, .int .i64 a3, .int .i64 a4, .int .i64 a5, .int .i64 a6] 25)).alloc (.cells #[.int .i64 0, .int .i64 0, .int .i64 0, .int .i64 0, .int .i64 0, .int .i64 0, .int .i64 0] 29)) 29 #[.int .i64 a0, .int .i64 a1, .int .i64 0, .int .i64 0, .int .i64 0, .int .i64 0, .int .i64 0]
    simpa using this
  go_enter Tryd.func8, Tryd.ntmps8
  go_wp2_with fail
  refine (toSample a2 a3 a4 a5 _).mono ?_
  rintro e w1 ⟨rfl, hb1⟩
  obtain ⟨p0, p1, p2, p3, p4, p5, p6⟩ := (x4.below hb1 x4.lt).seven
  have r5 := r4.below hb1 r4.lt
  have o5 := o4.below hb1 o4.lt
  obtain ⟨q0, q1, q2, q3, q4, q5, q6⟩ := r5.seven
  obtain ⟨qf0, qf1, qf2, qf3, qf4, qf5, qf6⟩ := r5.sevenF
  obtain ⟨s0, s1, s2, s3, s4, s5, s6⟩ := o5.seven
  obtain ⟨sf0, sf1, sf2, sf3, sf4, sf5, sf6⟩ := o5.sevenF
  have hb5 := hb4.trans (hb1.mono hb4.size)
  clear x4 r4 o4 r5 o5 hb4
  go_wp2
  refine bodyPost_ret (v := .agg #[.int .i64 a0, .int .i64 a1, .int .i64 a2, .int .i64 a3, .int .i64 a4, .int .i64 a5, .int .i64 a6]) (by simp [results, Tryd.results8, go_sem, q0, q1, q2, q3, q4, q5, q6]) rfl ?_
  refine ⟨rfl, ?_⟩
  repeat (refine Below.setCell ?_ (by simp <;> omega) _)
  exact hb5

set_option maxHeartbeats 2000000 in
theorem eqRecord (a0 a1 a2 a3 a4 a5 a6 b0 b1 b2 b3 b4 b5 b6 : Int) (w : World) :
    Calls Tryd.prog 40 #[.agg #[.int .i64 a0, .int .i64 a1, .int .i64 a2, .int .i64 a3, .int .i64 a4, .int .i64 a5, .int .i64 a6], .agg #[.int .i64 b0, .int .i64 b1, .int .i64 b2, .int .i64 b3, .int .i64 b4, .int .i64 b5, .int .i64 b6]] w fun e w' => e = .returned (.bool (decide ((a0, a1, (a2, a3, a4, a5), a6) = (b0, b1, (b2, b3, b4, b5), b6)))) ∧ Below w.heap.size w w' := by
  have hb0 : Below w.heap.size w ((w.alloc (.cells #[.int .i64 a0, .int .i64 a1, .int .i64 a2, .int .i64 a3, .int .i64 a4, .int .i64 a5, .int .i64 a6] 29)).alloc (.cells #[.int .i64 b0, .int .i64 b1, .int .i64 b2, .int .i64 b3, .int .i64 b4, .int .i64 b5, .int .i64 b6] 29)) := ((Below.refl _ _).alloc (Nat.le_refl _) _).alloc (by simp) _
  have x1 := (At.new w 29 #[.int .i64 a0, .int .i64 a1, .int .i64 a2, .int .i64 a3, .int .i64 a4, .int .i64 a5, .int .i64 a6]).alloc (.cells #[.int .i64 b0, .int .i64 b1, .int .i64 b2, .int .i64 b3, .int .i64 b4, .int .i64 b5, .int .i64 b6] 29)
  have x2 : At ((w.alloc (.cells #[.int .i64 a0, .int .i64 a1, .int .i64 a2, .int .i64 a3, .int .i64 a4, .int .i64 a5, .int .i64 a6] 29)).alloc (.cells #[.int .i64 b0, .int .i64 b1, .int .i64 b2, .int .i64 b3, .int .i64 b4, .int .i64 b5, .int .i64 b6] 29)) (w.heap.size + 1) 29 #[.int .i64 b0, .int .i64 b1, .int .i64 b2, .int .i64 b3, .int .i64 b4, .int .i64 b5, .int .i64 b6] := by
    have := At.new (w.alloc (.cells #[.int .i64 a0, .int .i64 a1, .int .i64 a2, .int .i64 a3, .int .i64 a4, .int .i64 a5, .int .i64 a6] 29)) 29 #[.int .i64 b0, .int .i64 b1, .int .i64 b2, .int .i64 b3, .int .i64 b4, .int .i64 b5, .int .i64 b6]
    simpa using this
  by_cases h0 : a0 = b0
  rotate_left
  · have hn : (a0 != b0) = true := by rw [bne_iff_ne]; exact h0
    have Hf := Lib.hid (show decide ((a0, a1, (a2, a3, a4, a5), a6) = (b0, b1, (b2, b3, b4, b5), b6)) = false by simp [h0])
    clear h0 x1 x2
    go_enter Tryd.func40, Tryd.ntmps40
    go_wp2
    go_ret
    exact ⟨by rw [Hf.out]; rfl, hb0⟩
  subst h0
  have hn0 : (a0 != a0) = false := by simp
  by_cases h1 : a1 = b1
  rotate_left
  · have hn : (a1 != b1) = true := by rw [bne_iff_ne]; exact h1
    have Hf := Lib.hid (show decide ((a0, a1, (a2, a3, a4, a5), a6) = (a0, b1, (b2, b3, b4, b5), b6)) = false by simp [h1])
    clear h1 x1 x2
    go_enter Tryd.func40, Tryd.ntmps40
    go_wp2
    go_ret
    exact ⟨by rw [Hf.out]; rfl, hb0⟩
  subst h1
  have hn1 : (a1 != a1) = false := by simp
  by_cases h2 : (a2, a3, a4, a5) = (b2, b3, b4, b5)
  rotate_left
  · have Hd := Lib.hid (show decide ((a2, a3, a4, a5) = (b2, b3, b4, b5)) = false by simpa using h2)
    have Hf := Lib.hid (show decide ((a0, a1, (a2, a3, a4, a5), a6) = (a0, a1, (b2, b3, b4, b5), b6)) = false by
      simp only [decide_eq_false_iff_not]
      intro e
      exact h2 (Prod.mk.inj (Prod.mk.inj (Prod.mk.inj e).2).2).1)
    clear h2
    go_enter Tryd.func40, Tryd.ntmps40
    go_wp2_with fail
    refine (eqSample a2 a3 a4 a5 b2 b3 b4 b5 _).mono ?_
    rintro e w1 ⟨rfl, hb1⟩
    rw [Hd.out]
    go_wp2
    go_ret
    exact ⟨by rw [Hf.out]; rfl, hb0.trans (hb1.mono hb0.size)⟩
  obtain ⟨rfl, rfl, rfl, rfl⟩ : a2 = b2 ∧ a3 = b3 ∧ a4 = b4 ∧ a5 = b5 := by simpa using h2
  clear h2
  by_cases h6 : a6 = b6
  rotate_left
  · have hn : (a6 != b6) = true := by rw [bne_iff_ne]; exact h6
    have Hf := Lib.hid (show decide ((a0, a1, (a2, a3, a4, a5), a6) = (a0, a1, (a2, a3, a4, a5), b6)) = false by simp [h6])
    clear h6
    go_enter Tryd.func40, Tryd.ntmps40
    go_wp2_with fail
    refine (eqSample a2 a3 a4 a5 a2 a3 a4 a5 _).mono ?_
    rintro e w1 ⟨he, hb1⟩
    obtain rfl : e = .returned (.bool true) := by rw [he]; simp
    clear he
    obtain ⟨p0, p1, p2, p3, p4, p5, p6⟩ := (x1.below hb1 x1.lt).seven
    obtain ⟨q0, q1, q2, q3, q4, q5, q6⟩ := (x2.below hb1 x2.lt).seven
    go_wp2
    go_ret
    exact ⟨by rw [Hf.out]; rfl, hb0.trans (hb1.mono hb0.size)⟩
  subst h6
  have hn6 : (a6 != a6) = false := by simp
  go_enter Tryd.func40, Tryd.ntmps40
  go_wp2_with fail
  refine (eqSample a2 a3 a4 a5 a2 a3 a4 a5 _).mono ?_
  rintro e w1 ⟨he, hb1⟩
  obtain rfl : e = .returned (.bool true) := by rw [he]; simp
  clear he
  obtain ⟨p0, p1, p2, p3, p4, p5, p6⟩ := (x1.below hb1 x1.lt).seven
  obtain ⟨q0, q1, q2, q3, q4, q5, q6⟩ := (x2.below hb1 x2.lt).seven
  go_wp2
  go_ret
  exact ⟨by simp, hb0.trans (hb1.mono hb0.size)⟩
end Go.Proofs.YteiclanlhnccnaaDoor
