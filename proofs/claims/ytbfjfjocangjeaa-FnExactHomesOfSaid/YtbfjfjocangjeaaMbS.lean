/-
  The model's marks and members: its functions without a row.
-/
import Derived.Test.YtbfjfjocangjeaaMbrs
namespace Go.Proofs.Ytbfjfjocangjeaa
set_option maxRecDepth 20000
open Go.RowKit
set_option linter.unusedSimpArgs false
set_option linter.unusedVariables false

theorem l1In_is {v lo hi : Int} {b : Bool} (h : inB (v, lo, hi) = b) (w : World) :
    Calls Try.prog 77 #[.int .i64 v, .int .i64 lo, .int .i64 hi] w fun e w' => e = .returned (.bool b) ∧ Below w.heap.size w w' := by
  subst h
  exact (l1In_any v lo hi w).mono (fun e w' h => ⟨h.1, by rw [← h.2]; exact Below.refl _ _⟩)

theorem specMarkFault (a b : Int) (w : World) :
    Calls Try.prog 34 #[.agg #[.int .i64 a, .int .i64 b]] w fun e w' => e = .returned (.int .i64 (markFaultM (a, b))) ∧ Below w.heap.size w w' := by
  have hb0 : Below w.heap.size w (w.alloc (.cells #[.int .i64 a, .int .i64 b] 25)) := (Below.refl _ _).alloc (Nat.le_refl _) _
  have x0 := At.new w 25 #[.int .i64 a, .int .i64 b]
  rcases h1 : inB (a, 1, 3)
  · have Hm := Lib.hid (show markFaultM (a, b) = 1 by simp [markFaultM, h1])
    go_enter Try.func34, Try.ntmps34
    go_wp2_with fail
    refine (l1In_is h1 _).mono ?_
    rintro e w1 ⟨rfl, hb1⟩
    go_wp2
    go_ret
    exact ⟨by first | (rw [Hm.out]; done) | (rw [Hm.out]; rfl), hb0.trans (hb1.mono hb0.size)⟩
  · rcases h2 : inB (b, 0, 60000)
    all_goals
      have Hm := Lib.hid (show markFaultM (a, b) = _ by simp only [markFaultM, h1, h2]; rfl)
      go_enter Try.func34, Try.ntmps34
      go_wp2_with fail
      refine (l1In_is h1 _).mono ?_
      rintro e w1 ⟨rfl, hb1⟩
      obtain ⟨p0, p1⟩ := (x0.below hb1 x0.lt).twoC
      have hB1 := hb0.trans (hb1.mono hb0.size)
      go_wp2_with fail
      refine (l1In_is h2 _).mono ?_
      rintro e w2 ⟨rfl, hb2⟩
      go_wp2
      go_ret
      exact ⟨by first | (rw [Hm.out]; done) | (rw [Hm.out]; rfl), hB1.trans (hb2.mono hB1.size)⟩

theorem specIsStronger (a0 a1 b0 b1 : Int) (w : World) :
    Calls Try.prog 30 #[.agg #[.int .i64 a0, .int .i64 a1], .agg #[.int .i64 b0, .int .i64 b1]] w fun e w' => e = .returned (.bool (strongM (a0, a1) (b0, b1))) ∧ Below w.heap.size w w' := by
  have Hm := Lib.hid (show strongM (a0, a1) (b0, b1) = (decide (b1 < a1) || (decide (a1 = b1) && decide (b0 < a0))) from rfl)
  by_cases h0 : b1 < a1
  · have d0 := decide_eq_true h0
    go_enter Try.func30, Try.ntmps30
    go_wp2
    go_ret
    exact ⟨by rw [Hm.out, d0]; rfl, ((Below.refl _ _).alloc (Nat.le_refl _) _).alloc (by simp) _⟩
  · have d0 := decide_eq_false h0
    by_cases h1 : a1 = b1
    · subst h1
      have d1 : (a1 == a1) = true := by simp
      go_enter Try.func30, Try.ntmps30
      go_wp2
      go_ret
      exact ⟨by rw [Hm.out]; simp, ((Below.refl _ _).alloc (Nat.le_refl _) _).alloc (by simp) _⟩
    · have d1 : (a1 == b1) = false := by simpa using h1
      have Hd := Lib.hid (decide_eq_false h1)
      clear h1
      go_enter Try.func30, Try.ntmps30
      go_wp2
      go_ret
      exact ⟨by rw [Hm.out, d0, Hd.out]; rfl, ((Below.refl _ _).alloc (Nat.le_refl _) _).alloc (by simp) _⟩

theorem specL7Now (n : Int) (w : World) :
    Calls Try.prog 72 #[.int .i64 n] w fun e w' => e = .returned (.bool (nowM n)) ∧ Below w.heap.size w w' := by
  go_enter Try.func72, Try.ntmps72
  go_wp2_with fail
  refine (l1In_is (v := n) (lo := 0) (hi := 100000) rfl _).mono ?_
  rintro e w1 ⟨rfl, hb1⟩
  go_wp2
  go_ret
  exact ⟨rfl, hb1⟩

theorem specMemberFault (a b c : Int) (w : World) :
    Calls Try.prog 32 #[.agg #[.int .i64 a, .int .i64 b, .int .i64 c]] w fun e w' => e = .returned (.int .i64 (memFaultM ((a, b), c))) ∧ Below w.heap.size w w' := by
  have hb0 : Below w.heap.size w (w.alloc (.cells #[.int .i64 a, .int .i64 b, .int .i64 c] 27)) := (Below.refl _ _).alloc (Nat.le_refl _) _
  have x0 := At.new w 27 #[.int .i64 a, .int .i64 b, .int .i64 c]
  by_cases h1 : markFaultM (a, b) = 0
  · have d1 : (markFaultM (a, b) != 0) = false := by rw [h1]; rfl
    rcases h2 : nowM c
    all_goals
      have Hm := Lib.hid (show memFaultM ((a, b), c) = _ by simp only [memFaultM, h1, h2]; rfl)
      clear h1
      go_enter Try.func32, Try.ntmps32
      go_wp2_with fail
      refine (specMarkFault a b _).mono ?_
      rintro e w1 ⟨rfl, hb1⟩
      obtain ⟨p0, p1, p2, _, _, _⟩ := (x0.below hb1 x0.lt).threeC
      have hB1 := hb0.trans (hb1.mono hb0.size)
      go_wp2_with fail
      refine (specL7Now c _).mono ?_
      rintro e w2 ⟨he, hb2⟩
      rw [h2] at he
      subst he
      go_wp2
      go_ret
      exact ⟨by first | (rw [Hm.out]; done) | (rw [Hm.out]; rfl), hB1.trans (hb2.mono hB1.size)⟩
  · have d1 : (markFaultM (a, b) != 0) = true := by rw [bne_iff_ne]; exact h1
    have Hm := Lib.hid (show memFaultM ((a, b), c) = markFaultM (a, b) by simp [memFaultM, h1])
    clear h1
    go_enter Try.func32, Try.ntmps32
    go_wp2_with fail
    refine (specMarkFault a b _).mono ?_
    rintro e w1 ⟨rfl, hb1⟩
    go_wp2
    go_ret
    exact ⟨by first | (rw [Hm.out]; done) | (rw [Hm.out]; rfl), hb0.trans (hb1.mono hb0.size)⟩

theorem specL7Hear (a b c d e0 n : Int) (w : World) :
    Calls Try.prog 73 #[.agg #[.int .i64 a, .int .i64 b, .int .i64 c], .agg #[.int .i64 d, .int .i64 e0], .int .i64 n] w fun e w' =>
      e = .returned (.agg #[.int .i64 (hearF ((a, b), c) (d, e0) n).1.1, .int .i64 (hearF ((a, b), c) (d, e0) n).1.2, .int .i64 (hearF ((a, b), c) (d, e0) n).2]) ∧ Below w.heap.size w w' := by
  have hb0 : Below w.heap.size w (((w.alloc (.cells #[.int .i64 a, .int .i64 b, .int .i64 c] 27)).alloc (.cells #[.int .i64 d, .int .i64 e0] 25)).alloc (.cells #[.int .i64 0, .int .i64 0, .int .i64 0] 27)) := (((Below.refl _ _).alloc (Nat.le_refl _) _).alloc (by simp) _).alloc (by simp; omega) _
  have x0 : At (((w.alloc (.cells #[.int .i64 a, .int .i64 b, .int .i64 c] 27)).alloc (.cells #[.int .i64 d, .int .i64 e0] 25)).alloc (.cells #[.int .i64 0, .int .i64 0, .int .i64 0] 27)) w.heap.size 27 #[.int .i64 a, .int .i64 b, .int .i64 c] := ((At.new w 27 #[.int .i64 a, .int .i64 b, .int .i64 c]).alloc _).alloc _
  have y0 : At (((w.alloc (.cells #[.int .i64 a, .int .i64 b, .int .i64 c] 27)).alloc (.cells #[.int .i64 d, .int .i64 e0] 25)).alloc (.cells #[.int .i64 0, .int .i64 0, .int .i64 0] 27)) (w.heap.size + 1) 25 #[.int .i64 d, .int .i64 e0] := by
    have := (At.new (w.alloc (.cells #[.int .i64 a, .int .i64 b, .int .i64 c] 27)) 25 #[.int .i64 d, .int .i64 e0]).alloc (.cells #[.int .i64 0, .int .i64 0, .int .i64 0] 27)
    simpa using this
  have z0 : At (((w.alloc (.cells #[.int .i64 a, .int .i64 b, .int .i64 c] 27)).alloc (.cells #[.int .i64 d, .int .i64 e0] 25)).alloc (.cells #[.int .i64 0, .int .i64 0, .int .i64 0] 27)) (w.heap.size + 2) 27 #[.int .i64 0, .int .i64 0, .int .i64 0] := by
    have := At.new ((w.alloc (.cells #[.int .i64 a, .int .i64 b, .int .i64 c] 27)).alloc (.cells #[.int .i64 d, .int .i64 e0] 25)) 27 #[.int .i64 0, .int .i64 0, .int .i64 0]
    simpa using this
  rcases h1 : strongM (d, e0) (a, b)
  all_goals
    have Hm := Lib.hid (show hearF ((a, b), c) (d, e0) n = _ by simp only [hearF, h1]; rfl)
    go_enter Try.func73, Try.ntmps73
    go_wp2_with fail
    refine (specIsStronger d e0 a b _).mono ?_
    rintro e w1 ⟨he, hb1⟩
    rw [h1] at he
    subst he
    obtain ⟨p0, p1, p2, _, _, _⟩ := (x0.below hb1 x0.lt).threeC
    obtain ⟨q0, q1⟩ := (y0.below hb1 y0.lt).twoC
    obtain ⟨r0, r1, r2, rf0, rf1, rf2⟩ := (z0.below hb1 z0.lt).threeC
    have hB1 := hb0.trans (hb1.mono hb0.size)
    clear x0 y0 z0
    go_wp2
    refine bodyPost_ret (v := .agg #[.int .i64 (hearF ((a, b), c) (d, e0) n).1.1, .int .i64 (hearF ((a, b), c) (d, e0) n).1.2, .int .i64 (hearF ((a, b), c) (d, e0) n).2]) (by simp [results, Try.results73, go_sem, Hm.out, p0, p1, p2, q0, q1, r0, r1, r2]) rfl ?_
    refine ⟨rfl, ?_⟩
    repeat (refine Below.setCell ?_ (by simp <;> omega) _)
    exact hB1

set_option maxHeartbeats 1000000 in
theorem specHearMark (a b c d e0 n : Int) (w : World) :
    Calls Try.prog 25 #[.agg #[.int .i64 a, .int .i64 b, .int .i64 c], .agg #[.int .i64 d, .int .i64 e0], .int .i64 n] w fun e w' => RetMb (hearM ((a, b), c) (d, e0) n) w e w' := by
  unfold RetMb
  have hB0 : Below w.heap.size w (((w.alloc (.cells #[.int .i64 a, .int .i64 b, .int .i64 c] 27)).alloc (.cells #[.int .i64 d, .int .i64 e0] 25)).alloc (.cells #[.int .i64 0, .int .i64 0, .int .i64 0, .int .i64 0] 31)) := (((Below.refl _ _).alloc (Nat.le_refl _) _).alloc (by simp) _).alloc (by simp; omega) _
  have x0 : At (((w.alloc (.cells #[.int .i64 a, .int .i64 b, .int .i64 c] 27)).alloc (.cells #[.int .i64 d, .int .i64 e0] 25)).alloc (.cells #[.int .i64 0, .int .i64 0, .int .i64 0, .int .i64 0] 31)) w.heap.size 27 #[.int .i64 a, .int .i64 b, .int .i64 c] := ((At.new w 27 #[.int .i64 a, .int .i64 b, .int .i64 c]).alloc _).alloc _
  have y0 : At (((w.alloc (.cells #[.int .i64 a, .int .i64 b, .int .i64 c] 27)).alloc (.cells #[.int .i64 d, .int .i64 e0] 25)).alloc (.cells #[.int .i64 0, .int .i64 0, .int .i64 0, .int .i64 0] 31)) (w.heap.size + 1) 25 #[.int .i64 d, .int .i64 e0] := by
    have := (At.new (w.alloc (.cells #[.int .i64 a, .int .i64 b, .int .i64 c] 27)) 25 #[.int .i64 d, .int .i64 e0]).alloc (.cells #[.int .i64 0, .int .i64 0, .int .i64 0, .int .i64 0] 31)
    simpa using this
  have z0 : At (((w.alloc (.cells #[.int .i64 a, .int .i64 b, .int .i64 c] 27)).alloc (.cells #[.int .i64 d, .int .i64 e0] 25)).alloc (.cells #[.int .i64 0, .int .i64 0, .int .i64 0, .int .i64 0] 31)) (w.heap.size + 2) 31 #[.int .i64 0, .int .i64 0, .int .i64 0, .int .i64 0] := by
    have := At.new ((w.alloc (.cells #[.int .i64 a, .int .i64 b, .int .i64 c] 27)).alloc (.cells #[.int .i64 d, .int .i64 e0] 25)) 31 #[.int .i64 0, .int .i64 0, .int .i64 0, .int .i64 0]
    simpa using this
  by_cases h1 : memFaultM ((a, b), c) = 0
  rotate_left
  · have d1 : (memFaultM ((a, b), c) != 0) = true := by rw [bne_iff_ne]; exact h1
    have Hm := Lib.hid (show hearM ((a, b), c) (d, e0) n = (memFaultM ((a, b), c), zeroMb) by simp [hearM, h1])
    clear h1
    go_enter Try.func25, Try.ntmps25
    go_wp2_with fail
    refine (specMemberFault a b c _).mono ?_
    rintro e w1 ⟨rfl, hb1⟩
    have x1 := x0.below hb1 x0.lt
    have y1 := y0.below hb1 y0.lt
    have z1 := z0.below hb1 z0.lt
    have hB1 := hB0.trans (hb1.mono hB0.size)
    obtain ⟨p0, p1, p2, _, _, _⟩ := x1.threeC
    obtain ⟨q0, q1⟩ := y1.twoC
    obtain ⟨r0, r1, r2, r3, rf0, rf1, rf2, rf3⟩ := z1.four
    go_wp2
    refine bodyPost_ret (v := .agg #[.int .i64 (hearM ((a, b), c) (d, e0) n).1, .int .i64 (hearM ((a, b), c) (d, e0) n).2.1.1, .int .i64 (hearM ((a, b), c) (d, e0) n).2.1.2, .int .i64 (hearM ((a, b), c) (d, e0) n).2.2]) (by simp [results, Try.results25, go_sem, Hm.out, r0, r1, r2, r3]) rfl ?_
    refine ⟨rfl, ?_⟩
    repeat (refine Below.setCell ?_ (by simp <;> omega) _)
    exact hB1
  have d1 : (memFaultM ((a, b), c) != 0) = false := by rw [h1]; rfl
  by_cases h2 : markFaultM (d, e0) = 0
  rotate_left
  · have d2 : (markFaultM (d, e0) != 0) = true := by rw [bne_iff_ne]; exact h2
    have Hm := Lib.hid (show hearM ((a, b), c) (d, e0) n = (markFaultM (d, e0), zeroMb) by simp [hearM, h1, h2])
    clear h1 h2
    go_enter Try.func25, Try.ntmps25
    go_wp2_with fail
    refine (specMemberFault a b c _).mono ?_
    rintro e w1 ⟨rfl, hb1⟩
    have x1 := x0.below hb1 x0.lt
    have y1 := y0.below hb1 y0.lt
    have z1 := z0.below hb1 z0.lt
    have hB1 := hB0.trans (hb1.mono hB0.size)
    obtain ⟨p0, p1, p2, _, _, _⟩ := x1.threeC
    obtain ⟨q0, q1⟩ := y1.twoC
    obtain ⟨r0, r1, r2, r3, rf0, rf1, rf2, rf3⟩ := z1.four
    go_wp2_with fail
    refine (specMarkFault d e0 _).mono ?_
    rintro e w2 ⟨rfl, hb2⟩
    clear p0 p1 p2 q0 q1 r0 r1 r2 r3 rf0 rf1 rf2 rf3
    have x2 := x1.below hb2 x1.lt
    have y2 := y1.below hb2 y1.lt
    have z2 := z1.below hb2 z1.lt
    have hB2 := hB1.trans (hb2.mono hB1.size)
    obtain ⟨p0, p1, p2, _, _, _⟩ := x2.threeC
    obtain ⟨q0, q1⟩ := y2.twoC
    obtain ⟨r0, r1, r2, r3, rf0, rf1, rf2, rf3⟩ := z2.four
    go_wp2
    refine bodyPost_ret (v := .agg #[.int .i64 (hearM ((a, b), c) (d, e0) n).1, .int .i64 (hearM ((a, b), c) (d, e0) n).2.1.1, .int .i64 (hearM ((a, b), c) (d, e0) n).2.1.2, .int .i64 (hearM ((a, b), c) (d, e0) n).2.2]) (by simp [results, Try.results25, go_sem, Hm.out, r0, r1, r2, r3]) rfl ?_
    refine ⟨rfl, ?_⟩
    repeat (refine Below.setCell ?_ (by simp <;> omega) _)
    exact hB2
  have d2 : (markFaultM (d, e0) != 0) = false := by rw [h2]; rfl
  rcases h3 : nowM n
  · have Hm := Lib.hid (show hearM ((a, b), c) (d, e0) n = (3, zeroMb) by simp [hearM, h1, h2, h3])
    clear h1 h2
    go_enter Try.func25, Try.ntmps25
    go_wp2_with fail
    refine (specMemberFault a b c _).mono ?_
    rintro e w1 ⟨rfl, hb1⟩
    have x1 := x0.below hb1 x0.lt
    have y1 := y0.below hb1 y0.lt
    have z1 := z0.below hb1 z0.lt
    have hB1 := hB0.trans (hb1.mono hB0.size)
    obtain ⟨p0, p1, p2, _, _, _⟩ := x1.threeC
    obtain ⟨q0, q1⟩ := y1.twoC
    obtain ⟨r0, r1, r2, r3, rf0, rf1, rf2, rf3⟩ := z1.four
    go_wp2_with fail
    refine (specMarkFault d e0 _).mono ?_
    rintro e w2 ⟨rfl, hb2⟩
    clear p0 p1 p2 q0 q1 r0 r1 r2 r3 rf0 rf1 rf2 rf3
    have x2 := x1.below hb2 x1.lt
    have y2 := y1.below hb2 y1.lt
    have z2 := z1.below hb2 z1.lt
    have hB2 := hB1.trans (hb2.mono hB1.size)
    obtain ⟨p0, p1, p2, _, _, _⟩ := x2.threeC
    obtain ⟨q0, q1⟩ := y2.twoC
    obtain ⟨r0, r1, r2, r3, rf0, rf1, rf2, rf3⟩ := z2.four
    go_wp2_with fail
    refine (specL7Now n _).mono ?_
    rintro e w3 ⟨he, hb3⟩
    clear p0 p1 p2 q0 q1 r0 r1 r2 r3 rf0 rf1 rf2 rf3
    rw [h3] at he; subst he
    have x3 := x2.below hb3 x2.lt
    have y3 := y2.below hb3 y2.lt
    have z3 := z2.below hb3 z2.lt
    have hB3 := hB2.trans (hb3.mono hB2.size)
    obtain ⟨p0, p1, p2, _, _, _⟩ := x3.threeC
    obtain ⟨q0, q1⟩ := y3.twoC
    obtain ⟨r0, r1, r2, r3, rf0, rf1, rf2, rf3⟩ := z3.four
    go_wp2
    refine bodyPost_ret (v := .agg #[.int .i64 (hearM ((a, b), c) (d, e0) n).1, .int .i64 (hearM ((a, b), c) (d, e0) n).2.1.1, .int .i64 (hearM ((a, b), c) (d, e0) n).2.1.2, .int .i64 (hearM ((a, b), c) (d, e0) n).2.2]) (by simp [results, Try.results25, go_sem, Hm.out, r0, r1, r2, r3]) rfl ?_
    refine ⟨rfl, ?_⟩
    repeat (refine Below.setCell ?_ (by simp <;> omega) _)
    exact hB3
  · have Hm := Lib.hid (show hearM ((a, b), c) (d, e0) n = (0, hearF ((a, b), c) (d, e0) n) by simp [hearM, h1, h2, h3])
    clear h1 h2
    go_enter Try.func25, Try.ntmps25
    go_wp2_with fail
    refine (specMemberFault a b c _).mono ?_
    rintro e w1 ⟨rfl, hb1⟩
    have x1 := x0.below hb1 x0.lt
    have y1 := y0.below hb1 y0.lt
    have z1 := z0.below hb1 z0.lt
    have hB1 := hB0.trans (hb1.mono hB0.size)
    obtain ⟨p0, p1, p2, _, _, _⟩ := x1.threeC
    obtain ⟨q0, q1⟩ := y1.twoC
    obtain ⟨r0, r1, r2, r3, rf0, rf1, rf2, rf3⟩ := z1.four
    go_wp2_with fail
    refine (specMarkFault d e0 _).mono ?_
    rintro e w2 ⟨rfl, hb2⟩
    clear p0 p1 p2 q0 q1 r0 r1 r2 r3 rf0 rf1 rf2 rf3
    have x2 := x1.below hb2 x1.lt
    have y2 := y1.below hb2 y1.lt
    have z2 := z1.below hb2 z1.lt
    have hB2 := hB1.trans (hb2.mono hB1.size)
    obtain ⟨p0, p1, p2, _, _, _⟩ := x2.threeC
    obtain ⟨q0, q1⟩ := y2.twoC
    obtain ⟨r0, r1, r2, r3, rf0, rf1, rf2, rf3⟩ := z2.four
    go_wp2_with fail
    refine (specL7Now n _).mono ?_
    rintro e w3 ⟨he, hb3⟩
    clear p0 p1 p2 q0 q1 r0 r1 r2 r3 rf0 rf1 rf2 rf3
    rw [h3] at he; subst he
    have x3 := x2.below hb3 x2.lt
    have y3 := y2.below hb3 y2.lt
    have z3 := z2.below hb3 z2.lt
    have hB3 := hB2.trans (hb3.mono hB2.size)
    obtain ⟨p0, p1, p2, _, _, _⟩ := x3.threeC
    obtain ⟨q0, q1⟩ := y3.twoC
    obtain ⟨r0, r1, r2, r3, rf0, rf1, rf2, rf3⟩ := z3.four
    go_wp2_with fail
    refine (specL7Hear a b c d e0 n _).mono ?_
    rintro e w4 ⟨rfl, hb4⟩
    clear p0 p1 p2 q0 q1 r0 r1 r2 r3 rf0 rf1 rf2 rf3
    have x4 := x3.below hb4 x3.lt
    have y4 := y3.below hb4 y3.lt
    have z4 := z3.below hb4 z3.lt
    have hB4 := hB3.trans (hb4.mono hB3.size)
    obtain ⟨p0, p1, p2, _, _, _⟩ := x4.threeC
    obtain ⟨q0, q1⟩ := y4.twoC
    obtain ⟨r0, r1, r2, r3, rf0, rf1, rf2, rf3⟩ := z4.four
    go_wp2
    refine bodyPost_ret (v := .agg #[.int .i64 (hearM ((a, b), c) (d, e0) n).1, .int .i64 (hearM ((a, b), c) (d, e0) n).2.1.1, .int .i64 (hearM ((a, b), c) (d, e0) n).2.1.2, .int .i64 (hearM ((a, b), c) (d, e0) n).2.2]) (by simp [results, Try.results25, go_sem, Hm.out, r0, r1, r2, r3]) rfl ?_
    refine ⟨rfl, ?_⟩
    repeat (refine Below.setCell ?_ (by simp <;> omega) _)
    exact hB4

/-- What is asked of a member and a time: the first fault. -/
def askM (m : Mbr) (t : Int) : Int := if memFaultM m ≠ 0 then memFaultM m else if nowM t = true then 0 else 3
theorem susp_ask (m : Mbr) (t : Int) : suspM m t = if askM m t = 0 then (0, suspF m t) else (askM m t, zeroMb) := by
  unfold suspM askM
  by_cases h1 : memFaultM m = 0
  · rcases h2 : nowM t <;> simp [h1]
  · simp [h1]
theorem age_ask (m : Mbr) (t : Int) : ageM m t = if askM m t = 0 then (0, ageF m t) else (askM m t, zeroMb) := by
  unfold ageM askM
  by_cases h1 : memFaultM m = 0
  · rcases h2 : nowM t <;> simp [h1]
  · simp [h1]
theorem ask_since {m : Mbr} {t : Int} (h : askM m t = 0) : 0 ≤ m.2 ∧ m.2 ≤ 100000 := by
  unfold askM at h
  by_cases h1 : memFaultM m = 0
  · have h2 := ((memFault_iff m).1 h1).2
    unfold nowM inB at h2
    simpa using h2
  · rw [if_pos h1] at h
    exact absurd h h1

theorem specL7Asked (g : Nat) (a b c n : Int) (w : World) (x0 : At w g 27 #[.int .i64 a, .int .i64 b, .int .i64 c]) :
    Calls Try.prog 74 #[.pointer (some ⟨g, 0, none⟩), .int .i64 n] w fun e w' => e = .returned (.int .i64 (askM ((a, b), c) n)) ∧ Below w.heap.size w w' := by
  have hl := x0.lt
  by_cases h1 : memFaultM ((a, b), c) = 0
  · have d1 : (memFaultM ((a, b), c) != 0) = false := by rw [h1]; rfl
    rcases h2 : nowM n
    all_goals
      have Hm := Lib.hid (show askM ((a, b), c) n = _ by simp only [askM, h1, h2]; rfl)
      clear h1
      obtain ⟨p0, p1, p2, _, _, _⟩ := x0.threeC
      go_enter Try.func74, Try.ntmps74
      go_wp2_with fail
      refine (specMemberFault a b c _).mono ?_
      rintro e w1 ⟨rfl, hb1⟩
      go_wp2_with fail
      refine (specL7Now n _).mono ?_
      rintro e w2 ⟨he, hb2⟩
      rw [h2] at he
      subst he
      go_wp2
      go_ret
      exact ⟨by first | (rw [Hm.out]; done) | (rw [Hm.out]; rfl), hb1.trans (hb2.mono hb1.size)⟩
  · have d1 : (memFaultM ((a, b), c) != 0) = true := by rw [bne_iff_ne]; exact h1
    have Hm := Lib.hid (show askM ((a, b), c) n = memFaultM ((a, b), c) by simp [askM, h1])
    clear h1
    obtain ⟨p0, p1, p2, _, _, _⟩ := x0.threeC
    go_enter Try.func74, Try.ntmps74
    go_wp2_with fail
    refine (specMemberFault a b c _).mono ?_
    rintro e w1 ⟨rfl, hb1⟩
    go_wp2
    go_ret
    exact ⟨by first | (rw [Hm.out]; done) | (rw [Hm.out]; rfl), hb1⟩

theorem specL7Suspect (a b c n : Int) (w : World) :
    Calls Try.prog 76 #[.agg #[.int .i64 a, .int .i64 b, .int .i64 c], .int .i64 n] w fun e w' =>
      e = .returned (.agg #[.int .i64 (suspF ((a, b), c) n).1.1, .int .i64 (suspF ((a, b), c) n).1.2, .int .i64 (suspF ((a, b), c) n).2]) ∧ Below w.heap.size w w' := by
  by_cases h1 : a = 1
  · have d1 : (a == 1) = true := by simpa using h1
    have Hm := Lib.hid (show suspF ((a, b), c) n = ((2, b), n) by simp [suspF, h1])
    clear h1
    go_enter Try.func76, Try.ntmps76
    go_wp2
    refine bodyPost_ret (v := .agg #[.int .i64 (suspF ((a, b), c) n).1.1, .int .i64 (suspF ((a, b), c) n).1.2, .int .i64 (suspF ((a, b), c) n).2]) (by simp [results, Try.results76, go_sem, Hm.out]) rfl ?_
    exact ⟨rfl, ((Below.refl _ _).alloc (Nat.le_refl _) _).alloc (by simp) _⟩
  · have d1 : (a == 1) = false := by simpa using h1
    have Hm := Lib.hid (show suspF ((a, b), c) n = ((a, b), c) by simp [suspF, h1])
    clear h1
    go_enter Try.func76, Try.ntmps76
    go_wp2
    refine bodyPost_ret (v := .agg #[.int .i64 (suspF ((a, b), c) n).1.1, .int .i64 (suspF ((a, b), c) n).1.2, .int .i64 (suspF ((a, b), c) n).2]) (by simp [results, Try.results76, go_sem, Hm.out]) rfl ?_
    exact ⟨rfl, ((Below.refl _ _).alloc (Nat.le_refl _) _).alloc (by simp) _⟩

theorem specL7Age (a b c n : Int) (w : World) (hc : 0 ≤ c ∧ c ≤ 100000) :
    Calls Try.prog 75 #[.agg #[.int .i64 a, .int .i64 b, .int .i64 c], .int .i64 n] w fun e w' =>
      e = .returned (.agg #[.int .i64 (ageF ((a, b), c) n).1.1, .int .i64 (ageF ((a, b), c) n).1.2, .int .i64 (ageF ((a, b), c) n).2]) ∧ Below w.heap.size w w' := by
  have hw : IntKind.i64.wrap (c + 4) = c + 4 := IntWalk.i64_in _ (by omega)
  clear hc
  by_cases h1 : a = 2
  · have d1 : (a == 2) = true := by simpa using h1
    by_cases h2 : c + 4 ≤ n
    · have d2 : decide (c + 4 ≤ n) = true := decide_eq_true h2
      have Hm := Lib.hid (show ageF ((a, b), c) n = ((3, b), n) by simp [ageF, h1, h2])
      clear h1
      go_enter Try.func75, Try.ntmps75
      go_wp2
      refine bodyPost_ret (v := .agg #[.int .i64 (ageF ((a, b), c) n).1.1, .int .i64 (ageF ((a, b), c) n).1.2, .int .i64 (ageF ((a, b), c) n).2]) (by simp [results, Try.results75, go_sem, Hm.out]) rfl ?_
      exact ⟨rfl, ((Below.refl _ _).alloc (Nat.le_refl _) _).alloc (by simp) _⟩
    · have d2 : decide (c + 4 ≤ n) = false := decide_eq_false h2
      have Hm := Lib.hid (show ageF ((a, b), c) n = ((a, b), c) by simp [ageF, h2])
      clear h1
      go_enter Try.func75, Try.ntmps75
      go_wp2
      refine bodyPost_ret (v := .agg #[.int .i64 (ageF ((a, b), c) n).1.1, .int .i64 (ageF ((a, b), c) n).1.2, .int .i64 (ageF ((a, b), c) n).2]) (by simp [results, Try.results75, go_sem, Hm.out]) rfl ?_
      exact ⟨rfl, ((Below.refl _ _).alloc (Nat.le_refl _) _).alloc (by simp) _⟩
  · have d1 : (a == 2) = false := by simpa using h1
    have Hm := Lib.hid (show ageF ((a, b), c) n = ((a, b), c) by simp [ageF, h1])
    clear h1
    go_enter Try.func75, Try.ntmps75
    go_wp2
    refine bodyPost_ret (v := .agg #[.int .i64 (ageF ((a, b), c) n).1.1, .int .i64 (ageF ((a, b), c) n).1.2, .int .i64 (ageF ((a, b), c) n).2]) (by simp [results, Try.results75, go_sem, Hm.out]) rfl ?_
    exact ⟨rfl, ((Below.refl _ _).alloc (Nat.le_refl _) _).alloc (by simp) _⟩

set_option maxHeartbeats 1000000 in
theorem specSuspectMember (a b c n : Int) (w : World) :
    Calls Try.prog 27 #[.agg #[.int .i64 a, .int .i64 b, .int .i64 c], .int .i64 n] w fun e w' => RetMb (suspM ((a, b), c) n) w e w' := by
  unfold RetMb
  have hB0 : Below w.heap.size w ((w.alloc (.cells #[.int .i64 a, .int .i64 b, .int .i64 c] 27)).alloc (.cells #[.int .i64 0, .int .i64 0, .int .i64 0, .int .i64 0] 31)) := ((Below.refl _ _).alloc (Nat.le_refl _) _).alloc (by simp) _
  have x0 : At ((w.alloc (.cells #[.int .i64 a, .int .i64 b, .int .i64 c] 27)).alloc (.cells #[.int .i64 0, .int .i64 0, .int .i64 0, .int .i64 0] 31)) w.heap.size 27 #[.int .i64 a, .int .i64 b, .int .i64 c] := (At.new w 27 #[.int .i64 a, .int .i64 b, .int .i64 c]).alloc _
  have z0 : At ((w.alloc (.cells #[.int .i64 a, .int .i64 b, .int .i64 c] 27)).alloc (.cells #[.int .i64 0, .int .i64 0, .int .i64 0, .int .i64 0] 31)) (w.heap.size + 1) 31 #[.int .i64 0, .int .i64 0, .int .i64 0, .int .i64 0] := by
    have := At.new (w.alloc (.cells #[.int .i64 a, .int .i64 b, .int .i64 c] 27)) 31 #[.int .i64 0, .int .i64 0, .int .i64 0, .int .i64 0]
    simpa using this
  by_cases h1 : askM ((a, b), c) n = 0
  · have d1 : (askM ((a, b), c) n != 0) = false := by rw [h1]; rfl
    have Hc := Lib.hid (ask_since h1)
    have Hm := Lib.hid (show suspM ((a, b), c) n = (0, suspF ((a, b), c) n) by rw [susp_ask, if_pos h1])
    clear h1
    go_enter Try.func27, Try.ntmps27
    go_wp2_with fail
    refine (specL7Asked _ a b c n _ x0).mono ?_
    rintro e w1 ⟨rfl, hb1⟩
    have x1 := x0.below hb1 x0.lt
    have z1 := z0.below hb1 z0.lt
    have hB1 := hB0.trans (hb1.mono hB0.size)
    obtain ⟨p0, p1, p2, _, _, _⟩ := x1.threeC
    obtain ⟨r0, r1, r2, r3, rf0, rf1, rf2, rf3⟩ := z1.four
    go_wp2_with fail
    refine (specL7Suspect a b c n _).mono ?_
    rintro e w2 ⟨rfl, hb2⟩
    clear p0 p1 p2 r0 r1 r2 r3 rf0 rf1 rf2 rf3
    have z2 := z1.below hb2 z1.lt
    have hB2 := hB1.trans (hb2.mono hB1.size)
    obtain ⟨r0, r1, r2, r3, rf0, rf1, rf2, rf3⟩ := z2.four
    go_wp2
    refine bodyPost_ret (v := .agg #[.int .i64 (suspM ((a, b), c) n).1, .int .i64 (suspM ((a, b), c) n).2.1.1, .int .i64 (suspM ((a, b), c) n).2.1.2, .int .i64 (suspM ((a, b), c) n).2.2]) (by simp [results, Try.results27, go_sem, Hm.out, r0, r1, r2, r3]) rfl ?_
    refine ⟨rfl, ?_⟩
    repeat (refine Below.setCell ?_ (by simp <;> omega) _)
    exact hB2
  · have d1 : (askM ((a, b), c) n != 0) = true := by rw [bne_iff_ne]; exact h1
    have Hm := Lib.hid (show suspM ((a, b), c) n = (askM ((a, b), c) n, zeroMb) by rw [susp_ask, if_neg h1])
    clear h1
    go_enter Try.func27, Try.ntmps27
    go_wp2_with fail
    refine (specL7Asked _ a b c n _ x0).mono ?_
    rintro e w1 ⟨rfl, hb1⟩
    have z1 := z0.below hb1 z0.lt
    have hB1 := hB0.trans (hb1.mono hB0.size)
    obtain ⟨r0, r1, r2, r3, rf0, rf1, rf2, rf3⟩ := z1.four
    go_wp2
    refine bodyPost_ret (v := .agg #[.int .i64 (suspM ((a, b), c) n).1, .int .i64 (suspM ((a, b), c) n).2.1.1, .int .i64 (suspM ((a, b), c) n).2.1.2, .int .i64 (suspM ((a, b), c) n).2.2]) (by simp [results, Try.results27, go_sem, Hm.out, r0, r1, r2, r3]) rfl ?_
    refine ⟨rfl, ?_⟩
    repeat (refine Below.setCell ?_ (by simp <;> omega) _)
    exact hB1

set_option maxHeartbeats 1000000 in
theorem specAgeMember (a b c n : Int) (w : World) :
    Calls Try.prog 26 #[.agg #[.int .i64 a, .int .i64 b, .int .i64 c], .int .i64 n] w fun e w' => RetMb (ageM ((a, b), c) n) w e w' := by
  unfold RetMb
  have hB0 : Below w.heap.size w ((w.alloc (.cells #[.int .i64 a, .int .i64 b, .int .i64 c] 27)).alloc (.cells #[.int .i64 0, .int .i64 0, .int .i64 0, .int .i64 0] 31)) := ((Below.refl _ _).alloc (Nat.le_refl _) _).alloc (by simp) _
  have x0 : At ((w.alloc (.cells #[.int .i64 a, .int .i64 b, .int .i64 c] 27)).alloc (.cells #[.int .i64 0, .int .i64 0, .int .i64 0, .int .i64 0] 31)) w.heap.size 27 #[.int .i64 a, .int .i64 b, .int .i64 c] := (At.new w 27 #[.int .i64 a, .int .i64 b, .int .i64 c]).alloc _
  have z0 : At ((w.alloc (.cells #[.int .i64 a, .int .i64 b, .int .i64 c] 27)).alloc (.cells #[.int .i64 0, .int .i64 0, .int .i64 0, .int .i64 0] 31)) (w.heap.size + 1) 31 #[.int .i64 0, .int .i64 0, .int .i64 0, .int .i64 0] := by
    have := At.new (w.alloc (.cells #[.int .i64 a, .int .i64 b, .int .i64 c] 27)) 31 #[.int .i64 0, .int .i64 0, .int .i64 0, .int .i64 0]
    simpa using this
  by_cases h1 : askM ((a, b), c) n = 0
  · have d1 : (askM ((a, b), c) n != 0) = false := by rw [h1]; rfl
    have Hc := Lib.hid (ask_since h1)
    have Hm := Lib.hid (show ageM ((a, b), c) n = (0, ageF ((a, b), c) n) by rw [age_ask, if_pos h1])
    clear h1
    go_enter Try.func26, Try.ntmps26
    go_wp2_with fail
    refine (specL7Asked _ a b c n _ x0).mono ?_
    rintro e w1 ⟨rfl, hb1⟩
    have x1 := x0.below hb1 x0.lt
    have z1 := z0.below hb1 z0.lt
    have hB1 := hB0.trans (hb1.mono hB0.size)
    obtain ⟨p0, p1, p2, _, _, _⟩ := x1.threeC
    obtain ⟨r0, r1, r2, r3, rf0, rf1, rf2, rf3⟩ := z1.four
    go_wp2_with fail
    refine (specL7Age a b c n _ Hc.out).mono ?_
    rintro e w2 ⟨rfl, hb2⟩
    clear p0 p1 p2 r0 r1 r2 r3 rf0 rf1 rf2 rf3
    have z2 := z1.below hb2 z1.lt
    have hB2 := hB1.trans (hb2.mono hB1.size)
    obtain ⟨r0, r1, r2, r3, rf0, rf1, rf2, rf3⟩ := z2.four
    go_wp2
    refine bodyPost_ret (v := .agg #[.int .i64 (ageM ((a, b), c) n).1, .int .i64 (ageM ((a, b), c) n).2.1.1, .int .i64 (ageM ((a, b), c) n).2.1.2, .int .i64 (ageM ((a, b), c) n).2.2]) (by simp [results, Try.results26, go_sem, Hm.out, r0, r1, r2, r3]) rfl ?_
    refine ⟨rfl, ?_⟩
    repeat (refine Below.setCell ?_ (by simp <;> omega) _)
    exact hB2
  · have d1 : (askM ((a, b), c) n != 0) = true := by rw [bne_iff_ne]; exact h1
    have Hm := Lib.hid (show ageM ((a, b), c) n = (askM ((a, b), c) n, zeroMb) by rw [age_ask, if_neg h1])
    clear h1
    go_enter Try.func26, Try.ntmps26
    go_wp2_with fail
    refine (specL7Asked _ a b c n _ x0).mono ?_
    rintro e w1 ⟨rfl, hb1⟩
    have z1 := z0.below hb1 z0.lt
    have hB1 := hB0.trans (hb1.mono hB0.size)
    obtain ⟨r0, r1, r2, r3, rf0, rf1, rf2, rf3⟩ := z1.four
    go_wp2
    refine bodyPost_ret (v := .agg #[.int .i64 (ageM ((a, b), c) n).1, .int .i64 (ageM ((a, b), c) n).2.1.1, .int .i64 (ageM ((a, b), c) n).2.1.2, .int .i64 (ageM ((a, b), c) n).2.2]) (by simp [results, Try.results26, go_sem, Hm.out, r0, r1, r2, r3]) rfl ?_
    refine ⟨rfl, ?_⟩
    repeat (refine Below.setCell ?_ (by simp <;> omega) _)
    exact hB1

theorem specRefuteLife (l a b : Int) (w : World) :
    Calls Try.prog 28 #[.int .i64 l, .agg #[.int .i64 a, .int .i64 b]] w fun e w' => e = .returned (.agg #[.int .i64 (refuteM l (a, b)).1, .int .i64 (refuteM l (a, b)).2]) ∧ Below w.heap.size w w' := by
  have hB0 : Below w.heap.size w ((w.alloc (.cells #[.int .i64 a, .int .i64 b] 25)).alloc (.cells #[.int .i64 0, .int .i64 0] 39)) := ((Below.refl _ _).alloc (Nat.le_refl _) _).alloc (by simp) _
  have x0 : At ((w.alloc (.cells #[.int .i64 a, .int .i64 b] 25)).alloc (.cells #[.int .i64 0, .int .i64 0] 39)) w.heap.size 25 #[.int .i64 a, .int .i64 b] := (At.new w 25 #[.int .i64 a, .int .i64 b]).alloc _
  have z0 : At ((w.alloc (.cells #[.int .i64 a, .int .i64 b] 25)).alloc (.cells #[.int .i64 0, .int .i64 0] 39)) (w.heap.size + 1) 39 #[.int .i64 0, .int .i64 0] := by
    have := At.new (w.alloc (.cells #[.int .i64 a, .int .i64 b] 25)) 39 #[.int .i64 0, .int .i64 0]
    simpa using this
  rcases h1 : inB (l, 0, 60000)
  · have Hm := Lib.hid (show refuteM l (a, b) = (3, 0) by simp [refuteM, h1])
    go_enter Try.func28, Try.ntmps28
    go_wp2_with fail
    refine (l1In_is h1 _).mono ?_
    rintro e w1 ⟨rfl, hb1⟩
    have x1 := x0.below hb1 x0.lt
    have z1 := z0.below hb1 z0.lt
    have hB1 := hB0.trans (hb1.mono hB0.size)
    obtain ⟨p0, p1⟩ := x1.twoC
    obtain ⟨r0, r1⟩ := z1.twoC
    have rf0 := z1.frozen 0
    have rf1 := z1.frozen 1
    go_wp2
    refine bodyPost_ret (v := .agg #[.int .i64 (refuteM l (a, b)).1, .int .i64 (refuteM l (a, b)).2]) (by simp [results, Try.results28, go_sem, Hm.out, r0, r1]) rfl ?_
    refine ⟨rfl, ?_⟩
    repeat (refine Below.setCell ?_ (by simp <;> omega) _)
    exact hB1
  by_cases h2 : markFaultM (a, b) = 0
  rotate_left
  · have d2 : (markFaultM (a, b) != 0) = true := by rw [bne_iff_ne]; exact h2
    have Hm := Lib.hid (show refuteM l (a, b) = (markFaultM (a, b), 0) by simp [refuteM, h1, h2])
    clear h2
    go_enter Try.func28, Try.ntmps28
    go_wp2_with fail
    refine (l1In_is h1 _).mono ?_
    rintro e w1 ⟨rfl, hb1⟩
    have x1 := x0.below hb1 x0.lt
    have z1 := z0.below hb1 z0.lt
    have hB1 := hB0.trans (hb1.mono hB0.size)
    obtain ⟨p0, p1⟩ := x1.twoC
    obtain ⟨r0, r1⟩ := z1.twoC
    have rf0 := z1.frozen 0
    have rf1 := z1.frozen 1
    go_wp2_with fail
    refine (specMarkFault a b _).mono ?_
    rintro e w2 ⟨rfl, hb2⟩
    clear p0 p1 r0 r1 rf0 rf1
    have x2 := x1.below hb2 x1.lt
    have z2 := z1.below hb2 z1.lt
    have hB2 := hB1.trans (hb2.mono hB1.size)
    obtain ⟨p0, p1⟩ := x2.twoC
    obtain ⟨r0, r1⟩ := z2.twoC
    have rf0 := z2.frozen 0
    have rf1 := z2.frozen 1
    go_wp2
    refine bodyPost_ret (v := .agg #[.int .i64 (refuteM l (a, b)).1, .int .i64 (refuteM l (a, b)).2]) (by simp [results, Try.results28, go_sem, Hm.out, r0, r1]) rfl ?_
    refine ⟨rfl, ?_⟩
    repeat (refine Below.setCell ?_ (by simp <;> omega) _)
    exact hB2
  have d2 : (markFaultM (a, b) != 0) = false := by rw [h2]; rfl
  have hw : IntKind.i64.wrap (b + 1) = b + 1 := IntWalk.i64_in _ (by have := (markFault_iff (a, b)).1 h2; simp only at this; omega)
  by_cases h3 : a = 1
  · have d3 : (a == 1) = true := by simpa using h3
    have Hm := Lib.hid (show refuteM l (a, b) = (0, l) by unfold refuteM; rw [if_pos h1, if_neg (by simpa using h2), if_pos (Or.inl h3)])
    clear h2 h3
    go_enter Try.func28, Try.ntmps28
    go_wp2_with fail
    refine (l1In_is h1 _).mono ?_
    rintro e w1 ⟨rfl, hb1⟩
    have x1 := x0.below hb1 x0.lt
    have z1 := z0.below hb1 z0.lt
    have hB1 := hB0.trans (hb1.mono hB0.size)
    obtain ⟨p0, p1⟩ := x1.twoC
    obtain ⟨r0, r1⟩ := z1.twoC
    have rf0 := z1.frozen 0
    have rf1 := z1.frozen 1
    go_wp2_with fail
    refine (specMarkFault a b _).mono ?_
    rintro e w2 ⟨rfl, hb2⟩
    clear p0 p1 r0 r1 rf0 rf1
    have x2 := x1.below hb2 x1.lt
    have z2 := z1.below hb2 z1.lt
    have hB2 := hB1.trans (hb2.mono hB1.size)
    obtain ⟨p0, p1⟩ := x2.twoC
    obtain ⟨r0, r1⟩ := z2.twoC
    have rf0 := z2.frozen 0
    have rf1 := z2.frozen 1
    go_wp2
    refine bodyPost_ret (v := .agg #[.int .i64 (refuteM l (a, b)).1, .int .i64 (refuteM l (a, b)).2]) (by simp [results, Try.results28, go_sem, Hm.out, r0, r1]) rfl ?_
    refine ⟨rfl, ?_⟩
    repeat (refine Below.setCell ?_ (by simp <;> omega) _)
    exact hB2
  have d3 : (a == 1) = false := by simpa using h3
  by_cases h4 : b < l
  · have d4 : decide (b < l) = true := decide_eq_true h4
    have Hm := Lib.hid (show refuteM l (a, b) = (0, l) by simp [refuteM, h1, h2, h3, h4])
    clear h2 h3
    go_enter Try.func28, Try.ntmps28
    go_wp2_with fail
    refine (l1In_is h1 _).mono ?_
    rintro e w1 ⟨rfl, hb1⟩
    have x1 := x0.below hb1 x0.lt
    have z1 := z0.below hb1 z0.lt
    have hB1 := hB0.trans (hb1.mono hB0.size)
    obtain ⟨p0, p1⟩ := x1.twoC
    obtain ⟨r0, r1⟩ := z1.twoC
    have rf0 := z1.frozen 0
    have rf1 := z1.frozen 1
    go_wp2_with fail
    refine (specMarkFault a b _).mono ?_
    rintro e w2 ⟨rfl, hb2⟩
    clear p0 p1 r0 r1 rf0 rf1
    have x2 := x1.below hb2 x1.lt
    have z2 := z1.below hb2 z1.lt
    have hB2 := hB1.trans (hb2.mono hB1.size)
    obtain ⟨p0, p1⟩ := x2.twoC
    obtain ⟨r0, r1⟩ := z2.twoC
    have rf0 := z2.frozen 0
    have rf1 := z2.frozen 1
    go_wp2
    refine bodyPost_ret (v := .agg #[.int .i64 (refuteM l (a, b)).1, .int .i64 (refuteM l (a, b)).2]) (by simp [results, Try.results28, go_sem, Hm.out, r0, r1]) rfl ?_
    refine ⟨rfl, ?_⟩
    repeat (refine Below.setCell ?_ (by simp <;> omega) _)
    exact hB2
  have d4 : decide (b < l) = false := decide_eq_false h4
  by_cases h5 : b = 60000
  · have d5 : (b == 60000) = true := by simpa using h5
    have Hm := Lib.hid (show refuteM l (a, b) = (7, 0) by unfold refuteM; rw [if_pos h1, if_neg (by simpa using h2), if_neg (by rintro (h | h); exact h3 h; exact h4 h), if_pos h5])
    clear h2 h3 h5
    go_enter Try.func28, Try.ntmps28
    go_wp2_with fail
    refine (l1In_is h1 _).mono ?_
    rintro e w1 ⟨rfl, hb1⟩
    have x1 := x0.below hb1 x0.lt
    have z1 := z0.below hb1 z0.lt
    have hB1 := hB0.trans (hb1.mono hB0.size)
    obtain ⟨p0, p1⟩ := x1.twoC
    obtain ⟨r0, r1⟩ := z1.twoC
    have rf0 := z1.frozen 0
    have rf1 := z1.frozen 1
    go_wp2_with fail
    refine (specMarkFault a b _).mono ?_
    rintro e w2 ⟨rfl, hb2⟩
    clear p0 p1 r0 r1 rf0 rf1
    have x2 := x1.below hb2 x1.lt
    have z2 := z1.below hb2 z1.lt
    have hB2 := hB1.trans (hb2.mono hB1.size)
    obtain ⟨p0, p1⟩ := x2.twoC
    obtain ⟨r0, r1⟩ := z2.twoC
    have rf0 := z2.frozen 0
    have rf1 := z2.frozen 1
    go_wp2
    refine bodyPost_ret (v := .agg #[.int .i64 (refuteM l (a, b)).1, .int .i64 (refuteM l (a, b)).2]) (by simp [results, Try.results28, go_sem, Hm.out, r0, r1]) rfl ?_
    refine ⟨rfl, ?_⟩
    repeat (refine Below.setCell ?_ (by simp <;> omega) _)
    exact hB2
  · have d5 : (b == 60000) = false := by simpa using h5
    have Hm := Lib.hid (show refuteM l (a, b) = (0, b + 1) by unfold refuteM; rw [if_pos h1, if_neg (by simpa using h2), if_neg (by rintro (h | h); exact h3 h; exact h4 h), if_neg h5])
    clear h2 h3 h5
    go_enter Try.func28, Try.ntmps28
    go_wp2_with fail
    refine (l1In_is h1 _).mono ?_
    rintro e w1 ⟨rfl, hb1⟩
    have x1 := x0.below hb1 x0.lt
    have z1 := z0.below hb1 z0.lt
    have hB1 := hB0.trans (hb1.mono hB0.size)
    obtain ⟨p0, p1⟩ := x1.twoC
    obtain ⟨r0, r1⟩ := z1.twoC
    have rf0 := z1.frozen 0
    have rf1 := z1.frozen 1
    go_wp2_with fail
    refine (specMarkFault a b _).mono ?_
    rintro e w2 ⟨rfl, hb2⟩
    clear p0 p1 r0 r1 rf0 rf1
    have x2 := x1.below hb2 x1.lt
    have z2 := z1.below hb2 z1.lt
    have hB2 := hB1.trans (hb2.mono hB1.size)
    obtain ⟨p0, p1⟩ := x2.twoC
    obtain ⟨r0, r1⟩ := z2.twoC
    have rf0 := z2.frozen 0
    have rf1 := z2.frozen 1
    go_wp2
    refine bodyPost_ret (v := .agg #[.int .i64 (refuteM l (a, b)).1, .int .i64 (refuteM l (a, b)).2]) (by simp [results, Try.results28, go_sem, Hm.out, r0, r1]) rfl ?_
    refine ⟨rfl, ?_⟩
    repeat (refine Below.setCell ?_ (by simp <;> omega) _)
    exact hB2
end Go.Proofs.Ytbfjfjocangjeaa
