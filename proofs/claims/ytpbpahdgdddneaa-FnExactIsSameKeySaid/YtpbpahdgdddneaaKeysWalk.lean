/-
  The exact laws of what is ahead and of what has one key: the walks.
-/
import Derived.Test.YtpbpahdgdddneaaKeys
namespace Go.Proofs.Ytpbpahdgdddneaa
open Go.RowKit

set_option maxHeartbeats 1000000 in
theorem fnExactIsAhead_walk (a0 a1 a2 a3 b0 b1 b2 b3 : Int) (w : World) :
    Calls Try.prog 3 #[.agg #[.int .i64 a0, .int .i64 a1, .int .i64 a2, .int .i64 a3], .agg #[.int .i64 b0, .int .i64 b1, .int .i64 b2, .int .i64 b3]] w fun e w' => e = .returned (.bool true) ∧ Below w.heap.size w w' := by
  have x0 := ((At.new w 23 #[.int .i64 a0, .int .i64 a1, .int .i64 a2, .int .i64 a3]).alloc (.cells #[.int .i64 b0, .int .i64 b1, .int .i64 b2, .int .i64 b3] 23)).drew
  have y0 := (At.new (w.alloc (.cells #[.int .i64 a0, .int .i64 a1, .int .i64 a2, .int .i64 a3] 23)) 23 #[.int .i64 b0, .int .i64 b1, .int .i64 b2, .int .i64 b3]).drew
  have hB0 : Below w.heap.size w (((w.alloc (.cells #[.int .i64 a0, .int .i64 a1, .int .i64 a2, .int .i64 a3] 23)).alloc (.cells #[.int .i64 b0, .int .i64 b1, .int .i64 b2, .int .i64 b3] 23)).drew) := ((((Below.refl _ _).alloc (Nat.le_refl _) _).alloc (by simp) _)).drew
  rw [show (w.alloc (.cells #[.int .i64 a0, .int .i64 a1, .int .i64 a2, .int .i64 a3] 23)).heap.size = w.heap.size + 1 by simp] at y0
  go_enter Try.func3, Try.ntmps3
  go_wp2
  refine wp_region_mix [(0, false), (2, false), (1, true), (3, true), (4, true), (5, false)] (fun u => At u w.heap.size 23 #[.int .i64 a0, .int .i64 a1, .int .i64 a2, .int .i64 a3] ∧ At u (w.heap.size + 1) 23 #[.int .i64 b0, .int .i64 b1, .int .i64 b2, .int .i64 b3]) (by kernel_rfl) (by kernel_rfl) (fun _ _ _ _ _ h => h) ⟨x0, y0⟩ ?_
  simp only [mixOps, List.map_cons, List.map_nil, List.getElem?_cons_succ, List.getElem?_cons_zero, Option.getD_some]
  iterate 2
    refine mix_pure (v := ?_) (by rfl) (fun u hu => ?_) ?_
    rotate_left
    · obtain ⟨_, _, _, _, _, _, _, _⟩ := hu.1.four
      obtain ⟨_, _, _, _, _, _, _, _⟩ := hu.2.four
      go_simp
      (with_reducible rfl)
    (try simp only [Act.put, List.setIfInBounds_toArray, List.set_cons_zero, List.set_cons_succ])
  refine mix_call (by rfl) (fun K hK => ?_)
  go_simp
  refine (toSample a0 a1 a2 a3 _).mono ?_
  rintro e w1 ⟨rfl, hb1⟩
  have x1 := x0.below hb1 x0.lt
  have y1 := y0.below hb1 y0.lt
  have hB1 := hB0.trans (hb1.mono hB0.size)
  refine hK _ _ _ (fun _ h => h) ⟨x1, y1⟩ ?_
  (try simp only [Act.put, List.setIfInBounds_toArray, List.set_cons_zero, List.set_cons_succ])
  refine mix_call (by rfl) (fun K hK => ?_)
  go_simp
  refine (toSample b0 b1 b2 b3 _).mono ?_
  rintro e w2 ⟨rfl, hb2⟩
  have x2 := x1.below hb2 x1.lt
  have y2 := y1.below hb2 y1.lt
  have hB2 := hB1.trans (hb2.mono hB1.size)
  refine hK _ _ _ (fun _ h => h) ⟨x2, y2⟩ ?_
  (try simp only [Act.put, List.setIfInBounds_toArray, List.set_cons_zero, List.set_cons_succ])
  refine mix_call (by rfl) (fun K hK => ?_)
  go_simp
  refine (specIsAhead a0 a1 a2 a3 b0 b1 b2 b3 _).mono ?_
  rintro e w3 ⟨rfl, hb3⟩
  have x3 := x2.below hb3 x2.lt
  have y3 := y2.below hb3 y2.lt
  have hB3 := hB2.trans (hb3.mono hB2.size)
  refine hK _ _ _ (fun _ h => h) ⟨x3, y3⟩ ?_
  (try simp only [Act.put, List.setIfInBounds_toArray, List.set_cons_zero, List.set_cons_succ])
  refine mix_pure (v := ?_) (by rfl) (fun u hu => ?_) ?_
  rotate_left
  · go_simp
    (with_reducible rfl)
  (try simp only [Act.put, List.setIfInBounds_toArray, List.set_cons_zero, List.set_cons_succ])
  refine mix_nil ?_
  go_wp2
  have x4 := x3.drew
  have y4 := y3.drew
  have hB4 := hB3.drew
  refine wp_region_mix [(0, false), (2, false), (1, true), (3, true), (4, true), (5, false)] (fun u => At u w.heap.size 23 #[.int .i64 a0, .int .i64 a1, .int .i64 a2, .int .i64 a3] ∧ At u (w.heap.size + 1) 23 #[.int .i64 b0, .int .i64 b1, .int .i64 b2, .int .i64 b3]) (by kernel_rfl) (by kernel_rfl) (fun _ _ _ _ _ h => h) ⟨x4, y4⟩ ?_
  simp only [mixOps, List.map_cons, List.map_nil, List.getElem?_cons_succ, List.getElem?_cons_zero, Option.getD_some]
  iterate 2
    refine mix_pure (v := ?_) (by rfl) (fun u hu => ?_) ?_
    rotate_left
    · obtain ⟨_, _, _, _, _, _, _, _⟩ := hu.1.four
      obtain ⟨_, _, _, _, _, _, _, _⟩ := hu.2.four
      go_simp
      (with_reducible rfl)
    (try simp only [Act.put, List.setIfInBounds_toArray, List.set_cons_zero, List.set_cons_succ])
  refine mix_call (by rfl) (fun K hK => ?_)
  go_simp
  refine (toSample a0 a1 a2 a3 _).mono ?_
  rintro e w5 ⟨rfl, hb5⟩
  have x5 := x4.below hb5 x4.lt
  have y5 := y4.below hb5 y4.lt
  have hB5 := hB4.trans (hb5.mono hB4.size)
  refine hK _ _ _ (fun _ h => h) ⟨x5, y5⟩ ?_
  (try simp only [Act.put, List.setIfInBounds_toArray, List.set_cons_zero, List.set_cons_succ])
  refine mix_call (by rfl) (fun K hK => ?_)
  go_simp
  refine (toSample b0 b1 b2 b3 _).mono ?_
  rintro e w6 ⟨rfl, hb6⟩
  have x6 := x5.below hb6 x5.lt
  have y6 := y5.below hb6 y5.lt
  have hB6 := hB5.trans (hb6.mono hB5.size)
  refine hK _ _ _ (fun _ h => h) ⟨x6, y6⟩ ?_
  (try simp only [Act.put, List.setIfInBounds_toArray, List.set_cons_zero, List.set_cons_succ])
  refine mix_call (by rfl) (fun K hK => ?_)
  go_simp
  refine (implIsAhead a0 a1 a2 a3 b0 b1 b2 b3 _).mono ?_
  rintro e w7 ⟨rfl, hb7⟩
  have x7 := x6.below hb7 x6.lt
  have y7 := y6.below hb7 y6.lt
  have hB7 := hB6.trans (hb7.mono hB6.size)
  refine hK _ _ _ (fun _ h => h) ⟨x7, y7⟩ ?_
  (try simp only [Act.put, List.setIfInBounds_toArray, List.set_cons_zero, List.set_cons_succ])
  refine mix_pure (v := ?_) (by rfl) (fun u hu => ?_) ?_
  rotate_left
  · go_simp
    (with_reducible rfl)
  (try simp only [Act.put, List.setIfInBounds_toArray, List.set_cons_zero, List.set_cons_succ])
  refine mix_nil ?_
  go_wp2
  go_ret
  exact ⟨by simp, hB7⟩

set_option maxHeartbeats 1000000 in
theorem fnExactIsSameKey_walk (a0 a1 a2 a3 b0 b1 b2 b3 : Int) (w : World) :
    Calls Try.prog 4 #[.agg #[.int .i64 a0, .int .i64 a1, .int .i64 a2, .int .i64 a3], .agg #[.int .i64 b0, .int .i64 b1, .int .i64 b2, .int .i64 b3]] w fun e w' => e = .returned (.bool true) ∧ Below w.heap.size w w' := by
  have x0 := ((At.new w 23 #[.int .i64 a0, .int .i64 a1, .int .i64 a2, .int .i64 a3]).alloc (.cells #[.int .i64 b0, .int .i64 b1, .int .i64 b2, .int .i64 b3] 23)).drew
  have y0 := (At.new (w.alloc (.cells #[.int .i64 a0, .int .i64 a1, .int .i64 a2, .int .i64 a3] 23)) 23 #[.int .i64 b0, .int .i64 b1, .int .i64 b2, .int .i64 b3]).drew
  have hB0 : Below w.heap.size w (((w.alloc (.cells #[.int .i64 a0, .int .i64 a1, .int .i64 a2, .int .i64 a3] 23)).alloc (.cells #[.int .i64 b0, .int .i64 b1, .int .i64 b2, .int .i64 b3] 23)).drew) := ((((Below.refl _ _).alloc (Nat.le_refl _) _).alloc (by simp) _)).drew
  rw [show (w.alloc (.cells #[.int .i64 a0, .int .i64 a1, .int .i64 a2, .int .i64 a3] 23)).heap.size = w.heap.size + 1 by simp] at y0
  go_enter Try.func4, Try.ntmps4
  go_wp2
  refine wp_region_mix [(0, false), (2, false), (1, true), (3, true), (4, true), (5, false)] (fun u => At u w.heap.size 23 #[.int .i64 a0, .int .i64 a1, .int .i64 a2, .int .i64 a3] ∧ At u (w.heap.size + 1) 23 #[.int .i64 b0, .int .i64 b1, .int .i64 b2, .int .i64 b3]) (by kernel_rfl) (by kernel_rfl) (fun _ _ _ _ _ h => h) ⟨x0, y0⟩ ?_
  simp only [mixOps, List.map_cons, List.map_nil, List.getElem?_cons_succ, List.getElem?_cons_zero, Option.getD_some]
  iterate 2
    refine mix_pure (v := ?_) (by rfl) (fun u hu => ?_) ?_
    rotate_left
    · obtain ⟨_, _, _, _, _, _, _, _⟩ := hu.1.four
      obtain ⟨_, _, _, _, _, _, _, _⟩ := hu.2.four
      go_simp
      (with_reducible rfl)
    (try simp only [Act.put, List.setIfInBounds_toArray, List.set_cons_zero, List.set_cons_succ])
  refine mix_call (by rfl) (fun K hK => ?_)
  go_simp
  refine (toSample a0 a1 a2 a3 _).mono ?_
  rintro e w1 ⟨rfl, hb1⟩
  have x1 := x0.below hb1 x0.lt
  have y1 := y0.below hb1 y0.lt
  have hB1 := hB0.trans (hb1.mono hB0.size)
  refine hK _ _ _ (fun _ h => h) ⟨x1, y1⟩ ?_
  (try simp only [Act.put, List.setIfInBounds_toArray, List.set_cons_zero, List.set_cons_succ])
  refine mix_call (by rfl) (fun K hK => ?_)
  go_simp
  refine (toSample b0 b1 b2 b3 _).mono ?_
  rintro e w2 ⟨rfl, hb2⟩
  have x2 := x1.below hb2 x1.lt
  have y2 := y1.below hb2 y1.lt
  have hB2 := hB1.trans (hb2.mono hB1.size)
  refine hK _ _ _ (fun _ h => h) ⟨x2, y2⟩ ?_
  (try simp only [Act.put, List.setIfInBounds_toArray, List.set_cons_zero, List.set_cons_succ])
  refine mix_call (by rfl) (fun K hK => ?_)
  go_simp
  refine (specIsSameKey a0 a1 a2 a3 b0 b1 b2 b3 _).mono ?_
  rintro e w3 ⟨rfl, hb3⟩
  have x3 := x2.below hb3 x2.lt
  have y3 := y2.below hb3 y2.lt
  have hB3 := hB2.trans (hb3.mono hB2.size)
  refine hK _ _ _ (fun _ h => h) ⟨x3, y3⟩ ?_
  (try simp only [Act.put, List.setIfInBounds_toArray, List.set_cons_zero, List.set_cons_succ])
  refine mix_pure (v := ?_) (by rfl) (fun u hu => ?_) ?_
  rotate_left
  · go_simp
    (with_reducible rfl)
  (try simp only [Act.put, List.setIfInBounds_toArray, List.set_cons_zero, List.set_cons_succ])
  refine mix_nil ?_
  go_wp2
  have x4 := x3.drew
  have y4 := y3.drew
  have hB4 := hB3.drew
  refine wp_region_mix [(0, false), (2, false), (1, true), (3, true), (4, true), (5, false)] (fun u => At u w.heap.size 23 #[.int .i64 a0, .int .i64 a1, .int .i64 a2, .int .i64 a3] ∧ At u (w.heap.size + 1) 23 #[.int .i64 b0, .int .i64 b1, .int .i64 b2, .int .i64 b3]) (by kernel_rfl) (by kernel_rfl) (fun _ _ _ _ _ h => h) ⟨x4, y4⟩ ?_
  simp only [mixOps, List.map_cons, List.map_nil, List.getElem?_cons_succ, List.getElem?_cons_zero, Option.getD_some]
  iterate 2
    refine mix_pure (v := ?_) (by rfl) (fun u hu => ?_) ?_
    rotate_left
    · obtain ⟨_, _, _, _, _, _, _, _⟩ := hu.1.four
      obtain ⟨_, _, _, _, _, _, _, _⟩ := hu.2.four
      go_simp
      (with_reducible rfl)
    (try simp only [Act.put, List.setIfInBounds_toArray, List.set_cons_zero, List.set_cons_succ])
  refine mix_call (by rfl) (fun K hK => ?_)
  go_simp
  refine (toSample a0 a1 a2 a3 _).mono ?_
  rintro e w5 ⟨rfl, hb5⟩
  have x5 := x4.below hb5 x4.lt
  have y5 := y4.below hb5 y4.lt
  have hB5 := hB4.trans (hb5.mono hB4.size)
  refine hK _ _ _ (fun _ h => h) ⟨x5, y5⟩ ?_
  (try simp only [Act.put, List.setIfInBounds_toArray, List.set_cons_zero, List.set_cons_succ])
  refine mix_call (by rfl) (fun K hK => ?_)
  go_simp
  refine (toSample b0 b1 b2 b3 _).mono ?_
  rintro e w6 ⟨rfl, hb6⟩
  have x6 := x5.below hb6 x5.lt
  have y6 := y5.below hb6 y5.lt
  have hB6 := hB5.trans (hb6.mono hB5.size)
  refine hK _ _ _ (fun _ h => h) ⟨x6, y6⟩ ?_
  (try simp only [Act.put, List.setIfInBounds_toArray, List.set_cons_zero, List.set_cons_succ])
  refine mix_call (by rfl) (fun K hK => ?_)
  go_simp
  refine (implIsSameKey a0 a1 a2 a3 b0 b1 b2 b3 _).mono ?_
  rintro e w7 ⟨rfl, hb7⟩
  have x7 := x6.below hb7 x6.lt
  have y7 := y6.below hb7 y6.lt
  have hB7 := hB6.trans (hb7.mono hB6.size)
  refine hK _ _ _ (fun _ h => h) ⟨x7, y7⟩ ?_
  (try simp only [Act.put, List.setIfInBounds_toArray, List.set_cons_zero, List.set_cons_succ])
  refine mix_pure (v := ?_) (by rfl) (fun u hu => ?_) ?_
  rotate_left
  · go_simp
    (with_reducible rfl)
  (try simp only [Act.put, List.setIfInBounds_toArray, List.set_cons_zero, List.set_cons_succ])
  refine mix_nil ?_
  go_wp2
  go_ret
  exact ⟨by simp, hB7⟩

end Go.Proofs.Ytpbpahdgdddneaa
