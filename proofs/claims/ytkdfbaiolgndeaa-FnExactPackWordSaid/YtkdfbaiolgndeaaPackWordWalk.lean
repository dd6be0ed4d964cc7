import Derived.Test.YtkdfbaiolgndeaaBR
import Derived.Test.YtkdfbaiolgndeaaWord
namespace Go.Proofs.Ytkdfbaiolgndeaa
open Go.RowKit

theorem packM_len (n size : Int) : (packM n size).2.length ≤ 4 := by
  unfold packM
  split
  · rw [packL_len]; omega
  · simp

set_option maxHeartbeats 1000000 in
theorem fnExactPackWord_walk (n size : Int) (w : World) (hn : -9223372036854775808 ≤ n ∧ n ≤ 9223372036854775807) (_hs : -9223372036854775808 ≤ size ∧ size ≤ 9223372036854775807) :
    Calls Try.prog 4 #[.int .i64 n, .int .i64 size] w fun e w' => e = .returned (.bool true) ∧ Below w.heap.size w w' := by
  have hl4 := packM_len n size
  go_enter Try.func4, Try.ntmps4
  go_wp2_with fail
  refine (specPackWord n size _ hn.2).mono ?_
  rintro e w1 ⟨A, k, c, rfl, ow, hb1⟩
  have lw := ow.len okB
  have aw := At.new w1 30 #[.int .i64 (packM n size).1, .slice A k c]
  have oww := ow.alloc (.cells #[.int .i64 (packM n size).1, .slice A k c] 30)
  have hB1 := hb1.alloc hb1.size (.cells #[.int .i64 (packM n size).1, .slice A k c] 30)
  go_wp2_with fail
  refine (implPackWord n size _).mono ?_
  rintro e w2 ⟨A', k', c', rfl, og, hb2⟩
  have lg := og.len okB
  have aw2 := aw.below hb2 aw.lt
  have ow2 := oww.below hb2 (Nat.le_refl _)
  have hB2 := hB1.trans (hb2.mono hB1.size)
  have z2 := aw2.lt
  obtain ⟨r0, r1, _, _⟩ := aw2.two
  have ag := At.new w2 30 #[.int .i64 (packM n size).1, .slice A' k' c']
  have aw3 := aw2.alloc (.cells #[.int .i64 (packM n size).1, .slice A' k' c'] 30)
  have og3 := og.alloc (.cells #[.int .i64 (packM n size).1, .slice A' k' c'] 30)
  have ow3 := ow2.alloc (.cells #[.int .i64 (packM n size).1, .slice A' k' c'] 30)
  have hB3 := hB2.alloc hB2.size (.cells #[.int .i64 (packM n size).1, .slice A' k' c'] 30)
  go_wp2_with fail
  refine (eqBytesResult _ _ A' A k' k c' c _ _ _ (og3.rd okB) (ow3.rd okB) lg lw og.small).mono ?_
  rintro e w4 ⟨rfl, hb4⟩
  have aw4 := aw3.below hb4 aw3.lt
  have ag4 := ag.below hb4 ag.lt
  have og4 := og3.below hb4 (Nat.le_refl _)
  have ow4 := ow3.below hb4 (Nat.le_refl _)
  have hB4 := hB3.trans (hb4.mono hB3.size)
  obtain ⟨r0, r1, _, _⟩ := aw4.two
  obtain ⟨q0, q1, _, _⟩ := ag4.two
  go_wp2_with fail
  refine (markBytesResult1 _ A' k' c' _ _ _ og4 (by omega)).mono ?_
  rintro e w5 ⟨rfl, og5, hg5⟩
  have aw5 := aw4.grown hg5 (fun e => by have := (og.lt _ e).1; simp at this; omega)
  have ag5 := ag4.grown hg5 (fun e => by have := (og.lt _ e).2; omega)
  have ow5 := ow4.grown hg5 (fun g hg e => by have := (og.lt _ e).1; have := (ow.lt _ hg).2; simp at *; omega)
  have hB5 := hB4.grown hg5 hB4.size (fun g hg => by have := (og.lt _ hg).1; have := hb1.size; simp at *; omega)
  obtain ⟨r0, r1, _, _⟩ := aw5.two
  obtain ⟨q0, q1, _, _⟩ := ag5.two
  go_wp2_with fail
  refine (heldBytesResult1 _ A' k' c' _ (og5.rd okB) (by omega)).mono ?_
  rintro e w6 ⟨rfl, hb6⟩
  have aw6 := aw5.below hb6 aw5.lt
  have ag6 := ag5.below hb6 ag5.lt
  have og6 := og5.below hb6 (Nat.le_refl _)
  have ow6 := ow5.below hb6 (Nat.le_refl _)
  have hB6 := hB5.trans (hb6.mono hB5.size)
  obtain ⟨r0, r1, _, _⟩ := aw6.two
  obtain ⟨q0, q1, _, _⟩ := ag6.two
  go_wp2_with fail
  refine (implPackWord n size _).mono ?_
  rintro e w7 ⟨A'', k'', c'', rfl, oh, hb7⟩
  have lh := oh.len okB
  have aw7 := aw6.below hb7 aw6.lt
  have ag7 := ag6.below hb7 ag6.lt
  have og7 := og6.below hb7 (Nat.le_refl _)
  have ow7 := ow6.below hb7 (Nat.le_refl _)
  have hB7 := hB6.trans (hb7.mono hB6.size)
  have z7 := aw7.lt
  obtain ⟨r0, r1, _, _⟩ := aw7.two
  have ag8 := ag7.alloc (.cells #[.int .i64 (packM n size).1, .slice A'' k'' c''] 30)
  have aw8 := aw7.alloc (.cells #[.int .i64 (packM n size).1, .slice A'' k'' c''] 30)
  have og8 := og7.alloc (.cells #[.int .i64 (packM n size).1, .slice A'' k'' c''] 30)
  have oh8 := oh.alloc (.cells #[.int .i64 (packM n size).1, .slice A'' k'' c''] 30)
  have ow8 := ow7.alloc (.cells #[.int .i64 (packM n size).1, .slice A'' k'' c''] 30)
  have hB8 := hB7.alloc hB7.size (.cells #[.int .i64 (packM n size).1, .slice A'' k'' c''] 30)
  go_wp2_with fail
  refine (eqBytesResult _ _ A'' A k'' k c'' c _ _ _ (oh8.rd okB) (ow8.rd okB) lh lw oh.small).mono ?_
  rintro e w9 ⟨rfl, hb9⟩
  have ag9 := ag8.below hb9 ag8.lt
  have og9 := og8.below hb9 (Nat.le_refl _)
  have hB9 := hB8.trans (hb9.mono hB8.size)
  obtain ⟨q0, q1, _, _⟩ := ag9.two
  go_wp2_with fail
  refine (heldBytesResult1 _ A' k' c' _ (og9.rd okB) (by omega)).mono ?_
  rintro e w10 ⟨rfl, hb10⟩
  have hB10 := hB9.trans (hb10.mono hB9.size)
  go_wp2_with fail
  go_ret
  exact ⟨rfl, hB10⟩
end Go.Proofs.Ytkdfbaiolgndeaa
