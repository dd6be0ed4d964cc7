/-
  The exact law of HomesOf: the walk.
-/
import Derived.Test.YtbfjfjocangjeaaRgHP
import Derived.Test.YtbfjfjocangjeaaRgH
import Derived.Test.YtbfjfjocangjeaaIrs
namespace Go.Proofs.Ytbfjfjocangjeaa
set_option maxRecDepth 20000
open Go.RowKit
set_option linter.unusedSimpArgs false
set_option linter.unusedVariables false

set_option maxRecDepth 100000 in
set_option maxHeartbeats 1000000 in
theorem fnExactHomesOf_walk (n c s : Int) (w : World) :
    Calls Try.prog 6 #[.int .i64 n, .int .i64 c, .int .i64 s] w fun e w' => e = .returned (.bool true) ∧ Below w.heap.size w w' := by
  have SP := fun W => specHomesOf n c s W
  have IP := fun W => implHomesOf n c s W
  have hle := homes_le n c s
  rcases hp : homesM n c s with ⟨z, l⟩
  rw [hp] at SP IP hle
  simp only [RetIn] at SP IP
  dsimp only at hle
  clear hp
  go_enter Try.func6, Try.ntmps6
  go_wp2_with fail
  refine (SP _).mono ?_
  rintro e w1 ⟨A1, k1, c1, rfl, ow, hb1⟩
  have S1 := Lib.hid hb1.size
  have hB1 := hb1
  have hlow := ow.len okIn
  (try dsimp only at hlow)
  have hqow : k1 ≤ 4 := by omega
  have aw := At.new w1 61 #[.int .i64 z, .slice A1 k1 c1]
  have ow_2 := ow.alloc (.cells #[.int .i64 z, .slice A1 k1 c1] 61)
  have S2 := Lib.hid (show (w1.alloc (.cells #[.int .i64 z, .slice A1 k1 c1] 61)).heap.size = w1.heap.size + 1 by simp)
  have hB2 := hB1.alloc hB1.size (.cells #[.int .i64 z, .slice A1 k1 c1] 61)
  go_wp2_with fail
  refine (IP _).mono ?_
  rintro e w3 ⟨A3, k3, c3, rfl, og, hb3⟩
  have aw_3 := aw.below hb3 aw.lt
  have ow_3 := ow_2.below hb3 (Nat.le_refl _)
  have S3 := Lib.hid hb3.size
  have hB3 := hB2.trans (hb3.mono hB2.size)
  have hlog := og.len okIn
  (try dsimp only at hlog)
  obtain rfl : k1 = k3 := hlow.symm.trans hlog
  have hqog : k1 ≤ 4 := by omega
  have ag := At.new w3 61 #[.int .i64 z, .slice A3 k1 c3]
  have aw_4 := aw_3.alloc (.cells #[.int .i64 z, .slice A3 k1 c3] 61)
  have ow_4 := ow_3.alloc (.cells #[.int .i64 z, .slice A3 k1 c3] 61)
  have og_4 := og.alloc (.cells #[.int .i64 z, .slice A3 k1 c3] 61)
  have S4 := Lib.hid (show (w3.alloc (.cells #[.int .i64 z, .slice A3 k1 c3] 61)).heap.size = w3.heap.size + 1 by simp)
  have hB4 := hB3.alloc hB3.size (.cells #[.int .i64 z, .slice A3 k1 c3] 61)
  obtain ⟨aw0_4, aw1_4, _, _⟩ := aw_4.two
  obtain ⟨ag0_4, ag1_4, _, _⟩ := ag.two
  go_wp2_with fail
  refine (eqIntsResult z A3 A1 k1 c3 c1 l _ (og_4.rd okIn) (ow_4.rd okIn) hlow (by unfold maxLen; omega)).mono ?_
  rintro e w5 ⟨rfl, hb5⟩
  have aw_5 := aw_4.below hb5 aw_4.lt
  have ag_5 := ag.below hb5 ag.lt
  have ow_5 := ow_4.below hb5 (Nat.le_refl _)
  have og_5 := og_4.below hb5 (Nat.le_refl _)
  have S5 := Lib.hid hb5.size
  have hB5 := hB4.trans (hb5.mono hB4.size)
  obtain ⟨aw0_5, aw1_5, _, _⟩ := aw_5.two
  obtain ⟨ag0_5, ag1_5, _, _⟩ := ag_5.two
  go_wp2_with fail
  refine (markIntsResult1 z A3 k1 c3 _ _ _ og_5 (by omega)).mono ?_
  rintro e w6 ⟨rfl, og_6, hg6⟩
  have hw6 : Within (w1.alloc (.cells #[.int .i64 z, .slice A1 k1 c1] 61)).heap.size w3.heap.size w5 w6 := within_of hg6 (fun g hg => og.lt g hg)
  have aw_6 := aw_5.within hw6 (by have := S1.out; have := S2.out; have := S3.out; have := S4.out; have := S5.out; omega)
  have ag_6 := ag_5.within hw6 (by have := S1.out; have := S2.out; have := S3.out; have := S4.out; have := S5.out; omega)
  have ow_6 := ow_5.within hw6 ow.lt (by have := S1.out; have := S2.out; have := S3.out; have := S4.out; have := S5.out; omega)
  have hB6 := hw6.below hB5 hB5.size (by have := S1.out; have := S2.out; have := S3.out; have := S4.out; have := S5.out; omega)
  have S6 := Lib.hid hw6.size
  have hk1 : ¬ (1 : Int) + (k1 : Int) < 0 := by omega
  obtain ⟨aw0_6, aw1_6, _, _⟩ := aw_6.two
  obtain ⟨ag0_6, ag1_6, _, _⟩ := ag_6.two
  go_wp2_with fail
  refine (heldIntsResult1 z A3 k1 c3 _ (og_6.rd okIn) (by omega)).mono ?_
  rintro e w7 ⟨rfl, hb7⟩
  have aw_7 := aw_6.below hb7 aw_6.lt
  have ag_7 := ag_6.below hb7 ag_6.lt
  have ow_7 := ow_6.below hb7 (Nat.le_refl _)
  have og_7 := og_6.below hb7 (Nat.le_refl _)
  have S7 := Lib.hid hb7.size
  have hB7 := hB6.trans (hb7.mono hB6.size)
  go_wp2_with fail
  refine (IP _).mono ?_
  rintro e w8 ⟨A8, k8, c8, rfl, oh, hb8⟩
  have aw_8 := aw_7.below hb8 aw_7.lt
  have ag_8 := ag_7.below hb8 ag_7.lt
  have ow_8 := ow_7.below hb8 (Nat.le_refl _)
  have og_8 := og_7.below hb8 (Nat.le_refl _)
  have S8 := Lib.hid hb8.size
  have hB8 := hB7.trans (hb8.mono hB7.size)
  have hloh := oh.len okIn
  (try dsimp only at hloh)
  obtain rfl : k1 = k8 := hlow.symm.trans hloh
  have hqoh : k1 ≤ 4 := by omega
  have ah := At.new w8 61 #[.int .i64 z, .slice A8 k1 c8]
  have aw_9 := aw_8.alloc (.cells #[.int .i64 z, .slice A8 k1 c8] 61)
  have ag_9 := ag_8.alloc (.cells #[.int .i64 z, .slice A8 k1 c8] 61)
  have ow_9 := ow_8.alloc (.cells #[.int .i64 z, .slice A8 k1 c8] 61)
  have og_9 := og_8.alloc (.cells #[.int .i64 z, .slice A8 k1 c8] 61)
  have oh_9 := oh.alloc (.cells #[.int .i64 z, .slice A8 k1 c8] 61)
  have S9 := Lib.hid (show (w8.alloc (.cells #[.int .i64 z, .slice A8 k1 c8] 61)).heap.size = w8.heap.size + 1 by simp)
  have hB9 := hB8.alloc hB8.size (.cells #[.int .i64 z, .slice A8 k1 c8] 61)
  obtain ⟨aw0_9, aw1_9, _, _⟩ := aw_9.two
  obtain ⟨ag0_9, ag1_9, _, _⟩ := ag_9.two
  obtain ⟨ah0_9, ah1_9, _, _⟩ := ah.two
  go_wp2_with fail
  refine (eqIntsResult z A8 A1 k1 c8 c1 l _ (oh_9.rd okIn) (ow_9.rd okIn) hlow (by unfold maxLen; omega)).mono ?_
  rintro e w10 ⟨rfl, hb10⟩
  have aw_10 := aw_9.below hb10 aw_9.lt
  have ag_10 := ag_9.below hb10 ag_9.lt
  have ah_10 := ah.below hb10 ah.lt
  have ow_10 := ow_9.below hb10 (Nat.le_refl _)
  have og_10 := og_9.below hb10 (Nat.le_refl _)
  have oh_10 := oh_9.below hb10 (Nat.le_refl _)
  have S10 := Lib.hid hb10.size
  have hB10 := hB9.trans (hb10.mono hB9.size)
  obtain ⟨ag0_10, ag1_10, _, _⟩ := ag_10.two
  go_wp2_with fail
  refine (heldIntsResult1 z A3 k1 c3 _ (og_10.rd okIn) (by omega)).mono ?_
  rintro e w11 ⟨rfl, hb11⟩
  have ag_11 := ag_10.below hb11 ag_10.lt
  have og_11 := og_10.below hb11 (Nat.le_refl _)
  have S11 := Lib.hid hb11.size
  have hB11 := hB10.trans (hb11.mono hB10.size)
  go_wp2_with fail
  go_ret
  exact ⟨rfl, hB11⟩
end Go.Proofs.Ytbfjfjocangjeaa
