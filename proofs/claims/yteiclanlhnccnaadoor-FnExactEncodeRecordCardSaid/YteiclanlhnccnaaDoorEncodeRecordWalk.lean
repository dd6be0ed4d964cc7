import Derived.Test.YteiclanlhnccnaaDoorEncRP
import Derived.Test.YteiclanlhnccnaaDoorTo
namespace Go.Proofs.YteiclanlhnccnaaDoor
set_option maxRecDepth 20000
open Go.RowKit

set_option maxHeartbeats 2000000 in
theorem fnExactEncodeRecord_walk (a0 a1 a2 a3 a4 a5 a6 : Int) (w : World) (hF : Flds w) :
    Calls Tryd.prog 4 #[.agg #[.int .i64 a0, .int .i64 a1, .int .i64 a2, .int .i64 a3, .int .i64 a4, .int .i64 a5, .int .i64 a6]] w fun e w' => e = .returned (.bool true) ∧ Below w.heap.size w w' := by
  have Hm := Lib.hid (encRecM_len (a0, a1, (a2, a3, a4, a5), a6))
  have hB0 := Below.refl w.heap.size w
  have ax := At.new w 25 #[.int .i64 a0, .int .i64 a1, .int .i64 a2, .int .i64 a3, .int .i64 a4, .int .i64 a5, .int .i64 a6]
  have S1 := Lib.hid (show (w.alloc (.cells #[.int .i64 a0, .int .i64 a1, .int .i64 a2, .int .i64 a3, .int .i64 a4, .int .i64 a5, .int .i64 a6] 25)).heap.size = w.heap.size + 1 by simp)
  have hB1 := hB0.alloc hB0.size (.cells #[.int .i64 a0, .int .i64 a1, .int .i64 a2, .int .i64 a3, .int .i64 a4, .int .i64 a5, .int .i64 a6] 25)
  go_enter Tryd.func4, Tryd.ntmps4
  go_wp2_with fail
  refine (toRecord a0 a1 a2 a3 a4 a5 a6 _).mono ?_
  rintro e w2 ⟨rfl, hb2⟩
  have ax_2 := ax.below hb2 ax.lt
  have S2 := Lib.hid hb2.size
  have hB2 := hB1.trans (hb2.mono hB1.size)
  obtain ⟨ax0_2, ax1_2, ax2_2, ax3_2, ax4_2, ax5_2, ax6_2⟩ := ax_2.seven
  go_wp2_with fail
  refine (specEncodeRecord a0 a1 a2 a3 a4 a5 a6 _).mono ?_
  rintro e w3 ⟨A3, k3, c3, rfl, ow, hb3⟩
  have ax_3 := ax_2.below hb3 ax_2.lt
  have S3 := Lib.hid hb3.size
  have hB3 := hB2.trans (hb3.mono hB2.size)
  have aw := At.new w3 34 #[.int .i64 (encRecM (a0, a1, (a2, a3, a4, a5), a6)).1, .slice A3 k3 c3]
  have ax_4 := ax_3.alloc (.cells #[.int .i64 (encRecM (a0, a1, (a2, a3, a4, a5), a6)).1, .slice A3 k3 c3] 34)
  have ow_4 := ow.alloc (.cells #[.int .i64 (encRecM (a0, a1, (a2, a3, a4, a5), a6)).1, .slice A3 k3 c3] 34)
  have S4 := Lib.hid (show (w3.alloc (.cells #[.int .i64 (encRecM (a0, a1, (a2, a3, a4, a5), a6)).1, .slice A3 k3 c3] 34)).heap.size = w3.heap.size + 1 by simp)
  have hB4 := hB3.alloc hB3.size (.cells #[.int .i64 (encRecM (a0, a1, (a2, a3, a4, a5), a6)).1, .slice A3 k3 c3] 34)
  obtain ⟨ax0_4, ax1_4, ax2_4, ax3_4, ax4_4, ax5_4, ax6_4⟩ := ax_4.seven
  obtain ⟨aw0_4, aw1_4, _, _⟩ := aw.two
  go_wp2_with fail
  refine (toRecord a0 a1 a2 a3 a4 a5 a6 _).mono ?_
  rintro e w5 ⟨rfl, hb5⟩
  have ax_5 := ax_4.below hb5 ax_4.lt
  have aw_5 := aw.below hb5 aw.lt
  have ow_5 := ow_4.below hb5 (Nat.le_refl _)
  have S5 := Lib.hid hb5.size
  have hB5 := hB4.trans (hb5.mono hB4.size)
  obtain ⟨ax0_5, ax1_5, ax2_5, ax3_5, ax4_5, ax5_5, ax6_5⟩ := ax_5.seven
  obtain ⟨aw0_5, aw1_5, _, _⟩ := aw_5.two
  go_wp2_with fail
  refine (implEncodeRecord a0 a1 a2 a3 a4 a5 a6 _ (hF.below hB5)).mono ?_
  rintro e w6 ⟨A6, k6, c6, rfl, og, hb6⟩
  have ax_6 := ax_5.below hb6 ax_5.lt
  have aw_6 := aw_5.below hb6 aw_5.lt
  have ow_6 := ow_5.below hb6 (Nat.le_refl _)
  have S6 := Lib.hid hb6.size
  have hB6 := hB5.trans (hb6.mono hB5.size)
  have ag := At.new w6 34 #[.int .i64 (encRecM (a0, a1, (a2, a3, a4, a5), a6)).1, .slice A6 k6 c6]
  have ax_7 := ax_6.alloc (.cells #[.int .i64 (encRecM (a0, a1, (a2, a3, a4, a5), a6)).1, .slice A6 k6 c6] 34)
  have aw_7 := aw_6.alloc (.cells #[.int .i64 (encRecM (a0, a1, (a2, a3, a4, a5), a6)).1, .slice A6 k6 c6] 34)
  have ow_7 := ow_6.alloc (.cells #[.int .i64 (encRecM (a0, a1, (a2, a3, a4, a5), a6)).1, .slice A6 k6 c6] 34)
  have og_7 := og.alloc (.cells #[.int .i64 (encRecM (a0, a1, (a2, a3, a4, a5), a6)).1, .slice A6 k6 c6] 34)
  have S7 := Lib.hid (show (w6.alloc (.cells #[.int .i64 (encRecM (a0, a1, (a2, a3, a4, a5), a6)).1, .slice A6 k6 c6] 34)).heap.size = w6.heap.size + 1 by simp)
  have hB7 := hB6.alloc hB6.size (.cells #[.int .i64 (encRecM (a0, a1, (a2, a3, a4, a5), a6)).1, .slice A6 k6 c6] 34)
  obtain ⟨ax0_7, ax1_7, ax2_7, ax3_7, ax4_7, ax5_7, ax6_7⟩ := ax_7.seven
  obtain ⟨aw0_7, aw1_7, _, _⟩ := aw_7.two
  obtain ⟨ag0_7, ag1_7, _, _⟩ := ag.two
  go_wp2_with fail
  refine (eqBytesResult _ _ A6 A3 k6 k3 c6 c3 _ _ _ (og_7.rd okB) (ow_7.rd okB) (og_7.len okB) (ow_7.len okB) og_7.small).mono ?_
  rintro e w8 ⟨rfl, hb8⟩
  have ax_8 := ax_7.below hb8 ax_7.lt
  have aw_8 := aw_7.below hb8 aw_7.lt
  have ag_8 := ag.below hb8 ag.lt
  have ow_8 := ow_7.below hb8 (Nat.le_refl _)
  have og_8 := og_7.below hb8 (Nat.le_refl _)
  have S8 := Lib.hid hb8.size
  have hB8 := hB7.trans (hb8.mono hB7.size)
  obtain ⟨ax0_8, ax1_8, ax2_8, ax3_8, ax4_8, ax5_8, ax6_8⟩ := ax_8.seven
  obtain ⟨aw0_8, aw1_8, _, _⟩ := aw_8.two
  obtain ⟨ag0_8, ag1_8, _, _⟩ := ag_8.two
  go_wp2_with fail
  refine (markBytesResult1 _ A6 k6 c6 _ _ _ og_8 (by have := Hm.out; have := og.len okB; omega)).mono ?_
  rintro e w9 ⟨rfl, og_9, hg9⟩
  have hw9 : Within w5.heap.size w6.heap.size w8 w9 := within_of hg9 (fun g hg => og.lt g hg)
  have ax_9 := ax_8.within hw9 (by have := S1.out; have := S2.out; have := S3.out; have := S4.out; have := S5.out; have := S6.out; have := S7.out; have := S8.out; omega)
  have aw_9 := aw_8.within hw9 (by have := S1.out; have := S2.out; have := S3.out; have := S4.out; have := S5.out; have := S6.out; have := S7.out; have := S8.out; omega)
  have ag_9 := ag_8.within hw9 (by have := S1.out; have := S2.out; have := S3.out; have := S4.out; have := S5.out; have := S6.out; have := S7.out; have := S8.out; omega)
  have ow_9 := ow_8.within hw9 ow.lt (by have := S1.out; have := S2.out; have := S3.out; have := S4.out; have := S5.out; have := S6.out; have := S7.out; have := S8.out; omega)
  have hB9 := hw9.below hB8 hB8.size (by have := S1.out; have := S2.out; have := S3.out; have := S4.out; have := S5.out; have := S6.out; have := S7.out; have := S8.out; omega)
  have S9 := Lib.hid hw9.size
  obtain ⟨ax0_9, ax1_9, ax2_9, ax3_9, ax4_9, ax5_9, ax6_9⟩ := ax_9.seven
  obtain ⟨aw0_9, aw1_9, _, _⟩ := aw_9.two
  obtain ⟨ag0_9, ag1_9, _, _⟩ := ag_9.two
  go_wp2_with fail
  refine (heldBytesResult1 _ A6 k6 c6 _ (og_9.rd okB) (by have := Hm.out; have := og.len okB; omega)).mono ?_
  rintro e w10 ⟨rfl, hb10⟩
  have ax_10 := ax_9.below hb10 ax_9.lt
  have aw_10 := aw_9.below hb10 aw_9.lt
  have ag_10 := ag_9.below hb10 ag_9.lt
  have ow_10 := ow_9.below hb10 (Nat.le_refl _)
  have og_10 := og_9.below hb10 (Nat.le_refl _)
  have S10 := Lib.hid hb10.size
  have hB10 := hB9.trans (hb10.mono hB9.size)
  obtain ⟨ax0_10, ax1_10, ax2_10, ax3_10, ax4_10, ax5_10, ax6_10⟩ := ax_10.seven
  obtain ⟨aw0_10, aw1_10, _, _⟩ := aw_10.two
  obtain ⟨ag0_10, ag1_10, _, _⟩ := ag_10.two
  go_wp2_with fail
  refine (toRecord a0 a1 a2 a3 a4 a5 a6 _).mono ?_
  rintro e w11 ⟨rfl, hb11⟩
  have ax_11 := ax_10.below hb11 ax_10.lt
  have aw_11 := aw_10.below hb11 aw_10.lt
  have ag_11 := ag_10.below hb11 ag_10.lt
  have ow_11 := ow_10.below hb11 (Nat.le_refl _)
  have og_11 := og_10.below hb11 (Nat.le_refl _)
  have S11 := Lib.hid hb11.size
  have hB11 := hB10.trans (hb11.mono hB10.size)
  obtain ⟨ax0_11, ax1_11, ax2_11, ax3_11, ax4_11, ax5_11, ax6_11⟩ := ax_11.seven
  obtain ⟨aw0_11, aw1_11, _, _⟩ := aw_11.two
  obtain ⟨ag0_11, ag1_11, _, _⟩ := ag_11.two
  go_wp2_with fail
  refine (implEncodeRecord a0 a1 a2 a3 a4 a5 a6 _ (hF.below hB11)).mono ?_
  rintro e w12 ⟨A12, k12, c12, rfl, oh, hb12⟩
  have ax_12 := ax_11.below hb12 ax_11.lt
  have aw_12 := aw_11.below hb12 aw_11.lt
  have ag_12 := ag_11.below hb12 ag_11.lt
  have ow_12 := ow_11.below hb12 (Nat.le_refl _)
  have og_12 := og_11.below hb12 (Nat.le_refl _)
  have S12 := Lib.hid hb12.size
  have hB12 := hB11.trans (hb12.mono hB11.size)
  have ah := At.new w12 34 #[.int .i64 (encRecM (a0, a1, (a2, a3, a4, a5), a6)).1, .slice A12 k12 c12]
  have ax_13 := ax_12.alloc (.cells #[.int .i64 (encRecM (a0, a1, (a2, a3, a4, a5), a6)).1, .slice A12 k12 c12] 34)
  have aw_13 := aw_12.alloc (.cells #[.int .i64 (encRecM (a0, a1, (a2, a3, a4, a5), a6)).1, .slice A12 k12 c12] 34)
  have ag_13 := ag_12.alloc (.cells #[.int .i64 (encRecM (a0, a1, (a2, a3, a4, a5), a6)).1, .slice A12 k12 c12] 34)
  have ow_13 := ow_12.alloc (.cells #[.int .i64 (encRecM (a0, a1, (a2, a3, a4, a5), a6)).1, .slice A12 k12 c12] 34)
  have og_13 := og_12.alloc (.cells #[.int .i64 (encRecM (a0, a1, (a2, a3, a4, a5), a6)).1, .slice A12 k12 c12] 34)
  have oh_13 := oh.alloc (.cells #[.int .i64 (encRecM (a0, a1, (a2, a3, a4, a5), a6)).1, .slice A12 k12 c12] 34)
  have S13 := Lib.hid (show (w12.alloc (.cells #[.int .i64 (encRecM (a0, a1, (a2, a3, a4, a5), a6)).1, .slice A12 k12 c12] 34)).heap.size = w12.heap.size + 1 by simp)
  have hB13 := hB12.alloc hB12.size (.cells #[.int .i64 (encRecM (a0, a1, (a2, a3, a4, a5), a6)).1, .slice A12 k12 c12] 34)
  obtain ⟨ax0_13, ax1_13, ax2_13, ax3_13, ax4_13, ax5_13, ax6_13⟩ := ax_13.seven
  obtain ⟨aw0_13, aw1_13, _, _⟩ := aw_13.two
  obtain ⟨ag0_13, ag1_13, _, _⟩ := ag_13.two
  obtain ⟨ah0_13, ah1_13, _, _⟩ := ah.two
  go_wp2_with fail
  refine (eqBytesResult _ _ A12 A3 k12 k3 c12 c3 _ _ _ (oh_13.rd okB) (ow_13.rd okB) (oh_13.len okB) (ow_13.len okB) oh_13.small).mono ?_
  rintro e w14 ⟨rfl, hb14⟩
  have ax_14 := ax_13.below hb14 ax_13.lt
  have aw_14 := aw_13.below hb14 aw_13.lt
  have ag_14 := ag_13.below hb14 ag_13.lt
  have ah_14 := ah.below hb14 ah.lt
  have ow_14 := ow_13.below hb14 (Nat.le_refl _)
  have og_14 := og_13.below hb14 (Nat.le_refl _)
  have oh_14 := oh_13.below hb14 (Nat.le_refl _)
  have S14 := Lib.hid hb14.size
  have hB14 := hB13.trans (hb14.mono hB13.size)
  obtain ⟨ax0_14, ax1_14, ax2_14, ax3_14, ax4_14, ax5_14, ax6_14⟩ := ax_14.seven
  obtain ⟨ag0_14, ag1_14, _, _⟩ := ag_14.two
  go_wp2_with fail
  refine (heldBytesResult1 _ A6 k6 c6 _ (og_14.rd okB) (by have := Hm.out; have := og.len okB; omega)).mono ?_
  rintro e w15 ⟨rfl, hb15⟩
  have ax_15 := ax_14.below hb15 ax_14.lt
  have ag_15 := ag_14.below hb15 ag_14.lt
  have og_15 := og_14.below hb15 (Nat.le_refl _)
  have S15 := Lib.hid hb15.size
  have hB15 := hB14.trans (hb15.mono hB14.size)
  go_wp2_with fail
  go_ret
  exact ⟨rfl, hB15⟩
end Go.Proofs.YteiclanlhnccnaaDoor
