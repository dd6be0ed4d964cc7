import Derived.Test.YtjlkmfijkhjjkaaDoorHintSS
namespace Go.Proofs.YtjlkmfijkhjjkaaDoor
set_option maxRecDepth 20000
open Go.RowKit
set_option linter.unusedSimpArgs false
set_option linter.unusedVariables false

set_option maxRecDepth 100000 in
set_option maxHeartbeats 4000000 in
theorem fnExactSentHint_walk (HI : ∀ (A0 : Option Addr) (m0 e0 : Nat) (q0 : List Hnt) (p : Int) (i : Int) (t : Int) (W : World), Rd eH W W.heap.size A0 q0 → q0.length = m0 → m0 ≤ 1048576 → Flds W → Calls Tryd.prog 15 #[.slice A0 m0 e0, .int .i64 p, .int .i64 i, .int .i64 t] W (RetHs (sentM q0 p i t) W))
    (X0 : Option Addr) (n0 d0 : Nat) (l0 : List Hnt) (p : Int) (i : Int) (t : Int) (w : World) (ha0 : Rd eM w w.heap.size X0 l0) (hn0 : l0.length = n0) (hM0 : n0 ≤ maxLen) (hF : Flds w) :
    Calls Tryd.prog 8 #[.slice X0 n0 d0, .int .i64 p, .int .i64 i, .int .i64 t] w fun e w' => e = .returned (.bool true) ∧ Below w.heap.size w w' := by
  have Hn0 := Lib.hid hn0
  have Hm := Lib.hid (sentM_le l0 p i t)
  clear hn0
  by_cases hbig0 : (1048576 : Int) < (n0 : Int)
  · go_enter Tryd.func8, Tryd.ntmps8
    go_wp2_with fail
    refine (szHintS X0 n0 d0 1048576 _ (by omega) (by omega) hM0).mono ?_
    rintro e w' ⟨rfl, rfl⟩
    rw [if_pos (by omega)]
    go_wp2
    go_ret
    exact ⟨rfl, Below.refl _ _⟩
  have hsm0 : (n0 : Int) ≤ 1048576 := by omega
  have hm0 : n0 ≤ 1048576 := by omega
  have hl0 : ¬ (1048576 : Int) - (n0 : Int) < 0 := by omega
  clear hbig0
  go_enter Tryd.func8, Tryd.ntmps8
  go_wp2_with fail
  refine (szHintS X0 n0 d0 1048576 _ (by omega) (by omega) hM0).mono ?_
  rintro e w' ⟨rfl, rfl⟩
  rw [if_neg (by omega)]
  go_wp2_with fail
  refine (toHintS X0 n0 d0 l0 _ ha0 Hn0.out hm0).mono ?_
  rintro e w1 ⟨B1, f1, rfl, s0, hb1⟩
  have S1 := Lib.hid hb1.size
  have hB1 := hb1
  go_wp2_with fail
  refine (specSentHint B1 n0 f1 l0 p i t _ (s0.rd okH) Hn0.out).mono ?_
  rintro e w2 ⟨A2, k2, c2, rfl, ow, hb2⟩
  have s0_2 := s0.below hb2 (Nat.le_refl _)
  have S2 := Lib.hid hb2.size
  have hB2 := hB1.trans (hb2.mono hB1.size)
  have aw := At.new w2 30 #[.int .i64 (sentM l0 p i t).1, .slice A2 k2 c2]
  have ow_3 := ow.alloc (.cells #[.int .i64 (sentM l0 p i t).1, .slice A2 k2 c2] 30)
  have S3 := Lib.hid (show (w2.alloc (.cells #[.int .i64 (sentM l0 p i t).1, .slice A2 k2 c2] 30)).heap.size = w2.heap.size + 1 by simp)
  have hB3 := hB2.alloc hB2.size (.cells #[.int .i64 (sentM l0 p i t).1, .slice A2 k2 c2] 30)
  have ha0_3 := ha0.lift hB3
  go_wp2_with fail
  refine (toHintS X0 n0 d0 l0 _ ha0_3 Hn0.out hm0).mono ?_
  rintro e w4 ⟨B4, f4, rfl, x0, hb4⟩
  have aw_4 := aw.below hb4 aw.lt
  have ow_4 := ow_3.below hb4 (Nat.le_refl _)
  have S4 := Lib.hid hb4.size
  have hB4 := hB3.trans (hb4.mono hB3.size)
  go_wp2_with fail
  refine (HI B4 n0 f4 l0 p i t _ (x0.rd okH) Hn0.out hm0 (hF.below hB4)).mono ?_
  rintro e w5 ⟨A5, k5, c5, rfl, og, hb5⟩
  have aw_5 := aw_4.below hb5 aw_4.lt
  have ow_5 := ow_4.below hb5 (Nat.le_refl _)
  have x0_5 := x0.below hb5 (Nat.le_refl _)
  have S5 := Lib.hid hb5.size
  have hB5 := hB4.trans (hb5.mono hB4.size)
  have ag := At.new w5 30 #[.int .i64 (sentM l0 p i t).1, .slice A5 k5 c5]
  have aw_6 := aw_5.alloc (.cells #[.int .i64 (sentM l0 p i t).1, .slice A5 k5 c5] 30)
  have ow_6 := ow_5.alloc (.cells #[.int .i64 (sentM l0 p i t).1, .slice A5 k5 c5] 30)
  have x0_6 := x0_5.alloc (.cells #[.int .i64 (sentM l0 p i t).1, .slice A5 k5 c5] 30)
  have og_6 := og.alloc (.cells #[.int .i64 (sentM l0 p i t).1, .slice A5 k5 c5] 30)
  have S6 := Lib.hid (show (w5.alloc (.cells #[.int .i64 (sentM l0 p i t).1, .slice A5 k5 c5] 30)).heap.size = w5.heap.size + 1 by simp)
  have hB6 := hB5.alloc hB5.size (.cells #[.int .i64 (sentM l0 p i t).1, .slice A5 k5 c5] 30)
  obtain ⟨aw0_6, aw1_6, _, _⟩ := aw_6.two
  obtain ⟨ag0_6, ag1_6, _, _⟩ := ag.two
  go_wp2_with fail
  refine (eqHintsResult (sentM l0 p i t).1 A5 A2 k5 k2 c5 c2 _ _ _ (og_6.rd okH) (ow_6.rd okH) (og_6.len okH) (ow_6.len okH) og_6.small).mono ?_
  rintro e w7 ⟨rfl, hb7⟩
  have aw_7 := aw_6.below hb7 aw_6.lt
  have ag_7 := ag.below hb7 ag.lt
  have ow_7 := ow_6.below hb7 (Nat.le_refl _)
  have x0_7 := x0_6.below hb7 (Nat.le_refl _)
  have og_7 := og_6.below hb7 (Nat.le_refl _)
  have S7 := Lib.hid hb7.size
  have hB7 := hB6.trans (hb7.mono hB6.size)
  have ha0_7 := ha0.lift hB7
  go_wp2_with fail
  refine (toHintS X0 n0 d0 l0 _ ha0_7 Hn0.out hm0).mono ?_
  rintro e w8 ⟨B8, f8, rfl, y0, hb8⟩
  have aw_8 := aw_7.below hb8 aw_7.lt
  have ag_8 := ag_7.below hb8 ag_7.lt
  have ow_8 := ow_7.below hb8 (Nat.le_refl _)
  have x0_8 := x0_7.below hb8 (Nat.le_refl _)
  have og_8 := og_7.below hb8 (Nat.le_refl _)
  have S8 := Lib.hid hb8.size
  have hB8 := hB7.trans (hb8.mono hB7.size)
  go_wp2_with fail
  refine (eqHintS B4 B8 n0 n0 f4 f8 l0 l0 _ (x0_8.rd okH) (y0.rd okH) Hn0.out Hn0.out hM0).mono ?_
  rintro e w9 ⟨rfl, hb9⟩
  have aw_9 := aw_8.below hb9 aw_8.lt
  have ag_9 := ag_8.below hb9 ag_8.lt
  have ow_9 := ow_8.below hb9 (Nat.le_refl _)
  have x0_9 := x0_8.below hb9 (Nat.le_refl _)
  have og_9 := og_8.below hb9 (Nat.le_refl _)
  have y0_9 := y0.below hb9 (Nat.le_refl _)
  have S9 := Lib.hid hb9.size
  have hB9 := hB8.trans (hb9.mono hB8.size)
  go_wp2_with fail
  refine (markHintS1 B4 n0 f4 _ _ _ x0_9 (by omega)).mono ?_
  rintro e w10 ⟨rfl, x0_10, hg10⟩
  have hw10 : Within (w2.alloc (.cells #[.int .i64 (sentM l0 p i t).1, .slice A2 k2 c2] 30)).heap.size w4.heap.size w9 w10 := within_of hg10 (fun g hg => x0.lt g hg)
  have aw_10 := aw_9.within hw10 (by have := S1.out; have := S2.out; have := S3.out; have := S4.out; have := S5.out; have := S6.out; have := S7.out; have := S8.out; have := S9.out; omega)
  have ag_10 := ag_9.within hw10 (by have := S1.out; have := S2.out; have := S3.out; have := S4.out; have := S5.out; have := S6.out; have := S7.out; have := S8.out; have := S9.out; omega)
  have ow_10 := ow_9.within hw10 ow.lt (by have := S1.out; have := S2.out; have := S3.out; have := S4.out; have := S5.out; have := S6.out; have := S7.out; have := S8.out; have := S9.out; omega)
  have og_10 := og_9.within hw10 og.lt (by have := S1.out; have := S2.out; have := S3.out; have := S4.out; have := S5.out; have := S6.out; have := S7.out; have := S8.out; have := S9.out; omega)
  have hB10 := hw10.below hB9 hB9.size (by have := S1.out; have := S2.out; have := S3.out; have := S4.out; have := S5.out; have := S6.out; have := S7.out; have := S8.out; have := S9.out; omega)
  have S10 := Lib.hid hw10.size
  have hk0 : ¬ (1 : Int) + 7 * (n0 : Int) < 0 := by omega
  obtain ⟨aw0_10, aw1_10, _, _⟩ := aw_10.two
  obtain ⟨ag0_10, ag1_10, _, _⟩ := ag_10.two
  go_wp2_with fail
  refine (eqHintsResult (sentM l0 p i t).1 A5 A2 k5 k2 c5 c2 _ _ _ (og_10.rd okH) (ow_10.rd okH) (og_10.len okH) (ow_10.len okH) og_10.small).mono ?_
  rintro e w11 ⟨rfl, hb11⟩
  have aw_11 := aw_10.below hb11 aw_10.lt
  have ag_11 := ag_10.below hb11 ag_10.lt
  have ow_11 := ow_10.below hb11 (Nat.le_refl _)
  have x0_11 := x0_10.below hb11 (Nat.le_refl _)
  have og_11 := og_10.below hb11 (Nat.le_refl _)
  have S11 := Lib.hid hb11.size
  have hB11 := hB10.trans (hb11.mono hB10.size)
  have hkg : k5 ≤ n0 := by have := Hm.out; have := og.len okH; have := Hn0.out; omega
  have hk1 : ¬ (1 : Int) + 7 * (k5 : Int) < 0 := by omega
  obtain ⟨aw0_11, aw1_11, _, _⟩ := aw_11.two
  obtain ⟨ag0_11, ag1_11, _, _⟩ := ag_11.two
  go_wp2_with fail
  refine (markHintsResult1 (sentM l0 p i t).1 A5 k5 c5 _ _ _ og_11 (by omega)).mono ?_
  rintro e w12 ⟨rfl, og_12, hg12⟩
  have hw12 : Within w4.heap.size w5.heap.size w11 w12 := within_of hg12 (fun g hg => og.lt g hg)
  have aw_12 := aw_11.within hw12 (by have := S1.out; have := S2.out; have := S3.out; have := S4.out; have := S5.out; have := S6.out; have := S7.out; have := S8.out; have := S9.out; have := S10.out; have := S11.out; omega)
  have ag_12 := ag_11.within hw12 (by have := S1.out; have := S2.out; have := S3.out; have := S4.out; have := S5.out; have := S6.out; have := S7.out; have := S8.out; have := S9.out; have := S10.out; have := S11.out; omega)
  have ow_12 := ow_11.within hw12 ow.lt (by have := S1.out; have := S2.out; have := S3.out; have := S4.out; have := S5.out; have := S6.out; have := S7.out; have := S8.out; have := S9.out; have := S10.out; have := S11.out; omega)
  have hB12 := hw12.below hB11 hB11.size (by have := S1.out; have := S2.out; have := S3.out; have := S4.out; have := S5.out; have := S6.out; have := S7.out; have := S8.out; have := S9.out; have := S10.out; have := S11.out; omega)
  have S12 := Lib.hid hw12.size
  obtain ⟨aw0_12, aw1_12, _, _⟩ := aw_12.two
  obtain ⟨ag0_12, ag1_12, _, _⟩ := ag_12.two
  go_wp2_with fail
  refine (heldHintsResult1 (sentM l0 p i t).1 A5 k5 c5 _ (og_12.rd okH) (by omega)).mono ?_
  rintro e w13 ⟨rfl, hb13⟩
  have aw_13 := aw_12.below hb13 aw_12.lt
  have ag_13 := ag_12.below hb13 ag_12.lt
  have ow_13 := ow_12.below hb13 (Nat.le_refl _)
  have og_13 := og_12.below hb13 (Nat.le_refl _)
  have S13 := Lib.hid hb13.size
  have hB13 := hB12.trans (hb13.mono hB12.size)
  have ha0_13 := ha0.lift hB13
  go_wp2_with fail
  refine (toHintS X0 n0 d0 l0 _ ha0_13 Hn0.out hm0).mono ?_
  rintro e w14 ⟨B14, f14, rfl, z0, hb14⟩
  have aw_14 := aw_13.below hb14 aw_13.lt
  have ag_14 := ag_13.below hb14 ag_13.lt
  have ow_14 := ow_13.below hb14 (Nat.le_refl _)
  have og_14 := og_13.below hb14 (Nat.le_refl _)
  have S14 := Lib.hid hb14.size
  have hB14 := hB13.trans (hb14.mono hB13.size)
  go_wp2_with fail
  refine (HI B14 n0 f14 l0 p i t _ (z0.rd okH) Hn0.out hm0 (hF.below hB14)).mono ?_
  rintro e w15 ⟨A15, k15, c15, rfl, oh, hb15⟩
  have aw_15 := aw_14.below hb15 aw_14.lt
  have ag_15 := ag_14.below hb15 ag_14.lt
  have ow_15 := ow_14.below hb15 (Nat.le_refl _)
  have og_15 := og_14.below hb15 (Nat.le_refl _)
  have z0_15 := z0.below hb15 (Nat.le_refl _)
  have S15 := Lib.hid hb15.size
  have hB15 := hB14.trans (hb15.mono hB14.size)
  have ah := At.new w15 30 #[.int .i64 (sentM l0 p i t).1, .slice A15 k15 c15]
  have aw_16 := aw_15.alloc (.cells #[.int .i64 (sentM l0 p i t).1, .slice A15 k15 c15] 30)
  have ag_16 := ag_15.alloc (.cells #[.int .i64 (sentM l0 p i t).1, .slice A15 k15 c15] 30)
  have ow_16 := ow_15.alloc (.cells #[.int .i64 (sentM l0 p i t).1, .slice A15 k15 c15] 30)
  have og_16 := og_15.alloc (.cells #[.int .i64 (sentM l0 p i t).1, .slice A15 k15 c15] 30)
  have oh_16 := oh.alloc (.cells #[.int .i64 (sentM l0 p i t).1, .slice A15 k15 c15] 30)
  have S16 := Lib.hid (show (w15.alloc (.cells #[.int .i64 (sentM l0 p i t).1, .slice A15 k15 c15] 30)).heap.size = w15.heap.size + 1 by simp)
  have hB16 := hB15.alloc hB15.size (.cells #[.int .i64 (sentM l0 p i t).1, .slice A15 k15 c15] 30)
  obtain ⟨aw0_16, aw1_16, _, _⟩ := aw_16.two
  obtain ⟨ag0_16, ag1_16, _, _⟩ := ag_16.two
  obtain ⟨ah0_16, ah1_16, _, _⟩ := ah.two
  go_wp2_with fail
  refine (eqHintsResult (sentM l0 p i t).1 A15 A2 k15 k2 c15 c2 _ _ _ (oh_16.rd okH) (ow_16.rd okH) (oh_16.len okH) (ow_16.len okH) oh_16.small).mono ?_
  rintro e w17 ⟨rfl, hb17⟩
  have aw_17 := aw_16.below hb17 aw_16.lt
  have ag_17 := ag_16.below hb17 ag_16.lt
  have ah_17 := ah.below hb17 ah.lt
  have ow_17 := ow_16.below hb17 (Nat.le_refl _)
  have og_17 := og_16.below hb17 (Nat.le_refl _)
  have oh_17 := oh_16.below hb17 (Nat.le_refl _)
  have S17 := Lib.hid hb17.size
  have hB17 := hB16.trans (hb17.mono hB16.size)
  obtain ⟨ag0_17, ag1_17, _, _⟩ := ag_17.two
  go_wp2_with fail
  refine (heldHintsResult1 (sentM l0 p i t).1 A5 k5 c5 _ (og_17.rd okH) (by omega)).mono ?_
  rintro e w18 ⟨rfl, hb18⟩
  have ag_18 := ag_17.below hb18 ag_17.lt
  have og_18 := og_17.below hb18 (Nat.le_refl _)
  have S18 := Lib.hid hb18.size
  have hB18 := hB17.trans (hb18.mono hB17.size)
  go_wp2_with fail
  go_ret
  exact ⟨by simp, hB18⟩
end Go.Proofs.YtjlkmfijkhjjkaaDoor
