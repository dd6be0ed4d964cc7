/-
  Texts of one proof, joined: each has its own namespace.
-/
import Derived.Test.YtmaillakhhdkfaaGreatDoorBExRecoverDisk11
import Derived.Test.YtmaillakhhdkfaaGreatDoorBExRecoverDisk0
import Derived.Stop.LaidErr
/-
  The law FnExactRecoverDisk, walked.
-/
namespace Go.Proofs.YtmaillakhhdkfaaGreatDoor
set_option maxRecDepth 20000
open Go.RowKit
set_option linter.unusedSimpArgs false
set_option linter.unusedVariables false

theorem flat_ge : ∀ (l : List (List UInt8)), l.length ≤ (l.flatMap frameL).length
  | [] => Nat.zero_le _
  | b :: l => by
    have ih := flat_ge l
    rw [List.flatMap_cons, List.length_append, frameL_len, List.length_cons]
    omega
theorem recover_few (d : List UInt8) : (recoverM d).2.1.1.length ≤ 160 ∧ (recoverM d).2.1.2.1.length ≤ 8 ∧ (recoverM d).2.2.1.length ≤ 20000 := by
  by_cases hd : d.length ≤ 20000
  · obtain ⟨l, t, qs, h1, h2, h3, h4, h5, h6, h7, h8⟩ := recover_said hd
    rw [h1]
    obtain ⟨q1, q2, -⟩ := (stateFault_iff _).1 h7
    refine ⟨((storeFault_iff _).1 q1).1, ((hintsFault_iff _).1 q2).1, ?_⟩
    have := flat_ge l
    show qs.length ≤ 20000
    omega
  · rw [recoverM_big hd]
    exact ⟨Nat.zero_le _, Nat.zero_le _, Nat.zero_le _⟩
set_option maxRecDepth 100000 in
set_option maxHeartbeats 8000000 in
theorem fnExactRecoverDisk_walk (X0 : Option Addr) (n0 d0 : Nat) (l0 : List UInt8) (a : Addr) (w : World) (ha0 : Rd eB w w.heap.size X0 l0) (hn0 : l0.length = n0) (hF : Flds w) (hS : Sent w a) :
    Calls Tryz.prog 5 #[.slice X0 n0 d0] w fun e w' => e = .returned (.bool true) ∧ Below w.heap.size w w' := by
  have Hn0 := Lib.hid hn0
  clear hn0
  by_cases hbig0 : 1048576 < n0
  · go_enter Tryz.func5, Tryz.ntmps5
    go_wp2
    go_ret
    exact ⟨rfl, Below.refl _ _⟩
  have hm0 : n0 ≤ 1048576 := by omega
  have hM0 : n0 ≤ maxLen := by unfold maxLen; omega
  clear hbig0
  have SP := fun A c W r h1 h2 => specRecoverDisk A n0 c l0 W r Hn0.out h1 h2
  have IP := fun A c W r h1 f s => implRecoverDisk A n0 c l0 a W r Hn0.out h1 f s
  have hfew := recover_few l0
  rcases hM : recoverM l0 with ⟨tc, ⟨tl, th, tx⟩, tr, tz⟩
  rw [hM] at SP IP hfew
  clear hM
  have Few := Lib.hid (show tl.length ≤ 160 ∧ th.length ≤ 8 ∧ tr.length ≤ 20000 from hfew)
  clear hfew
  go_enter Tryz.func5, Tryz.ntmps5
  go_wp2_with fail
  refine (toByteS X0 n0 d0 l0 _ ha0 Hn0.out hm0).mono ?_
  rintro e w1 ⟨B1, e1, rfl, s0, hb1⟩
  have S1 := Lib.hid hb1.size
  have hB1 := hb1
  have cap1 := s0.cap
  have cpm1 := s0.capMax
  go_wp2_with fail
  refine (SP B1 e1 _ (s0.rd okB) cap1 cpm1).mono ?_
  rintro e w2 ⟨A2, n2, c2, B2, m2, d2, R2, k2, kc2, rfl, ws, wh, wr, hb2⟩
  have s0_2 := s0.below hb2 (Nat.le_refl _)
  have S2 := Lib.hid hb2.size
  have hB2 := hB1.trans (hb2.mono hB1.size)
  have wl1 := Lib.hid (ws.len okS)
  have wl2 := Lib.hid (wh.len okH)
  have wl3 := Lib.hid (wr.len okR)
  have aw := At.new w2 53 #[.int .i64 tc, .slice A2 n2 c2, .slice B2 m2 d2, .int .i64 tx, .slice R2 k2 kc2, .int .i64 (tz : Nat)]
  have s0_3 := s0_2.alloc (.cells #[.int .i64 tc, .slice A2 n2 c2, .slice B2 m2 d2, .int .i64 tx, .slice R2 k2 kc2, .int .i64 (tz : Nat)] 53)
  have ws_3 := ws.alloc (.cells #[.int .i64 tc, .slice A2 n2 c2, .slice B2 m2 d2, .int .i64 tx, .slice R2 k2 kc2, .int .i64 (tz : Nat)] 53)
  have wh_3 := wh.alloc (.cells #[.int .i64 tc, .slice A2 n2 c2, .slice B2 m2 d2, .int .i64 tx, .slice R2 k2 kc2, .int .i64 (tz : Nat)] 53)
  have wr_3 := wr.alloc (.cells #[.int .i64 tc, .slice A2 n2 c2, .slice B2 m2 d2, .int .i64 tx, .slice R2 k2 kc2, .int .i64 (tz : Nat)] 53)
  have S3 := Lib.hid (show (w2.alloc (.cells #[.int .i64 tc, .slice A2 n2 c2, .slice B2 m2 d2, .int .i64 tx, .slice R2 k2 kc2, .int .i64 (tz : Nat)] 53)).heap.size = w2.heap.size + 1 by simp)
  have hB3 := hB2.alloc hB2.size (.cells #[.int .i64 tc, .slice A2 n2 c2, .slice B2 m2 d2, .int .i64 tx, .slice R2 k2 kc2, .int .i64 (tz : Nat)] 53)
  have ha0_3 := ha0.lift hB3
  go_wp2_with fail
  refine (toByteS X0 n0 d0 l0 _ ha0_3 Hn0.out hm0).mono ?_
  rintro e w4 ⟨B4, e4, rfl, x0, hb4⟩
  have aw_4 := aw.below hb4 aw.lt
  have ws_4 := ws_3.below hb4 (Nat.le_refl _)
  have wh_4 := wh_3.below hb4 (Nat.le_refl _)
  have wr_4 := wr_3.below hb4 (Nat.le_refl _)
  have S4 := Lib.hid hb4.size
  have hB4 := hB3.trans (hb4.mono hB3.size)
  have cap4 := x0.cap
  have hF4 := hF.below hB4
  have hS4 := hS.below hB4 hS.pos
  go_wp2_with fail
  refine (IP B4 e4 _ (x0.rd okB) cap4 hF4 hS4).mono ?_
  rintro e w5 ⟨A5, n5, c5, B5, m5, d5, R5, k5, kc5, rfl, gs, gh, gr, hb5⟩
  have aw_5 := aw_4.below hb5 aw_4.lt
  have ws_5 := ws_4.below hb5 (Nat.le_refl _)
  have wh_5 := wh_4.below hb5 (Nat.le_refl _)
  have wr_5 := wr_4.below hb5 (Nat.le_refl _)
  have x0_5 := x0.below hb5 (Nat.le_refl _)
  have S5 := Lib.hid hb5.size
  have hB5 := hB4.trans (hb5.mono hB4.size)
  have gl1 := Lib.hid (gs.len okS)
  have gl2 := Lib.hid (gh.len okH)
  have gl3 := Lib.hid (gr.len okR)
  have ag := At.new w5 53 #[.int .i64 tc, .slice A5 n5 c5, .slice B5 m5 d5, .int .i64 tx, .slice R5 k5 kc5, .int .i64 (tz : Nat)]
  have aw_6 := aw_5.alloc (.cells #[.int .i64 tc, .slice A5 n5 c5, .slice B5 m5 d5, .int .i64 tx, .slice R5 k5 kc5, .int .i64 (tz : Nat)] 53)
  have ws_6 := ws_5.alloc (.cells #[.int .i64 tc, .slice A5 n5 c5, .slice B5 m5 d5, .int .i64 tx, .slice R5 k5 kc5, .int .i64 (tz : Nat)] 53)
  have wh_6 := wh_5.alloc (.cells #[.int .i64 tc, .slice A5 n5 c5, .slice B5 m5 d5, .int .i64 tx, .slice R5 k5 kc5, .int .i64 (tz : Nat)] 53)
  have wr_6 := wr_5.alloc (.cells #[.int .i64 tc, .slice A5 n5 c5, .slice B5 m5 d5, .int .i64 tx, .slice R5 k5 kc5, .int .i64 (tz : Nat)] 53)
  have x0_6 := x0_5.alloc (.cells #[.int .i64 tc, .slice A5 n5 c5, .slice B5 m5 d5, .int .i64 tx, .slice R5 k5 kc5, .int .i64 (tz : Nat)] 53)
  have gs_6 := gs.alloc (.cells #[.int .i64 tc, .slice A5 n5 c5, .slice B5 m5 d5, .int .i64 tx, .slice R5 k5 kc5, .int .i64 (tz : Nat)] 53)
  have gh_6 := gh.alloc (.cells #[.int .i64 tc, .slice A5 n5 c5, .slice B5 m5 d5, .int .i64 tx, .slice R5 k5 kc5, .int .i64 (tz : Nat)] 53)
  have gr_6 := gr.alloc (.cells #[.int .i64 tc, .slice A5 n5 c5, .slice B5 m5 d5, .int .i64 tx, .slice R5 k5 kc5, .int .i64 (tz : Nat)] 53)
  have S6 := Lib.hid (show (w5.alloc (.cells #[.int .i64 tc, .slice A5 n5 c5, .slice B5 m5 d5, .int .i64 tx, .slice R5 k5 kc5, .int .i64 (tz : Nat)] 53)).heap.size = w5.heap.size + 1 by simp)
  have hB6 := hB5.alloc hB5.size (.cells #[.int .i64 tc, .slice A5 n5 c5, .slice B5 m5 d5, .int .i64 tx, .slice R5 k5 kc5, .int .i64 (tz : Nat)] 53)
  obtain ⟨⟨aw0_6, aw1_6, aw2_6, aw3_6, aw4_6, aw5_6⟩, _⟩ := aw_6.sixC
  obtain ⟨⟨ag0_6, ag1_6, ag2_6, ag3_6, ag4_6, ag5_6⟩, _⟩ := ag.sixC
  go_wp2_with fail
  refine (eqDiskResult_same tc (tz : Nat) A5 B5 R5 A2 B2 R2 n5 c5 m5 d5 k5 kc5 n2 c2 m2 d2 k2 kc2 tl th tr tx _ (gs_6.rd okS) (gh_6.rd okH) (gr_6.rd okR) (ws_6.rd okS) (wh_6.rd okH) (wr_6.rd okR) gl1.out gl2.out gl3.out wl1.out wl2.out wl3.out (by have := Few.out; have := gl1.out; have := gl2.out; have := gl3.out; unfold maxLen; omega) (by have := Few.out; have := gl1.out; have := gl2.out; have := gl3.out; unfold maxLen; omega) (by have := Few.out; have := gl1.out; have := gl2.out; have := gl3.out; unfold maxLen; omega)).mono ?_
  rintro e w7 ⟨rfl, hb7⟩
  have aw_7 := aw_6.below hb7 aw_6.lt
  have ag_7 := ag.below hb7 ag.lt
  have ws_7 := ws_6.below hb7 (Nat.le_refl _)
  have wh_7 := wh_6.below hb7 (Nat.le_refl _)
  have wr_7 := wr_6.below hb7 (Nat.le_refl _)
  have x0_7 := x0_6.below hb7 (Nat.le_refl _)
  have gs_7 := gs_6.below hb7 (Nat.le_refl _)
  have gh_7 := gh_6.below hb7 (Nat.le_refl _)
  have gr_7 := gr_6.below hb7 (Nat.le_refl _)
  have S7 := Lib.hid hb7.size
  have hB7 := hB6.trans (hb7.mono hB6.size)
  have ha0_7 := ha0.lift hB7
  go_wp2_with fail
  refine (toByteS X0 n0 d0 l0 _ ha0_7 Hn0.out hm0).mono ?_
  rintro e w8 ⟨B8, e8, rfl, y0, hb8⟩
  have aw_8 := aw_7.below hb8 aw_7.lt
  have ag_8 := ag_7.below hb8 ag_7.lt
  have ws_8 := ws_7.below hb8 (Nat.le_refl _)
  have wh_8 := wh_7.below hb8 (Nat.le_refl _)
  have wr_8 := wr_7.below hb8 (Nat.le_refl _)
  have x0_8 := x0_7.below hb8 (Nat.le_refl _)
  have gs_8 := gs_7.below hb8 (Nat.le_refl _)
  have gh_8 := gh_7.below hb8 (Nat.le_refl _)
  have gr_8 := gr_7.below hb8 (Nat.le_refl _)
  have S8 := Lib.hid hb8.size
  have hB8 := hB7.trans (hb8.mono hB7.size)
  go_wp2_with fail
  refine (eqByteS B4 B8 n0 n0 e4 e8 l0 l0 _ (x0_8.rd okB) (y0.rd okB) Hn0.out Hn0.out hM0).mono ?_
  rintro e w9 ⟨rfl, hb9⟩
  have aw_9 := aw_8.below hb9 aw_8.lt
  have ag_9 := ag_8.below hb9 ag_8.lt
  have ws_9 := ws_8.below hb9 (Nat.le_refl _)
  have wh_9 := wh_8.below hb9 (Nat.le_refl _)
  have wr_9 := wr_8.below hb9 (Nat.le_refl _)
  have x0_9 := x0_8.below hb9 (Nat.le_refl _)
  have gs_9 := gs_8.below hb9 (Nat.le_refl _)
  have gh_9 := gh_8.below hb9 (Nat.le_refl _)
  have gr_9 := gr_8.below hb9 (Nat.le_refl _)
  have y0_9 := y0.below hb9 (Nat.le_refl _)
  have S9 := Lib.hid hb9.size
  have hB9 := hB8.trans (hb9.mono hB8.size)
  go_wp2_with fail
  refine (markByteS1 B4 n0 e4 _ _ _ x0_9 (by omega)).mono ?_
  rintro e w10 ⟨rfl, x0_10, hg10⟩
  have hw10 : Within (w2.alloc (.cells #[.int .i64 tc, .slice A2 n2 c2, .slice B2 m2 d2, .int .i64 tx, .slice R2 k2 kc2, .int .i64 (tz : Nat)] 53)).heap.size w4.heap.size w9 w10 := within_of hg10 (fun g hg => x0.lt g hg)
  have aw_10 := aw_9.within hw10 (by have := S1.out; have := S2.out; have := S3.out; have := S4.out; have := S5.out; have := S6.out; have := S7.out; have := S8.out; have := S9.out; omega)
  have ag_10 := ag_9.within hw10 (by have := S1.out; have := S2.out; have := S3.out; have := S4.out; have := S5.out; have := S6.out; have := S7.out; have := S8.out; have := S9.out; omega)
  have ws_10 := ws_9.within hw10 ws.lt (by have := S1.out; have := S2.out; have := S3.out; have := S4.out; have := S5.out; have := S6.out; have := S7.out; have := S8.out; have := S9.out; omega)
  have wh_10 := wh_9.within hw10 wh.lt (by have := S1.out; have := S2.out; have := S3.out; have := S4.out; have := S5.out; have := S6.out; have := S7.out; have := S8.out; have := S9.out; omega)
  have wr_10 := wr_9.within hw10 wr.lt (by have := S1.out; have := S2.out; have := S3.out; have := S4.out; have := S5.out; have := S6.out; have := S7.out; have := S8.out; have := S9.out; omega)
  have gs_10 := gs_9.within hw10 gs.lt (by have := S1.out; have := S2.out; have := S3.out; have := S4.out; have := S5.out; have := S6.out; have := S7.out; have := S8.out; have := S9.out; omega)
  have gh_10 := gh_9.within hw10 gh.lt (by have := S1.out; have := S2.out; have := S3.out; have := S4.out; have := S5.out; have := S6.out; have := S7.out; have := S8.out; have := S9.out; omega)
  have gr_10 := gr_9.within hw10 gr.lt (by have := S1.out; have := S2.out; have := S3.out; have := S4.out; have := S5.out; have := S6.out; have := S7.out; have := S8.out; have := S9.out; omega)
  have hB10 := hw10.below hB9 hB9.size (by have := S1.out; have := S2.out; have := S3.out; have := S4.out; have := S5.out; have := S6.out; have := S7.out; have := S8.out; have := S9.out; omega)
  have S10 := Lib.hid hw10.size
  have hk0 : ¬ (1 : Int) + (n0 : Int) < 0 := by omega
  obtain ⟨⟨aw0_10, aw1_10, aw2_10, aw3_10, aw4_10, aw5_10⟩, _⟩ := aw_10.sixC
  obtain ⟨⟨ag0_10, ag1_10, ag2_10, ag3_10, ag4_10, ag5_10⟩, _⟩ := ag_10.sixC
  go_wp2_with fail
  refine (eqDiskResult_same tc (tz : Nat) A5 B5 R5 A2 B2 R2 n5 c5 m5 d5 k5 kc5 n2 c2 m2 d2 k2 kc2 tl th tr tx _ (gs_10.rd okS) (gh_10.rd okH) (gr_10.rd okR) (ws_10.rd okS) (wh_10.rd okH) (wr_10.rd okR) gl1.out gl2.out gl3.out wl1.out wl2.out wl3.out (by have := Few.out; have := gl1.out; have := gl2.out; have := gl3.out; unfold maxLen; omega) (by have := Few.out; have := gl1.out; have := gl2.out; have := gl3.out; unfold maxLen; omega) (by have := Few.out; have := gl1.out; have := gl2.out; have := gl3.out; unfold maxLen; omega)).mono ?_
  rintro e w11 ⟨rfl, hb11⟩
  have aw_11 := aw_10.below hb11 aw_10.lt
  have ag_11 := ag_10.below hb11 ag_10.lt
  have ws_11 := ws_10.below hb11 (Nat.le_refl _)
  have wh_11 := wh_10.below hb11 (Nat.le_refl _)
  have wr_11 := wr_10.below hb11 (Nat.le_refl _)
  have x0_11 := x0_10.below hb11 (Nat.le_refl _)
  have gs_11 := gs_10.below hb11 (Nat.le_refl _)
  have gh_11 := gh_10.below hb11 (Nat.le_refl _)
  have gr_11 := gr_10.below hb11 (Nat.le_refl _)
  have S11 := Lib.hid hb11.size
  have hB11 := hB10.trans (hb11.mono hB10.size)
  obtain ⟨⟨aw0_11, aw1_11, aw2_11, aw3_11, aw4_11, aw5_11⟩, _⟩ := aw_11.sixC
  obtain ⟨⟨ag0_11, ag1_11, ag2_11, ag3_11, ag4_11, ag5_11⟩, _⟩ := ag_11.sixC
  go_wp2_with fail
  refine (markDiskResult tc (tz : Nat) A5 B5 R5 n5 c5 m5 d5 k5 kc5 _ _ _ tl th tr tx _ gs_11 gh_11 gr_11 gs.lt gh.lt gr.lt (by have := Few.out; have := gl1.out; have := gl2.out; have := gl3.out; omega) (by have := Few.out; have := gl1.out; have := gl2.out; have := gl3.out; omega) (by have := Few.out; have := gl1.out; have := gl2.out; have := gl3.out; omega)).mono ?_
  rintro e w12 ⟨rfl, gs_12, gh_12, gr_12, hw12⟩
  have aw_12 := aw_11.within hw12 (by have := S1.out; have := S2.out; have := S3.out; have := S4.out; have := S5.out; have := S6.out; have := S7.out; have := S8.out; have := S9.out; have := S10.out; have := S11.out; omega)
  have ag_12 := ag_11.within hw12 (by have := S1.out; have := S2.out; have := S3.out; have := S4.out; have := S5.out; have := S6.out; have := S7.out; have := S8.out; have := S9.out; have := S10.out; have := S11.out; omega)
  have ws_12 := ws_11.within hw12 ws.lt (by have := S1.out; have := S2.out; have := S3.out; have := S4.out; have := S5.out; have := S6.out; have := S7.out; have := S8.out; have := S9.out; have := S10.out; have := S11.out; omega)
  have wh_12 := wh_11.within hw12 wh.lt (by have := S1.out; have := S2.out; have := S3.out; have := S4.out; have := S5.out; have := S6.out; have := S7.out; have := S8.out; have := S9.out; have := S10.out; have := S11.out; omega)
  have wr_12 := wr_11.within hw12 wr.lt (by have := S1.out; have := S2.out; have := S3.out; have := S4.out; have := S5.out; have := S6.out; have := S7.out; have := S8.out; have := S9.out; have := S10.out; have := S11.out; omega)
  have hB12 := hw12.below hB11 hB11.size (by have := S1.out; have := S2.out; have := S3.out; have := S4.out; have := S5.out; have := S6.out; have := S7.out; have := S8.out; have := S9.out; have := S10.out; have := S11.out; omega)
  have S12 := Lib.hid hw12.size
  have hk1 : ¬ (1 : Int) + 4 * (n5 : Int) + 7 * (m5 : Int) + 7 * (k5 : Int) < 0 := by omega
  obtain ⟨⟨aw0_12, aw1_12, aw2_12, aw3_12, aw4_12, aw5_12⟩, _⟩ := aw_12.sixC
  obtain ⟨⟨ag0_12, ag1_12, ag2_12, ag3_12, ag4_12, ag5_12⟩, _⟩ := ag_12.sixC
  go_wp2_with fail
  refine (heldDiskResult tc (tz : Nat) A5 B5 R5 n5 c5 m5 d5 k5 kc5 tx _ (gs_12.rd okS) (gh_12.rd okH) (gr_12.rd okR) (by have := Few.out; have := gl1.out; have := gl2.out; have := gl3.out; omega) (by have := Few.out; have := gl1.out; have := gl2.out; have := gl3.out; omega) (by have := Few.out; have := gl1.out; have := gl2.out; have := gl3.out; omega)).mono ?_
  rintro e w13 ⟨rfl, hb13⟩
  have aw_13 := aw_12.below hb13 aw_12.lt
  have ag_13 := ag_12.below hb13 ag_12.lt
  have ws_13 := ws_12.below hb13 (Nat.le_refl _)
  have wh_13 := wh_12.below hb13 (Nat.le_refl _)
  have wr_13 := wr_12.below hb13 (Nat.le_refl _)
  have gs_13 := gs_12.below hb13 (Nat.le_refl _)
  have gh_13 := gh_12.below hb13 (Nat.le_refl _)
  have gr_13 := gr_12.below hb13 (Nat.le_refl _)
  have S13 := Lib.hid hb13.size
  have hB13 := hB12.trans (hb13.mono hB12.size)
  have ha0_13 := ha0.lift hB13
  go_wp2_with fail
  refine (toByteS X0 n0 d0 l0 _ ha0_13 Hn0.out hm0).mono ?_
  rintro e w14 ⟨B14, e14, rfl, z0, hb14⟩
  have aw_14 := aw_13.below hb14 aw_13.lt
  have ag_14 := ag_13.below hb14 ag_13.lt
  have ws_14 := ws_13.below hb14 (Nat.le_refl _)
  have wh_14 := wh_13.below hb14 (Nat.le_refl _)
  have wr_14 := wr_13.below hb14 (Nat.le_refl _)
  have gs_14 := gs_13.below hb14 (Nat.le_refl _)
  have gh_14 := gh_13.below hb14 (Nat.le_refl _)
  have gr_14 := gr_13.below hb14 (Nat.le_refl _)
  have S14 := Lib.hid hb14.size
  have hB14 := hB13.trans (hb14.mono hB13.size)
  have cap14 := z0.cap
  have hF14 := hF.below hB14
  have hS14 := hS.below hB14 hS.pos
  go_wp2_with fail
  refine (IP B14 e14 _ (z0.rd okB) cap14 hF14 hS14).mono ?_
  rintro e w15 ⟨A15, n15, c15, B15, m15, d15, R15, k15, kc15, rfl, hs, hh, hr, hb15⟩
  have aw_15 := aw_14.below hb15 aw_14.lt
  have ag_15 := ag_14.below hb15 ag_14.lt
  have ws_15 := ws_14.below hb15 (Nat.le_refl _)
  have wh_15 := wh_14.below hb15 (Nat.le_refl _)
  have wr_15 := wr_14.below hb15 (Nat.le_refl _)
  have gs_15 := gs_14.below hb15 (Nat.le_refl _)
  have gh_15 := gh_14.below hb15 (Nat.le_refl _)
  have gr_15 := gr_14.below hb15 (Nat.le_refl _)
  have z0_15 := z0.below hb15 (Nat.le_refl _)
  have S15 := Lib.hid hb15.size
  have hB15 := hB14.trans (hb15.mono hB14.size)
  have hl1 := Lib.hid (hs.len okS)
  have hl2 := Lib.hid (hh.len okH)
  have hl3 := Lib.hid (hr.len okR)
  have ah := At.new w15 53 #[.int .i64 tc, .slice A15 n15 c15, .slice B15 m15 d15, .int .i64 tx, .slice R15 k15 kc15, .int .i64 (tz : Nat)]
  have aw_16 := aw_15.alloc (.cells #[.int .i64 tc, .slice A15 n15 c15, .slice B15 m15 d15, .int .i64 tx, .slice R15 k15 kc15, .int .i64 (tz : Nat)] 53)
  have ag_16 := ag_15.alloc (.cells #[.int .i64 tc, .slice A15 n15 c15, .slice B15 m15 d15, .int .i64 tx, .slice R15 k15 kc15, .int .i64 (tz : Nat)] 53)
  have ws_16 := ws_15.alloc (.cells #[.int .i64 tc, .slice A15 n15 c15, .slice B15 m15 d15, .int .i64 tx, .slice R15 k15 kc15, .int .i64 (tz : Nat)] 53)
  have wh_16 := wh_15.alloc (.cells #[.int .i64 tc, .slice A15 n15 c15, .slice B15 m15 d15, .int .i64 tx, .slice R15 k15 kc15, .int .i64 (tz : Nat)] 53)
  have wr_16 := wr_15.alloc (.cells #[.int .i64 tc, .slice A15 n15 c15, .slice B15 m15 d15, .int .i64 tx, .slice R15 k15 kc15, .int .i64 (tz : Nat)] 53)
  have gs_16 := gs_15.alloc (.cells #[.int .i64 tc, .slice A15 n15 c15, .slice B15 m15 d15, .int .i64 tx, .slice R15 k15 kc15, .int .i64 (tz : Nat)] 53)
  have gh_16 := gh_15.alloc (.cells #[.int .i64 tc, .slice A15 n15 c15, .slice B15 m15 d15, .int .i64 tx, .slice R15 k15 kc15, .int .i64 (tz : Nat)] 53)
  have gr_16 := gr_15.alloc (.cells #[.int .i64 tc, .slice A15 n15 c15, .slice B15 m15 d15, .int .i64 tx, .slice R15 k15 kc15, .int .i64 (tz : Nat)] 53)
  have z0_16 := z0_15.alloc (.cells #[.int .i64 tc, .slice A15 n15 c15, .slice B15 m15 d15, .int .i64 tx, .slice R15 k15 kc15, .int .i64 (tz : Nat)] 53)
  have hs_16 := hs.alloc (.cells #[.int .i64 tc, .slice A15 n15 c15, .slice B15 m15 d15, .int .i64 tx, .slice R15 k15 kc15, .int .i64 (tz : Nat)] 53)
  have hh_16 := hh.alloc (.cells #[.int .i64 tc, .slice A15 n15 c15, .slice B15 m15 d15, .int .i64 tx, .slice R15 k15 kc15, .int .i64 (tz : Nat)] 53)
  have hr_16 := hr.alloc (.cells #[.int .i64 tc, .slice A15 n15 c15, .slice B15 m15 d15, .int .i64 tx, .slice R15 k15 kc15, .int .i64 (tz : Nat)] 53)
  have S16 := Lib.hid (show (w15.alloc (.cells #[.int .i64 tc, .slice A15 n15 c15, .slice B15 m15 d15, .int .i64 tx, .slice R15 k15 kc15, .int .i64 (tz : Nat)] 53)).heap.size = w15.heap.size + 1 by simp)
  have hB16 := hB15.alloc hB15.size (.cells #[.int .i64 tc, .slice A15 n15 c15, .slice B15 m15 d15, .int .i64 tx, .slice R15 k15 kc15, .int .i64 (tz : Nat)] 53)
  obtain ⟨⟨aw0_16, aw1_16, aw2_16, aw3_16, aw4_16, aw5_16⟩, _⟩ := aw_16.sixC
  obtain ⟨⟨ag0_16, ag1_16, ag2_16, ag3_16, ag4_16, ag5_16⟩, _⟩ := ag_16.sixC
  obtain ⟨⟨ah0_16, ah1_16, ah2_16, ah3_16, ah4_16, ah5_16⟩, _⟩ := ah.sixC
  go_wp2_with fail
  refine (eqDiskResult_same tc (tz : Nat) A15 B15 R15 A2 B2 R2 n15 c15 m15 d15 k15 kc15 n2 c2 m2 d2 k2 kc2 tl th tr tx _ (hs_16.rd okS) (hh_16.rd okH) (hr_16.rd okR) (ws_16.rd okS) (wh_16.rd okH) (wr_16.rd okR) hl1.out hl2.out hl3.out wl1.out wl2.out wl3.out (by have := Few.out; have := hl1.out; have := hl2.out; have := hl3.out; unfold maxLen; omega) (by have := Few.out; have := hl1.out; have := hl2.out; have := hl3.out; unfold maxLen; omega) (by have := Few.out; have := hl1.out; have := hl2.out; have := hl3.out; unfold maxLen; omega)).mono ?_
  rintro e w17 ⟨rfl, hb17⟩
  have aw_17 := aw_16.below hb17 aw_16.lt
  have ag_17 := ag_16.below hb17 ag_16.lt
  have ah_17 := ah.below hb17 ah.lt
  have ws_17 := ws_16.below hb17 (Nat.le_refl _)
  have wh_17 := wh_16.below hb17 (Nat.le_refl _)
  have wr_17 := wr_16.below hb17 (Nat.le_refl _)
  have gs_17 := gs_16.below hb17 (Nat.le_refl _)
  have gh_17 := gh_16.below hb17 (Nat.le_refl _)
  have gr_17 := gr_16.below hb17 (Nat.le_refl _)
  have hs_17 := hs_16.below hb17 (Nat.le_refl _)
  have hh_17 := hh_16.below hb17 (Nat.le_refl _)
  have hr_17 := hr_16.below hb17 (Nat.le_refl _)
  have S17 := Lib.hid hb17.size
  have hB17 := hB16.trans (hb17.mono hB16.size)
  obtain ⟨⟨ag0_17, ag1_17, ag2_17, ag3_17, ag4_17, ag5_17⟩, _⟩ := ag_17.sixC
  go_wp2_with fail
  refine (heldDiskResult tc (tz : Nat) A5 B5 R5 n5 c5 m5 d5 k5 kc5 tx _ (gs_17.rd okS) (gh_17.rd okH) (gr_17.rd okR) (by have := Few.out; have := gl1.out; have := gl2.out; have := gl3.out; omega) (by have := Few.out; have := gl1.out; have := gl2.out; have := gl3.out; omega) (by have := Few.out; have := gl1.out; have := gl2.out; have := gl3.out; omega)).mono ?_
  rintro e w18 ⟨rfl, hb18⟩
  have ag_18 := ag_17.below hb18 ag_17.lt
  have gs_18 := gs_17.below hb18 (Nat.le_refl _)
  have gh_18 := gh_17.below hb18 (Nat.le_refl _)
  have gr_18 := gr_17.below hb18 (Nat.le_refl _)
  have S18 := Lib.hid hb18.size
  have hB18 := hB17.trans (hb18.mono hB17.size)
  go_wp2_with fail
  go_ret
  exact ⟨rfl, hB18⟩
end Go.Proofs.YtmaillakhhdkfaaGreatDoor
/-
  Two named variables of the program, its table of fields and its sentinel: what start-up laid gives the walks' words; how they are opened and shut.
-/
namespace Go.Proofs.YtmaillakhhdkfaaGreatDoor
set_option maxRecDepth 20000
open Go.ChangeShapes Go.WideShapes Go.ChangeAt Go.RowKit

def errName : String := "loop.example/g00791/impl.errNotApplied"
theorem gE : Tryz.prog.globalNamed errName = some 0 := by kernel_rfl
theorem tE : (Tryz.prog.globals[0]?).map (·.type) = some 111 := by kernel_rfl
def laidE : List (String × DataW Unit) := [(fldName, Rows.laid_loop_example_g00791_impl_sampleFields), (errName, Rows.laid_loop_example_g00791_impl_errNotApplied)]
theorem starE : "*" ++ "errors.errorString" = "*errors.errorString" := by decide
theorem rowE (u : TypeId) (h : Tryz.prog.typeName? 3 u = some "*errors.errorString") : u = 276 :=
  typeName_ptr_named (nm := "errors.errorString") (by rw [starE]; kernel_rfl) (by kernel_rfl) (by decide) u (by rw [starE]; exact h)
theorem cellsE : Tryz.prog.cellsOf 300 = 1 := by kernel_rfl
theorem cellsStr : Tryz.prog.cellsOf 9 = 1 := by kernel_rfl

theorem of_laidE {W : World} (h : laidMetH Tryz.prog laidE W) : (∃ cs : Array Value, W.var? Tryz.prog fldName = some cs ∧ cs.toList = fldCells) ∧ ∃ a : Addr, W.var? Tryz.prog errName = some #[.iface 276 (.pointer (some a))] := by
  rw [MakeChecks.laidMetH_plain _ _ _ (by kernel_rfl)] at h
  have hE : laidMet Tryz.prog [(errName, Rows.laid_loop_example_g00791_impl_errNotApplied)] W := laidMet.tail h
  have h1 : laidMetH Tryz.prog laidF W := by
    rw [MakeChecks.laidMetH_plain _ _ _ (by kernel_rfl)]
    obtain ⟨ps, ⟨g0, t0, cs0, f0, p0, q0, hg0, ht0, hv0, hd0, hq0, e0⟩, hnd, hrows⟩ := h
    subst e0
    exact ⟨_, ⟨g0, t0, cs0, f0, p0, [], hg0, ht0, hv0, hd0, rfl, rfl⟩, List.Nodup.sublist (by simp) hnd, fun b off hm => hrows b off (by
      rw [List.append_nil] at hm
      exact List.mem_append_left _ hm)⟩
  refine ⟨of_laid h1, ?_⟩
  obtain ⟨a, s, hv, _⟩ := laid_sentinel hE gE tE Tryz.underlying111 rowE Tryz.underlying276 Tryz.underlying300 rfl rfl Tryz.underlying9 cellsE cellsStr
  exact ⟨a, hv⟩
theorem sent_of_var {W : World} {a : Addr} (h : W.var? Tryz.prog errName = some #[.iface 276 (.pointer (some a))]) : Sent W a := by
  unfold Sent
  rw [World.var?_cell gE h 0]
  rfl

/-- The door's own heap meets the condition. -/
theorem door_metE (os : Os) (args : Array Value) : laidMetH Tryz.prog laidE ((World.doorLaid Tryz.prog 37 os).forCall (fun _ _ => 0) ⟨#[], args, []⟩).memory :=
  laidMetH_of_parts3 (fuel := 8) (laidMet_of_run' 8 (by kernel_rfl) (by kernel_rfl)) (by kernel_rfl) (by kernel_rfl)

/-- The variables, opened and shut: they read behind the call as they read ahead of it. -/
theorem vars_stayE {H : Type} {enc : TypeId × Value → H} {W : World} {gs : List (DataW H)} {q : List MemPlace} {a : Addr} (hv : W.var? Tryz.prog errName = some #[.iface 276 (.pointer (some a))]) (hV : DataW.TrodVars enc Tryz.prog W (fun _ => true) [errName, fldName] gs q) :
    ∃ d0 d1, gs = [d0, d1] ∧ ∀ W', Below W.heap.size W W' → DataW.TrodVars enc Tryz.prog W' (fun b => decide (b < W.heap.size)) [errName, fldName] [d0, d1] q := by
  cases gs with
  | nil => simp [DataW.TrodVars] at hV
  | cons d0 ds =>
    obtain ⟨g, t, cs, fuel, p, q', h1, h2, h3, h4, hs, e⟩ := hV
    obtain ⟨d1, rfl, hrest⟩ := vars_stay hs
    obtain rfl := Option.some.inj (gE.symm.trans h1)
    obtain rfl := Option.some.inj (tE.symm.trans h2)
    obtain rfl := Option.some.inj (h3.symm.trans hv)
    obtain ⟨-, hy⟩ := held_of_trod Tryz.underlying111 h4
    obtain ⟨rfl, rfl⟩ := Prod.mk.inj hy
    refine ⟨_, d1, rfl, fun W' bel => ?_⟩
    have hlt : 0 < W.heap.size := (sent_of_var hv).pos
    exact ⟨_, _, _, 1, [], q', gE, tE, var_below hv gE bel hlt, trod_held Tryz.underlying111 (show IsIface (.iface 276 (.pointer (some a))) from by first | exact trivial | simp [IsIface]) 0, hrest W' bel, e⟩
end Go.Proofs.YtmaillakhhdkfaaGreatDoor
