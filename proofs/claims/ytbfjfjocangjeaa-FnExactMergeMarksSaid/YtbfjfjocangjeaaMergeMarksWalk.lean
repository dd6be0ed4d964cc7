/-
  The exact law of MergeMarks: the walk.
-/
import Derived.Test.YtbfjfjocangjeaaMgP
import Derived.Test.YtbfjfjocangjeaaMrksRes
namespace Go.Proofs.Ytbfjfjocangjeaa
set_option maxRecDepth 20000
open Go.RowKit
set_option linter.unusedSimpArgs false
set_option linter.unusedVariables false

theorem mergeMk_le (a b : List Mrk) : (mergeMkM a b).2.length ≤ 4 := by
  unfold mergeMkM
  by_cases h1 : 4 < a.length ∨ 4 < b.length ∨ a.length ≠ b.length
  · rw [if_pos h1]; exact Nat.zero_le _
  rw [if_neg h1]
  by_cases h2 : marksFaultM a = 0
  · rw [if_neg (by simp [h2])]
    by_cases h3 : marksFaultM b = 0
    · rw [if_neg (by simp [h3])]
      rw [merge_len a b (by omega)]
      omega
    · rw [if_pos h3]; exact Nat.zero_le _
  · rw [if_pos h2]; exact Nat.zero_le _

theorem hiMergeMarks : ∀ (A0 : Option Addr) (m0 e0 : Nat) (q0 : List Mrk) (A1 : Option Addr) (m1 e1 : Nat) (q1 : List Mrk) (W : World), Rd eMk W W.heap.size A0 q0 → q0.length = m0 → m0 ≤ 1048576 → Rd eMk W W.heap.size A1 q1 → q1.length = m1 → m1 ≤ 1048576 → Calls Try.prog 36 #[.slice A0 m0 e0, .slice A1 m1 e1] W (RetMk (mergeMkM q0 q1) W) :=
  fun A0 m0 e0 q0 A1 m1 e1 q1 W h0 h1 _ h2 h3 _ => implMergeMarks A0 A1 m0 m1 e0 e1 q0 q1 W h0 h2 h1 h3

set_option maxRecDepth 100000 in
set_option maxHeartbeats 4000000 in
theorem fnExactMergeMarks_walk (HI : ∀ (A0 : Option Addr) (m0 e0 : Nat) (q0 : List Mrk) (A1 : Option Addr) (m1 e1 : Nat) (q1 : List Mrk)  (W : World), Rd eMk W W.heap.size A0 q0 → q0.length = m0 → m0 ≤ 1048576 → Rd eMk W W.heap.size A1 q1 → q1.length = m1 → m1 ≤ 1048576 → Calls Try.prog 36 #[.slice A0 m0 e0, .slice A1 m1 e1] W (RetMk (mergeMkM q0 q1) W))
    (X0 : Option Addr) (n0 d0 : Nat) (l0 : List Mrk) (X1 : Option Addr) (n1 d1 : Nat) (l1 : List Mrk)  (w : World) (ha0 : Rd eMkL w w.heap.size X0 l0) (hn0 : l0.length = n0) (hM0 : n0 ≤ maxLen) (ha1 : Rd eMkL w w.heap.size X1 l1) (hn1 : l1.length = n1) (hM1 : n1 ≤ maxLen) :
    Calls Try.prog 15 #[.slice X0 n0 d0, .slice X1 n1 d1] w fun e w' => e = .returned (.bool true) ∧ Below w.heap.size w w' := by
  have Hn0 := Lib.hid hn0
  have Hn1 := Lib.hid hn1
  have Hm := Lib.hid (mergeMk_le l0 l1)
  clear hn0 hn1
  by_cases hbig0 : (1048576 : Int) < (n0 : Int)
  · go_enter Try.func15, Try.ntmps15
    go_wp2_with fail
    refine (szMarkS X0 n0 d0 1048576 _ (by omega) (by omega) hM0).mono ?_
    rintro e w' ⟨rfl, rfl⟩
    rw [if_pos (by omega)]
    go_wp2
    go_ret
    exact ⟨rfl, Below.refl _ _⟩
  have hsm0 : (n0 : Int) ≤ 1048576 := by omega
  have hm0 : n0 ≤ 1048576 := by omega
  have hl0 : ¬ (1048576 : Int) - (n0 : Int) < 0 := by omega
  clear hbig0
  by_cases hbig1 : (((1048576 : Int) - (n0 : Int)) : Int) < (n1 : Int)
  · go_enter Try.func15, Try.ntmps15
    go_wp2_with fail
    refine (szMarkS X0 n0 d0 1048576 _ (by omega) (by omega) hM0).mono ?_
    rintro e w' ⟨rfl, rfl⟩
    rw [if_neg (by omega)]
    go_wp2_with fail
    refine (szMarkS X1 n1 d1 ((1048576 : Int) - (n0 : Int)) _ (by omega) (by omega) hM1).mono ?_
    rintro e w' ⟨rfl, rfl⟩
    rw [if_pos (by omega)]
    go_wp2
    go_ret
    exact ⟨rfl, Below.refl _ _⟩
  have hsm1 : (n1 : Int) ≤ ((1048576 : Int) - (n0 : Int)) := by omega
  have hm1 : n1 ≤ 1048576 := by omega
  have hl1 : ¬ (((1048576 : Int) - (n0 : Int)) : Int) - (n1 : Int) < 0 := by omega
  clear hbig1
  go_enter Try.func15, Try.ntmps15
  go_wp2_with fail
  refine (szMarkS X0 n0 d0 1048576 _ (by omega) (by omega) hM0).mono ?_
  rintro e w' ⟨rfl, rfl⟩
  rw [if_neg (by omega)]
  go_wp2_with fail
  refine (szMarkS X1 n1 d1 ((1048576 : Int) - (n0 : Int)) _ (by omega) (by omega) hM1).mono ?_
  rintro e w' ⟨rfl, rfl⟩
  rw [if_neg (by omega)]
  go_wp2_with fail
  refine (toMarkS X0 n0 d0 l0 _ ha0 Hn0.out hm0).mono ?_
  rintro e w1 ⟨B1, f1, rfl, s0, hb1⟩
  have S1 := Lib.hid hb1.size
  have hB1 := hb1
  have ha0_1 := ha0.lift hB1
  have ha1_1 := ha1.lift hB1
  go_wp2_with fail
  refine (toMarkS X1 n1 d1 l1 _ ha1_1 Hn1.out hm1).mono ?_
  rintro e w2 ⟨B2, f2, rfl, s1, hb2⟩
  have s0_2 := s0.below hb2 (Nat.le_refl _)
  have S2 := Lib.hid hb2.size
  have hB2 := hB1.trans (hb2.mono hB1.size)
  go_wp2_with fail
  refine (specMergeMarks B1 B2 n0 n1 f1 f2 l0 l1 _ (s0_2.rd okMk) (s1.rd okMk) Hn0.out Hn1.out).mono ?_
  rintro e w3 ⟨A3, k3, c3, rfl, ow, hb3⟩
  have s0_3 := s0_2.below hb3 (Nat.le_refl _)
  have s1_3 := s1.below hb3 (Nat.le_refl _)
  have S3 := Lib.hid hb3.size
  have hB3 := hB2.trans (hb3.mono hB2.size)
  have aw := At.new w3 50 #[.int .i64 (mergeMkM l0 l1).1, .slice A3 k3 c3]
  have ow_4 := ow.alloc (.cells #[.int .i64 (mergeMkM l0 l1).1, .slice A3 k3 c3] 50)
  have S4 := Lib.hid (show (w3.alloc (.cells #[.int .i64 (mergeMkM l0 l1).1, .slice A3 k3 c3] 50)).heap.size = w3.heap.size + 1 by simp)
  have hB4 := hB3.alloc hB3.size (.cells #[.int .i64 (mergeMkM l0 l1).1, .slice A3 k3 c3] 50)
  have ha0_4 := ha0.lift hB4
  have ha1_4 := ha1.lift hB4
  go_wp2_with fail
  refine (toMarkS X0 n0 d0 l0 _ ha0_4 Hn0.out hm0).mono ?_
  rintro e w5 ⟨B5, f5, rfl, x0, hb5⟩
  have aw_5 := aw.below hb5 aw.lt
  have ow_5 := ow_4.below hb5 (Nat.le_refl _)
  have S5 := Lib.hid hb5.size
  have hB5 := hB4.trans (hb5.mono hB4.size)
  have ha0_5 := ha0.lift hB5
  have ha1_5 := ha1.lift hB5
  go_wp2_with fail
  refine (toMarkS X1 n1 d1 l1 _ ha1_5 Hn1.out hm1).mono ?_
  rintro e w6 ⟨B6, f6, rfl, x1, hb6⟩
  have aw_6 := aw_5.below hb6 aw_5.lt
  have ow_6 := ow_5.below hb6 (Nat.le_refl _)
  have x0_6 := x0.below hb6 (Nat.le_refl _)
  have S6 := Lib.hid hb6.size
  have hB6 := hB5.trans (hb6.mono hB5.size)
  go_wp2_with fail
  refine (HI B5 n0 f5 l0 B6 n1 f6 l1  _ (x0_6.rd okMk) Hn0.out hm0 (x1.rd okMk) Hn1.out hm1).mono ?_
  rintro e w7 ⟨A7, k7, c7, rfl, og, hb7⟩
  have aw_7 := aw_6.below hb7 aw_6.lt
  have ow_7 := ow_6.below hb7 (Nat.le_refl _)
  have x0_7 := x0_6.below hb7 (Nat.le_refl _)
  have x1_7 := x1.below hb7 (Nat.le_refl _)
  have S7 := Lib.hid hb7.size
  have hB7 := hB6.trans (hb7.mono hB6.size)
  have ag := At.new w7 50 #[.int .i64 (mergeMkM l0 l1).1, .slice A7 k7 c7]
  have aw_8 := aw_7.alloc (.cells #[.int .i64 (mergeMkM l0 l1).1, .slice A7 k7 c7] 50)
  have ow_8 := ow_7.alloc (.cells #[.int .i64 (mergeMkM l0 l1).1, .slice A7 k7 c7] 50)
  have x0_8 := x0_7.alloc (.cells #[.int .i64 (mergeMkM l0 l1).1, .slice A7 k7 c7] 50)
  have x1_8 := x1_7.alloc (.cells #[.int .i64 (mergeMkM l0 l1).1, .slice A7 k7 c7] 50)
  have og_8 := og.alloc (.cells #[.int .i64 (mergeMkM l0 l1).1, .slice A7 k7 c7] 50)
  have S8 := Lib.hid (show (w7.alloc (.cells #[.int .i64 (mergeMkM l0 l1).1, .slice A7 k7 c7] 50)).heap.size = w7.heap.size + 1 by simp)
  have hB8 := hB7.alloc hB7.size (.cells #[.int .i64 (mergeMkM l0 l1).1, .slice A7 k7 c7] 50)
  obtain ⟨aw0_8, aw1_8, _, _⟩ := aw_8.two
  obtain ⟨ag0_8, ag1_8, _, _⟩ := ag.two
  go_wp2_with fail
  refine (eqMarksResult (mergeMkM l0 l1).1 A7 A3 k7 k3 c7 c3 _ _ _ (og_8.rd okMk) (ow_8.rd okMk) (og_8.len okMk) (ow_8.len okMk) og_8.small).mono ?_
  rintro e w9 ⟨rfl, hb9⟩
  have aw_9 := aw_8.below hb9 aw_8.lt
  have ag_9 := ag.below hb9 ag.lt
  have ow_9 := ow_8.below hb9 (Nat.le_refl _)
  have x0_9 := x0_8.below hb9 (Nat.le_refl _)
  have x1_9 := x1_8.below hb9 (Nat.le_refl _)
  have og_9 := og_8.below hb9 (Nat.le_refl _)
  have S9 := Lib.hid hb9.size
  have hB9 := hB8.trans (hb9.mono hB8.size)
  have ha0_9 := ha0.lift hB9
  have ha1_9 := ha1.lift hB9
  go_wp2_with fail
  refine (toMarkS X0 n0 d0 l0 _ ha0_9 Hn0.out hm0).mono ?_
  rintro e w10 ⟨B10, f10, rfl, y0, hb10⟩
  have aw_10 := aw_9.below hb10 aw_9.lt
  have ag_10 := ag_9.below hb10 ag_9.lt
  have ow_10 := ow_9.below hb10 (Nat.le_refl _)
  have x0_10 := x0_9.below hb10 (Nat.le_refl _)
  have x1_10 := x1_9.below hb10 (Nat.le_refl _)
  have og_10 := og_9.below hb10 (Nat.le_refl _)
  have S10 := Lib.hid hb10.size
  have hB10 := hB9.trans (hb10.mono hB9.size)
  go_wp2_with fail
  refine (eqMarkS B5 B10 n0 n0 f5 f10 l0 l0 _ (x0_10.rd okMk) (y0.rd okMk) Hn0.out Hn0.out hM0).mono ?_
  rintro e w11 ⟨rfl, hb11⟩
  have aw_11 := aw_10.below hb11 aw_10.lt
  have ag_11 := ag_10.below hb11 ag_10.lt
  have ow_11 := ow_10.below hb11 (Nat.le_refl _)
  have x0_11 := x0_10.below hb11 (Nat.le_refl _)
  have x1_11 := x1_10.below hb11 (Nat.le_refl _)
  have og_11 := og_10.below hb11 (Nat.le_refl _)
  have y0_11 := y0.below hb11 (Nat.le_refl _)
  have S11 := Lib.hid hb11.size
  have hB11 := hB10.trans (hb11.mono hB10.size)
  have ha0_11 := ha0.lift hB11
  have ha1_11 := ha1.lift hB11
  go_wp2_with fail
  refine (toMarkS X1 n1 d1 l1 _ ha1_11 Hn1.out hm1).mono ?_
  rintro e w12 ⟨B12, f12, rfl, y1, hb12⟩
  have aw_12 := aw_11.below hb12 aw_11.lt
  have ag_12 := ag_11.below hb12 ag_11.lt
  have ow_12 := ow_11.below hb12 (Nat.le_refl _)
  have x0_12 := x0_11.below hb12 (Nat.le_refl _)
  have x1_12 := x1_11.below hb12 (Nat.le_refl _)
  have og_12 := og_11.below hb12 (Nat.le_refl _)
  have S12 := Lib.hid hb12.size
  have hB12 := hB11.trans (hb12.mono hB11.size)
  go_wp2_with fail
  refine (eqMarkS B6 B12 n1 n1 f6 f12 l1 l1 _ (x1_12.rd okMk) (y1.rd okMk) Hn1.out Hn1.out hM1).mono ?_
  rintro e w13 ⟨rfl, hb13⟩
  have aw_13 := aw_12.below hb13 aw_12.lt
  have ag_13 := ag_12.below hb13 ag_12.lt
  have ow_13 := ow_12.below hb13 (Nat.le_refl _)
  have x0_13 := x0_12.below hb13 (Nat.le_refl _)
  have x1_13 := x1_12.below hb13 (Nat.le_refl _)
  have og_13 := og_12.below hb13 (Nat.le_refl _)
  have y1_13 := y1.below hb13 (Nat.le_refl _)
  have S13 := Lib.hid hb13.size
  have hB13 := hB12.trans (hb13.mono hB12.size)
  go_wp2_with fail
  refine (markMarkS1 B5 n0 f5 _ _ _ x0_13 (by omega)).mono ?_
  rintro e w14 ⟨rfl, x0_14, hg14⟩
  have hw14 : Within (w3.alloc (.cells #[.int .i64 (mergeMkM l0 l1).1, .slice A3 k3 c3] 50)).heap.size w5.heap.size w13 w14 := within_of hg14 (fun g hg => x0.lt g hg)
  have aw_14 := aw_13.within hw14 (by have := S1.out; have := S2.out; have := S3.out; have := S4.out; have := S5.out; have := S6.out; have := S7.out; have := S8.out; have := S9.out; have := S10.out; have := S11.out; have := S12.out; have := S13.out; omega)
  have ag_14 := ag_13.within hw14 (by have := S1.out; have := S2.out; have := S3.out; have := S4.out; have := S5.out; have := S6.out; have := S7.out; have := S8.out; have := S9.out; have := S10.out; have := S11.out; have := S12.out; have := S13.out; omega)
  have ow_14 := ow_13.within hw14 ow.lt (by have := S1.out; have := S2.out; have := S3.out; have := S4.out; have := S5.out; have := S6.out; have := S7.out; have := S8.out; have := S9.out; have := S10.out; have := S11.out; have := S12.out; have := S13.out; omega)
  have x1_14 := x1_13.within hw14 x1.lt (by have := S1.out; have := S2.out; have := S3.out; have := S4.out; have := S5.out; have := S6.out; have := S7.out; have := S8.out; have := S9.out; have := S10.out; have := S11.out; have := S12.out; have := S13.out; omega)
  have og_14 := og_13.within hw14 og.lt (by have := S1.out; have := S2.out; have := S3.out; have := S4.out; have := S5.out; have := S6.out; have := S7.out; have := S8.out; have := S9.out; have := S10.out; have := S11.out; have := S12.out; have := S13.out; omega)
  have hB14 := hw14.below hB13 hB13.size (by have := S1.out; have := S2.out; have := S3.out; have := S4.out; have := S5.out; have := S6.out; have := S7.out; have := S8.out; have := S9.out; have := S10.out; have := S11.out; have := S12.out; have := S13.out; omega)
  have S14 := Lib.hid hw14.size
  go_wp2_with fail
  refine (markMarkSK B6 n1 f6 _ _ (1 + 2 * n0) _ _ (by omega) x1_14 (by omega) (by omega)).mono ?_
  rintro e w15 ⟨rfl, x1_15, hg15⟩
  have hw15 : Within w5.heap.size w6.heap.size w14 w15 := within_of hg15 (fun g hg => x1.lt g hg)
  have aw_15 := aw_14.within hw15 (by have := S1.out; have := S2.out; have := S3.out; have := S4.out; have := S5.out; have := S6.out; have := S7.out; have := S8.out; have := S9.out; have := S10.out; have := S11.out; have := S12.out; have := S13.out; have := S14.out; omega)
  have ag_15 := ag_14.within hw15 (by have := S1.out; have := S2.out; have := S3.out; have := S4.out; have := S5.out; have := S6.out; have := S7.out; have := S8.out; have := S9.out; have := S10.out; have := S11.out; have := S12.out; have := S13.out; have := S14.out; omega)
  have ow_15 := ow_14.within hw15 ow.lt (by have := S1.out; have := S2.out; have := S3.out; have := S4.out; have := S5.out; have := S6.out; have := S7.out; have := S8.out; have := S9.out; have := S10.out; have := S11.out; have := S12.out; have := S13.out; have := S14.out; omega)
  have x0_15 := x0_14.within hw15 x0.lt (by have := S1.out; have := S2.out; have := S3.out; have := S4.out; have := S5.out; have := S6.out; have := S7.out; have := S8.out; have := S9.out; have := S10.out; have := S11.out; have := S12.out; have := S13.out; have := S14.out; omega)
  have og_15 := og_14.within hw15 og.lt (by have := S1.out; have := S2.out; have := S3.out; have := S4.out; have := S5.out; have := S6.out; have := S7.out; have := S8.out; have := S9.out; have := S10.out; have := S11.out; have := S12.out; have := S13.out; have := S14.out; omega)
  have hB15 := hw15.below hB14 hB14.size (by have := S1.out; have := S2.out; have := S3.out; have := S4.out; have := S5.out; have := S6.out; have := S7.out; have := S8.out; have := S9.out; have := S10.out; have := S11.out; have := S12.out; have := S13.out; have := S14.out; omega)
  have S15 := Lib.hid hw15.size
  have hk0 : ¬ (1 : Int) + 2 * (n0 : Int) + 2 * (n1 : Int) < 0 := by omega
  obtain ⟨aw0_15, aw1_15, _, _⟩ := aw_15.two
  obtain ⟨ag0_15, ag1_15, _, _⟩ := ag_15.two
  go_wp2_with fail
  refine (eqMarksResult (mergeMkM l0 l1).1 A7 A3 k7 k3 c7 c3 _ _ _ (og_15.rd okMk) (ow_15.rd okMk) (og_15.len okMk) (ow_15.len okMk) og_15.small).mono ?_
  rintro e w16 ⟨rfl, hb16⟩
  have aw_16 := aw_15.below hb16 aw_15.lt
  have ag_16 := ag_15.below hb16 ag_15.lt
  have ow_16 := ow_15.below hb16 (Nat.le_refl _)
  have x0_16 := x0_15.below hb16 (Nat.le_refl _)
  have x1_16 := x1_15.below hb16 (Nat.le_refl _)
  have og_16 := og_15.below hb16 (Nat.le_refl _)
  have S16 := Lib.hid hb16.size
  have hB16 := hB15.trans (hb16.mono hB15.size)
  have hkg : k7 ≤ 4 := by have := Hm.out; have := og.len okMk; have := Hn0.out; have := Hn1.out; omega
  have hk1 : ¬ (1 : Int) + 2 * (k7 : Int) < 0 := by omega
  obtain ⟨aw0_16, aw1_16, _, _⟩ := aw_16.two
  obtain ⟨ag0_16, ag1_16, _, _⟩ := ag_16.two
  go_wp2_with fail
  refine (markMarksResult1 (mergeMkM l0 l1).1 A7 k7 c7 _ _ _ og_16 (by omega)).mono ?_
  rintro e w17 ⟨rfl, og_17, hg17⟩
  have hw17 : Within w6.heap.size w7.heap.size w16 w17 := within_of hg17 (fun g hg => og.lt g hg)
  have aw_17 := aw_16.within hw17 (by have := S1.out; have := S2.out; have := S3.out; have := S4.out; have := S5.out; have := S6.out; have := S7.out; have := S8.out; have := S9.out; have := S10.out; have := S11.out; have := S12.out; have := S13.out; have := S14.out; have := S15.out; have := S16.out; omega)
  have ag_17 := ag_16.within hw17 (by have := S1.out; have := S2.out; have := S3.out; have := S4.out; have := S5.out; have := S6.out; have := S7.out; have := S8.out; have := S9.out; have := S10.out; have := S11.out; have := S12.out; have := S13.out; have := S14.out; have := S15.out; have := S16.out; omega)
  have ow_17 := ow_16.within hw17 ow.lt (by have := S1.out; have := S2.out; have := S3.out; have := S4.out; have := S5.out; have := S6.out; have := S7.out; have := S8.out; have := S9.out; have := S10.out; have := S11.out; have := S12.out; have := S13.out; have := S14.out; have := S15.out; have := S16.out; omega)
  have hB17 := hw17.below hB16 hB16.size (by have := S1.out; have := S2.out; have := S3.out; have := S4.out; have := S5.out; have := S6.out; have := S7.out; have := S8.out; have := S9.out; have := S10.out; have := S11.out; have := S12.out; have := S13.out; have := S14.out; have := S15.out; have := S16.out; omega)
  have S17 := Lib.hid hw17.size
  obtain ⟨aw0_17, aw1_17, _, _⟩ := aw_17.two
  obtain ⟨ag0_17, ag1_17, _, _⟩ := ag_17.two
  go_wp2_with fail
  refine (heldMarksResult1 (mergeMkM l0 l1).1 A7 k7 c7 _ (og_17.rd okMk) (by omega)).mono ?_
  rintro e w18 ⟨rfl, hb18⟩
  have aw_18 := aw_17.below hb18 aw_17.lt
  have ag_18 := ag_17.below hb18 ag_17.lt
  have ow_18 := ow_17.below hb18 (Nat.le_refl _)
  have og_18 := og_17.below hb18 (Nat.le_refl _)
  have S18 := Lib.hid hb18.size
  have hB18 := hB17.trans (hb18.mono hB17.size)
  have ha0_18 := ha0.lift hB18
  have ha1_18 := ha1.lift hB18
  go_wp2_with fail
  refine (toMarkS X0 n0 d0 l0 _ ha0_18 Hn0.out hm0).mono ?_
  rintro e w19 ⟨B19, f19, rfl, z0, hb19⟩
  have aw_19 := aw_18.below hb19 aw_18.lt
  have ag_19 := ag_18.below hb19 ag_18.lt
  have ow_19 := ow_18.below hb19 (Nat.le_refl _)
  have og_19 := og_18.below hb19 (Nat.le_refl _)
  have S19 := Lib.hid hb19.size
  have hB19 := hB18.trans (hb19.mono hB18.size)
  have ha0_19 := ha0.lift hB19
  have ha1_19 := ha1.lift hB19
  go_wp2_with fail
  refine (toMarkS X1 n1 d1 l1 _ ha1_19 Hn1.out hm1).mono ?_
  rintro e w20 ⟨B20, f20, rfl, z1, hb20⟩
  have aw_20 := aw_19.below hb20 aw_19.lt
  have ag_20 := ag_19.below hb20 ag_19.lt
  have ow_20 := ow_19.below hb20 (Nat.le_refl _)
  have og_20 := og_19.below hb20 (Nat.le_refl _)
  have z0_20 := z0.below hb20 (Nat.le_refl _)
  have S20 := Lib.hid hb20.size
  have hB20 := hB19.trans (hb20.mono hB19.size)
  go_wp2_with fail
  refine (HI B19 n0 f19 l0 B20 n1 f20 l1  _ (z0_20.rd okMk) Hn0.out hm0 (z1.rd okMk) Hn1.out hm1).mono ?_
  rintro e w21 ⟨A21, k21, c21, rfl, oh, hb21⟩
  have aw_21 := aw_20.below hb21 aw_20.lt
  have ag_21 := ag_20.below hb21 ag_20.lt
  have ow_21 := ow_20.below hb21 (Nat.le_refl _)
  have og_21 := og_20.below hb21 (Nat.le_refl _)
  have z0_21 := z0_20.below hb21 (Nat.le_refl _)
  have z1_21 := z1.below hb21 (Nat.le_refl _)
  have S21 := Lib.hid hb21.size
  have hB21 := hB20.trans (hb21.mono hB20.size)
  have ah := At.new w21 50 #[.int .i64 (mergeMkM l0 l1).1, .slice A21 k21 c21]
  have aw_22 := aw_21.alloc (.cells #[.int .i64 (mergeMkM l0 l1).1, .slice A21 k21 c21] 50)
  have ag_22 := ag_21.alloc (.cells #[.int .i64 (mergeMkM l0 l1).1, .slice A21 k21 c21] 50)
  have ow_22 := ow_21.alloc (.cells #[.int .i64 (mergeMkM l0 l1).1, .slice A21 k21 c21] 50)
  have og_22 := og_21.alloc (.cells #[.int .i64 (mergeMkM l0 l1).1, .slice A21 k21 c21] 50)
  have oh_22 := oh.alloc (.cells #[.int .i64 (mergeMkM l0 l1).1, .slice A21 k21 c21] 50)
  have S22 := Lib.hid (show (w21.alloc (.cells #[.int .i64 (mergeMkM l0 l1).1, .slice A21 k21 c21] 50)).heap.size = w21.heap.size + 1 by simp)
  have hB22 := hB21.alloc hB21.size (.cells #[.int .i64 (mergeMkM l0 l1).1, .slice A21 k21 c21] 50)
  obtain ⟨aw0_22, aw1_22, _, _⟩ := aw_22.two
  obtain ⟨ag0_22, ag1_22, _, _⟩ := ag_22.two
  obtain ⟨ah0_22, ah1_22, _, _⟩ := ah.two
  go_wp2_with fail
  refine (eqMarksResult (mergeMkM l0 l1).1 A21 A3 k21 k3 c21 c3 _ _ _ (oh_22.rd okMk) (ow_22.rd okMk) (oh_22.len okMk) (ow_22.len okMk) oh_22.small).mono ?_
  rintro e w23 ⟨rfl, hb23⟩
  have aw_23 := aw_22.below hb23 aw_22.lt
  have ag_23 := ag_22.below hb23 ag_22.lt
  have ah_23 := ah.below hb23 ah.lt
  have ow_23 := ow_22.below hb23 (Nat.le_refl _)
  have og_23 := og_22.below hb23 (Nat.le_refl _)
  have oh_23 := oh_22.below hb23 (Nat.le_refl _)
  have S23 := Lib.hid hb23.size
  have hB23 := hB22.trans (hb23.mono hB22.size)
  obtain ⟨ag0_23, ag1_23, _, _⟩ := ag_23.two
  go_wp2_with fail
  refine (heldMarksResult1 (mergeMkM l0 l1).1 A7 k7 c7 _ (og_23.rd okMk) (by omega)).mono ?_
  rintro e w24 ⟨rfl, hb24⟩
  have ag_24 := ag_23.below hb24 ag_23.lt
  have og_24 := og_23.below hb24 (Nat.le_refl _)
  have S24 := Lib.hid hb24.size
  have hB24 := hB23.trans (hb24.mono hB23.size)
  go_wp2_with fail
  go_ret
  exact ⟨by simp, hB24⟩
end Go.Proofs.Ytbfjfjocangjeaa
