/-
  The law of stage 1: the walk.
-/
import Derived.Test.YtkdfbaiolgndeaaDrawRead
import Derived.Test.YtkdfbaiolgndeaaLwAt
import Derived.Test.YtkdfbaiolgndeaaLawBits
import Derived.Test.YtkdfbaiolgndeaaMix
import Derived.Test.YtkdfbaiolgndeaaSame
namespace Go.Proofs.Ytkdfbaiolgndeaa
open Go.RowKit

theorem lwBig_no (A : Option Addr) (n c : Nat) (w : World) (h : ¬ 1048576 < n) :
    Calls Try.prog 10 #[.slice A n c] w fun e w' => e = .returned (.bool false) ∧ w = w' := by
  have hd : decide ((1048576 : Int) < (n : Int)) = false := decide_eq_false (by omega)
  go_enter Try.func10, Try.ntmps10
  go_wp2
  go_ret
  exact ⟨rfl, rfl⟩

set_option maxRecDepth 100000 in
set_option maxHeartbeats 4000000 in
theorem fnFrames_walk (X : Option Addr) (n c : Nat) (l : List UInt8) (w : World) (ha : Rd eB w w.heap.size X l) (hn : l.length = n) :
    Calls Try.prog 3 #[.slice X n c] w fun e w' => e = .returned (.bool true) ∧ Below w.heap.size w w' := by
  have Hn := Lib.hid hn
  clear hn
  by_cases hbig : 1048576 < n
  · go_enter Try.func3, Try.ntmps3
    go_wp2
    go_ret
    exact ⟨rfl, Below.refl _ _⟩
  have hm : n ≤ 1048576 := by omega
  go_enter Try.func3, Try.ntmps3
  go_wp2_with fail
  refine (lwBig_no X n c w hbig).mono ?_
  rintro e w0 ⟨rfl, rfl⟩
  clear hbig
  go_wp2_with fail
  refine (drawReadFrames X n c l _ ha Hn.out hm).mono ?_
  rintro e w1 ⟨Ad, nd, cd, dd, rfl, hdl, hdc, hdm, hdn, rd, hb1⟩
  have S1 := Lib.hid hb1.size
  have hB1 := hb1
  have ha_1 := ha.lift hb1
  clear S1 hb1 ha
  go_wp2_with fail
  refine (implReadFrames Ad nd cd dd _ rd hdl hdc).mono ?_
  rintro e w2 ⟨Af, kf, cf, pf, rfl, of, qf, hb2⟩
  have S2 := Lib.hid hb2.size
  have hB2 := hB1.trans (hb2.mono hB1.size)
  have ha_2 := ha_1.lift hb2
  have rd_2 := rd.lift hb2
  clear S2 hb2 hB1 rd ha_1
  have hkf := Ow.len okBB of.1
  have af := At.new w2 27 #[.int .i64 (framesM dd).1, .slice Af kf cf, .int .i64 (framesM dd).2.2]
  have of_3 := of.alloc (.cells #[.int .i64 (framesM dd).1, .slice Af kf cf, .int .i64 (framesM dd).2.2] 27)
  have S3 := Lib.hid (show (w2.alloc (.cells #[.int .i64 (framesM dd).1, .slice Af kf cf, .int .i64 (framesM dd).2.2] 27)).heap.size = w2.heap.size + 1 by simp)
  have hB3 := hB2.alloc hB2.size (.cells #[.int .i64 (framesM dd).1, .slice Af kf cf, .int .i64 (framesM dd).2.2] 27)
  have ha_3 := ha_2.lift ((Below.refl w2.heap.size w2).alloc (Nat.le_refl _) (.cells #[.int .i64 (framesM dd).1, .slice Af kf cf, .int .i64 (framesM dd).2.2] 27))
  have rd_3 := rd_2.lift ((Below.refl w2.heap.size w2).alloc (Nat.le_refl _) (.cells #[.int .i64 (framesM dd).1, .slice Af kf cf, .int .i64 (framesM dd).2.2] 27))
  clear S3 hB2 rd_2 ha_2 of
  go_wp2_with fail
  refine (specReadFrames Ad nd cd dd _ rd_3 hdl hdc hdm).mono ?_
  rintro e w4 ⟨Aw, kw, cw, pw, rfl, ow, qw, hb4⟩
  have af_4 := af.below hb4 af.lt
  have of_4 := of_3.below hb4 (Nat.le_refl _)
  have S4 := Lib.hid hb4.size
  have hB4 := hB3.trans (hb4.mono hB3.size)
  have ha_4 := ha_3.lift hb4
  have rd_4 := rd_3.lift hb4
  clear S4 hb4 hB3 rd_3 ha_3 of_3 af
  obtain rfl : kw = kf := by have h1 := Ow.len okBB ow.1; have h2 := congrArg List.length qw; have h3 := congrArg List.length qf; rw [List.length_map] at h2 h3; omega
  clear ow qw pw
  have aw := At.new w4 27 #[.int .i64 (framesM dd).1, .slice Aw kw cw, .int .i64 (framesM dd).2.2]
  have af_5 := af_4.alloc (.cells #[.int .i64 (framesM dd).1, .slice Aw kw cw, .int .i64 (framesM dd).2.2] 27)
  have of_5 := of_4.alloc (.cells #[.int .i64 (framesM dd).1, .slice Aw kw cw, .int .i64 (framesM dd).2.2] 27)
  have S5 := Lib.hid (show (w4.alloc (.cells #[.int .i64 (framesM dd).1, .slice Aw kw cw, .int .i64 (framesM dd).2.2] 27)).heap.size = w4.heap.size + 1 by simp)
  have hB5 := hB4.alloc hB4.size (.cells #[.int .i64 (framesM dd).1, .slice Aw kw cw, .int .i64 (framesM dd).2.2] 27)
  have ha_5 := ha_4.lift ((Below.refl w4.heap.size w4).alloc (Nat.le_refl _) (.cells #[.int .i64 (framesM dd).1, .slice Aw kw cw, .int .i64 (framesM dd).2.2] 27))
  have rd_5 := rd_4.lift ((Below.refl w4.heap.size w4).alloc (Nat.le_refl _) (.cells #[.int .i64 (framesM dd).1, .slice Aw kw cw, .int .i64 (framesM dd).2.2] 27))
  clear S5 hB4 rd_4 ha_4 of_4 af_4
  go_wp2_with fail
  refine (drawPackFrame X n c l _ ha_5 Hn.out hm).mono ?_
  rintro e w6 ⟨Ab, kb, cb, bd, rfl, hkb, ob, hb6⟩
  have af_6 := af_5.below hb6 af_5.lt
  have aw_6 := aw.below hb6 aw.lt
  have of_6 := of_5.below hb6 (Nat.le_refl _)
  have S6 := Lib.hid hb6.size
  have hB6 := hB5.trans (hb6.mono hB5.size)
  have ha_6 := ha_5.lift hb6
  have rd_6 := rd_5.lift hb6
  clear S6 hb6 hB5 rd_5 ha_5 of_5 aw af_5
  have hlb := ob.len okB
  go_wp2_with fail
  refine (implPackFrame Ab kb cb bd _ (ob.rd okB) hlb).mono ?_
  rintro e w7 ⟨Ap, kp, cp, rfl, op, hb7⟩
  have af_7 := af_6.below hb7 af_6.lt
  have aw_7 := aw_6.below hb7 aw_6.lt
  have of_7 := of_6.below hb7 (Nat.le_refl _)
  have ob_7 := ob.below hb7 (Nat.le_refl _)
  have S7 := Lib.hid hb7.size
  have hB7 := hB6.trans (hb7.mono hB6.size)
  have ha_7 := ha_6.lift hb7
  have rd_7 := rd_6.lift hb7
  clear S7 hb7 hB6 rd_6 ha_6 ob of_6 aw_6 af_6
  have ap := At.new w7 30 #[.int .i64 (packFrameM bd).1, .slice Ap kp cp]
  have af_8 := af_7.alloc (.cells #[.int .i64 (packFrameM bd).1, .slice Ap kp cp] 30)
  have aw_8 := aw_7.alloc (.cells #[.int .i64 (packFrameM bd).1, .slice Ap kp cp] 30)
  have of_8 := of_7.alloc (.cells #[.int .i64 (packFrameM bd).1, .slice Ap kp cp] 30)
  have ob_8 := ob_7.alloc (.cells #[.int .i64 (packFrameM bd).1, .slice Ap kp cp] 30)
  have op_8 := op.alloc (.cells #[.int .i64 (packFrameM bd).1, .slice Ap kp cp] 30)
  have S8 := Lib.hid (show (w7.alloc (.cells #[.int .i64 (packFrameM bd).1, .slice Ap kp cp] 30)).heap.size = w7.heap.size + 1 by simp)
  have hB8 := hB7.alloc hB7.size (.cells #[.int .i64 (packFrameM bd).1, .slice Ap kp cp] 30)
  have ha_8 := ha_7.lift ((Below.refl w7.heap.size w7).alloc (Nat.le_refl _) (.cells #[.int .i64 (packFrameM bd).1, .slice Ap kp cp] 30))
  have rd_8 := rd_7.lift ((Below.refl w7.heap.size w7).alloc (Nat.le_refl _) (.cells #[.int .i64 (packFrameM bd).1, .slice Ap kp cp] 30))
  clear S8 hB7 rd_7 ha_7 op ob_7 of_7 aw_7 af_7
  go_wp2_with fail
  refine (drawPackWord X n c l _ ha_8 Hn.out hm).mono ?_
  rintro e w9 ⟨an, sz, rfl, hle, hb9⟩
  have af_9 := af_8.below hb9 af_8.lt
  have aw_9 := aw_8.below hb9 aw_8.lt
  have ap_9 := ap.below hb9 ap.lt
  have of_9 := of_8.below hb9 (Nat.le_refl _)
  have ob_9 := ob_8.below hb9 (Nat.le_refl _)
  have op_9 := op_8.below hb9 (Nat.le_refl _)
  have S9 := Lib.hid hb9.size
  have hB9 := hB8.trans (hb9.mono hB8.size)
  have ha_9 := ha_8.lift hb9
  have rd_9 := rd_8.lift hb9
  clear S9 hb9 hB8 rd_8 ha_8 op_8 ob_8 of_8 ap aw_8 af_8
  go_wp2_with fail
  refine (implPackWord an sz _).mono ?_
  rintro e w10 ⟨Aq, kq, cq, rfl, oq, hb10⟩
  have af_10 := af_9.below hb10 af_9.lt
  have aw_10 := aw_9.below hb10 aw_9.lt
  have ap_10 := ap_9.below hb10 ap_9.lt
  have of_10 := of_9.below hb10 (Nat.le_refl _)
  have ob_10 := ob_9.below hb10 (Nat.le_refl _)
  have op_10 := op_9.below hb10 (Nat.le_refl _)
  have S10 := Lib.hid hb10.size
  have hB10 := hB9.trans (hb10.mono hB9.size)
  have ha_10 := ha_9.lift hb10
  have rd_10 := rd_9.lift hb10
  clear S10 hb10 hB9 rd_9 ha_9 op_9 ob_9 of_9 ap_9 aw_9 af_9
  have aq := At.new w10 30 #[.int .i64 (packM an sz).1, .slice Aq kq cq]
  have af_11 := af_10.alloc (.cells #[.int .i64 (packM an sz).1, .slice Aq kq cq] 30)
  have aw_11 := aw_10.alloc (.cells #[.int .i64 (packM an sz).1, .slice Aq kq cq] 30)
  have ap_11 := ap_10.alloc (.cells #[.int .i64 (packM an sz).1, .slice Aq kq cq] 30)
  have of_11 := of_10.alloc (.cells #[.int .i64 (packM an sz).1, .slice Aq kq cq] 30)
  have ob_11 := ob_10.alloc (.cells #[.int .i64 (packM an sz).1, .slice Aq kq cq] 30)
  have op_11 := op_10.alloc (.cells #[.int .i64 (packM an sz).1, .slice Aq kq cq] 30)
  have oq_11 := oq.alloc (.cells #[.int .i64 (packM an sz).1, .slice Aq kq cq] 30)
  have S11 := Lib.hid (show (w10.alloc (.cells #[.int .i64 (packM an sz).1, .slice Aq kq cq] 30)).heap.size = w10.heap.size + 1 by simp)
  have hB11 := hB10.alloc hB10.size (.cells #[.int .i64 (packM an sz).1, .slice Aq kq cq] 30)
  have ha_11 := ha_10.lift ((Below.refl w10.heap.size w10).alloc (Nat.le_refl _) (.cells #[.int .i64 (packM an sz).1, .slice Aq kq cq] 30))
  have rd_11 := rd_10.lift ((Below.refl w10.heap.size w10).alloc (Nat.le_refl _) (.cells #[.int .i64 (packM an sz).1, .slice Aq kq cq] 30))
  clear S11 hB10 rd_10 ha_10 oq op_10 ob_10 of_10 ap_10 aw_10 af_10
  go_wp2_with fail
  refine (drawReadWord X n c l _ ha_11 Hn.out hm).mono ?_
  rintro e w12 ⟨Ar, kr, cr, xr, ra, rs, rfl, hkr, or, hb12⟩
  have af_12 := af_11.below hb12 af_11.lt
  have aw_12 := aw_11.below hb12 aw_11.lt
  have ap_12 := ap_11.below hb12 ap_11.lt
  have aq_12 := aq.below hb12 aq.lt
  have of_12 := of_11.below hb12 (Nat.le_refl _)
  have ob_12 := ob_11.below hb12 (Nat.le_refl _)
  have op_12 := op_11.below hb12 (Nat.le_refl _)
  have oq_12 := oq_11.below hb12 (Nat.le_refl _)
  have S12 := Lib.hid hb12.size
  have hB12 := hB11.trans (hb12.mono hB11.size)
  have ha_12 := ha_11.lift hb12
  have rd_12 := rd_11.lift hb12
  clear S12 hb12 hB11 rd_11 ha_11 oq_11 op_11 ob_11 of_11 aq ap_11 aw_11 af_11
  go_wp2_with fail
  refine (drawSameBytes X n c l _ ha_12 Hn.out hm).mono ?_
  rintro e w13 ⟨Ax, Ay, ks, cx, cy, xs, ys, rfl, hks, ox, hoy, hb13⟩
  have af_13 := af_12.below hb13 af_12.lt
  have aw_13 := aw_12.below hb13 aw_12.lt
  have ap_13 := ap_12.below hb13 ap_12.lt
  have aq_13 := aq_12.below hb13 aq_12.lt
  have of_13 := of_12.below hb13 (Nat.le_refl _)
  have ob_13 := ob_12.below hb13 (Nat.le_refl _)
  have op_13 := op_12.below hb13 (Nat.le_refl _)
  have oq_13 := oq_12.below hb13 (Nat.le_refl _)
  have or_13 := or.below hb13 (Nat.le_refl _)
  have S13 := Lib.hid hb13.size
  have hB13 := hB12.trans (hb13.mono hB12.size)
  have ha_13 := ha_12.lift hb13
  have rd_13 := rd_12.lift hb13
  clear S13 hb13 hB12 rd_12 ha_12 or oq_12 op_12 ob_12 of_12 aq_12 ap_12 aw_12 af_12
  have oy := hoy
  go_wp2_with fail
  refine (drawSumOf X n c l _ ha_13 Hn.out hm).mono ?_
  rintro e w14 ⟨Au, ku, cu, xu, rfl, hku, ou, hb14⟩
  have af_14 := af_13.below hb14 af_13.lt
  have aw_14 := aw_13.below hb14 aw_13.lt
  have ap_14 := ap_13.below hb14 ap_13.lt
  have aq_14 := aq_13.below hb14 aq_13.lt
  have of_14 := of_13.below hb14 (Nat.le_refl _)
  have ob_14 := ob_13.below hb14 (Nat.le_refl _)
  have op_14 := op_13.below hb14 (Nat.le_refl _)
  have oq_14 := oq_13.below hb14 (Nat.le_refl _)
  have or_14 := or_13.below hb14 (Nat.le_refl _)
  have ox_14 := ox.below hb14 (Nat.le_refl _)
  have oy_14 := oy.below hb14 (Nat.le_refl _)
  have S14 := Lib.hid hb14.size
  have hB14 := hB13.trans (hb14.mono hB13.size)
  have ha_14 := ha_13.lift hb14
  have rd_14 := rd_13.lift hb14
  clear S14 hb14 hB13 rd_13 ha_13 oy ox or_13 oq_13 op_13 ob_13 of_13 aq_13 ap_13 aw_13 af_13
  obtain ⟨gaf, hgaf⟩ : ∃ g, g = w2.heap.size := ⟨_, rfl⟩
  rw [← hgaf] at af_14
  obtain ⟨gaw, hgaw⟩ : ∃ g, g = w4.heap.size := ⟨_, rfl⟩
  rw [← hgaw] at aw_14
  obtain ⟨gap, hgap⟩ : ∃ g, g = w7.heap.size := ⟨_, rfl⟩
  rw [← hgap] at ap_14
  obtain ⟨gaq, hgaq⟩ : ∃ g, g = w10.heap.size := ⟨_, rfl⟩
  rw [← hgaq] at aq_14
  go_wp2_with fail
  simp only [← hgaf, ← hgaw, ← hgap, ← hgaq]
  clear hgaf hgaw hgap hgaq
  have hb15 : Below w14.heap.size w14 w14.drew := (Below.refl _ _).drew
  have af_15 := af_14.below hb15 af_14.lt
  have aw_15 := aw_14.below hb15 aw_14.lt
  have ap_15 := ap_14.below hb15 ap_14.lt
  have aq_15 := aq_14.below hb15 aq_14.lt
  have of_15 := of_14.below hb15 (Nat.le_refl _)
  have ob_15 := ob_14.below hb15 (Nat.le_refl _)
  have op_15 := op_14.below hb15 (Nat.le_refl _)
  have oq_15 := oq_14.below hb15 (Nat.le_refl _)
  have or_15 := or_14.below hb15 (Nat.le_refl _)
  have ox_15 := ox_14.below hb15 (Nat.le_refl _)
  have oy_15 := oy_14.below hb15 (Nat.le_refl _)
  have ou_15 := ou.below hb15 (Nat.le_refl _)
  have ha_15 := ha_14.lift hb15
  have rd_15 := rd_14.lift hb15
  have hB15 := hB14.trans (hb15.mono hB14.size)
  clear hb15 hB14 rd_14 ha_14 ou oy_14 ox_14 or_14 oq_14 op_14 ob_14 of_14 aq_14 ap_14 aw_14 af_14
  have F0 := fldB0
  have F1 := neqI
  have F2 := fldB1
  have F3 := fldF1
  (try simp only [List.append_eq, List.cons_append, List.nil_append])
  refine wp_region_mix [(0, false), (1, false), (2, false), (3, false), (4, false), (5, false), (6, false), (7, false), (8, false), (9, false), (10, false), (11, false), (12, false), (13, false), (14, false), (15, false), (16, false), (17, false), (18, false), (19, false), (20, false), (21, false), (22, false), (23, false), (24, false), (25, true), (26, false), (27, false), (28, false), (29, false), (30, false), (31, false), (32, false), (33, false), (34, true), (35, false), (36, false), (37, false), (38, false), (39, false), (40, false), (41, false), (43, false), (44, false), (45, false), (42, true), (46, true), (47, false), (48, false), (49, false), (50, false), (51, false), (53, false), (54, false), (52, true), (55, true), (56, false), (57, false), (58, false), (59, false), (61, false), (60, true), (62, true), (63, false), (64, false)] (fun u => At u gaf 27 #[.int .i64 (framesM dd).1, .slice Af kw cf, .int .i64 (framesM dd).2.2] ∧ At u gaw 27 #[.int .i64 (framesM dd).1, .slice Aw kw cw, .int .i64 (framesM dd).2.2] ∧ At u gap 30 #[.int .i64 (packFrameM bd).1, .slice Ap kp cp] ∧ At u gaq 30 #[.int .i64 (packM an sz).1, .slice Aq kq cq]) (by kernel_rfl) (by kernel_rfl) (fun _ _ _ _ _ h => h) ⟨af_15, aw_15, ap_15, aq_15⟩ ?_
  simp only [mixOps, List.map_cons, List.map_nil, List.getElem?_cons_succ, List.getElem?_cons_zero, Option.getD_some]
  repeat (first
    | (refine mix_skip (by rfl) ?_
       (try simp only [Act.put, List.setIfInBounds_toArray, List.set_cons_zero, List.set_cons_succ]))
    | (refine mix_pure (v := ?_) (by rfl) (fun u hu => ?_) ?_
       rotate_left
       · obtain ⟨x1, x2, x3, x4⟩ := hu
         obtain ⟨y0, y1, y2, -, -, -⟩ := x1.three
         obtain ⟨z0, z1, z2, -, -, -⟩ := x2.three
         obtain ⟨p0, p1, -, -⟩ := x3.two
         obtain ⟨q0, q1, -, -⟩ := x4.two
         go_simp
         (with_reducible rfl)
       (try simp only [Act.put, List.setIfInBounds_toArray, List.set_cons_zero, List.set_cons_succ])))
  refine mix_call (by rfl) (fun K hK => ?_)
  go_simp
  refine (specPackFrame Ab kb cb bd _ (ob_15.rd okB) hlb).mono ?_
  rintro e w16 ⟨A16, k16, c16, rfl, -, hb16⟩
  have af_16 := af_15.below hb16 af_15.lt
  have aw_16 := aw_15.below hb16 aw_15.lt
  have ap_16 := ap_15.below hb16 ap_15.lt
  have aq_16 := aq_15.below hb16 aq_15.lt
  have of_16 := of_15.below hb16 (Nat.le_refl _)
  have ob_16 := ob_15.below hb16 (Nat.le_refl _)
  have op_16 := op_15.below hb16 (Nat.le_refl _)
  have oq_16 := oq_15.below hb16 (Nat.le_refl _)
  have or_16 := or_15.below hb16 (Nat.le_refl _)
  have ox_16 := ox_15.below hb16 (Nat.le_refl _)
  have oy_16 := oy_15.below hb16 (Nat.le_refl _)
  have ou_16 := ou_15.below hb16 (Nat.le_refl _)
  have ha_16 := ha_15.lift hb16
  have rd_16 := rd_15.lift hb16
  have hB16 := hB15.trans (hb16.mono hB15.size)
  clear hb16 hB15 rd_15 ha_15 ou_15 oy_15 ox_15 or_15 oq_15 op_15 ob_15 of_15 aq_15 ap_15 aw_15 af_15
  refine hK _ _ (fun u => At u gaf 27 #[.int .i64 (framesM dd).1, .slice Af kw cf, .int .i64 (framesM dd).2.2] ∧ At u gaw 27 #[.int .i64 (framesM dd).1, .slice Aw kw cw, .int .i64 (framesM dd).2.2] ∧ At u gap 30 #[.int .i64 (packFrameM bd).1, .slice Ap kp cp] ∧ At u gaq 30 #[.int .i64 (packM an sz).1, .slice Aq kq cq]) (fun _ h => h) ⟨af_16, aw_16, ap_16, aq_16⟩ ?_
  clear hK K
  (try simp only [Act.put, List.setIfInBounds_toArray, List.set_cons_zero, List.set_cons_succ])
  repeat (first
    | (refine mix_skip (by rfl) ?_
       (try simp only [Act.put, List.setIfInBounds_toArray, List.set_cons_zero, List.set_cons_succ]))
    | (refine mix_pure (v := ?_) (by rfl) (fun u hu => ?_) ?_
       rotate_left
       · obtain ⟨x1, x2, x3, x4⟩ := hu
         obtain ⟨y0, y1, y2, -, -, -⟩ := x1.three
         obtain ⟨z0, z1, z2, -, -, -⟩ := x2.three
         obtain ⟨p0, p1, -, -⟩ := x3.two
         obtain ⟨q0, q1, -, -⟩ := x4.two
         go_simp
         (with_reducible rfl)
       (try simp only [Act.put, List.setIfInBounds_toArray, List.set_cons_zero, List.set_cons_succ])))
  refine mix_call (by rfl) (fun K hK => ?_)
  go_simp
  refine (specPackWord an sz _ hle).mono ?_
  rintro e w17 ⟨A17, k17, c17, rfl, -, hb17⟩
  have af_17 := af_16.below hb17 af_16.lt
  have aw_17 := aw_16.below hb17 aw_16.lt
  have ap_17 := ap_16.below hb17 ap_16.lt
  have aq_17 := aq_16.below hb17 aq_16.lt
  have of_17 := of_16.below hb17 (Nat.le_refl _)
  have ob_17 := ob_16.below hb17 (Nat.le_refl _)
  have op_17 := op_16.below hb17 (Nat.le_refl _)
  have oq_17 := oq_16.below hb17 (Nat.le_refl _)
  have or_17 := or_16.below hb17 (Nat.le_refl _)
  have ox_17 := ox_16.below hb17 (Nat.le_refl _)
  have oy_17 := oy_16.below hb17 (Nat.le_refl _)
  have ou_17 := ou_16.below hb17 (Nat.le_refl _)
  have ha_17 := ha_16.lift hb17
  have rd_17 := rd_16.lift hb17
  have hB17 := hB16.trans (hb17.mono hB16.size)
  clear hb17 hB16 rd_16 ha_16 ou_16 oy_16 ox_16 or_16 oq_16 op_16 ob_16 of_16 aq_16 ap_16 aw_16 af_16
  refine hK _ _ (fun u => At u gaf 27 #[.int .i64 (framesM dd).1, .slice Af kw cf, .int .i64 (framesM dd).2.2] ∧ At u gaw 27 #[.int .i64 (framesM dd).1, .slice Aw kw cw, .int .i64 (framesM dd).2.2] ∧ At u gap 30 #[.int .i64 (packFrameM bd).1, .slice Ap kp cp] ∧ At u gaq 30 #[.int .i64 (packM an sz).1, .slice Aq kq cq]) (fun _ h => h) ⟨af_17, aw_17, ap_17, aq_17⟩ ?_
  clear hK K
  (try simp only [Act.put, List.setIfInBounds_toArray, List.set_cons_zero, List.set_cons_succ])
  repeat (first
    | (refine mix_skip (by rfl) ?_
       (try simp only [Act.put, List.setIfInBounds_toArray, List.set_cons_zero, List.set_cons_succ]))
    | (refine mix_pure (v := ?_) (by rfl) (fun u hu => ?_) ?_
       rotate_left
       · obtain ⟨x1, x2, x3, x4⟩ := hu
         obtain ⟨y0, y1, y2, -, -, -⟩ := x1.three
         obtain ⟨z0, z1, z2, -, -, -⟩ := x2.three
         obtain ⟨p0, p1, -, -⟩ := x3.two
         obtain ⟨q0, q1, -, -⟩ := x4.two
         go_simp
         (with_reducible rfl)
       (try simp only [Act.put, List.setIfInBounds_toArray, List.set_cons_zero, List.set_cons_succ])))
  refine mix_call (by rfl) (fun K hK => ?_)
  go_simp
  refine (implReadWord Ar kr cr xr ra rs _ (or_17.rd okB) (or_17.len okB) or_17.small).mono ?_
  rintro e w18 ⟨rfl, hb18⟩
  have af_18 := af_17.below hb18 af_17.lt
  have aw_18 := aw_17.below hb18 aw_17.lt
  have ap_18 := ap_17.below hb18 ap_17.lt
  have aq_18 := aq_17.below hb18 aq_17.lt
  have of_18 := of_17.below hb18 (Nat.le_refl _)
  have ob_18 := ob_17.below hb18 (Nat.le_refl _)
  have op_18 := op_17.below hb18 (Nat.le_refl _)
  have oq_18 := oq_17.below hb18 (Nat.le_refl _)
  have or_18 := or_17.below hb18 (Nat.le_refl _)
  have ox_18 := ox_17.below hb18 (Nat.le_refl _)
  have oy_18 := oy_17.below hb18 (Nat.le_refl _)
  have ou_18 := ou_17.below hb18 (Nat.le_refl _)
  have ha_18 := ha_17.lift hb18
  have rd_18 := rd_17.lift hb18
  have hB18 := hB17.trans (hb18.mono hB17.size)
  clear hb18 hB17 rd_17 ha_17 ou_17 oy_17 ox_17 or_17 oq_17 op_17 ob_17 of_17 aq_17 ap_17 aw_17 af_17
  refine hK _ _ (fun u => At u gaf 27 #[.int .i64 (framesM dd).1, .slice Af kw cf, .int .i64 (framesM dd).2.2] ∧ At u gaw 27 #[.int .i64 (framesM dd).1, .slice Aw kw cw, .int .i64 (framesM dd).2.2] ∧ At u gap 30 #[.int .i64 (packFrameM bd).1, .slice Ap kp cp] ∧ At u gaq 30 #[.int .i64 (packM an sz).1, .slice Aq kq cq]) (fun _ h => h) ⟨af_18, aw_18, ap_18, aq_18⟩ ?_
  clear hK K
  (try simp only [Act.put, List.setIfInBounds_toArray, List.set_cons_zero, List.set_cons_succ])
  repeat (first
    | (refine mix_skip (by rfl) ?_
       (try simp only [Act.put, List.setIfInBounds_toArray, List.set_cons_zero, List.set_cons_succ]))
    | (refine mix_pure (v := ?_) (by rfl) (fun u hu => ?_) ?_
       rotate_left
       · obtain ⟨x1, x2, x3, x4⟩ := hu
         obtain ⟨y0, y1, y2, -, -, -⟩ := x1.three
         obtain ⟨z0, z1, z2, -, -, -⟩ := x2.three
         obtain ⟨p0, p1, -, -⟩ := x3.two
         obtain ⟨q0, q1, -, -⟩ := x4.two
         go_simp
         (with_reducible rfl)
       (try simp only [Act.put, List.setIfInBounds_toArray, List.set_cons_zero, List.set_cons_succ])))
  refine mix_call (by rfl) (fun K hK => ?_)
  go_simp
  refine (specReadWord Ar kr cr xr ra rs _ (or_18.rd okB) (or_18.len okB) or_18.small).mono ?_
  rintro e w19 ⟨rfl, hb19⟩
  have af_19 := af_18.below hb19 af_18.lt
  have aw_19 := aw_18.below hb19 aw_18.lt
  have ap_19 := ap_18.below hb19 ap_18.lt
  have aq_19 := aq_18.below hb19 aq_18.lt
  have of_19 := of_18.below hb19 (Nat.le_refl _)
  have ob_19 := ob_18.below hb19 (Nat.le_refl _)
  have op_19 := op_18.below hb19 (Nat.le_refl _)
  have oq_19 := oq_18.below hb19 (Nat.le_refl _)
  have or_19 := or_18.below hb19 (Nat.le_refl _)
  have ox_19 := ox_18.below hb19 (Nat.le_refl _)
  have oy_19 := oy_18.below hb19 (Nat.le_refl _)
  have ou_19 := ou_18.below hb19 (Nat.le_refl _)
  have ha_19 := ha_18.lift hb19
  have rd_19 := rd_18.lift hb19
  have hB19 := hB18.trans (hb19.mono hB18.size)
  clear hb19 hB18 rd_18 ha_18 ou_18 oy_18 ox_18 or_18 oq_18 op_18 ob_18 of_18 aq_18 ap_18 aw_18 af_18
  refine hK _ _ (fun u => At u gaf 27 #[.int .i64 (framesM dd).1, .slice Af kw cf, .int .i64 (framesM dd).2.2] ∧ At u gaw 27 #[.int .i64 (framesM dd).1, .slice Aw kw cw, .int .i64 (framesM dd).2.2] ∧ At u gap 30 #[.int .i64 (packFrameM bd).1, .slice Ap kp cp] ∧ At u gaq 30 #[.int .i64 (packM an sz).1, .slice Aq kq cq]) (fun _ h => h) ⟨af_19, aw_19, ap_19, aq_19⟩ ?_
  clear hK K
  (try simp only [Act.put, List.setIfInBounds_toArray, List.set_cons_zero, List.set_cons_succ])
  repeat (first
    | (refine mix_skip (by rfl) ?_
       (try simp only [Act.put, List.setIfInBounds_toArray, List.set_cons_zero, List.set_cons_succ]))
    | (refine mix_pure (v := ?_) (by rfl) (fun u hu => ?_) ?_
       rotate_left
       · obtain ⟨x1, x2, x3, x4⟩ := hu
         obtain ⟨y0, y1, y2, -, -, -⟩ := x1.three
         obtain ⟨z0, z1, z2, -, -, -⟩ := x2.three
         obtain ⟨p0, p1, -, -⟩ := x3.two
         obtain ⟨q0, q1, -, -⟩ := x4.two
         go_simp
         (with_reducible rfl)
       (try simp only [Act.put, List.setIfInBounds_toArray, List.set_cons_zero, List.set_cons_succ])))
  refine mix_call (by rfl) (fun K hK => ?_)
  go_simp
  refine (implSameBytes Ax Ay ks ks cx cy xs ys _ (ox_19.rd okB) (oy_19.rd okB) (ox_19.len okB) (oy_19.len okB)).mono ?_
  rintro e w999 ⟨rfl, rfl⟩
  refine hK _ _ (fun u => At u gaf 27 #[.int .i64 (framesM dd).1, .slice Af kw cf, .int .i64 (framesM dd).2.2] ∧ At u gaw 27 #[.int .i64 (framesM dd).1, .slice Aw kw cw, .int .i64 (framesM dd).2.2] ∧ At u gap 30 #[.int .i64 (packFrameM bd).1, .slice Ap kp cp] ∧ At u gaq 30 #[.int .i64 (packM an sz).1, .slice Aq kq cq]) (fun _ h => h) ⟨af_19, aw_19, ap_19, aq_19⟩ ?_
  clear hK K
  (try simp only [Act.put, List.setIfInBounds_toArray, List.set_cons_zero, List.set_cons_succ])
  repeat (first
    | (refine mix_skip (by rfl) ?_
       (try simp only [Act.put, List.setIfInBounds_toArray, List.set_cons_zero, List.set_cons_succ]))
    | (refine mix_pure (v := ?_) (by rfl) (fun u hu => ?_) ?_
       rotate_left
       · obtain ⟨x1, x2, x3, x4⟩ := hu
         obtain ⟨y0, y1, y2, -, -, -⟩ := x1.three
         obtain ⟨z0, z1, z2, -, -, -⟩ := x2.three
         obtain ⟨p0, p1, -, -⟩ := x3.two
         obtain ⟨q0, q1, -, -⟩ := x4.two
         go_simp
         (with_reducible rfl)
       (try simp only [Act.put, List.setIfInBounds_toArray, List.set_cons_zero, List.set_cons_succ])))
  refine mix_call (by rfl) (fun K hK => ?_)
  go_simp
  refine (lwSame Ax Ay ks ks cx cy xs ys _ (ox_19.rd okB) (oy_19.rd okB) (ox_19.len okB) (oy_19.len okB)).mono ?_
  rintro e w999 ⟨rfl, rfl⟩
  refine hK _ _ (fun u => At u gaf 27 #[.int .i64 (framesM dd).1, .slice Af kw cf, .int .i64 (framesM dd).2.2] ∧ At u gaw 27 #[.int .i64 (framesM dd).1, .slice Aw kw cw, .int .i64 (framesM dd).2.2] ∧ At u gap 30 #[.int .i64 (packFrameM bd).1, .slice Ap kp cp] ∧ At u gaq 30 #[.int .i64 (packM an sz).1, .slice Aq kq cq]) (fun _ h => h) ⟨af_19, aw_19, ap_19, aq_19⟩ ?_
  clear hK K
  (try simp only [Act.put, List.setIfInBounds_toArray, List.set_cons_zero, List.set_cons_succ])
  repeat (first
    | (refine mix_skip (by rfl) ?_
       (try simp only [Act.put, List.setIfInBounds_toArray, List.set_cons_zero, List.set_cons_succ]))
    | (refine mix_pure (v := ?_) (by rfl) (fun u hu => ?_) ?_
       rotate_left
       · obtain ⟨x1, x2, x3, x4⟩ := hu
         obtain ⟨y0, y1, y2, -, -, -⟩ := x1.three
         obtain ⟨z0, z1, z2, -, -, -⟩ := x2.three
         obtain ⟨p0, p1, -, -⟩ := x3.two
         obtain ⟨q0, q1, -, -⟩ := x4.two
         go_simp
         (with_reducible rfl)
       (try simp only [Act.put, List.setIfInBounds_toArray, List.set_cons_zero, List.set_cons_succ])))
  refine mix_call (by rfl) (fun K hK => ?_)
  go_simp
  refine (implSumOf Au ku cu xu _ (ou_19.rd okB) (ou_19.len okB)).mono ?_
  rintro e w20 ⟨rfl, hb20⟩
  have af_20 := af_19.below hb20 af_19.lt
  have aw_20 := aw_19.below hb20 aw_19.lt
  have ap_20 := ap_19.below hb20 ap_19.lt
  have aq_20 := aq_19.below hb20 aq_19.lt
  have of_20 := of_19.below hb20 (Nat.le_refl _)
  have ob_20 := ob_19.below hb20 (Nat.le_refl _)
  have op_20 := op_19.below hb20 (Nat.le_refl _)
  have oq_20 := oq_19.below hb20 (Nat.le_refl _)
  have or_20 := or_19.below hb20 (Nat.le_refl _)
  have ox_20 := ox_19.below hb20 (Nat.le_refl _)
  have oy_20 := oy_19.below hb20 (Nat.le_refl _)
  have ou_20 := ou_19.below hb20 (Nat.le_refl _)
  have ha_20 := ha_19.lift hb20
  have rd_20 := rd_19.lift hb20
  have hB20 := hB19.trans (hb20.mono hB19.size)
  clear hb20 hB19 rd_19 ha_19 ou_19 oy_19 ox_19 or_19 oq_19 op_19 ob_19 of_19 aq_19 ap_19 aw_19 af_19
  refine hK _ _ (fun u => At u gaf 27 #[.int .i64 (framesM dd).1, .slice Af kw cf, .int .i64 (framesM dd).2.2] ∧ At u gaw 27 #[.int .i64 (framesM dd).1, .slice Aw kw cw, .int .i64 (framesM dd).2.2] ∧ At u gap 30 #[.int .i64 (packFrameM bd).1, .slice Ap kp cp] ∧ At u gaq 30 #[.int .i64 (packM an sz).1, .slice Aq kq cq]) (fun _ h => h) ⟨af_20, aw_20, ap_20, aq_20⟩ ?_
  clear hK K
  (try simp only [Act.put, List.setIfInBounds_toArray, List.set_cons_zero, List.set_cons_succ])
  repeat (first
    | (refine mix_skip (by rfl) ?_
       (try simp only [Act.put, List.setIfInBounds_toArray, List.set_cons_zero, List.set_cons_succ]))
    | (refine mix_pure (v := ?_) (by rfl) (fun u hu => ?_) ?_
       rotate_left
       · obtain ⟨x1, x2, x3, x4⟩ := hu
         obtain ⟨y0, y1, y2, -, -, -⟩ := x1.three
         obtain ⟨z0, z1, z2, -, -, -⟩ := x2.three
         obtain ⟨p0, p1, -, -⟩ := x3.two
         obtain ⟨q0, q1, -, -⟩ := x4.two
         go_simp
         (with_reducible rfl)
       (try simp only [Act.put, List.setIfInBounds_toArray, List.set_cons_zero, List.set_cons_succ])))
  refine mix_call (by rfl) (fun K hK => ?_)
  go_simp
  refine (specSumOf Au ku cu xu _ (ou_20.rd okB) (ou_20.len okB)).mono ?_
  rintro e w21 ⟨rfl, hb21⟩
  have af_21 := af_20.below hb21 af_20.lt
  have aw_21 := aw_20.below hb21 aw_20.lt
  have ap_21 := ap_20.below hb21 ap_20.lt
  have aq_21 := aq_20.below hb21 aq_20.lt
  have of_21 := of_20.below hb21 (Nat.le_refl _)
  have ob_21 := ob_20.below hb21 (Nat.le_refl _)
  have op_21 := op_20.below hb21 (Nat.le_refl _)
  have oq_21 := oq_20.below hb21 (Nat.le_refl _)
  have or_21 := or_20.below hb21 (Nat.le_refl _)
  have ox_21 := ox_20.below hb21 (Nat.le_refl _)
  have oy_21 := oy_20.below hb21 (Nat.le_refl _)
  have ou_21 := ou_20.below hb21 (Nat.le_refl _)
  have ha_21 := ha_20.lift hb21
  have rd_21 := rd_20.lift hb21
  have hB21 := hB20.trans (hb21.mono hB20.size)
  clear hb21 hB20 rd_20 ha_20 ou_20 oy_20 ox_20 or_20 oq_20 op_20 ob_20 of_20 aq_20 ap_20 aw_20 af_20
  refine hK _ _ (fun u => At u gaf 27 #[.int .i64 (framesM dd).1, .slice Af kw cf, .int .i64 (framesM dd).2.2] ∧ At u gaw 27 #[.int .i64 (framesM dd).1, .slice Aw kw cw, .int .i64 (framesM dd).2.2] ∧ At u gap 30 #[.int .i64 (packFrameM bd).1, .slice Ap kp cp] ∧ At u gaq 30 #[.int .i64 (packM an sz).1, .slice Aq kq cq]) (fun _ h => h) ⟨af_21, aw_21, ap_21, aq_21⟩ ?_
  clear hK K
  (try simp only [Act.put, List.setIfInBounds_toArray, List.set_cons_zero, List.set_cons_succ])
  repeat (first
    | (refine mix_skip (by rfl) ?_
       (try simp only [Act.put, List.setIfInBounds_toArray, List.set_cons_zero, List.set_cons_succ]))
    | (refine mix_pure (v := ?_) (by rfl) (fun u hu => ?_) ?_
       rotate_left
       · obtain ⟨x1, x2, x3, x4⟩ := hu
         obtain ⟨y0, y1, y2, -, -, -⟩ := x1.three
         obtain ⟨z0, z1, z2, -, -, -⟩ := x2.three
         obtain ⟨p0, p1, -, -⟩ := x3.two
         obtain ⟨q0, q1, -, -⟩ := x4.two
         go_simp
         (with_reducible rfl)
       (try simp only [Act.put, List.setIfInBounds_toArray, List.set_cons_zero, List.set_cons_succ])))
  refine mix_nil ?_
  by_cases hq : (packM an sz).1 = 0
  · have HR := implReadWord Aq kq cq (packM an sz).2 0 sz w21 (oq_21.rd okB) (oq_21.len okB) oq_21.small
    rw [read_back hq] at HR
    rw [hq] at aq_21
    have HR2 := Lib.hid HR
    clear HR hq
    obtain ⟨aq0_21, aq1_21, _, _⟩ := aq_21.two
    go_wp2_with fail
    refine (HR2.out).mono ?_
    rintro e w22 ⟨rfl, hb22⟩
    have af_22 := af_21.below hb22 af_21.lt
    have aw_22 := aw_21.below hb22 aw_21.lt
    have ap_22 := ap_21.below hb22 ap_21.lt
    have aq_22 := aq_21.below hb22 aq_21.lt
    have of_22 := of_21.below hb22 (Nat.le_refl _)
    have ob_22 := ob_21.below hb22 (Nat.le_refl _)
    have op_22 := op_21.below hb22 (Nat.le_refl _)
    have oq_22 := oq_21.below hb22 (Nat.le_refl _)
    have or_22 := or_21.below hb22 (Nat.le_refl _)
    have ox_22 := ox_21.below hb22 (Nat.le_refl _)
    have oy_22 := oy_21.below hb22 (Nat.le_refl _)
    have ou_22 := ou_21.below hb22 (Nat.le_refl _)
    have S22 := Lib.hid hb22.size
    have hB22 := hB21.trans (hb22.mono hB21.size)
    have ha_22 := ha_21.lift hb22
    have rd_22 := rd_21.lift hb22
    clear S22 hb22 hB21 rd_21 ha_21 ou_21 oy_21 ox_21 or_21 oq_21 op_21 ob_21 of_21 aq_21 ap_21 aw_21 af_21
    clear HR2
    by_cases hd : nd ≤ 20000
    · obtain ⟨p, hp1, hp2, hp3, hp4⟩ := frames_back (d := dd) (by omega)
      have hz : (framesM dd).1 = 0 := by unfold framesM; rw [if_pos (by omega)]
      obtain ⟨bods, hbods⟩ : ∃ b, b = (framesM dd).2.1 := ⟨_, rfl⟩
      rw [hz, hp1] at af_22
      rw [← hbods] at hp3 hp4 qf
      have hfew := few bods
      rw [hp3, List.length_take] at hfew
      have hlb2 : bods.length = kw := by rw [← qf, List.length_map, hkf]
      have hkw : kw ≤ 20000 := by omega
      clear hz hp1 hbods hfew
      have Hq := Lib.hid qf
      have H3 := Lib.hid hp3
      have H4 := Lib.hid hp4
      clear qf hp3 hp4
      obtain ⟨af0_22, af1_22, af2_22, _, _, _⟩ := af_22.three
      go_wp2_with fail
      go_loopw [17, 18] (fun va vi wr => AllRel w22 bods kw va vi wr) (fun _ vi _ => kw - (intOf vi).toNat)
      case atStart => exact ⟨0, _, 0, 0, Nat.zero_le _, rfl, rfl, Ow.lit w22 [] #[] 0 (Nat.le_refl _) (by unfold maxLen; omega) rfl rfl, by omega, (Below.refl _ _).alloc (Nat.le_refl _) _⟩
      case round =>
        obtain ⟨i, A, L, cc, hi, rfl, rfl, how, hL, hbel⟩ := hrel
        have af_r := af_22.below hbel af_22.lt
        have aw_r := aw_22.below hbel aw_22.lt
        have ap_r := ap_22.below hbel ap_22.lt
        have of_r := of_22.below hbel (Nat.le_refl _)
        have ob_r := ob_22.below hbel (Nat.le_refl _)
        have op_r := op_22.below hbel (Nat.le_refl _)
        have ha_r := ha_22.lift hbel
        have rd_r := rd_22.lift hbel
        have hB_r := hB22.trans (hbel.mono hB22.size)
        clear hB22 rd_22 ha_22 ou_22 oy_22 ox_22 or_22 oq_22 op_22 ob_22 of_22 aq_22 ap_22 aw_22 af_22
        obtain ⟨y0, y1, y2, -, -, -⟩ := af_r.three
        have hLn := how.len okB
        by_cases hlt : i < kw
        · have hip : i < pf.length := by omega
          obtain ⟨b, hpi⟩ : ∃ b, pf[i]? = some b := ⟨_, List.getElem?_eq_getElem hip⟩
          obtain ⟨gg, x, hAf, -, hcx, hox⟩ := of_r.row hpi
          have hbi : bods[i]? = some b.1 := by rw [← Hq.out, List.getElem?_map, hpi]; rfl
          have hbl := H4.out b.1 (List.mem_of_getElem? hbi)
          have HP := implPackFrame x.A x.n x.c b.1 wr (hox.rd okB) (hox.len okB)
          rw [packFrameM_ok hbl] at HP
          have HP2 := Lib.hid HP
          have Hft := Lib.hid (flat_take bods hbi)
          have hfl := frameL_len b.1
          have Hbl := Lib.hid hbl
          clear HP hbi hpi hip hbl
          subst hAf
          go_wp2_with fail
          refine HP2.out.mono ?_
          rintro e w1 ⟨A5, k5, c5, rfl, o5, hb5⟩
          have o5l := o5.len okB
          have how5 := how.below hb5 (Nat.le_refl _)
          have hk5 : k5 ≤ 43 := by have := Hbl.out; simp only at o5l; omega
          clear HP2 hox hcx
          go_wp2_with (at_builtin; refine wpList_append_ow okB _ rfl (.tmp 142) (.tmp 149) _ rfl w22.heap.size info_u8 Try.underlying22 rfl A L cc _ rfl how5 A5 k5 c5 _ (frameL b.1) rfl (o5.rd okB) o5l (by unfold maxLen; omega) (by omega) (Nat.le_trans hbel.size hb5.size) ?_; intro A6 c6 w6 ow6 hg6 _)
          rw [← Hft.out] at ow6
          exact ⟨⟨i + 1, A6, L + k5, c6, by omega, by go_num, rfl, ow6, by omega, (hbel.trans (hb5.mono hbel.size)).grown hg6 (Nat.le_trans hbel.size hb5.size) (fun x hx => (how.lt x hx).1)⟩, by simp [intOf]; omega⟩
        · have hik : i = kw := by omega
          subst hik
          rw [List.take_of_length_le (by omega), H3.out] at how hLn
          have hsz : decide ((nd : Int) < (p : Int)) = false := decide_eq_false (by omega)
          have hpc : p ≤ cd := by omega
          have HL := lwSame A Ad L p cc cd (dd.take p) (dd.take p) wr (how.rd okB) (rd_r.take p) hLn (by rw [List.length_take]; omega)
          rw [decide_eq_true rfl] at HL
          have HL2 := Lib.hid HL
          clear HL hLn how hlt hbel
          go_wp2_with fail
          refine HL2.out.mono ?_
          rintro e w999 ⟨rfl, rfl⟩
          clear HL2
          by_cases hbl : 1 ≤ bd.length ∧ bd.length ≤ 40
          · rw [packFrameM_ok hbl] at ap_r op_r
            dsimp only at ap_r op_r
            have HR := implReadFrames Ap kp cp (frameL bd) wr (op_r.rd okB) (op_r.len okB) op_r.cap
            rw [frames_one hbl.1 hbl.2] at HR
            have HR2 := Lib.hid HR
            have Hbl := Lib.hid hbl
            clear HR hbl
            have hkp : kp = kb + 3 := by have := op_r.len okB; simp only [frameL_len] at this; omega
            subst hkp
            obtain ⟨ap0_22, ap1_22, _, _⟩ := ap_r.two
            go_wp2_with fail
            refine (HR2.out).mono ?_
            rintro e w23 ⟨A23, k23, c23, p23, rfl, o1, q23, hb23⟩
            have af_23 := af_r.below hb23 af_r.lt
            have aw_23 := aw_r.below hb23 aw_r.lt
            have ap_23 := ap_r.below hb23 ap_r.lt
            have of_23 := of_r.below hb23 (Nat.le_refl _)
            have ob_23 := ob_r.below hb23 (Nat.le_refl _)
            have op_23 := op_r.below hb23 (Nat.le_refl _)
            have S23 := Lib.hid hb23.size
            have hB23 := hB_r.trans (hb23.mono hB_r.size)
            have ha_23 := ha_r.lift hb23
            have rd_23 := rd_r.lift hb23
            clear S23 hb23 hB_r rd_r ha_r op_r ob_r of_r ap_r aw_r af_r
            have hk1 := Ow.len okBB o1.1
            have hp1 := congrArg List.length q23
            rw [List.length_map] at hp1
            obtain rfl : k23 = 1 := by simp only [List.length_singleton] at hp1; omega
            clear HR2
            have ao := At.new w23 27 #[.int .i64 0, .slice A23 1 c23, .int .i64 ((kb : Int) + 3)]
            have af_24 := af_23.alloc (.cells #[.int .i64 0, .slice A23 1 c23, .int .i64 ((kb : Int) + 3)] 27)
            have aw_24 := aw_23.alloc (.cells #[.int .i64 0, .slice A23 1 c23, .int .i64 ((kb : Int) + 3)] 27)
            have ap_24 := ap_23.alloc (.cells #[.int .i64 0, .slice A23 1 c23, .int .i64 ((kb : Int) + 3)] 27)
            have of_24 := of_23.alloc (.cells #[.int .i64 0, .slice A23 1 c23, .int .i64 ((kb : Int) + 3)] 27)
            have ob_24 := ob_23.alloc (.cells #[.int .i64 0, .slice A23 1 c23, .int .i64 ((kb : Int) + 3)] 27)
            have op_24 := op_23.alloc (.cells #[.int .i64 0, .slice A23 1 c23, .int .i64 ((kb : Int) + 3)] 27)
            have o1_24 := o1.alloc (.cells #[.int .i64 0, .slice A23 1 c23, .int .i64 ((kb : Int) + 3)] 27)
            have S24 := Lib.hid (show (w23.alloc (.cells #[.int .i64 0, .slice A23 1 c23, .int .i64 ((kb : Int) + 3)] 27)).heap.size = w23.heap.size + 1 by simp)
            have hB24 := hB23.alloc hB23.size (.cells #[.int .i64 0, .slice A23 1 c23, .int .i64 ((kb : Int) + 3)] 27)
            have ha_24 := ha_23.lift ((Below.refl w23.heap.size w23).alloc (Nat.le_refl _) (.cells #[.int .i64 0, .slice A23 1 c23, .int .i64 ((kb : Int) + 3)] 27))
            have rd_24 := rd_23.lift ((Below.refl w23.heap.size w23).alloc (Nat.le_refl _) (.cells #[.int .i64 0, .slice A23 1 c23, .int .i64 ((kb : Int) + 3)] 27))
            clear S24 hB23 rd_23 ha_23 o1 op_23 ob_23 of_23 ap_23 aw_23 af_23
            obtain ⟨pp, hpp⟩ : ∃ pp, p23[0]? = some pp := ⟨_, List.getElem?_eq_getElem (by omega)⟩
            have hpb : pp.1 = bd := by have := congrArg (fun t => t[0]?) q23; simp only [List.getElem?_map, hpp] at this; simpa using this
            obtain ⟨g1, x1, hA1, -, hcx, hox⟩ := o1_24.row hpp
            rw [hpb] at hox
            have HL := lwSame x1.A Ab x1.n kb x1.c cb bd bd (w23.alloc (.cells #[.int .i64 0, .slice A23 1 c23, .int .i64 ((kb : Int) + 3)] 27)) (hox.rd okB) (ob_24.rd okB) (hox.len okB) hlb
            rw [decide_eq_true rfl] at HL
            have HL2 := Lib.hid HL
            clear HL hox hpb hpp hp1 hk1 q23
            subst hA1
            obtain ⟨ap0_24, ap1_24, _, _⟩ := ap_24.two
            obtain ⟨ao0_24, ao1_24, ao2_24, _, _, _⟩ := ao.three
            go_wp2_with fail
            refine HL2.out.mono ?_
            rintro e w999 ⟨rfl, rfl⟩
            clear HL2 hcx
            have oe := Ow.lit (E := eB) (base := (w23.alloc (.cells #[.int .i64 0, .slice (some ⟨g1, 0, none⟩) 1 c23, .int .i64 ((kb : Int) + 3)] 27)).heap.size) (w23.alloc (.cells #[.int .i64 0, .slice (some ⟨g1, 0, none⟩) 1 c23, .int .i64 ((kb : Int) + 3)] 27)) [] #[] 0 (Nat.le_refl _) (by unfold maxLen; omega) rfl rfl
            rw [show (w23.alloc (.cells #[.int .i64 0, .slice (some ⟨g1, 0, none⟩) 1 c23, .int .i64 ((kb : Int) + 3)] 27)).heap.size = w23.heap.size + 1 by simp] at oe
            have apE := ap_24.alloc (.cells #[] 5)
            obtain ⟨apE0, apE1, _, _⟩ := apE.two
            have opA := op_24.alloc (.cells #[] 5)
            go_wp2_with (at_builtin; refine wpList_append_ow okB _ rfl (.tmp 192) (.tmp 194) _ rfl (w23.heap.size + 1) info_u8 Try.underlying22 rfl _ 0 0 [] rfl oe Ap (kb + 3) cp _ (frameL bd) rfl (opA.rd okB) (opA.len okB) (by unfold maxLen; omega) (by omega) (by simp) ?_; intro A6 c6 wA ow6 hg6 _)
            obtain ⟨gd, rfl, hgd, _⟩ := ow6.form (by omega)
            rw [List.nil_append, Nat.zero_add] at ow6
            have hlt0 := ap_24.lt
            have hne : gap ≠ gd := by rw [show (w23.alloc (.cells #[.int .i64 0, .slice (some ⟨g1, 0, none⟩) 1 c23, .int .i64 ((kb : Int) + 3)] 27)).heap.size = w23.heap.size + 1 by simp] at hlt0; omega
            have hge : (w23.alloc (.cells #[.int .i64 0, .slice (some ⟨g1, 0, none⟩) 1 c23, .int .i64 ((kb : Int) + 3)] 27)).heap.size ≤ gd := by simp; omega
            have hbA : Below (w23.alloc (.cells #[.int .i64 0, .slice (some ⟨g1, 0, none⟩) 1 c23, .int .i64 ((kb : Int) + 3)] 27)).heap.size (w23.alloc (.cells #[.int .i64 0, .slice (some ⟨g1, 0, none⟩) 1 c23, .int .i64 ((kb : Int) + 3)] 27)) wA := ((Below.refl _ _).alloc (Nat.le_refl _) _).grown hg6 (by simp) (fun x hx => by simp at hx; simp; omega)
            have ha_A := ha_24.lift hbA
            have haD : Rd eB wA.drew wA.drew.heap.size X l := ha_A
            have owD : Ow eB wA.drew _ _ _ _ _ := ow6
            have hf6 := ow6.len okB
            clear oe apE opA hg6 hgd hlt0 apE0 apE1 ow6 ha_A
            have Hge := Lib.hid hge
            clear hge
            go_wp2_with fail
            refine wp_region_fork [(0, false), (1, false), (2, false), (3, false), (4, false), (9, false), (5, true), (6, false), (7, false)] [(10, true), (11, false), (12, false), (13, false), (14, false), (15, true)] [(11, false), (12, false), (8, true), (13, false), (14, false), (15, true)] 8 10 (by kernel_rfl) (by kernel_rfl) (fun _ _ _ _ _ h => h) ?_
            simp only [mixOps, List.map_cons, List.map_nil, List.getElem?_cons_succ, List.getElem?_cons_zero, Option.getD_some]
            repeat (first
              | (refine fork_skip (by rfl) ?_
                 (try simp only [Act.put, List.setIfInBounds_toArray, List.set_cons_zero, List.set_cons_succ]))
              | (refine fork_pure (v := ?_) (by rfl) (fun u => ?_) ?_
                 rotate_left
                 · go_simp
                   (with_reducible rfl)
                 (try simp only [Act.put, List.setIfInBounds_toArray, List.set_cons_zero, List.set_cons_succ])))
            refine fork_call (by rfl) (fun K hK => ?_)
            go_simp
            have ew : IntKind.i64.wrap ((kb : Int) + 3 - 1) = (kb : Int) + 2 := by rw [IntWalk.i64_in _ (by omega)]; omega
            refine (lwAt X n c l 2 _ _ haD Hn.out (by omega) hm (by omega) (by omega)).mono ?_
            rintro e wB ⟨r1, d1, rfl, hr1, hwB⟩
            have hbB : Below wA.drew.heap.size wA.drew wB := by rw [hwB]; exact bdrewN (Below.refl _ _) _
            clear hwB
            obtain ⟨i, rfl⟩ := Int.eq_ofNat_of_zero_le (hr1 (by omega)).1
            obtain ⟨j, hj⟩ : ∃ j, j = i + 1 := ⟨_, rfl⟩
            have hi : j < kb + 3 := by have := (hr1 (by omega)).2; omega
            have hiI : (j : Int) < (kb : Int) + 3 := by omega
            have e1 : IntKind.i64.wrap (1 + (i : Int)) = (j : Int) := by rw [IntWalk.i64_in _ (by omega)]; omega
            clear hr1 ew
            have owE := owD.below hbB (Nat.le_refl _)
            have haE := haD.lift hbB
            have hbE := (hbA.drew).trans (hbB.mono hbA.size)
            clear owD haD hbA hbB
            obtain ⟨x, hx⟩ : ∃ x, (frameL bd)[j]? = some x := ⟨_, List.getElem?_eq_getElem (by omega)⟩
            have ca := owE.byteAt hx
            have Hx := Lib.hid hx
            have Hj := Lib.hid hj
            clear hx hj
            refine hK _ _ ?_
            clear hK K
            (try simp only [Act.put, List.setIfInBounds_toArray, List.set_cons_zero, List.set_cons_succ])
            repeat (first
              | (refine fork_skip (by rfl) ?_
                 (try simp only [Act.put, List.setIfInBounds_toArray, List.set_cons_zero, List.set_cons_succ]))
              | (refine fork_pure (v := ?_) (by rfl) (fun u => ?_) ?_
                 rotate_left
                 · go_simp
                   (with_reducible rfl)
                 (try simp only [Act.put, List.setIfInBounds_toArray, List.set_cons_zero, List.set_cons_succ])))
            refine fork_nil ⟨?_, ?_⟩
            · refine fork_call (by rfl) (fun K hK => ?_)
              go_simp
              refine hK _ _ ?_
              clear hK K
              (try simp only [Act.put, List.setIfInBounds_toArray, List.set_cons_zero, List.set_cons_succ])
              refine fork_call (by rfl) (fun K hK => ?_)
              go_simp
              refine (lwAt X n c l 3 8 _ haE Hn.out (by omega) hm (by omega) (by omega)).mono ?_
              rintro e wC ⟨r2, d2, rfl, hr2, hwC⟩
              have hbC : Below wB.heap.size wB wC := by rw [hwC]; exact bdrewN (Below.refl _ _) _
              clear hwC
              obtain ⟨k, rfl⟩ := Int.eq_ofNat_of_zero_le (hr2 (by omega)).1
              have hk8 : k < 8 := by have := (hr2 (by omega)).2; omega
              obtain ⟨y, hy, hsh⟩ := bit8 k hk8
              have Hy := Lib.hid hy
              clear hr2 hy
              have hxor := xor_u8 x y
              have owF := owE.below hbC (Nat.le_refl _)
              have hbF := hbE.trans (hbC.mono hbE.size)
              clear hbC hbE haE owE
              have caF := owF.byteAt Hx.out
              have faF := owF.frozenAt j
              have Hset := Lib.hid (owF.byteSet hi (x ^^^ y))
              refine hK _ _ ?_
              clear hK K
              (try simp only [Act.put, List.setIfInBounds_toArray, List.set_cons_zero, List.set_cons_succ])
              repeat (first
                | (refine fork_skip (by rfl) ?_
                   (try simp only [Act.put, List.setIfInBounds_toArray, List.set_cons_zero, List.set_cons_succ]))
                | (refine fork_pure (v := ?_) (by rfl) (fun u => ?_) ?_
                   rotate_left
                   · go_simp
                     (with_reducible rfl)
                   (try simp only [Act.put, List.setIfInBounds_toArray, List.set_cons_zero, List.set_cons_succ])))
              refine fork_call (by rfl) (fun K hK => ?_)
              go_simp
              refine hK _ _ ?_
              refine fork_nil ?_
              rw [← UInt8.toNat_xor]
              clear hK K hsh hxor caF faF
              have hbS := hbF.grown Hset.out.2 hbF.size (by simp only [Option.some.injEq]; intro x hx; have := Hge.out; omega)
              have HR := implReadFrames (some ⟨gd, 0, none⟩) (kb + 3) c6 _ _ (Hset.out.1.rd okB) (Hset.out.1.len okB) Hset.out.1.cap
              rw [show framesM ((frameL bd).set j (x ^^^ y)) = (0, [], 0) by have hq := Hj.out; subst hq; exact frames_turned Hbl.out.1 Hbl.out.2 Hx.out (xor_other Hy.out)] at HR
              clear hbF owF Hset
              have HR2 := Lib.hid HR
              clear HR
              generalize wC.setCell ⟨gd, j, none⟩ (.int .u8 ((x ^^^ y).toNat : Int)) = wS at *
              have hB_S := hB24.trans (hbS.mono hB24.size)
              have ap_S := ap_24.below hbS ap_24.lt
              have op_S := op_24.below hbS (Nat.le_refl _)
              clear hbS hB24 rd_24 ha_24 o1_24 op_24 ob_24 of_24 ao ap_24 aw_24 af_24
              go_wp2_with fail
              refine HR2.out.mono ?_
              rintro e wT ⟨A7, k7, c7, p7, rfl, o7, q7, hb7⟩
              clear HR2
              have hk7 := Ow.len okBB o7.1
              have hp7 := congrArg List.length q7
              rw [List.length_map] at hp7
              obtain rfl : k7 = 0 := by simp only [List.length_nil] at hp7; omega
              have ap_T := ap_S.below hb7 ap_S.lt
              have op_T := op_S.below hb7 (Nat.le_refl _)
              have hB_T := hB_S.trans (hb7.mono hB_S.size)
              clear hb7 o7 q7 hp7 hk7 ap_S op_S hB_S
              have hcp := op_T.cap
              have HR := implReadFrames Ap (kb + 2) cp ((frameL bd).take (kb + 2)) wT ((op_T.rd okB).take _) (by rw [List.length_take]; omega) (by omega)
              rw [show framesM ((frameL bd).take (kb + 2)) = (0, [], 0) by rw [← hlb]; exact frames_torn Hbl.out.1 Hbl.out.2] at HR
              have HR2 := Lib.hid HR
              clear HR op_T
              obtain ⟨t0, t1, _, _⟩ := ap_T.two
              clear ap_T
              have ew : IntKind.i64.wrap ((kb : Int) + 3 - 1) = (kb : Int) + 2 := by rw [IntWalk.i64_in _ (by omega)]; omega
              go_wp2_with fail
              refine HR2.out.mono ?_
              rintro e wU ⟨A8, k8, c8, p8, rfl, o8, q8, hb8⟩
              clear HR2
              have hk8' := Ow.len okBB o8.1
              have hp8 := congrArg List.length q8
              rw [List.length_map] at hp8
              obtain rfl : k8 = 0 := by simp only [List.length_nil] at hp8; omega
              have hB_U := hB_T.trans (hb8.mono hB_T.size)
              clear hb8 o8 q8 hp8 hk8'
              go_wp2_with fail
              go_ret
              exact ⟨rfl, hB_U⟩
            · refine fork_call (by rfl) (fun K hK => ?_)
              go_simp
              refine (lwAt X n c l 3 8 _ haE Hn.out (by omega) hm (by omega) (by omega)).mono ?_
              rintro e wC ⟨r2, d2, rfl, hr2, hwC⟩
              have hbC : Below wB.heap.size wB wC := by rw [hwC]; exact bdrewN (Below.refl _ _) _
              clear hwC
              obtain ⟨k, rfl⟩ := Int.eq_ofNat_of_zero_le (hr2 (by omega)).1
              have hk8 : k < 8 := by have := (hr2 (by omega)).2; omega
              obtain ⟨y, hy, hsh⟩ := bit8 k hk8
              have Hy := Lib.hid hy
              clear hr2 hy
              have hxor := xor_u8 x y
              have owF := owE.below hbC (Nat.le_refl _)
              have hbF := hbE.trans (hbC.mono hbE.size)
              clear hbC hbE haE owE
              have caF := owF.byteAt Hx.out
              have faF := owF.frozenAt j
              have Hset := Lib.hid (owF.byteSet hi (x ^^^ y))
              refine hK _ _ ?_
              clear hK K
              (try simp only [Act.put, List.setIfInBounds_toArray, List.set_cons_zero, List.set_cons_succ])
              repeat (first
                | (refine fork_skip (by rfl) ?_
                   (try simp only [Act.put, List.setIfInBounds_toArray, List.set_cons_zero, List.set_cons_succ]))
                | (refine fork_pure (v := ?_) (by rfl) (fun u => ?_) ?_
                   rotate_left
                   · go_simp
                     (with_reducible rfl)
                   (try simp only [Act.put, List.setIfInBounds_toArray, List.set_cons_zero, List.set_cons_succ])))
              refine fork_call (by rfl) (fun K hK => ?_)
              go_simp
              refine hK _ _ ?_
              clear hK K
              (try simp only [Act.put, List.setIfInBounds_toArray, List.set_cons_zero, List.set_cons_succ])
              repeat (first
                | (refine fork_skip (by rfl) ?_
                   (try simp only [Act.put, List.setIfInBounds_toArray, List.set_cons_zero, List.set_cons_succ]))
                | (refine fork_pure (v := ?_) (by rfl) (fun u => ?_) ?_
                   rotate_left
                   · go_simp
                     (with_reducible rfl)
                   (try simp only [Act.put, List.setIfInBounds_toArray, List.set_cons_zero, List.set_cons_succ])))
              refine fork_call (by rfl) (fun K hK => ?_)
              go_simp
              refine hK _ _ ?_
              refine fork_nil ?_
              rw [← UInt8.toNat_xor]
              clear hK K hsh hxor caF faF
              have hbS := hbF.grown Hset.out.2 hbF.size (by simp only [Option.some.injEq]; intro x hx; have := Hge.out; omega)
              have HR := implReadFrames (some ⟨gd, 0, none⟩) (kb + 3) c6 _ _ (Hset.out.1.rd okB) (Hset.out.1.len okB) Hset.out.1.cap
              rw [show framesM ((frameL bd).set j (x ^^^ y)) = (0, [], 0) by have hq := Hj.out; subst hq; exact frames_turned Hbl.out.1 Hbl.out.2 Hx.out (xor_other Hy.out)] at HR
              clear hbF owF Hset
              have HR2 := Lib.hid HR
              clear HR
              generalize wC.setCell ⟨gd, j, none⟩ (.int .u8 ((x ^^^ y).toNat : Int)) = wS at *
              have hB_S := hB24.trans (hbS.mono hB24.size)
              have ap_S := ap_24.below hbS ap_24.lt
              have op_S := op_24.below hbS (Nat.le_refl _)
              clear hbS hB24 rd_24 ha_24 o1_24 op_24 ob_24 of_24 ao ap_24 aw_24 af_24
              go_wp2_with fail
              refine HR2.out.mono ?_
              rintro e wT ⟨A7, k7, c7, p7, rfl, o7, q7, hb7⟩
              clear HR2
              have hk7 := Ow.len okBB o7.1
              have hp7 := congrArg List.length q7
              rw [List.length_map] at hp7
              obtain rfl : k7 = 0 := by simp only [List.length_nil] at hp7; omega
              have ap_T := ap_S.below hb7 ap_S.lt
              have op_T := op_S.below hb7 (Nat.le_refl _)
              have hB_T := hB_S.trans (hb7.mono hB_S.size)
              clear hb7 o7 q7 hp7 hk7 ap_S op_S hB_S
              have hcp := op_T.cap
              have HR := implReadFrames Ap (kb + 2) cp ((frameL bd).take (kb + 2)) wT ((op_T.rd okB).take _) (by rw [List.length_take]; omega) (by omega)
              rw [show framesM ((frameL bd).take (kb + 2)) = (0, [], 0) by rw [← hlb]; exact frames_torn Hbl.out.1 Hbl.out.2] at HR
              have HR2 := Lib.hid HR
              clear HR op_T
              obtain ⟨t0, t1, _, _⟩ := ap_T.two
              clear ap_T
              have ew : IntKind.i64.wrap ((kb : Int) + 3 - 1) = (kb : Int) + 2 := by rw [IntWalk.i64_in _ (by omega)]; omega
              go_wp2_with fail
              refine HR2.out.mono ?_
              rintro e wU ⟨A8, k8, c8, p8, rfl, o8, q8, hb8⟩
              clear HR2
              have hk8' := Ow.len okBB o8.1
              have hp8 := congrArg List.length q8
              rw [List.length_map] at hp8
              obtain rfl : k8 = 0 := by simp only [List.length_nil] at hp8; omega
              have hB_U := hB_T.trans (hb8.mono hB_T.size)
              clear hb8 o8 q8 hp8 hk8'
              go_wp2_with fail
              go_ret
              exact ⟨rfl, hB_U⟩
          · rw [packFrameM_bad hbl] at ap_r
            dsimp only at ap_r
            clear hbl
            obtain ⟨ap0_22, ap1_22, _, _⟩ := ap_r.two
            go_wp2_with fail
            go_ret
            exact ⟨rfl, hB_r⟩
    · have hz : (framesM dd).1 = 2 := by unfold framesM; rw [if_neg (by omega)]
      rw [hz] at af_22
      clear hz
      obtain ⟨af0_22, af1_22, af2_22, _, _, _⟩ := af_22.three
      by_cases hbl : 1 ≤ bd.length ∧ bd.length ≤ 40
      · rw [packFrameM_ok hbl] at ap_22 op_22
        dsimp only at ap_22 op_22
        have HR := implReadFrames Ap kp cp (frameL bd) w22 (op_22.rd okB) (op_22.len okB) op_22.cap
        rw [frames_one hbl.1 hbl.2] at HR
        have HR2 := Lib.hid HR
        have Hbl := Lib.hid hbl
        clear HR hbl
        have hkp : kp = kb + 3 := by have := op_22.len okB; simp only [frameL_len] at this; omega
        subst hkp
        obtain ⟨ap0_22, ap1_22, _, _⟩ := ap_22.two
        go_wp2_with fail
        refine (HR2.out).mono ?_
        rintro e w23 ⟨A23, k23, c23, p23, rfl, o1, q23, hb23⟩
        have af_23 := af_22.below hb23 af_22.lt
        have aw_23 := aw_22.below hb23 aw_22.lt
        have ap_23 := ap_22.below hb23 ap_22.lt
        have aq_23 := aq_22.below hb23 aq_22.lt
        have of_23 := of_22.below hb23 (Nat.le_refl _)
        have ob_23 := ob_22.below hb23 (Nat.le_refl _)
        have op_23 := op_22.below hb23 (Nat.le_refl _)
        have oq_23 := oq_22.below hb23 (Nat.le_refl _)
        have or_23 := or_22.below hb23 (Nat.le_refl _)
        have ox_23 := ox_22.below hb23 (Nat.le_refl _)
        have oy_23 := oy_22.below hb23 (Nat.le_refl _)
        have ou_23 := ou_22.below hb23 (Nat.le_refl _)
        have S23 := Lib.hid hb23.size
        have hB23 := hB22.trans (hb23.mono hB22.size)
        have ha_23 := ha_22.lift hb23
        have rd_23 := rd_22.lift hb23
        clear S23 hb23 hB22 rd_22 ha_22 ou_22 oy_22 ox_22 or_22 oq_22 op_22 ob_22 of_22 aq_22 ap_22 aw_22 af_22
        have hk1 := Ow.len okBB o1.1
        have hp1 := congrArg List.length q23
        rw [List.length_map] at hp1
        obtain rfl : k23 = 1 := by simp only [List.length_singleton] at hp1; omega
        clear HR2
        have ao := At.new w23 27 #[.int .i64 0, .slice A23 1 c23, .int .i64 ((kb : Int) + 3)]
        have af_24 := af_23.alloc (.cells #[.int .i64 0, .slice A23 1 c23, .int .i64 ((kb : Int) + 3)] 27)
        have aw_24 := aw_23.alloc (.cells #[.int .i64 0, .slice A23 1 c23, .int .i64 ((kb : Int) + 3)] 27)
        have ap_24 := ap_23.alloc (.cells #[.int .i64 0, .slice A23 1 c23, .int .i64 ((kb : Int) + 3)] 27)
        have aq_24 := aq_23.alloc (.cells #[.int .i64 0, .slice A23 1 c23, .int .i64 ((kb : Int) + 3)] 27)
        have of_24 := of_23.alloc (.cells #[.int .i64 0, .slice A23 1 c23, .int .i64 ((kb : Int) + 3)] 27)
        have ob_24 := ob_23.alloc (.cells #[.int .i64 0, .slice A23 1 c23, .int .i64 ((kb : Int) + 3)] 27)
        have op_24 := op_23.alloc (.cells #[.int .i64 0, .slice A23 1 c23, .int .i64 ((kb : Int) + 3)] 27)
        have oq_24 := oq_23.alloc (.cells #[.int .i64 0, .slice A23 1 c23, .int .i64 ((kb : Int) + 3)] 27)
        have or_24 := or_23.alloc (.cells #[.int .i64 0, .slice A23 1 c23, .int .i64 ((kb : Int) + 3)] 27)
        have ox_24 := ox_23.alloc (.cells #[.int .i64 0, .slice A23 1 c23, .int .i64 ((kb : Int) + 3)] 27)
        have oy_24 := oy_23.alloc (.cells #[.int .i64 0, .slice A23 1 c23, .int .i64 ((kb : Int) + 3)] 27)
        have ou_24 := ou_23.alloc (.cells #[.int .i64 0, .slice A23 1 c23, .int .i64 ((kb : Int) + 3)] 27)
        have o1_24 := o1.alloc (.cells #[.int .i64 0, .slice A23 1 c23, .int .i64 ((kb : Int) + 3)] 27)
        have S24 := Lib.hid (show (w23.alloc (.cells #[.int .i64 0, .slice A23 1 c23, .int .i64 ((kb : Int) + 3)] 27)).heap.size = w23.heap.size + 1 by simp)
        have hB24 := hB23.alloc hB23.size (.cells #[.int .i64 0, .slice A23 1 c23, .int .i64 ((kb : Int) + 3)] 27)
        have ha_24 := ha_23.lift ((Below.refl w23.heap.size w23).alloc (Nat.le_refl _) (.cells #[.int .i64 0, .slice A23 1 c23, .int .i64 ((kb : Int) + 3)] 27))
        have rd_24 := rd_23.lift ((Below.refl w23.heap.size w23).alloc (Nat.le_refl _) (.cells #[.int .i64 0, .slice A23 1 c23, .int .i64 ((kb : Int) + 3)] 27))
        clear S24 hB23 rd_23 ha_23 o1 ou_23 oy_23 ox_23 or_23 oq_23 op_23 ob_23 of_23 aq_23 ap_23 aw_23 af_23
        obtain ⟨pp, hpp⟩ : ∃ pp, p23[0]? = some pp := ⟨_, List.getElem?_eq_getElem (by omega)⟩
        have hpb : pp.1 = bd := by have := congrArg (fun t => t[0]?) q23; simp only [List.getElem?_map, hpp] at this; simpa using this
        obtain ⟨g1, x1, hA1, -, hcx, hox⟩ := o1_24.row hpp
        rw [hpb] at hox
        have HL := lwSame x1.A Ab x1.n kb x1.c cb bd bd (w23.alloc (.cells #[.int .i64 0, .slice A23 1 c23, .int .i64 ((kb : Int) + 3)] 27)) (hox.rd okB) (ob_24.rd okB) (hox.len okB) hlb
        rw [decide_eq_true rfl] at HL
        have HL2 := Lib.hid HL
        clear HL hox hpb hpp hp1 hk1 q23
        subst hA1
        obtain ⟨ap0_24, ap1_24, _, _⟩ := ap_24.two
        obtain ⟨ao0_24, ao1_24, ao2_24, _, _, _⟩ := ao.three
        go_wp2_with fail
        refine HL2.out.mono ?_
        rintro e w999 ⟨rfl, rfl⟩
        clear HL2 hcx
        have oe := Ow.lit (E := eB) (base := (w23.alloc (.cells #[.int .i64 0, .slice (some ⟨g1, 0, none⟩) 1 c23, .int .i64 ((kb : Int) + 3)] 27)).heap.size) (w23.alloc (.cells #[.int .i64 0, .slice (some ⟨g1, 0, none⟩) 1 c23, .int .i64 ((kb : Int) + 3)] 27)) [] #[] 0 (Nat.le_refl _) (by unfold maxLen; omega) rfl rfl
        rw [show (w23.alloc (.cells #[.int .i64 0, .slice (some ⟨g1, 0, none⟩) 1 c23, .int .i64 ((kb : Int) + 3)] 27)).heap.size = w23.heap.size + 1 by simp] at oe
        have apE := ap_24.alloc (.cells #[] 5)
        obtain ⟨apE0, apE1, _, _⟩ := apE.two
        have opA := op_24.alloc (.cells #[] 5)
        go_wp2_with (at_builtin; refine wpList_append_ow okB _ rfl (.tmp 192) (.tmp 194) _ rfl (w23.heap.size + 1) info_u8 Try.underlying22 rfl _ 0 0 [] rfl oe Ap (kb + 3) cp _ (frameL bd) rfl (opA.rd okB) (opA.len okB) (by unfold maxLen; omega) (by omega) (by simp) ?_; intro A6 c6 wA ow6 hg6 _)
        obtain ⟨gd, rfl, hgd, _⟩ := ow6.form (by omega)
        rw [List.nil_append, Nat.zero_add] at ow6
        have hlt0 := ap_24.lt
        have hne : gap ≠ gd := by rw [show (w23.alloc (.cells #[.int .i64 0, .slice (some ⟨g1, 0, none⟩) 1 c23, .int .i64 ((kb : Int) + 3)] 27)).heap.size = w23.heap.size + 1 by simp] at hlt0; omega
        have hge : (w23.alloc (.cells #[.int .i64 0, .slice (some ⟨g1, 0, none⟩) 1 c23, .int .i64 ((kb : Int) + 3)] 27)).heap.size ≤ gd := by simp; omega
        have hbA : Below (w23.alloc (.cells #[.int .i64 0, .slice (some ⟨g1, 0, none⟩) 1 c23, .int .i64 ((kb : Int) + 3)] 27)).heap.size (w23.alloc (.cells #[.int .i64 0, .slice (some ⟨g1, 0, none⟩) 1 c23, .int .i64 ((kb : Int) + 3)] 27)) wA := ((Below.refl _ _).alloc (Nat.le_refl _) _).grown hg6 (by simp) (fun x hx => by simp at hx; simp; omega)
        have ha_A := ha_24.lift hbA
        have haD : Rd eB wA.drew wA.drew.heap.size X l := ha_A
        have owD : Ow eB wA.drew _ _ _ _ _ := ow6
        have hf6 := ow6.len okB
        clear oe apE opA hg6 hgd hlt0 apE0 apE1 ow6 ha_A
        have Hge := Lib.hid hge
        clear hge
        go_wp2_with fail
        refine wp_region_fork [(0, false), (1, false), (2, false), (3, false), (4, false), (9, false), (5, true), (6, false), (7, false)] [(10, true), (11, false), (12, false), (13, false), (14, false), (15, true)] [(11, false), (12, false), (8, true), (13, false), (14, false), (15, true)] 8 10 (by kernel_rfl) (by kernel_rfl) (fun _ _ _ _ _ h => h) ?_
        simp only [mixOps, List.map_cons, List.map_nil, List.getElem?_cons_succ, List.getElem?_cons_zero, Option.getD_some]
        repeat (first
          | (refine fork_skip (by rfl) ?_
             (try simp only [Act.put, List.setIfInBounds_toArray, List.set_cons_zero, List.set_cons_succ]))
          | (refine fork_pure (v := ?_) (by rfl) (fun u => ?_) ?_
             rotate_left
             · go_simp
               (with_reducible rfl)
             (try simp only [Act.put, List.setIfInBounds_toArray, List.set_cons_zero, List.set_cons_succ])))
        refine fork_call (by rfl) (fun K hK => ?_)
        go_simp
        have ew : IntKind.i64.wrap ((kb : Int) + 3 - 1) = (kb : Int) + 2 := by rw [IntWalk.i64_in _ (by omega)]; omega
        refine (lwAt X n c l 2 _ _ haD Hn.out (by omega) hm (by omega) (by omega)).mono ?_
        rintro e wB ⟨r1, d1, rfl, hr1, hwB⟩
        have hbB : Below wA.drew.heap.size wA.drew wB := by rw [hwB]; exact bdrewN (Below.refl _ _) _
        clear hwB
        obtain ⟨i, rfl⟩ := Int.eq_ofNat_of_zero_le (hr1 (by omega)).1
        obtain ⟨j, hj⟩ : ∃ j, j = i + 1 := ⟨_, rfl⟩
        have hi : j < kb + 3 := by have := (hr1 (by omega)).2; omega
        have hiI : (j : Int) < (kb : Int) + 3 := by omega
        have e1 : IntKind.i64.wrap (1 + (i : Int)) = (j : Int) := by rw [IntWalk.i64_in _ (by omega)]; omega
        clear hr1 ew
        have owE := owD.below hbB (Nat.le_refl _)
        have haE := haD.lift hbB
        have hbE := (hbA.drew).trans (hbB.mono hbA.size)
        clear owD haD hbA hbB
        obtain ⟨x, hx⟩ : ∃ x, (frameL bd)[j]? = some x := ⟨_, List.getElem?_eq_getElem (by omega)⟩
        have ca := owE.byteAt hx
        have Hx := Lib.hid hx
        have Hj := Lib.hid hj
        clear hx hj
        refine hK _ _ ?_
        clear hK K
        (try simp only [Act.put, List.setIfInBounds_toArray, List.set_cons_zero, List.set_cons_succ])
        repeat (first
          | (refine fork_skip (by rfl) ?_
             (try simp only [Act.put, List.setIfInBounds_toArray, List.set_cons_zero, List.set_cons_succ]))
          | (refine fork_pure (v := ?_) (by rfl) (fun u => ?_) ?_
             rotate_left
             · go_simp
               (with_reducible rfl)
             (try simp only [Act.put, List.setIfInBounds_toArray, List.set_cons_zero, List.set_cons_succ])))
        refine fork_nil ⟨?_, ?_⟩
        · refine fork_call (by rfl) (fun K hK => ?_)
          go_simp
          refine hK _ _ ?_
          clear hK K
          (try simp only [Act.put, List.setIfInBounds_toArray, List.set_cons_zero, List.set_cons_succ])
          refine fork_call (by rfl) (fun K hK => ?_)
          go_simp
          refine (lwAt X n c l 3 8 _ haE Hn.out (by omega) hm (by omega) (by omega)).mono ?_
          rintro e wC ⟨r2, d2, rfl, hr2, hwC⟩
          have hbC : Below wB.heap.size wB wC := by rw [hwC]; exact bdrewN (Below.refl _ _) _
          clear hwC
          obtain ⟨k, rfl⟩ := Int.eq_ofNat_of_zero_le (hr2 (by omega)).1
          have hk8 : k < 8 := by have := (hr2 (by omega)).2; omega
          obtain ⟨y, hy, hsh⟩ := bit8 k hk8
          have Hy := Lib.hid hy
          clear hr2 hy
          have hxor := xor_u8 x y
          have owF := owE.below hbC (Nat.le_refl _)
          have hbF := hbE.trans (hbC.mono hbE.size)
          clear hbC hbE haE owE
          have caF := owF.byteAt Hx.out
          have faF := owF.frozenAt j
          have Hset := Lib.hid (owF.byteSet hi (x ^^^ y))
          refine hK _ _ ?_
          clear hK K
          (try simp only [Act.put, List.setIfInBounds_toArray, List.set_cons_zero, List.set_cons_succ])
          repeat (first
            | (refine fork_skip (by rfl) ?_
               (try simp only [Act.put, List.setIfInBounds_toArray, List.set_cons_zero, List.set_cons_succ]))
            | (refine fork_pure (v := ?_) (by rfl) (fun u => ?_) ?_
               rotate_left
               · go_simp
                 (with_reducible rfl)
               (try simp only [Act.put, List.setIfInBounds_toArray, List.set_cons_zero, List.set_cons_succ])))
          refine fork_call (by rfl) (fun K hK => ?_)
          go_simp
          refine hK _ _ ?_
          refine fork_nil ?_
          rw [← UInt8.toNat_xor]
          clear hK K hsh hxor caF faF
          have hbS := hbF.grown Hset.out.2 hbF.size (by simp only [Option.some.injEq]; intro x hx; have := Hge.out; omega)
          have HR := implReadFrames (some ⟨gd, 0, none⟩) (kb + 3) c6 _ _ (Hset.out.1.rd okB) (Hset.out.1.len okB) Hset.out.1.cap
          rw [show framesM ((frameL bd).set j (x ^^^ y)) = (0, [], 0) by have hq := Hj.out; subst hq; exact frames_turned Hbl.out.1 Hbl.out.2 Hx.out (xor_other Hy.out)] at HR
          clear hbF owF Hset
          have HR2 := Lib.hid HR
          clear HR
          generalize wC.setCell ⟨gd, j, none⟩ (.int .u8 ((x ^^^ y).toNat : Int)) = wS at *
          have hB_S := hB24.trans (hbS.mono hB24.size)
          have ap_S := ap_24.below hbS ap_24.lt
          have op_S := op_24.below hbS (Nat.le_refl _)
          clear hbS hB24 rd_24 ha_24 o1_24 ou_24 oy_24 ox_24 or_24 oq_24 op_24 ob_24 of_24 ao aq_24 ap_24 aw_24 af_24
          go_wp2_with fail
          refine HR2.out.mono ?_
          rintro e wT ⟨A7, k7, c7, p7, rfl, o7, q7, hb7⟩
          clear HR2
          have hk7 := Ow.len okBB o7.1
          have hp7 := congrArg List.length q7
          rw [List.length_map] at hp7
          obtain rfl : k7 = 0 := by simp only [List.length_nil] at hp7; omega
          have ap_T := ap_S.below hb7 ap_S.lt
          have op_T := op_S.below hb7 (Nat.le_refl _)
          have hB_T := hB_S.trans (hb7.mono hB_S.size)
          clear hb7 o7 q7 hp7 hk7 ap_S op_S hB_S
          have hcp := op_T.cap
          have HR := implReadFrames Ap (kb + 2) cp ((frameL bd).take (kb + 2)) wT ((op_T.rd okB).take _) (by rw [List.length_take]; omega) (by omega)
          rw [show framesM ((frameL bd).take (kb + 2)) = (0, [], 0) by rw [← hlb]; exact frames_torn Hbl.out.1 Hbl.out.2] at HR
          have HR2 := Lib.hid HR
          clear HR op_T
          obtain ⟨t0, t1, _, _⟩ := ap_T.two
          clear ap_T
          have ew : IntKind.i64.wrap ((kb : Int) + 3 - 1) = (kb : Int) + 2 := by rw [IntWalk.i64_in _ (by omega)]; omega
          go_wp2_with fail
          refine HR2.out.mono ?_
          rintro e wU ⟨A8, k8, c8, p8, rfl, o8, q8, hb8⟩
          clear HR2
          have hk8' := Ow.len okBB o8.1
          have hp8 := congrArg List.length q8
          rw [List.length_map] at hp8
          obtain rfl : k8 = 0 := by simp only [List.length_nil] at hp8; omega
          have hB_U := hB_T.trans (hb8.mono hB_T.size)
          clear hb8 o8 q8 hp8 hk8'
          go_wp2_with fail
          go_ret
          exact ⟨rfl, hB_U⟩
        · refine fork_call (by rfl) (fun K hK => ?_)
          go_simp
          refine (lwAt X n c l 3 8 _ haE Hn.out (by omega) hm (by omega) (by omega)).mono ?_
          rintro e wC ⟨r2, d2, rfl, hr2, hwC⟩
          have hbC : Below wB.heap.size wB wC := by rw [hwC]; exact bdrewN (Below.refl _ _) _
          clear hwC
          obtain ⟨k, rfl⟩ := Int.eq_ofNat_of_zero_le (hr2 (by omega)).1
          have hk8 : k < 8 := by have := (hr2 (by omega)).2; omega
          obtain ⟨y, hy, hsh⟩ := bit8 k hk8
          have Hy := Lib.hid hy
          clear hr2 hy
          have hxor := xor_u8 x y
          have owF := owE.below hbC (Nat.le_refl _)
          have hbF := hbE.trans (hbC.mono hbE.size)
          clear hbC hbE haE owE
          have caF := owF.byteAt Hx.out
          have faF := owF.frozenAt j
          have Hset := Lib.hid (owF.byteSet hi (x ^^^ y))
          refine hK _ _ ?_
          clear hK K
          (try simp only [Act.put, List.setIfInBounds_toArray, List.set_cons_zero, List.set_cons_succ])
          repeat (first
            | (refine fork_skip (by rfl) ?_
               (try simp only [Act.put, List.setIfInBounds_toArray, List.set_cons_zero, List.set_cons_succ]))
            | (refine fork_pure (v := ?_) (by rfl) (fun u => ?_) ?_
               rotate_left
               · go_simp
                 (with_reducible rfl)
               (try simp only [Act.put, List.setIfInBounds_toArray, List.set_cons_zero, List.set_cons_succ])))
          refine fork_call (by rfl) (fun K hK => ?_)
          go_simp
          refine hK _ _ ?_
          clear hK K
          (try simp only [Act.put, List.setIfInBounds_toArray, List.set_cons_zero, List.set_cons_succ])
          repeat (first
            | (refine fork_skip (by rfl) ?_
               (try simp only [Act.put, List.setIfInBounds_toArray, List.set_cons_zero, List.set_cons_succ]))
            | (refine fork_pure (v := ?_) (by rfl) (fun u => ?_) ?_
               rotate_left
               · go_simp
                 (with_reducible rfl)
               (try simp only [Act.put, List.setIfInBounds_toArray, List.set_cons_zero, List.set_cons_succ])))
          refine fork_call (by rfl) (fun K hK => ?_)
          go_simp
          refine hK _ _ ?_
          refine fork_nil ?_
          rw [← UInt8.toNat_xor]
          clear hK K hsh hxor caF faF
          have hbS := hbF.grown Hset.out.2 hbF.size (by simp only [Option.some.injEq]; intro x hx; have := Hge.out; omega)
          have HR := implReadFrames (some ⟨gd, 0, none⟩) (kb + 3) c6 _ _ (Hset.out.1.rd okB) (Hset.out.1.len okB) Hset.out.1.cap
          rw [show framesM ((frameL bd).set j (x ^^^ y)) = (0, [], 0) by have hq := Hj.out; subst hq; exact frames_turned Hbl.out.1 Hbl.out.2 Hx.out (xor_other Hy.out)] at HR
          clear hbF owF Hset
          have HR2 := Lib.hid HR
          clear HR
          generalize wC.setCell ⟨gd, j, none⟩ (.int .u8 ((x ^^^ y).toNat : Int)) = wS at *
          have hB_S := hB24.trans (hbS.mono hB24.size)
          have ap_S := ap_24.below hbS ap_24.lt
          have op_S := op_24.below hbS (Nat.le_refl _)
          clear hbS hB24 rd_24 ha_24 o1_24 ou_24 oy_24 ox_24 or_24 oq_24 op_24 ob_24 of_24 ao aq_24 ap_24 aw_24 af_24
          go_wp2_with fail
          refine HR2.out.mono ?_
          rintro e wT ⟨A7, k7, c7, p7, rfl, o7, q7, hb7⟩
          clear HR2
          have hk7 := Ow.len okBB o7.1
          have hp7 := congrArg List.length q7
          rw [List.length_map] at hp7
          obtain rfl : k7 = 0 := by simp only [List.length_nil] at hp7; omega
          have ap_T := ap_S.below hb7 ap_S.lt
          have op_T := op_S.below hb7 (Nat.le_refl _)
          have hB_T := hB_S.trans (hb7.mono hB_S.size)
          clear hb7 o7 q7 hp7 hk7 ap_S op_S hB_S
          have hcp := op_T.cap
          have HR := implReadFrames Ap (kb + 2) cp ((frameL bd).take (kb + 2)) wT ((op_T.rd okB).take _) (by rw [List.length_take]; omega) (by omega)
          rw [show framesM ((frameL bd).take (kb + 2)) = (0, [], 0) by rw [← hlb]; exact frames_torn Hbl.out.1 Hbl.out.2] at HR
          have HR2 := Lib.hid HR
          clear HR op_T
          obtain ⟨t0, t1, _, _⟩ := ap_T.two
          clear ap_T
          have ew : IntKind.i64.wrap ((kb : Int) + 3 - 1) = (kb : Int) + 2 := by rw [IntWalk.i64_in _ (by omega)]; omega
          go_wp2_with fail
          refine HR2.out.mono ?_
          rintro e wU ⟨A8, k8, c8, p8, rfl, o8, q8, hb8⟩
          clear HR2
          have hk8' := Ow.len okBB o8.1
          have hp8 := congrArg List.length q8
          rw [List.length_map] at hp8
          obtain rfl : k8 = 0 := by simp only [List.length_nil] at hp8; omega
          have hB_U := hB_T.trans (hb8.mono hB_T.size)
          clear hb8 o8 q8 hp8 hk8'
          go_wp2_with fail
          go_ret
          exact ⟨rfl, hB_U⟩
      · rw [packFrameM_bad hbl] at ap_22
        dsimp only at ap_22
        clear hbl
        obtain ⟨ap0_22, ap1_22, _, _⟩ := ap_22.two
        go_wp2_with fail
        go_ret
        exact ⟨rfl, hB22⟩
  · obtain ⟨z, hz⟩ : ∃ z, z = (packM an sz).1 := ⟨_, rfl⟩
    rw [← hz] at hq aq_21
    have hq2 : (z == 0) = false := by rw [beq_eq_false_iff_ne]; exact hq
    clear hq hz
    obtain ⟨aq0_21, aq1_21, _, _⟩ := aq_21.two
    by_cases hd : nd ≤ 20000
    · obtain ⟨p, hp1, hp2, hp3, hp4⟩ := frames_back (d := dd) (by omega)
      have hz : (framesM dd).1 = 0 := by unfold framesM; rw [if_pos (by omega)]
      obtain ⟨bods, hbods⟩ : ∃ b, b = (framesM dd).2.1 := ⟨_, rfl⟩
      rw [hz, hp1] at af_21
      rw [← hbods] at hp3 hp4 qf
      have hfew := few bods
      rw [hp3, List.length_take] at hfew
      have hlb2 : bods.length = kw := by rw [← qf, List.length_map, hkf]
      have hkw : kw ≤ 20000 := by omega
      clear hz hp1 hbods hfew
      have Hq := Lib.hid qf
      have H3 := Lib.hid hp3
      have H4 := Lib.hid hp4
      clear qf hp3 hp4
      obtain ⟨af0_21, af1_21, af2_21, _, _, _⟩ := af_21.three
      go_wp2_with fail
      go_loopw [17, 18] (fun va vi wr => AllRel w21 bods kw va vi wr) (fun _ vi _ => kw - (intOf vi).toNat)
      case atStart => exact ⟨0, _, 0, 0, Nat.zero_le _, rfl, rfl, Ow.lit w21 [] #[] 0 (Nat.le_refl _) (by unfold maxLen; omega) rfl rfl, by omega, (Below.refl _ _).alloc (Nat.le_refl _) _⟩
      case round =>
        obtain ⟨i, A, L, cc, hi, rfl, rfl, how, hL, hbel⟩ := hrel
        have af_r := af_21.below hbel af_21.lt
        have aw_r := aw_21.below hbel aw_21.lt
        have ap_r := ap_21.below hbel ap_21.lt
        have of_r := of_21.below hbel (Nat.le_refl _)
        have ob_r := ob_21.below hbel (Nat.le_refl _)
        have op_r := op_21.below hbel (Nat.le_refl _)
        have ha_r := ha_21.lift hbel
        have rd_r := rd_21.lift hbel
        have hB_r := hB21.trans (hbel.mono hB21.size)
        clear hB21 rd_21 ha_21 ou_21 oy_21 ox_21 or_21 oq_21 op_21 ob_21 of_21 aq_21 ap_21 aw_21 af_21
        obtain ⟨y0, y1, y2, -, -, -⟩ := af_r.three
        have hLn := how.len okB
        by_cases hlt : i < kw
        · have hip : i < pf.length := by omega
          obtain ⟨b, hpi⟩ : ∃ b, pf[i]? = some b := ⟨_, List.getElem?_eq_getElem hip⟩
          obtain ⟨gg, x, hAf, -, hcx, hox⟩ := of_r.row hpi
          have hbi : bods[i]? = some b.1 := by rw [← Hq.out, List.getElem?_map, hpi]; rfl
          have hbl := H4.out b.1 (List.mem_of_getElem? hbi)
          have HP := implPackFrame x.A x.n x.c b.1 wr (hox.rd okB) (hox.len okB)
          rw [packFrameM_ok hbl] at HP
          have HP2 := Lib.hid HP
          have Hft := Lib.hid (flat_take bods hbi)
          have hfl := frameL_len b.1
          have Hbl := Lib.hid hbl
          clear HP hbi hpi hip hbl
          subst hAf
          go_wp2_with fail
          refine HP2.out.mono ?_
          rintro e w1 ⟨A5, k5, c5, rfl, o5, hb5⟩
          have o5l := o5.len okB
          have how5 := how.below hb5 (Nat.le_refl _)
          have hk5 : k5 ≤ 43 := by have := Hbl.out; simp only at o5l; omega
          clear HP2 hox hcx
          go_wp2_with (at_builtin; refine wpList_append_ow okB _ rfl (.tmp 142) (.tmp 149) _ rfl w21.heap.size info_u8 Try.underlying22 rfl A L cc _ rfl how5 A5 k5 c5 _ (frameL b.1) rfl (o5.rd okB) o5l (by unfold maxLen; omega) (by omega) (Nat.le_trans hbel.size hb5.size) ?_; intro A6 c6 w6 ow6 hg6 _)
          rw [← Hft.out] at ow6
          exact ⟨⟨i + 1, A6, L + k5, c6, by omega, by go_num, rfl, ow6, by omega, (hbel.trans (hb5.mono hbel.size)).grown hg6 (Nat.le_trans hbel.size hb5.size) (fun x hx => (how.lt x hx).1)⟩, by simp [intOf]; omega⟩
        · have hik : i = kw := by omega
          subst hik
          rw [List.take_of_length_le (by omega), H3.out] at how hLn
          have hsz : decide ((nd : Int) < (p : Int)) = false := decide_eq_false (by omega)
          have hpc : p ≤ cd := by omega
          have HL := lwSame A Ad L p cc cd (dd.take p) (dd.take p) wr (how.rd okB) (rd_r.take p) hLn (by rw [List.length_take]; omega)
          rw [decide_eq_true rfl] at HL
          have HL2 := Lib.hid HL
          clear HL hLn how hlt hbel
          go_wp2_with fail
          refine HL2.out.mono ?_
          rintro e w999 ⟨rfl, rfl⟩
          clear HL2
          by_cases hbl : 1 ≤ bd.length ∧ bd.length ≤ 40
          · rw [packFrameM_ok hbl] at ap_r op_r
            dsimp only at ap_r op_r
            have HR := implReadFrames Ap kp cp (frameL bd) wr (op_r.rd okB) (op_r.len okB) op_r.cap
            rw [frames_one hbl.1 hbl.2] at HR
            have HR2 := Lib.hid HR
            have Hbl := Lib.hid hbl
            clear HR hbl
            have hkp : kp = kb + 3 := by have := op_r.len okB; simp only [frameL_len] at this; omega
            subst hkp
            obtain ⟨ap0_21, ap1_21, _, _⟩ := ap_r.two
            go_wp2_with fail
            refine (HR2.out).mono ?_
            rintro e w22 ⟨A22, k22, c22, p22, rfl, o1, q22, hb22⟩
            have af_22 := af_r.below hb22 af_r.lt
            have aw_22 := aw_r.below hb22 aw_r.lt
            have ap_22 := ap_r.below hb22 ap_r.lt
            have of_22 := of_r.below hb22 (Nat.le_refl _)
            have ob_22 := ob_r.below hb22 (Nat.le_refl _)
            have op_22 := op_r.below hb22 (Nat.le_refl _)
            have S22 := Lib.hid hb22.size
            have hB22 := hB_r.trans (hb22.mono hB_r.size)
            have ha_22 := ha_r.lift hb22
            have rd_22 := rd_r.lift hb22
            clear S22 hb22 hB_r rd_r ha_r op_r ob_r of_r ap_r aw_r af_r
            have hk1 := Ow.len okBB o1.1
            have hp1 := congrArg List.length q22
            rw [List.length_map] at hp1
            obtain rfl : k22 = 1 := by simp only [List.length_singleton] at hp1; omega
            clear HR2
            have ao := At.new w22 27 #[.int .i64 0, .slice A22 1 c22, .int .i64 ((kb : Int) + 3)]
            have af_23 := af_22.alloc (.cells #[.int .i64 0, .slice A22 1 c22, .int .i64 ((kb : Int) + 3)] 27)
            have aw_23 := aw_22.alloc (.cells #[.int .i64 0, .slice A22 1 c22, .int .i64 ((kb : Int) + 3)] 27)
            have ap_23 := ap_22.alloc (.cells #[.int .i64 0, .slice A22 1 c22, .int .i64 ((kb : Int) + 3)] 27)
            have of_23 := of_22.alloc (.cells #[.int .i64 0, .slice A22 1 c22, .int .i64 ((kb : Int) + 3)] 27)
            have ob_23 := ob_22.alloc (.cells #[.int .i64 0, .slice A22 1 c22, .int .i64 ((kb : Int) + 3)] 27)
            have op_23 := op_22.alloc (.cells #[.int .i64 0, .slice A22 1 c22, .int .i64 ((kb : Int) + 3)] 27)
            have o1_23 := o1.alloc (.cells #[.int .i64 0, .slice A22 1 c22, .int .i64 ((kb : Int) + 3)] 27)
            have S23 := Lib.hid (show (w22.alloc (.cells #[.int .i64 0, .slice A22 1 c22, .int .i64 ((kb : Int) + 3)] 27)).heap.size = w22.heap.size + 1 by simp)
            have hB23 := hB22.alloc hB22.size (.cells #[.int .i64 0, .slice A22 1 c22, .int .i64 ((kb : Int) + 3)] 27)
            have ha_23 := ha_22.lift ((Below.refl w22.heap.size w22).alloc (Nat.le_refl _) (.cells #[.int .i64 0, .slice A22 1 c22, .int .i64 ((kb : Int) + 3)] 27))
            have rd_23 := rd_22.lift ((Below.refl w22.heap.size w22).alloc (Nat.le_refl _) (.cells #[.int .i64 0, .slice A22 1 c22, .int .i64 ((kb : Int) + 3)] 27))
            clear S23 hB22 rd_22 ha_22 o1 op_22 ob_22 of_22 ap_22 aw_22 af_22
            obtain ⟨pp, hpp⟩ : ∃ pp, p22[0]? = some pp := ⟨_, List.getElem?_eq_getElem (by omega)⟩
            have hpb : pp.1 = bd := by have := congrArg (fun t => t[0]?) q22; simp only [List.getElem?_map, hpp] at this; simpa using this
            obtain ⟨g1, x1, hA1, -, hcx, hox⟩ := o1_23.row hpp
            rw [hpb] at hox
            have HL := lwSame x1.A Ab x1.n kb x1.c cb bd bd (w22.alloc (.cells #[.int .i64 0, .slice A22 1 c22, .int .i64 ((kb : Int) + 3)] 27)) (hox.rd okB) (ob_23.rd okB) (hox.len okB) hlb
            rw [decide_eq_true rfl] at HL
            have HL2 := Lib.hid HL
            clear HL hox hpb hpp hp1 hk1 q22
            subst hA1
            obtain ⟨ap0_23, ap1_23, _, _⟩ := ap_23.two
            obtain ⟨ao0_23, ao1_23, ao2_23, _, _, _⟩ := ao.three
            go_wp2_with fail
            refine HL2.out.mono ?_
            rintro e w999 ⟨rfl, rfl⟩
            clear HL2 hcx
            have oe := Ow.lit (E := eB) (base := (w22.alloc (.cells #[.int .i64 0, .slice (some ⟨g1, 0, none⟩) 1 c22, .int .i64 ((kb : Int) + 3)] 27)).heap.size) (w22.alloc (.cells #[.int .i64 0, .slice (some ⟨g1, 0, none⟩) 1 c22, .int .i64 ((kb : Int) + 3)] 27)) [] #[] 0 (Nat.le_refl _) (by unfold maxLen; omega) rfl rfl
            rw [show (w22.alloc (.cells #[.int .i64 0, .slice (some ⟨g1, 0, none⟩) 1 c22, .int .i64 ((kb : Int) + 3)] 27)).heap.size = w22.heap.size + 1 by simp] at oe
            have apE := ap_23.alloc (.cells #[] 5)
            obtain ⟨apE0, apE1, _, _⟩ := apE.two
            have opA := op_23.alloc (.cells #[] 5)
            go_wp2_with (at_builtin; refine wpList_append_ow okB _ rfl (.tmp 192) (.tmp 194) _ rfl (w22.heap.size + 1) info_u8 Try.underlying22 rfl _ 0 0 [] rfl oe Ap (kb + 3) cp _ (frameL bd) rfl (opA.rd okB) (opA.len okB) (by unfold maxLen; omega) (by omega) (by simp) ?_; intro A6 c6 wA ow6 hg6 _)
            obtain ⟨gd, rfl, hgd, _⟩ := ow6.form (by omega)
            rw [List.nil_append, Nat.zero_add] at ow6
            have hlt0 := ap_23.lt
            have hne : gap ≠ gd := by rw [show (w22.alloc (.cells #[.int .i64 0, .slice (some ⟨g1, 0, none⟩) 1 c22, .int .i64 ((kb : Int) + 3)] 27)).heap.size = w22.heap.size + 1 by simp] at hlt0; omega
            have hge : (w22.alloc (.cells #[.int .i64 0, .slice (some ⟨g1, 0, none⟩) 1 c22, .int .i64 ((kb : Int) + 3)] 27)).heap.size ≤ gd := by simp; omega
            have hbA : Below (w22.alloc (.cells #[.int .i64 0, .slice (some ⟨g1, 0, none⟩) 1 c22, .int .i64 ((kb : Int) + 3)] 27)).heap.size (w22.alloc (.cells #[.int .i64 0, .slice (some ⟨g1, 0, none⟩) 1 c22, .int .i64 ((kb : Int) + 3)] 27)) wA := ((Below.refl _ _).alloc (Nat.le_refl _) _).grown hg6 (by simp) (fun x hx => by simp at hx; simp; omega)
            have ha_A := ha_23.lift hbA
            have haD : Rd eB wA.drew wA.drew.heap.size X l := ha_A
            have owD : Ow eB wA.drew _ _ _ _ _ := ow6
            have hf6 := ow6.len okB
            clear oe apE opA hg6 hgd hlt0 apE0 apE1 ow6 ha_A
            have Hge := Lib.hid hge
            clear hge
            go_wp2_with fail
            refine wp_region_fork [(0, false), (1, false), (2, false), (3, false), (4, false), (9, false), (5, true), (6, false), (7, false)] [(10, true), (11, false), (12, false), (13, false), (14, false), (15, true)] [(11, false), (12, false), (8, true), (13, false), (14, false), (15, true)] 8 10 (by kernel_rfl) (by kernel_rfl) (fun _ _ _ _ _ h => h) ?_
            simp only [mixOps, List.map_cons, List.map_nil, List.getElem?_cons_succ, List.getElem?_cons_zero, Option.getD_some]
            repeat (first
              | (refine fork_skip (by rfl) ?_
                 (try simp only [Act.put, List.setIfInBounds_toArray, List.set_cons_zero, List.set_cons_succ]))
              | (refine fork_pure (v := ?_) (by rfl) (fun u => ?_) ?_
                 rotate_left
                 · go_simp
                   (with_reducible rfl)
                 (try simp only [Act.put, List.setIfInBounds_toArray, List.set_cons_zero, List.set_cons_succ])))
            refine fork_call (by rfl) (fun K hK => ?_)
            go_simp
            have ew : IntKind.i64.wrap ((kb : Int) + 3 - 1) = (kb : Int) + 2 := by rw [IntWalk.i64_in _ (by omega)]; omega
            refine (lwAt X n c l 2 _ _ haD Hn.out (by omega) hm (by omega) (by omega)).mono ?_
            rintro e wB ⟨r1, d1, rfl, hr1, hwB⟩
            have hbB : Below wA.drew.heap.size wA.drew wB := by rw [hwB]; exact bdrewN (Below.refl _ _) _
            clear hwB
            obtain ⟨i, rfl⟩ := Int.eq_ofNat_of_zero_le (hr1 (by omega)).1
            obtain ⟨j, hj⟩ : ∃ j, j = i + 1 := ⟨_, rfl⟩
            have hi : j < kb + 3 := by have := (hr1 (by omega)).2; omega
            have hiI : (j : Int) < (kb : Int) + 3 := by omega
            have e1 : IntKind.i64.wrap (1 + (i : Int)) = (j : Int) := by rw [IntWalk.i64_in _ (by omega)]; omega
            clear hr1 ew
            have owE := owD.below hbB (Nat.le_refl _)
            have haE := haD.lift hbB
            have hbE := (hbA.drew).trans (hbB.mono hbA.size)
            clear owD haD hbA hbB
            obtain ⟨x, hx⟩ : ∃ x, (frameL bd)[j]? = some x := ⟨_, List.getElem?_eq_getElem (by omega)⟩
            have ca := owE.byteAt hx
            have Hx := Lib.hid hx
            have Hj := Lib.hid hj
            clear hx hj
            refine hK _ _ ?_
            clear hK K
            (try simp only [Act.put, List.setIfInBounds_toArray, List.set_cons_zero, List.set_cons_succ])
            repeat (first
              | (refine fork_skip (by rfl) ?_
                 (try simp only [Act.put, List.setIfInBounds_toArray, List.set_cons_zero, List.set_cons_succ]))
              | (refine fork_pure (v := ?_) (by rfl) (fun u => ?_) ?_
                 rotate_left
                 · go_simp
                   (with_reducible rfl)
                 (try simp only [Act.put, List.setIfInBounds_toArray, List.set_cons_zero, List.set_cons_succ])))
            refine fork_nil ⟨?_, ?_⟩
            · refine fork_call (by rfl) (fun K hK => ?_)
              go_simp
              refine hK _ _ ?_
              clear hK K
              (try simp only [Act.put, List.setIfInBounds_toArray, List.set_cons_zero, List.set_cons_succ])
              refine fork_call (by rfl) (fun K hK => ?_)
              go_simp
              refine (lwAt X n c l 3 8 _ haE Hn.out (by omega) hm (by omega) (by omega)).mono ?_
              rintro e wC ⟨r2, d2, rfl, hr2, hwC⟩
              have hbC : Below wB.heap.size wB wC := by rw [hwC]; exact bdrewN (Below.refl _ _) _
              clear hwC
              obtain ⟨k, rfl⟩ := Int.eq_ofNat_of_zero_le (hr2 (by omega)).1
              have hk8 : k < 8 := by have := (hr2 (by omega)).2; omega
              obtain ⟨y, hy, hsh⟩ := bit8 k hk8
              have Hy := Lib.hid hy
              clear hr2 hy
              have hxor := xor_u8 x y
              have owF := owE.below hbC (Nat.le_refl _)
              have hbF := hbE.trans (hbC.mono hbE.size)
              clear hbC hbE haE owE
              have caF := owF.byteAt Hx.out
              have faF := owF.frozenAt j
              have Hset := Lib.hid (owF.byteSet hi (x ^^^ y))
              refine hK _ _ ?_
              clear hK K
              (try simp only [Act.put, List.setIfInBounds_toArray, List.set_cons_zero, List.set_cons_succ])
              repeat (first
                | (refine fork_skip (by rfl) ?_
                   (try simp only [Act.put, List.setIfInBounds_toArray, List.set_cons_zero, List.set_cons_succ]))
                | (refine fork_pure (v := ?_) (by rfl) (fun u => ?_) ?_
                   rotate_left
                   · go_simp
                     (with_reducible rfl)
                   (try simp only [Act.put, List.setIfInBounds_toArray, List.set_cons_zero, List.set_cons_succ])))
              refine fork_call (by rfl) (fun K hK => ?_)
              go_simp
              refine hK _ _ ?_
              refine fork_nil ?_
              rw [← UInt8.toNat_xor]
              clear hK K hsh hxor caF faF
              have hbS := hbF.grown Hset.out.2 hbF.size (by simp only [Option.some.injEq]; intro x hx; have := Hge.out; omega)
              have HR := implReadFrames (some ⟨gd, 0, none⟩) (kb + 3) c6 _ _ (Hset.out.1.rd okB) (Hset.out.1.len okB) Hset.out.1.cap
              rw [show framesM ((frameL bd).set j (x ^^^ y)) = (0, [], 0) by have hq := Hj.out; subst hq; exact frames_turned Hbl.out.1 Hbl.out.2 Hx.out (xor_other Hy.out)] at HR
              clear hbF owF Hset
              have HR2 := Lib.hid HR
              clear HR
              generalize wC.setCell ⟨gd, j, none⟩ (.int .u8 ((x ^^^ y).toNat : Int)) = wS at *
              have hB_S := hB23.trans (hbS.mono hB23.size)
              have ap_S := ap_23.below hbS ap_23.lt
              have op_S := op_23.below hbS (Nat.le_refl _)
              clear hbS hB23 rd_23 ha_23 o1_23 op_23 ob_23 of_23 ao ap_23 aw_23 af_23
              go_wp2_with fail
              refine HR2.out.mono ?_
              rintro e wT ⟨A7, k7, c7, p7, rfl, o7, q7, hb7⟩
              clear HR2
              have hk7 := Ow.len okBB o7.1
              have hp7 := congrArg List.length q7
              rw [List.length_map] at hp7
              obtain rfl : k7 = 0 := by simp only [List.length_nil] at hp7; omega
              have ap_T := ap_S.below hb7 ap_S.lt
              have op_T := op_S.below hb7 (Nat.le_refl _)
              have hB_T := hB_S.trans (hb7.mono hB_S.size)
              clear hb7 o7 q7 hp7 hk7 ap_S op_S hB_S
              have hcp := op_T.cap
              have HR := implReadFrames Ap (kb + 2) cp ((frameL bd).take (kb + 2)) wT ((op_T.rd okB).take _) (by rw [List.length_take]; omega) (by omega)
              rw [show framesM ((frameL bd).take (kb + 2)) = (0, [], 0) by rw [← hlb]; exact frames_torn Hbl.out.1 Hbl.out.2] at HR
              have HR2 := Lib.hid HR
              clear HR op_T
              obtain ⟨t0, t1, _, _⟩ := ap_T.two
              clear ap_T
              have ew : IntKind.i64.wrap ((kb : Int) + 3 - 1) = (kb : Int) + 2 := by rw [IntWalk.i64_in _ (by omega)]; omega
              go_wp2_with fail
              refine HR2.out.mono ?_
              rintro e wU ⟨A8, k8, c8, p8, rfl, o8, q8, hb8⟩
              clear HR2
              have hk8' := Ow.len okBB o8.1
              have hp8 := congrArg List.length q8
              rw [List.length_map] at hp8
              obtain rfl : k8 = 0 := by simp only [List.length_nil] at hp8; omega
              have hB_U := hB_T.trans (hb8.mono hB_T.size)
              clear hb8 o8 q8 hp8 hk8'
              go_wp2_with fail
              go_ret
              exact ⟨rfl, hB_U⟩
            · refine fork_call (by rfl) (fun K hK => ?_)
              go_simp
              refine (lwAt X n c l 3 8 _ haE Hn.out (by omega) hm (by omega) (by omega)).mono ?_
              rintro e wC ⟨r2, d2, rfl, hr2, hwC⟩
              have hbC : Below wB.heap.size wB wC := by rw [hwC]; exact bdrewN (Below.refl _ _) _
              clear hwC
              obtain ⟨k, rfl⟩ := Int.eq_ofNat_of_zero_le (hr2 (by omega)).1
              have hk8 : k < 8 := by have := (hr2 (by omega)).2; omega
              obtain ⟨y, hy, hsh⟩ := bit8 k hk8
              have Hy := Lib.hid hy
              clear hr2 hy
              have hxor := xor_u8 x y
              have owF := owE.below hbC (Nat.le_refl _)
              have hbF := hbE.trans (hbC.mono hbE.size)
              clear hbC hbE haE owE
              have caF := owF.byteAt Hx.out
              have faF := owF.frozenAt j
              have Hset := Lib.hid (owF.byteSet hi (x ^^^ y))
              refine hK _ _ ?_
              clear hK K
              (try simp only [Act.put, List.setIfInBounds_toArray, List.set_cons_zero, List.set_cons_succ])
              repeat (first
                | (refine fork_skip (by rfl) ?_
                   (try simp only [Act.put, List.setIfInBounds_toArray, List.set_cons_zero, List.set_cons_succ]))
                | (refine fork_pure (v := ?_) (by rfl) (fun u => ?_) ?_
                   rotate_left
                   · go_simp
                     (with_reducible rfl)
                   (try simp only [Act.put, List.setIfInBounds_toArray, List.set_cons_zero, List.set_cons_succ])))
              refine fork_call (by rfl) (fun K hK => ?_)
              go_simp
              refine hK _ _ ?_
              clear hK K
              (try simp only [Act.put, List.setIfInBounds_toArray, List.set_cons_zero, List.set_cons_succ])
              repeat (first
                | (refine fork_skip (by rfl) ?_
                   (try simp only [Act.put, List.setIfInBounds_toArray, List.set_cons_zero, List.set_cons_succ]))
                | (refine fork_pure (v := ?_) (by rfl) (fun u => ?_) ?_
                   rotate_left
                   · go_simp
                     (with_reducible rfl)
                   (try simp only [Act.put, List.setIfInBounds_toArray, List.set_cons_zero, List.set_cons_succ])))
              refine fork_call (by rfl) (fun K hK => ?_)
              go_simp
              refine hK _ _ ?_
              refine fork_nil ?_
              rw [← UInt8.toNat_xor]
              clear hK K hsh hxor caF faF
              have hbS := hbF.grown Hset.out.2 hbF.size (by simp only [Option.some.injEq]; intro x hx; have := Hge.out; omega)
              have HR := implReadFrames (some ⟨gd, 0, none⟩) (kb + 3) c6 _ _ (Hset.out.1.rd okB) (Hset.out.1.len okB) Hset.out.1.cap
              rw [show framesM ((frameL bd).set j (x ^^^ y)) = (0, [], 0) by have hq := Hj.out; subst hq; exact frames_turned Hbl.out.1 Hbl.out.2 Hx.out (xor_other Hy.out)] at HR
              clear hbF owF Hset
              have HR2 := Lib.hid HR
              clear HR
              generalize wC.setCell ⟨gd, j, none⟩ (.int .u8 ((x ^^^ y).toNat : Int)) = wS at *
              have hB_S := hB23.trans (hbS.mono hB23.size)
              have ap_S := ap_23.below hbS ap_23.lt
              have op_S := op_23.below hbS (Nat.le_refl _)
              clear hbS hB23 rd_23 ha_23 o1_23 op_23 ob_23 of_23 ao ap_23 aw_23 af_23
              go_wp2_with fail
              refine HR2.out.mono ?_
              rintro e wT ⟨A7, k7, c7, p7, rfl, o7, q7, hb7⟩
              clear HR2
              have hk7 := Ow.len okBB o7.1
              have hp7 := congrArg List.length q7
              rw [List.length_map] at hp7
              obtain rfl : k7 = 0 := by simp only [List.length_nil] at hp7; omega
              have ap_T := ap_S.below hb7 ap_S.lt
              have op_T := op_S.below hb7 (Nat.le_refl _)
              have hB_T := hB_S.trans (hb7.mono hB_S.size)
              clear hb7 o7 q7 hp7 hk7 ap_S op_S hB_S
              have hcp := op_T.cap
              have HR := implReadFrames Ap (kb + 2) cp ((frameL bd).take (kb + 2)) wT ((op_T.rd okB).take _) (by rw [List.length_take]; omega) (by omega)
              rw [show framesM ((frameL bd).take (kb + 2)) = (0, [], 0) by rw [← hlb]; exact frames_torn Hbl.out.1 Hbl.out.2] at HR
              have HR2 := Lib.hid HR
              clear HR op_T
              obtain ⟨t0, t1, _, _⟩ := ap_T.two
              clear ap_T
              have ew : IntKind.i64.wrap ((kb : Int) + 3 - 1) = (kb : Int) + 2 := by rw [IntWalk.i64_in _ (by omega)]; omega
              go_wp2_with fail
              refine HR2.out.mono ?_
              rintro e wU ⟨A8, k8, c8, p8, rfl, o8, q8, hb8⟩
              clear HR2
              have hk8' := Ow.len okBB o8.1
              have hp8 := congrArg List.length q8
              rw [List.length_map] at hp8
              obtain rfl : k8 = 0 := by simp only [List.length_nil] at hp8; omega
              have hB_U := hB_T.trans (hb8.mono hB_T.size)
              clear hb8 o8 q8 hp8 hk8'
              go_wp2_with fail
              go_ret
              exact ⟨rfl, hB_U⟩
          · rw [packFrameM_bad hbl] at ap_r
            dsimp only at ap_r
            clear hbl
            obtain ⟨ap0_21, ap1_21, _, _⟩ := ap_r.two
            go_wp2_with fail
            go_ret
            exact ⟨rfl, hB_r⟩
    · have hz : (framesM dd).1 = 2 := by unfold framesM; rw [if_neg (by omega)]
      rw [hz] at af_21
      clear hz
      obtain ⟨af0_21, af1_21, af2_21, _, _, _⟩ := af_21.three
      by_cases hbl : 1 ≤ bd.length ∧ bd.length ≤ 40
      · rw [packFrameM_ok hbl] at ap_21 op_21
        dsimp only at ap_21 op_21
        have HR := implReadFrames Ap kp cp (frameL bd) w21 (op_21.rd okB) (op_21.len okB) op_21.cap
        rw [frames_one hbl.1 hbl.2] at HR
        have HR2 := Lib.hid HR
        have Hbl := Lib.hid hbl
        clear HR hbl
        have hkp : kp = kb + 3 := by have := op_21.len okB; simp only [frameL_len] at this; omega
        subst hkp
        obtain ⟨ap0_21, ap1_21, _, _⟩ := ap_21.two
        go_wp2_with fail
        refine (HR2.out).mono ?_
        rintro e w22 ⟨A22, k22, c22, p22, rfl, o1, q22, hb22⟩
        have af_22 := af_21.below hb22 af_21.lt
        have aw_22 := aw_21.below hb22 aw_21.lt
        have ap_22 := ap_21.below hb22 ap_21.lt
        have aq_22 := aq_21.below hb22 aq_21.lt
        have of_22 := of_21.below hb22 (Nat.le_refl _)
        have ob_22 := ob_21.below hb22 (Nat.le_refl _)
        have op_22 := op_21.below hb22 (Nat.le_refl _)
        have oq_22 := oq_21.below hb22 (Nat.le_refl _)
        have or_22 := or_21.below hb22 (Nat.le_refl _)
        have ox_22 := ox_21.below hb22 (Nat.le_refl _)
        have oy_22 := oy_21.below hb22 (Nat.le_refl _)
        have ou_22 := ou_21.below hb22 (Nat.le_refl _)
        have S22 := Lib.hid hb22.size
        have hB22 := hB21.trans (hb22.mono hB21.size)
        have ha_22 := ha_21.lift hb22
        have rd_22 := rd_21.lift hb22
        clear S22 hb22 hB21 rd_21 ha_21 ou_21 oy_21 ox_21 or_21 oq_21 op_21 ob_21 of_21 aq_21 ap_21 aw_21 af_21
        have hk1 := Ow.len okBB o1.1
        have hp1 := congrArg List.length q22
        rw [List.length_map] at hp1
        obtain rfl : k22 = 1 := by simp only [List.length_singleton] at hp1; omega
        clear HR2
        have ao := At.new w22 27 #[.int .i64 0, .slice A22 1 c22, .int .i64 ((kb : Int) + 3)]
        have af_23 := af_22.alloc (.cells #[.int .i64 0, .slice A22 1 c22, .int .i64 ((kb : Int) + 3)] 27)
        have aw_23 := aw_22.alloc (.cells #[.int .i64 0, .slice A22 1 c22, .int .i64 ((kb : Int) + 3)] 27)
        have ap_23 := ap_22.alloc (.cells #[.int .i64 0, .slice A22 1 c22, .int .i64 ((kb : Int) + 3)] 27)
        have aq_23 := aq_22.alloc (.cells #[.int .i64 0, .slice A22 1 c22, .int .i64 ((kb : Int) + 3)] 27)
        have of_23 := of_22.alloc (.cells #[.int .i64 0, .slice A22 1 c22, .int .i64 ((kb : Int) + 3)] 27)
        have ob_23 := ob_22.alloc (.cells #[.int .i64 0, .slice A22 1 c22, .int .i64 ((kb : Int) + 3)] 27)
        have op_23 := op_22.alloc (.cells #[.int .i64 0, .slice A22 1 c22, .int .i64 ((kb : Int) + 3)] 27)
        have oq_23 := oq_22.alloc (.cells #[.int .i64 0, .slice A22 1 c22, .int .i64 ((kb : Int) + 3)] 27)
        have or_23 := or_22.alloc (.cells #[.int .i64 0, .slice A22 1 c22, .int .i64 ((kb : Int) + 3)] 27)
        have ox_23 := ox_22.alloc (.cells #[.int .i64 0, .slice A22 1 c22, .int .i64 ((kb : Int) + 3)] 27)
        have oy_23 := oy_22.alloc (.cells #[.int .i64 0, .slice A22 1 c22, .int .i64 ((kb : Int) + 3)] 27)
        have ou_23 := ou_22.alloc (.cells #[.int .i64 0, .slice A22 1 c22, .int .i64 ((kb : Int) + 3)] 27)
        have o1_23 := o1.alloc (.cells #[.int .i64 0, .slice A22 1 c22, .int .i64 ((kb : Int) + 3)] 27)
        have S23 := Lib.hid (show (w22.alloc (.cells #[.int .i64 0, .slice A22 1 c22, .int .i64 ((kb : Int) + 3)] 27)).heap.size = w22.heap.size + 1 by simp)
        have hB23 := hB22.alloc hB22.size (.cells #[.int .i64 0, .slice A22 1 c22, .int .i64 ((kb : Int) + 3)] 27)
        have ha_23 := ha_22.lift ((Below.refl w22.heap.size w22).alloc (Nat.le_refl _) (.cells #[.int .i64 0, .slice A22 1 c22, .int .i64 ((kb : Int) + 3)] 27))
        have rd_23 := rd_22.lift ((Below.refl w22.heap.size w22).alloc (Nat.le_refl _) (.cells #[.int .i64 0, .slice A22 1 c22, .int .i64 ((kb : Int) + 3)] 27))
        clear S23 hB22 rd_22 ha_22 o1 ou_22 oy_22 ox_22 or_22 oq_22 op_22 ob_22 of_22 aq_22 ap_22 aw_22 af_22
        obtain ⟨pp, hpp⟩ : ∃ pp, p22[0]? = some pp := ⟨_, List.getElem?_eq_getElem (by omega)⟩
        have hpb : pp.1 = bd := by have := congrArg (fun t => t[0]?) q22; simp only [List.getElem?_map, hpp] at this; simpa using this
        obtain ⟨g1, x1, hA1, -, hcx, hox⟩ := o1_23.row hpp
        rw [hpb] at hox
        have HL := lwSame x1.A Ab x1.n kb x1.c cb bd bd (w22.alloc (.cells #[.int .i64 0, .slice A22 1 c22, .int .i64 ((kb : Int) + 3)] 27)) (hox.rd okB) (ob_23.rd okB) (hox.len okB) hlb
        rw [decide_eq_true rfl] at HL
        have HL2 := Lib.hid HL
        clear HL hox hpb hpp hp1 hk1 q22
        subst hA1
        obtain ⟨ap0_23, ap1_23, _, _⟩ := ap_23.two
        obtain ⟨ao0_23, ao1_23, ao2_23, _, _, _⟩ := ao.three
        go_wp2_with fail
        refine HL2.out.mono ?_
        rintro e w999 ⟨rfl, rfl⟩
        clear HL2 hcx
        have oe := Ow.lit (E := eB) (base := (w22.alloc (.cells #[.int .i64 0, .slice (some ⟨g1, 0, none⟩) 1 c22, .int .i64 ((kb : Int) + 3)] 27)).heap.size) (w22.alloc (.cells #[.int .i64 0, .slice (some ⟨g1, 0, none⟩) 1 c22, .int .i64 ((kb : Int) + 3)] 27)) [] #[] 0 (Nat.le_refl _) (by unfold maxLen; omega) rfl rfl
        rw [show (w22.alloc (.cells #[.int .i64 0, .slice (some ⟨g1, 0, none⟩) 1 c22, .int .i64 ((kb : Int) + 3)] 27)).heap.size = w22.heap.size + 1 by simp] at oe
        have apE := ap_23.alloc (.cells #[] 5)
        obtain ⟨apE0, apE1, _, _⟩ := apE.two
        have opA := op_23.alloc (.cells #[] 5)
        go_wp2_with (at_builtin; refine wpList_append_ow okB _ rfl (.tmp 192) (.tmp 194) _ rfl (w22.heap.size + 1) info_u8 Try.underlying22 rfl _ 0 0 [] rfl oe Ap (kb + 3) cp _ (frameL bd) rfl (opA.rd okB) (opA.len okB) (by unfold maxLen; omega) (by omega) (by simp) ?_; intro A6 c6 wA ow6 hg6 _)
        obtain ⟨gd, rfl, hgd, _⟩ := ow6.form (by omega)
        rw [List.nil_append, Nat.zero_add] at ow6
        have hlt0 := ap_23.lt
        have hne : gap ≠ gd := by rw [show (w22.alloc (.cells #[.int .i64 0, .slice (some ⟨g1, 0, none⟩) 1 c22, .int .i64 ((kb : Int) + 3)] 27)).heap.size = w22.heap.size + 1 by simp] at hlt0; omega
        have hge : (w22.alloc (.cells #[.int .i64 0, .slice (some ⟨g1, 0, none⟩) 1 c22, .int .i64 ((kb : Int) + 3)] 27)).heap.size ≤ gd := by simp; omega
        have hbA : Below (w22.alloc (.cells #[.int .i64 0, .slice (some ⟨g1, 0, none⟩) 1 c22, .int .i64 ((kb : Int) + 3)] 27)).heap.size (w22.alloc (.cells #[.int .i64 0, .slice (some ⟨g1, 0, none⟩) 1 c22, .int .i64 ((kb : Int) + 3)] 27)) wA := ((Below.refl _ _).alloc (Nat.le_refl _) _).grown hg6 (by simp) (fun x hx => by simp at hx; simp; omega)
        have ha_A := ha_23.lift hbA
        have haD : Rd eB wA.drew wA.drew.heap.size X l := ha_A
        have owD : Ow eB wA.drew _ _ _ _ _ := ow6
        have hf6 := ow6.len okB
        clear oe apE opA hg6 hgd hlt0 apE0 apE1 ow6 ha_A
        have Hge := Lib.hid hge
        clear hge
        go_wp2_with fail
        refine wp_region_fork [(0, false), (1, false), (2, false), (3, false), (4, false), (9, false), (5, true), (6, false), (7, false)] [(10, true), (11, false), (12, false), (13, false), (14, false), (15, true)] [(11, false), (12, false), (8, true), (13, false), (14, false), (15, true)] 8 10 (by kernel_rfl) (by kernel_rfl) (fun _ _ _ _ _ h => h) ?_
        simp only [mixOps, List.map_cons, List.map_nil, List.getElem?_cons_succ, List.getElem?_cons_zero, Option.getD_some]
        repeat (first
          | (refine fork_skip (by rfl) ?_
             (try simp only [Act.put, List.setIfInBounds_toArray, List.set_cons_zero, List.set_cons_succ]))
          | (refine fork_pure (v := ?_) (by rfl) (fun u => ?_) ?_
             rotate_left
             · go_simp
               (with_reducible rfl)
             (try simp only [Act.put, List.setIfInBounds_toArray, List.set_cons_zero, List.set_cons_succ])))
        refine fork_call (by rfl) (fun K hK => ?_)
        go_simp
        have ew : IntKind.i64.wrap ((kb : Int) + 3 - 1) = (kb : Int) + 2 := by rw [IntWalk.i64_in _ (by omega)]; omega
        refine (lwAt X n c l 2 _ _ haD Hn.out (by omega) hm (by omega) (by omega)).mono ?_
        rintro e wB ⟨r1, d1, rfl, hr1, hwB⟩
        have hbB : Below wA.drew.heap.size wA.drew wB := by rw [hwB]; exact bdrewN (Below.refl _ _) _
        clear hwB
        obtain ⟨i, rfl⟩ := Int.eq_ofNat_of_zero_le (hr1 (by omega)).1
        obtain ⟨j, hj⟩ : ∃ j, j = i + 1 := ⟨_, rfl⟩
        have hi : j < kb + 3 := by have := (hr1 (by omega)).2; omega
        have hiI : (j : Int) < (kb : Int) + 3 := by omega
        have e1 : IntKind.i64.wrap (1 + (i : Int)) = (j : Int) := by rw [IntWalk.i64_in _ (by omega)]; omega
        clear hr1 ew
        have owE := owD.below hbB (Nat.le_refl _)
        have haE := haD.lift hbB
        have hbE := (hbA.drew).trans (hbB.mono hbA.size)
        clear owD haD hbA hbB
        obtain ⟨x, hx⟩ : ∃ x, (frameL bd)[j]? = some x := ⟨_, List.getElem?_eq_getElem (by omega)⟩
        have ca := owE.byteAt hx
        have Hx := Lib.hid hx
        have Hj := Lib.hid hj
        clear hx hj
        refine hK _ _ ?_
        clear hK K
        (try simp only [Act.put, List.setIfInBounds_toArray, List.set_cons_zero, List.set_cons_succ])
        repeat (first
          | (refine fork_skip (by rfl) ?_
             (try simp only [Act.put, List.setIfInBounds_toArray, List.set_cons_zero, List.set_cons_succ]))
          | (refine fork_pure (v := ?_) (by rfl) (fun u => ?_) ?_
             rotate_left
             · go_simp
               (with_reducible rfl)
             (try simp only [Act.put, List.setIfInBounds_toArray, List.set_cons_zero, List.set_cons_succ])))
        refine fork_nil ⟨?_, ?_⟩
        · refine fork_call (by rfl) (fun K hK => ?_)
          go_simp
          refine hK _ _ ?_
          clear hK K
          (try simp only [Act.put, List.setIfInBounds_toArray, List.set_cons_zero, List.set_cons_succ])
          refine fork_call (by rfl) (fun K hK => ?_)
          go_simp
          refine (lwAt X n c l 3 8 _ haE Hn.out (by omega) hm (by omega) (by omega)).mono ?_
          rintro e wC ⟨r2, d2, rfl, hr2, hwC⟩
          have hbC : Below wB.heap.size wB wC := by rw [hwC]; exact bdrewN (Below.refl _ _) _
          clear hwC
          obtain ⟨k, rfl⟩ := Int.eq_ofNat_of_zero_le (hr2 (by omega)).1
          have hk8 : k < 8 := by have := (hr2 (by omega)).2; omega
          obtain ⟨y, hy, hsh⟩ := bit8 k hk8
          have Hy := Lib.hid hy
          clear hr2 hy
          have hxor := xor_u8 x y
          have owF := owE.below hbC (Nat.le_refl _)
          have hbF := hbE.trans (hbC.mono hbE.size)
          clear hbC hbE haE owE
          have caF := owF.byteAt Hx.out
          have faF := owF.frozenAt j
          have Hset := Lib.hid (owF.byteSet hi (x ^^^ y))
          refine hK _ _ ?_
          clear hK K
          (try simp only [Act.put, List.setIfInBounds_toArray, List.set_cons_zero, List.set_cons_succ])
          repeat (first
            | (refine fork_skip (by rfl) ?_
               (try simp only [Act.put, List.setIfInBounds_toArray, List.set_cons_zero, List.set_cons_succ]))
            | (refine fork_pure (v := ?_) (by rfl) (fun u => ?_) ?_
               rotate_left
               · go_simp
                 (with_reducible rfl)
               (try simp only [Act.put, List.setIfInBounds_toArray, List.set_cons_zero, List.set_cons_succ])))
          refine fork_call (by rfl) (fun K hK => ?_)
          go_simp
          refine hK _ _ ?_
          refine fork_nil ?_
          rw [← UInt8.toNat_xor]
          clear hK K hsh hxor caF faF
          have hbS := hbF.grown Hset.out.2 hbF.size (by simp only [Option.some.injEq]; intro x hx; have := Hge.out; omega)
          have HR := implReadFrames (some ⟨gd, 0, none⟩) (kb + 3) c6 _ _ (Hset.out.1.rd okB) (Hset.out.1.len okB) Hset.out.1.cap
          rw [show framesM ((frameL bd).set j (x ^^^ y)) = (0, [], 0) by have hq := Hj.out; subst hq; exact frames_turned Hbl.out.1 Hbl.out.2 Hx.out (xor_other Hy.out)] at HR
          clear hbF owF Hset
          have HR2 := Lib.hid HR
          clear HR
          generalize wC.setCell ⟨gd, j, none⟩ (.int .u8 ((x ^^^ y).toNat : Int)) = wS at *
          have hB_S := hB23.trans (hbS.mono hB23.size)
          have ap_S := ap_23.below hbS ap_23.lt
          have op_S := op_23.below hbS (Nat.le_refl _)
          clear hbS hB23 rd_23 ha_23 o1_23 ou_23 oy_23 ox_23 or_23 oq_23 op_23 ob_23 of_23 ao aq_23 ap_23 aw_23 af_23
          go_wp2_with fail
          refine HR2.out.mono ?_
          rintro e wT ⟨A7, k7, c7, p7, rfl, o7, q7, hb7⟩
          clear HR2
          have hk7 := Ow.len okBB o7.1
          have hp7 := congrArg List.length q7
          rw [List.length_map] at hp7
          obtain rfl : k7 = 0 := by simp only [List.length_nil] at hp7; omega
          have ap_T := ap_S.below hb7 ap_S.lt
          have op_T := op_S.below hb7 (Nat.le_refl _)
          have hB_T := hB_S.trans (hb7.mono hB_S.size)
          clear hb7 o7 q7 hp7 hk7 ap_S op_S hB_S
          have hcp := op_T.cap
          have HR := implReadFrames Ap (kb + 2) cp ((frameL bd).take (kb + 2)) wT ((op_T.rd okB).take _) (by rw [List.length_take]; omega) (by omega)
          rw [show framesM ((frameL bd).take (kb + 2)) = (0, [], 0) by rw [← hlb]; exact frames_torn Hbl.out.1 Hbl.out.2] at HR
          have HR2 := Lib.hid HR
          clear HR op_T
          obtain ⟨t0, t1, _, _⟩ := ap_T.two
          clear ap_T
          have ew : IntKind.i64.wrap ((kb : Int) + 3 - 1) = (kb : Int) + 2 := by rw [IntWalk.i64_in _ (by omega)]; omega
          go_wp2_with fail
          refine HR2.out.mono ?_
          rintro e wU ⟨A8, k8, c8, p8, rfl, o8, q8, hb8⟩
          clear HR2
          have hk8' := Ow.len okBB o8.1
          have hp8 := congrArg List.length q8
          rw [List.length_map] at hp8
          obtain rfl : k8 = 0 := by simp only [List.length_nil] at hp8; omega
          have hB_U := hB_T.trans (hb8.mono hB_T.size)
          clear hb8 o8 q8 hp8 hk8'
          go_wp2_with fail
          go_ret
          exact ⟨rfl, hB_U⟩
        · refine fork_call (by rfl) (fun K hK => ?_)
          go_simp
          refine (lwAt X n c l 3 8 _ haE Hn.out (by omega) hm (by omega) (by omega)).mono ?_
          rintro e wC ⟨r2, d2, rfl, hr2, hwC⟩
          have hbC : Below wB.heap.size wB wC := by rw [hwC]; exact bdrewN (Below.refl _ _) _
          clear hwC
          obtain ⟨k, rfl⟩ := Int.eq_ofNat_of_zero_le (hr2 (by omega)).1
          have hk8 : k < 8 := by have := (hr2 (by omega)).2; omega
          obtain ⟨y, hy, hsh⟩ := bit8 k hk8
          have Hy := Lib.hid hy
          clear hr2 hy
          have hxor := xor_u8 x y
          have owF := owE.below hbC (Nat.le_refl _)
          have hbF := hbE.trans (hbC.mono hbE.size)
          clear hbC hbE haE owE
          have caF := owF.byteAt Hx.out
          have faF := owF.frozenAt j
          have Hset := Lib.hid (owF.byteSet hi (x ^^^ y))
          refine hK _ _ ?_
          clear hK K
          (try simp only [Act.put, List.setIfInBounds_toArray, List.set_cons_zero, List.set_cons_succ])
          repeat (first
            | (refine fork_skip (by rfl) ?_
               (try simp only [Act.put, List.setIfInBounds_toArray, List.set_cons_zero, List.set_cons_succ]))
            | (refine fork_pure (v := ?_) (by rfl) (fun u => ?_) ?_
               rotate_left
               · go_simp
                 (with_reducible rfl)
               (try simp only [Act.put, List.setIfInBounds_toArray, List.set_cons_zero, List.set_cons_succ])))
          refine fork_call (by rfl) (fun K hK => ?_)
          go_simp
          refine hK _ _ ?_
          clear hK K
          (try simp only [Act.put, List.setIfInBounds_toArray, List.set_cons_zero, List.set_cons_succ])
          repeat (first
            | (refine fork_skip (by rfl) ?_
               (try simp only [Act.put, List.setIfInBounds_toArray, List.set_cons_zero, List.set_cons_succ]))
            | (refine fork_pure (v := ?_) (by rfl) (fun u => ?_) ?_
               rotate_left
               · go_simp
                 (with_reducible rfl)
               (try simp only [Act.put, List.setIfInBounds_toArray, List.set_cons_zero, List.set_cons_succ])))
          refine fork_call (by rfl) (fun K hK => ?_)
          go_simp
          refine hK _ _ ?_
          refine fork_nil ?_
          rw [← UInt8.toNat_xor]
          clear hK K hsh hxor caF faF
          have hbS := hbF.grown Hset.out.2 hbF.size (by simp only [Option.some.injEq]; intro x hx; have := Hge.out; omega)
          have HR := implReadFrames (some ⟨gd, 0, none⟩) (kb + 3) c6 _ _ (Hset.out.1.rd okB) (Hset.out.1.len okB) Hset.out.1.cap
          rw [show framesM ((frameL bd).set j (x ^^^ y)) = (0, [], 0) by have hq := Hj.out; subst hq; exact frames_turned Hbl.out.1 Hbl.out.2 Hx.out (xor_other Hy.out)] at HR
          clear hbF owF Hset
          have HR2 := Lib.hid HR
          clear HR
          generalize wC.setCell ⟨gd, j, none⟩ (.int .u8 ((x ^^^ y).toNat : Int)) = wS at *
          have hB_S := hB23.trans (hbS.mono hB23.size)
          have ap_S := ap_23.below hbS ap_23.lt
          have op_S := op_23.below hbS (Nat.le_refl _)
          clear hbS hB23 rd_23 ha_23 o1_23 ou_23 oy_23 ox_23 or_23 oq_23 op_23 ob_23 of_23 ao aq_23 ap_23 aw_23 af_23
          go_wp2_with fail
          refine HR2.out.mono ?_
          rintro e wT ⟨A7, k7, c7, p7, rfl, o7, q7, hb7⟩
          clear HR2
          have hk7 := Ow.len okBB o7.1
          have hp7 := congrArg List.length q7
          rw [List.length_map] at hp7
          obtain rfl : k7 = 0 := by simp only [List.length_nil] at hp7; omega
          have ap_T := ap_S.below hb7 ap_S.lt
          have op_T := op_S.below hb7 (Nat.le_refl _)
          have hB_T := hB_S.trans (hb7.mono hB_S.size)
          clear hb7 o7 q7 hp7 hk7 ap_S op_S hB_S
          have hcp := op_T.cap
          have HR := implReadFrames Ap (kb + 2) cp ((frameL bd).take (kb + 2)) wT ((op_T.rd okB).take _) (by rw [List.length_take]; omega) (by omega)
          rw [show framesM ((frameL bd).take (kb + 2)) = (0, [], 0) by rw [← hlb]; exact frames_torn Hbl.out.1 Hbl.out.2] at HR
          have HR2 := Lib.hid HR
          clear HR op_T
          obtain ⟨t0, t1, _, _⟩ := ap_T.two
          clear ap_T
          have ew : IntKind.i64.wrap ((kb : Int) + 3 - 1) = (kb : Int) + 2 := by rw [IntWalk.i64_in _ (by omega)]; omega
          go_wp2_with fail
          refine HR2.out.mono ?_
          rintro e wU ⟨A8, k8, c8, p8, rfl, o8, q8, hb8⟩
          clear HR2
          have hk8' := Ow.len okBB o8.1
          have hp8 := congrArg List.length q8
          rw [List.length_map] at hp8
          obtain rfl : k8 = 0 := by simp only [List.length_nil] at hp8; omega
          have hB_U := hB_T.trans (hb8.mono hB_T.size)
          clear hb8 o8 q8 hp8 hk8'
          go_wp2_with fail
          go_ret
          exact ⟨rfl, hB_U⟩
      · rw [packFrameM_bad hbl] at ap_21
        dsimp only at ap_21
        clear hbl
        obtain ⟨ap0_21, ap1_21, _, _⟩ := ap_21.two
        go_wp2_with fail
        go_ret
        exact ⟨rfl, hB21⟩
end Go.Proofs.Ytkdfbaiolgndeaa
