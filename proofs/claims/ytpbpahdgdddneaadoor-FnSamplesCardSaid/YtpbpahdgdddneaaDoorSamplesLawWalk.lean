/-
  The law of stage 2: the walk.
-/
import Derived.Test.YtpbpahdgdddneaaDoorDraws3
import Derived.Test.YtpbpahdgdddneaaDoorPureS
import Derived.Test.YtpbpahdgdddneaaDoorSame
namespace Go.Proofs.YtpbpahdgdddneaaDoor
open Go.RowKit
set_option linter.unusedSimpArgs false
set_option linter.unusedVariables false

theorem lwBig_no (A : Option Addr) (n c : Nat) (w : World) (h : ¬ 1048576 < n) :
    Calls Tryd.prog 7 #[.slice A n c] w fun e w' => e = .returned (.bool false) ∧ w = w' := by
  have hd : decide ((1048576 : Int) < (n : Int)) = false := decide_eq_false (by omega)
  go_enter Tryd.func7, Tryd.ntmps7
  go_wp2
  go_ret
  exact ⟨rfl, rfl⟩
theorem fldB0 (z : Int) (A : Option Addr) (k c : Nat) (u : World) : (Instr.field 28 (.agg #[.int .i64 z, .slice A k c]) 0).run Tryd.prog u = .ok (.int .i64 z) u := by kernel_rfl
theorem neqS (a b c d e : Int) (u : World) : (binOp .neq 32 (.agg #[.int .i64 a, .int .i64 b, .int .i64 c, .int .i64 d, .int .i64 e]) (.agg #[.int .i64 a, .int .i64 b, .int .i64 c, .int .i64 d, .int .i64 e])).run Tryd.prog u = .ok (.bool false) u := by
  go_simp
theorem eqlS (a b c d e : Int) (u : World) : (binOp .eql 32 (.agg #[.int .i64 a, .int .i64 b, .int .i64 c, .int .i64 d, .int .i64 e]) (.agg #[.int .i64 a, .int .i64 b, .int .i64 c, .int .i64 d, .int .i64 e])).run Tryd.prog u = .ok (.bool true) u := by
  go_simp

set_option maxRecDepth 100000 in
set_option maxHeartbeats 8000000 in
theorem fnSamples_walk (X : Option Addr) (n c : Nat) (l : List UInt8) (w : World) (ha : Rd eB w w.heap.size X l) (hn : l.length = n) (hF : Flds w) :
    Calls Tryd.prog 3 #[.slice X n c] w fun e w' => e = .returned (.bool true) ∧ Below w.heap.size w w' := by
  have Hn := Lib.hid hn
  clear hn
  by_cases hbig : 1048576 < n
  · go_enter Tryd.func3, Tryd.ntmps3
    go_wp2
    go_ret
    exact ⟨rfl, Below.refl _ _⟩
  have hm : n ≤ 1048576 := by omega
  go_enter Tryd.func3, Tryd.ntmps3
  go_wp2_with fail
  refine (lwBig_no X n c w hbig).mono ?_
  rintro e w0 ⟨rfl, rfl⟩
  clear hbig
  go_wp2_with fail
  refine (drawEncodeSample X n c l _ ha Hn.out hm).mono ?_
  rintro e w1 ⟨xa, xb, xc, xd, rfl, hb1⟩
  have ha_1 := ha.lift hb1
  have hB1 := hb1
  clear hb1 ha
  have hb2 : Below w1.heap.size w1 (w1.alloc (.cells #[.int .i64 xa, .int .i64 xb, .int .i64 xc, .int .i64 xd] 25)) := (Below.refl _ _).alloc (Nat.le_refl _) _
  have ax := At.new w1 25 #[.int .i64 xa, .int .i64 xb, .int .i64 xc, .int .i64 xd]
  have ha_2 := ha_1.lift hb2
  have hB2 := hB1.trans (hb2.mono hB1.size)
  clear hb2 hB1 ha_1
  obtain ⟨ce, el, hM⟩ : ∃ ce el, encodeM (xa, xb, xc, xd) = (ce, el) := ⟨_, _, rfl⟩
  have HE := fun W (h : Flds W) => implEncodeSample xa xb xc xd W h
  rw [hM] at HE
  go_wp2_with fail
  refine (HE _ (hF.below hB2)).mono ?_
  rintro e w3 ⟨Ae, ke, ka, rfl, oe, hb3⟩
  have ax_3 := ax.below hb3 ax.lt
  have ha_3 := ha_2.lift hb3
  have hB3 := hB2.trans (hb3.mono hB2.size)
  clear hb3 hB2 ha_2 ax
  have re := (oe.rd okA).ofA
  have lke := oe.len okA
  dsimp only at re lke
  clear oe HE
  have hb4 : Below w3.heap.size w3 (w3.alloc (.cells #[.int .i64 ce, .slice Ae ke ka] 28)) := (Below.refl _ _).alloc (Nat.le_refl _) _
  have ae := At.new w3 28 #[.int .i64 ce, .slice Ae ke ka]
  have ax_4 := ax_3.below hb4 ax_3.lt
  have ha_4 := ha_3.lift hb4
  have re_4 := re.lift hb4
  have hB4 := hB3.trans (hb4.mono hB3.size)
  clear hb4 hB3 re ha_3 ax_3
  go_wp2_with fail
  refine (drawDecodeSample X n c l _ ha_4 Hn.out hm).mono ?_
  rintro e w5 ⟨Ad, kd, kb, dd, rfl, hd7, hdl, rd, hb5⟩
  have ax_5 := ax_4.below hb5 ax_4.lt
  have ae_5 := ae.below hb5 ae.lt
  have ha_5 := ha_4.lift hb5
  have re_5 := re_4.lift hb5
  have hB5 := hB4.trans (hb5.mono hB4.size)
  clear hb5 hB4 re_4 ha_4 ae ax_4
  obtain ⟨dc, d0, d1, d2, d3, hD⟩ : ∃ dc d0 d1 d2 d3, decodeM dd = (dc, d0, d1, d2, d3) := ⟨_, _, _, _, _, rfl⟩
  have hdm : kd ≤ maxLen := by unfold maxLen; omega
  have HD := fun W h1 h2 => implDecodeSample Ad kd kb dd W h1 hdl hdm h2
  rw [hD] at HD
  go_wp2_with fail
  refine (HD _ rd (hF.below hB5)).mono ?_
  rintro e w6 ⟨rfl, hb6⟩
  have ax_6 := ax_5.below hb6 ax_5.lt
  have ae_6 := ae_5.below hb6 ae_5.lt
  have ha_6 := ha_5.lift hb6
  have re_6 := re_5.lift hb6
  have rd_6 := rd.lift hb6
  have hB6 := hB5.trans (hb6.mono hB5.size)
  clear hb6 hB5 rd re_5 ha_5 ae_5 ax_5
  clear HD
  have hb7 : Below w6.heap.size w6 (w6.alloc (.cells #[.int .i64 dc, .int .i64 d0, .int .i64 d1, .int .i64 d2, .int .i64 d3] 32)) := (Below.refl _ _).alloc (Nat.le_refl _) _
  have ad := At.new w6 32 #[.int .i64 dc, .int .i64 d0, .int .i64 d1, .int .i64 d2, .int .i64 d3]
  have ax_7 := ax_6.below hb7 ax_6.lt
  have ae_7 := ae_6.below hb7 ae_6.lt
  have ha_7 := ha_6.lift hb7
  have re_7 := re_6.lift hb7
  have rd_7 := rd_6.lift hb7
  have hB7 := hB6.trans (hb7.mono hB6.size)
  clear hb7 hB6 rd_6 re_6 ha_6 ae_6 ax_6
  go_wp2_with fail
  refine (drawIsAhead X n c l _ ha_7 Hn.out hm).mono ?_
  rintro e w8 ⟨a0, a1, a2, a3, b0, b1, b2, b3, rfl, hb8⟩
  have ax_8 := ax_7.below hb8 ax_7.lt
  have ae_8 := ae_7.below hb8 ae_7.lt
  have ad_8 := ad.below hb8 ad.lt
  have ha_8 := ha_7.lift hb8
  have re_8 := re_7.lift hb8
  have rd_8 := rd_7.lift hb8
  have hB8 := hB7.trans (hb8.mono hB7.size)
  clear hb8 hB7 rd_7 re_7 ha_7 ad ae_7 ax_7
  have hb9 : Below w8.heap.size w8 (w8.alloc (.cells #[.int .i64 a0, .int .i64 a1, .int .i64 a2, .int .i64 a3] 25)) := (Below.refl _ _).alloc (Nat.le_refl _) _
  have aa := At.new w8 25 #[.int .i64 a0, .int .i64 a1, .int .i64 a2, .int .i64 a3]
  have ax_9 := ax_8.below hb9 ax_8.lt
  have ae_9 := ae_8.below hb9 ae_8.lt
  have ad_9 := ad_8.below hb9 ad_8.lt
  have ha_9 := ha_8.lift hb9
  have re_9 := re_8.lift hb9
  have rd_9 := rd_8.lift hb9
  have hB9 := hB8.trans (hb9.mono hB8.size)
  clear hb9 hB8 rd_8 re_8 ha_8 ad_8 ae_8 ax_8
  have hb10 : Below (w8.alloc (.cells #[.int .i64 a0, .int .i64 a1, .int .i64 a2, .int .i64 a3] 25)).heap.size (w8.alloc (.cells #[.int .i64 a0, .int .i64 a1, .int .i64 a2, .int .i64 a3] 25)) ((w8.alloc (.cells #[.int .i64 a0, .int .i64 a1, .int .i64 a2, .int .i64 a3] 25)).alloc (.cells #[.int .i64 b0, .int .i64 b1, .int .i64 b2, .int .i64 b3] 25)) := (Below.refl _ _).alloc (Nat.le_refl _) _
  have ab := At.newAt (cs := #[.int .i64 b0, .int .i64 b1, .int .i64 b2, .int .i64 b3]) (t := 25) (show (w8.alloc (.cells #[.int .i64 a0, .int .i64 a1, .int .i64 a2, .int .i64 a3] 25)).heap.size = w8.heap.size + 1 by simp)
  have ax_10 := ax_9.below hb10 ax_9.lt
  have ae_10 := ae_9.below hb10 ae_9.lt
  have ad_10 := ad_9.below hb10 ad_9.lt
  have aa_10 := aa.below hb10 aa.lt
  have ha_10 := ha_9.lift hb10
  have re_10 := re_9.lift hb10
  have rd_10 := rd_9.lift hb10
  have hB10 := hB9.trans (hb10.mono hB9.size)
  clear hb10 hB9 rd_9 re_9 ha_9 aa ad_9 ae_9 ax_9
  go_wp2_with fail
  refine (drawIsSameKey X n c l _ ha_10 Hn.out hm).mono ?_
  rintro e w11 ⟨u0, u1, u2, u3, v0, v1, v2, v3, rfl, hb11⟩
  have ax_11 := ax_10.below hb11 ax_10.lt
  have ae_11 := ae_10.below hb11 ae_10.lt
  have ad_11 := ad_10.below hb11 ad_10.lt
  have aa_11 := aa_10.below hb11 aa_10.lt
  have ab_11 := ab.below hb11 ab.lt
  have ha_11 := ha_10.lift hb11
  have re_11 := re_10.lift hb11
  have rd_11 := rd_10.lift hb11
  have hB11 := hB10.trans (hb11.mono hB10.size)
  clear hb11 hB10 rd_10 re_10 ha_10 ab aa_10 ad_10 ae_10 ax_10
  have hb12 : Below w11.heap.size w11 (w11.alloc (.cells #[.int .i64 u0, .int .i64 u1, .int .i64 u2, .int .i64 u3] 25)) := (Below.refl _ _).alloc (Nat.le_refl _) _
  have au := At.new w11 25 #[.int .i64 u0, .int .i64 u1, .int .i64 u2, .int .i64 u3]
  have ax_12 := ax_11.below hb12 ax_11.lt
  have ae_12 := ae_11.below hb12 ae_11.lt
  have ad_12 := ad_11.below hb12 ad_11.lt
  have aa_12 := aa_11.below hb12 aa_11.lt
  have ab_12 := ab_11.below hb12 ab_11.lt
  have ha_12 := ha_11.lift hb12
  have re_12 := re_11.lift hb12
  have rd_12 := rd_11.lift hb12
  have hB12 := hB11.trans (hb12.mono hB11.size)
  clear hb12 hB11 rd_11 re_11 ha_11 ab_11 aa_11 ad_11 ae_11 ax_11
  have hb13 : Below (w11.alloc (.cells #[.int .i64 u0, .int .i64 u1, .int .i64 u2, .int .i64 u3] 25)).heap.size (w11.alloc (.cells #[.int .i64 u0, .int .i64 u1, .int .i64 u2, .int .i64 u3] 25)) ((w11.alloc (.cells #[.int .i64 u0, .int .i64 u1, .int .i64 u2, .int .i64 u3] 25)).alloc (.cells #[.int .i64 v0, .int .i64 v1, .int .i64 v2, .int .i64 v3] 25)) := (Below.refl _ _).alloc (Nat.le_refl _) _
  have av := At.newAt (cs := #[.int .i64 v0, .int .i64 v1, .int .i64 v2, .int .i64 v3]) (t := 25) (show (w11.alloc (.cells #[.int .i64 u0, .int .i64 u1, .int .i64 u2, .int .i64 u3] 25)).heap.size = w11.heap.size + 1 by simp)
  have ax_13 := ax_12.below hb13 ax_12.lt
  have ae_13 := ae_12.below hb13 ae_12.lt
  have ad_13 := ad_12.below hb13 ad_12.lt
  have aa_13 := aa_12.below hb13 aa_12.lt
  have ab_13 := ab_12.below hb13 ab_12.lt
  have au_13 := au.below hb13 au.lt
  have ha_13 := ha_12.lift hb13
  have re_13 := re_12.lift hb13
  have rd_13 := rd_12.lift hb13
  have hB13 := hB12.trans (hb13.mono hB12.size)
  clear hb13 hB12 rd_12 re_12 ha_12 au ab_12 aa_12 ad_12 ae_12 ax_12
  obtain ⟨p, hp⟩ : ∃ p, aheadM (a0, a1, a2, a3) (b0, b1, b2, b3) = p := ⟨_, rfl⟩
  obtain ⟨q, hq⟩ : ∃ q, aheadM (b0, b1, b2, b3) (a0, a1, a2, a3) = q := ⟨_, rfl⟩
  obtain ⟨r, hr⟩ : ∃ r, sameKeyM (a0, a1, a2, a3) (b0, b1, b2, b3) = r := ⟨_, rfl⟩
  obtain ⟨s, hs⟩ : ∃ s, sameKeyM (u0, u1, u2, u3) (v0, v1, v2, v3) = s := ⟨_, rfl⟩
  have H3 := keys_three (a0, a1, a2, a3) (b0, b1, b2, b3)
  rw [hp, hq, hr] at H3
  have H4 := Lib.hid H3
  clear H3
  have IA := fun W => implIsAhead a0 a1 a2 a3 b0 b1 b2 b3 W
  rw [hp] at IA
  have IA := Lib.hid IA
  have SA := fun W => specIsAhead a0 a1 a2 a3 b0 b1 b2 b3 W
  rw [hp] at SA
  have SA := Lib.hid SA
  have IB := fun W => implIsAhead b0 b1 b2 b3 a0 a1 a2 a3 W
  rw [hq] at IB
  have IB := Lib.hid IB
  have IK := fun W => implIsSameKey a0 a1 a2 a3 b0 b1 b2 b3 W
  rw [hr] at IK
  have IK := Lib.hid IK
  have IU := fun W => implIsSameKey u0 u1 u2 u3 v0 v1 v2 v3 W
  rw [hs] at IU
  have IU := Lib.hid IU
  have SU := fun W => specIsSameKey u0 u1 u2 u3 v0 v1 v2 v3 W
  rw [hs] at SU
  have SU := Lib.hid SU
  have hfc : faultM (xa, xb, xc, xd) = ce := by rw [← encodeM_code, hM]
  have FX := fun W (h : Flds W) => implSampleFault xa xb xc xd W h
  rw [hfc] at FX
  have SE := fun W => specEncodeSample xa xb xc xd W
  rw [hM] at SE
  have SD := fun W h1 => specDecodeSample Ad kd kb dd W h1 hdl hdm
  rw [hD] at SD
  have HFc := Lib.hid hfc
  have HM := Lib.hid hM
  have HD := Lib.hid hD
  have Hke := Lib.hid lke
  have Hdl := Lib.hid hdl
  clear hp hq hr hs hfc hM hD lke hdl
  have FX := Lib.hid FX
  have SE := Lib.hid SE
  have SD := Lib.hid SD
  go_wp2_with fail
  have hb14 : Below ((w11.alloc (.cells #[.int .i64 u0, .int .i64 u1, .int .i64 u2, .int .i64 u3] 25)).alloc (.cells #[.int .i64 v0, .int .i64 v1, .int .i64 v2, .int .i64 v3] 25)).heap.size ((w11.alloc (.cells #[.int .i64 u0, .int .i64 u1, .int .i64 u2, .int .i64 u3] 25)).alloc (.cells #[.int .i64 v0, .int .i64 v1, .int .i64 v2, .int .i64 v3] 25)) ((w11.alloc (.cells #[.int .i64 u0, .int .i64 u1, .int .i64 u2, .int .i64 u3] 25)).alloc (.cells #[.int .i64 v0, .int .i64 v1, .int .i64 v2, .int .i64 v3] 25)).drew := (Below.refl _ _).drew
  have ax_14 := ax_13.below hb14 ax_13.lt
  have ae_14 := ae_13.below hb14 ae_13.lt
  have ad_14 := ad_13.below hb14 ad_13.lt
  have aa_14 := aa_13.below hb14 aa_13.lt
  have ab_14 := ab_13.below hb14 ab_13.lt
  have au_14 := au_13.below hb14 au_13.lt
  have av_14 := av.below hb14 av.lt
  have ha_14 := ha_13.lift hb14
  have re_14 := re_13.lift hb14
  have rd_14 := rd_13.lift hb14
  have hB14 := hB13.trans (hb14.mono hB13.size)
  clear hb14 hB13 rd_13 re_13 ha_13 av au_13 ab_13 aa_13 ad_13 ae_13 ax_13
  have F0 := fldB0
  have F1 := neqS
  have F2 := fldB1'
  refine wp_region_mix [(0, false), (1, false), (2, false), (3, true), (4, false), (5, false), (6, false), (7, false), (8, false), (9, true), (10, false), (11, false), (12, false), (13, false), (14, false), (16, false), (17, false), (15, true), (18, true), (19, false), (20, false), (21, false), (22, false), (23, false), (25, false), (26, false), (24, true), (27, true), (28, false), (29, false), (30, false), (31, false), (33, false), (34, false), (32, true), (35, false), (36, false)] (fun u => At u (w1.heap.size) 25 #[.int .i64 xa, .int .i64 xb, .int .i64 xc, .int .i64 xd] ∧ At u (w3.heap.size) 28 #[.int .i64 ce, .slice Ae ke ka] ∧ At u (w6.heap.size) 32 #[.int .i64 dc, .int .i64 d0, .int .i64 d1, .int .i64 d2, .int .i64 d3] ∧ At u (w8.heap.size) 25 #[.int .i64 a0, .int .i64 a1, .int .i64 a2, .int .i64 a3] ∧ At u (w8.heap.size + 1) 25 #[.int .i64 b0, .int .i64 b1, .int .i64 b2, .int .i64 b3] ∧ At u (w11.heap.size) 25 #[.int .i64 u0, .int .i64 u1, .int .i64 u2, .int .i64 u3] ∧ At u (w11.heap.size + 1) 25 #[.int .i64 v0, .int .i64 v1, .int .i64 v2, .int .i64 v3]) (by kernel_rfl) (by kernel_rfl) (fun _ _ _ _ _ h => h) ⟨ax_14, ae_14, ad_14, aa_14, ab_14, au_14, av_14⟩ ?_
  simp only [mixOps, List.map_cons, List.map_nil, List.getElem?_cons_succ, List.getElem?_cons_zero, Option.getD_some]
  repeat (first
    | (refine mix_skip (by rfl) ?_
       (try simp only [Act.put, List.setIfInBounds_toArray, List.set_cons_zero, List.set_cons_succ]))
    | (refine mix_pure (v := ?_) (by rfl) (fun u hu => ?_) ?_
       rotate_left
       · obtain ⟨y0, y1, y2, y3, y4, y5, y6⟩ := hu
         obtain ⟨_, _, _, _, _, _, _, _⟩ := y0.four
         obtain ⟨_, _, _, _⟩ := y1.two
         obtain ⟨_, _, _, _, _, _, _, _, _, _⟩ := y2.five
         obtain ⟨_, _, _, _, _, _, _, _⟩ := y3.four
         obtain ⟨_, _, _, _, _, _, _, _⟩ := y4.four
         obtain ⟨_, _, _, _, _, _, _, _⟩ := y5.four
         obtain ⟨_, _, _, _, _, _, _, _⟩ := y6.four
         go_simp
         (with_reducible rfl)
       (try simp only [Act.put, List.setIfInBounds_toArray, List.set_cons_zero, List.set_cons_succ])))
  refine mix_call (by rfl) (fun K hK => ?_)
  go_simp
  refine (SE.out _).mono ?_
  rintro e w15 ⟨As, ks, cs, rfl, -, hb15⟩
  have ax_15 := ax_14.below hb15 ax_14.lt
  have ae_15 := ae_14.below hb15 ae_14.lt
  have ad_15 := ad_14.below hb15 ad_14.lt
  have aa_15 := aa_14.below hb15 aa_14.lt
  have ab_15 := ab_14.below hb15 ab_14.lt
  have au_15 := au_14.below hb15 au_14.lt
  have av_15 := av_14.below hb15 av_14.lt
  have ha_15 := ha_14.lift hb15
  have re_15 := re_14.lift hb15
  have rd_15 := rd_14.lift hb15
  have hB15 := hB14.trans (hb15.mono hB14.size)
  clear hb15 hB14 rd_14 re_14 ha_14 av_14 au_14 ab_14 aa_14 ad_14 ae_14 ax_14
  refine hK _ _ (fun u => At u (w1.heap.size) 25 #[.int .i64 xa, .int .i64 xb, .int .i64 xc, .int .i64 xd] ∧ At u (w3.heap.size) 28 #[.int .i64 ce, .slice Ae ke ka] ∧ At u (w6.heap.size) 32 #[.int .i64 dc, .int .i64 d0, .int .i64 d1, .int .i64 d2, .int .i64 d3] ∧ At u (w8.heap.size) 25 #[.int .i64 a0, .int .i64 a1, .int .i64 a2, .int .i64 a3] ∧ At u (w8.heap.size + 1) 25 #[.int .i64 b0, .int .i64 b1, .int .i64 b2, .int .i64 b3] ∧ At u (w11.heap.size) 25 #[.int .i64 u0, .int .i64 u1, .int .i64 u2, .int .i64 u3] ∧ At u (w11.heap.size + 1) 25 #[.int .i64 v0, .int .i64 v1, .int .i64 v2, .int .i64 v3]) (fun _ h => h) ⟨ax_15, ae_15, ad_15, aa_15, ab_15, au_15, av_15⟩ ?_
  clear hK K
  (try simp only [Act.put, List.setIfInBounds_toArray, List.set_cons_zero, List.set_cons_succ])
  repeat (first
    | (refine mix_skip (by rfl) ?_
       (try simp only [Act.put, List.setIfInBounds_toArray, List.set_cons_zero, List.set_cons_succ]))
    | (refine mix_pure (v := ?_) (by rfl) (fun u hu => ?_) ?_
       rotate_left
       · obtain ⟨y0, y1, y2, y3, y4, y5, y6⟩ := hu
         obtain ⟨_, _, _, _, _, _, _, _⟩ := y0.four
         obtain ⟨_, _, _, _⟩ := y1.two
         obtain ⟨_, _, _, _, _, _, _, _, _, _⟩ := y2.five
         obtain ⟨_, _, _, _, _, _, _, _⟩ := y3.four
         obtain ⟨_, _, _, _, _, _, _, _⟩ := y4.four
         obtain ⟨_, _, _, _, _, _, _, _⟩ := y5.four
         obtain ⟨_, _, _, _, _, _, _, _⟩ := y6.four
         go_simp
         (with_reducible rfl)
       (try simp only [Act.put, List.setIfInBounds_toArray, List.set_cons_zero, List.set_cons_succ])))
  refine mix_call (by rfl) (fun K hK => ?_)
  go_simp
  refine (SD.out _ rd_15).mono ?_
  rintro e w16 ⟨rfl, hb16⟩
  have ax_16 := ax_15.below hb16 ax_15.lt
  have ae_16 := ae_15.below hb16 ae_15.lt
  have ad_16 := ad_15.below hb16 ad_15.lt
  have aa_16 := aa_15.below hb16 aa_15.lt
  have ab_16 := ab_15.below hb16 ab_15.lt
  have au_16 := au_15.below hb16 au_15.lt
  have av_16 := av_15.below hb16 av_15.lt
  have ha_16 := ha_15.lift hb16
  have re_16 := re_15.lift hb16
  have rd_16 := rd_15.lift hb16
  have hB16 := hB15.trans (hb16.mono hB15.size)
  clear hb16 hB15 rd_15 re_15 ha_15 av_15 au_15 ab_15 aa_15 ad_15 ae_15 ax_15
  refine hK _ _ (fun u => At u (w1.heap.size) 25 #[.int .i64 xa, .int .i64 xb, .int .i64 xc, .int .i64 xd] ∧ At u (w3.heap.size) 28 #[.int .i64 ce, .slice Ae ke ka] ∧ At u (w6.heap.size) 32 #[.int .i64 dc, .int .i64 d0, .int .i64 d1, .int .i64 d2, .int .i64 d3] ∧ At u (w8.heap.size) 25 #[.int .i64 a0, .int .i64 a1, .int .i64 a2, .int .i64 a3] ∧ At u (w8.heap.size + 1) 25 #[.int .i64 b0, .int .i64 b1, .int .i64 b2, .int .i64 b3] ∧ At u (w11.heap.size) 25 #[.int .i64 u0, .int .i64 u1, .int .i64 u2, .int .i64 u3] ∧ At u (w11.heap.size + 1) 25 #[.int .i64 v0, .int .i64 v1, .int .i64 v2, .int .i64 v3]) (fun _ h => h) ⟨ax_16, ae_16, ad_16, aa_16, ab_16, au_16, av_16⟩ ?_
  clear hK K
  (try simp only [Act.put, List.setIfInBounds_toArray, List.set_cons_zero, List.set_cons_succ])
  repeat (first
    | (refine mix_skip (by rfl) ?_
       (try simp only [Act.put, List.setIfInBounds_toArray, List.set_cons_zero, List.set_cons_succ]))
    | (refine mix_pure (v := ?_) (by rfl) (fun u hu => ?_) ?_
       rotate_left
       · obtain ⟨y0, y1, y2, y3, y4, y5, y6⟩ := hu
         obtain ⟨_, _, _, _, _, _, _, _⟩ := y0.four
         obtain ⟨_, _, _, _⟩ := y1.two
         obtain ⟨_, _, _, _, _, _, _, _, _, _⟩ := y2.five
         obtain ⟨_, _, _, _, _, _, _, _⟩ := y3.four
         obtain ⟨_, _, _, _, _, _, _, _⟩ := y4.four
         obtain ⟨_, _, _, _, _, _, _, _⟩ := y5.four
         obtain ⟨_, _, _, _, _, _, _, _⟩ := y6.four
         go_simp
         (with_reducible rfl)
       (try simp only [Act.put, List.setIfInBounds_toArray, List.set_cons_zero, List.set_cons_succ])))
  refine mix_call (by rfl) (fun K hK => ?_)
  go_simp
  refine (IA.out _).mono ?_
  rintro e w17 ⟨rfl, hb17⟩
  have ax_17 := ax_16.below hb17 ax_16.lt
  have ae_17 := ae_16.below hb17 ae_16.lt
  have ad_17 := ad_16.below hb17 ad_16.lt
  have aa_17 := aa_16.below hb17 aa_16.lt
  have ab_17 := ab_16.below hb17 ab_16.lt
  have au_17 := au_16.below hb17 au_16.lt
  have av_17 := av_16.below hb17 av_16.lt
  have ha_17 := ha_16.lift hb17
  have re_17 := re_16.lift hb17
  have rd_17 := rd_16.lift hb17
  have hB17 := hB16.trans (hb17.mono hB16.size)
  clear hb17 hB16 rd_16 re_16 ha_16 av_16 au_16 ab_16 aa_16 ad_16 ae_16 ax_16
  refine hK _ _ (fun u => At u (w1.heap.size) 25 #[.int .i64 xa, .int .i64 xb, .int .i64 xc, .int .i64 xd] ∧ At u (w3.heap.size) 28 #[.int .i64 ce, .slice Ae ke ka] ∧ At u (w6.heap.size) 32 #[.int .i64 dc, .int .i64 d0, .int .i64 d1, .int .i64 d2, .int .i64 d3] ∧ At u (w8.heap.size) 25 #[.int .i64 a0, .int .i64 a1, .int .i64 a2, .int .i64 a3] ∧ At u (w8.heap.size + 1) 25 #[.int .i64 b0, .int .i64 b1, .int .i64 b2, .int .i64 b3] ∧ At u (w11.heap.size) 25 #[.int .i64 u0, .int .i64 u1, .int .i64 u2, .int .i64 u3] ∧ At u (w11.heap.size + 1) 25 #[.int .i64 v0, .int .i64 v1, .int .i64 v2, .int .i64 v3]) (fun _ h => h) ⟨ax_17, ae_17, ad_17, aa_17, ab_17, au_17, av_17⟩ ?_
  clear hK K
  (try simp only [Act.put, List.setIfInBounds_toArray, List.set_cons_zero, List.set_cons_succ])
  repeat (first
    | (refine mix_skip (by rfl) ?_
       (try simp only [Act.put, List.setIfInBounds_toArray, List.set_cons_zero, List.set_cons_succ]))
    | (refine mix_pure (v := ?_) (by rfl) (fun u hu => ?_) ?_
       rotate_left
       · obtain ⟨y0, y1, y2, y3, y4, y5, y6⟩ := hu
         obtain ⟨_, _, _, _, _, _, _, _⟩ := y0.four
         obtain ⟨_, _, _, _⟩ := y1.two
         obtain ⟨_, _, _, _, _, _, _, _, _, _⟩ := y2.five
         obtain ⟨_, _, _, _, _, _, _, _⟩ := y3.four
         obtain ⟨_, _, _, _, _, _, _, _⟩ := y4.four
         obtain ⟨_, _, _, _, _, _, _, _⟩ := y5.four
         obtain ⟨_, _, _, _, _, _, _, _⟩ := y6.four
         go_simp
         (with_reducible rfl)
       (try simp only [Act.put, List.setIfInBounds_toArray, List.set_cons_zero, List.set_cons_succ])))
  refine mix_call (by rfl) (fun K hK => ?_)
  go_simp
  refine (SA.out _).mono ?_
  rintro e w18 ⟨rfl, hb18⟩
  have ax_18 := ax_17.below hb18 ax_17.lt
  have ae_18 := ae_17.below hb18 ae_17.lt
  have ad_18 := ad_17.below hb18 ad_17.lt
  have aa_18 := aa_17.below hb18 aa_17.lt
  have ab_18 := ab_17.below hb18 ab_17.lt
  have au_18 := au_17.below hb18 au_17.lt
  have av_18 := av_17.below hb18 av_17.lt
  have ha_18 := ha_17.lift hb18
  have re_18 := re_17.lift hb18
  have rd_18 := rd_17.lift hb18
  have hB18 := hB17.trans (hb18.mono hB17.size)
  clear hb18 hB17 rd_17 re_17 ha_17 av_17 au_17 ab_17 aa_17 ad_17 ae_17 ax_17
  refine hK _ _ (fun u => At u (w1.heap.size) 25 #[.int .i64 xa, .int .i64 xb, .int .i64 xc, .int .i64 xd] ∧ At u (w3.heap.size) 28 #[.int .i64 ce, .slice Ae ke ka] ∧ At u (w6.heap.size) 32 #[.int .i64 dc, .int .i64 d0, .int .i64 d1, .int .i64 d2, .int .i64 d3] ∧ At u (w8.heap.size) 25 #[.int .i64 a0, .int .i64 a1, .int .i64 a2, .int .i64 a3] ∧ At u (w8.heap.size + 1) 25 #[.int .i64 b0, .int .i64 b1, .int .i64 b2, .int .i64 b3] ∧ At u (w11.heap.size) 25 #[.int .i64 u0, .int .i64 u1, .int .i64 u2, .int .i64 u3] ∧ At u (w11.heap.size + 1) 25 #[.int .i64 v0, .int .i64 v1, .int .i64 v2, .int .i64 v3]) (fun _ h => h) ⟨ax_18, ae_18, ad_18, aa_18, ab_18, au_18, av_18⟩ ?_
  clear hK K
  (try simp only [Act.put, List.setIfInBounds_toArray, List.set_cons_zero, List.set_cons_succ])
  repeat (first
    | (refine mix_skip (by rfl) ?_
       (try simp only [Act.put, List.setIfInBounds_toArray, List.set_cons_zero, List.set_cons_succ]))
    | (refine mix_pure (v := ?_) (by rfl) (fun u hu => ?_) ?_
       rotate_left
       · obtain ⟨y0, y1, y2, y3, y4, y5, y6⟩ := hu
         obtain ⟨_, _, _, _, _, _, _, _⟩ := y0.four
         obtain ⟨_, _, _, _⟩ := y1.two
         obtain ⟨_, _, _, _, _, _, _, _, _, _⟩ := y2.five
         obtain ⟨_, _, _, _, _, _, _, _⟩ := y3.four
         obtain ⟨_, _, _, _, _, _, _, _⟩ := y4.four
         obtain ⟨_, _, _, _, _, _, _, _⟩ := y5.four
         obtain ⟨_, _, _, _, _, _, _, _⟩ := y6.four
         go_simp
         (with_reducible rfl)
       (try simp only [Act.put, List.setIfInBounds_toArray, List.set_cons_zero, List.set_cons_succ])))
  refine mix_call (by rfl) (fun K hK => ?_)
  go_simp
  refine (IU.out _).mono ?_
  rintro e w19 ⟨rfl, hb19⟩
  have ax_19 := ax_18.below hb19 ax_18.lt
  have ae_19 := ae_18.below hb19 ae_18.lt
  have ad_19 := ad_18.below hb19 ad_18.lt
  have aa_19 := aa_18.below hb19 aa_18.lt
  have ab_19 := ab_18.below hb19 ab_18.lt
  have au_19 := au_18.below hb19 au_18.lt
  have av_19 := av_18.below hb19 av_18.lt
  have ha_19 := ha_18.lift hb19
  have re_19 := re_18.lift hb19
  have rd_19 := rd_18.lift hb19
  have hB19 := hB18.trans (hb19.mono hB18.size)
  clear hb19 hB18 rd_18 re_18 ha_18 av_18 au_18 ab_18 aa_18 ad_18 ae_18 ax_18
  refine hK _ _ (fun u => At u (w1.heap.size) 25 #[.int .i64 xa, .int .i64 xb, .int .i64 xc, .int .i64 xd] ∧ At u (w3.heap.size) 28 #[.int .i64 ce, .slice Ae ke ka] ∧ At u (w6.heap.size) 32 #[.int .i64 dc, .int .i64 d0, .int .i64 d1, .int .i64 d2, .int .i64 d3] ∧ At u (w8.heap.size) 25 #[.int .i64 a0, .int .i64 a1, .int .i64 a2, .int .i64 a3] ∧ At u (w8.heap.size + 1) 25 #[.int .i64 b0, .int .i64 b1, .int .i64 b2, .int .i64 b3] ∧ At u (w11.heap.size) 25 #[.int .i64 u0, .int .i64 u1, .int .i64 u2, .int .i64 u3] ∧ At u (w11.heap.size + 1) 25 #[.int .i64 v0, .int .i64 v1, .int .i64 v2, .int .i64 v3]) (fun _ h => h) ⟨ax_19, ae_19, ad_19, aa_19, ab_19, au_19, av_19⟩ ?_
  clear hK K
  (try simp only [Act.put, List.setIfInBounds_toArray, List.set_cons_zero, List.set_cons_succ])
  repeat (first
    | (refine mix_skip (by rfl) ?_
       (try simp only [Act.put, List.setIfInBounds_toArray, List.set_cons_zero, List.set_cons_succ]))
    | (refine mix_pure (v := ?_) (by rfl) (fun u hu => ?_) ?_
       rotate_left
       · obtain ⟨y0, y1, y2, y3, y4, y5, y6⟩ := hu
         obtain ⟨_, _, _, _, _, _, _, _⟩ := y0.four
         obtain ⟨_, _, _, _⟩ := y1.two
         obtain ⟨_, _, _, _, _, _, _, _, _, _⟩ := y2.five
         obtain ⟨_, _, _, _, _, _, _, _⟩ := y3.four
         obtain ⟨_, _, _, _, _, _, _, _⟩ := y4.four
         obtain ⟨_, _, _, _, _, _, _, _⟩ := y5.four
         obtain ⟨_, _, _, _, _, _, _, _⟩ := y6.four
         go_simp
         (with_reducible rfl)
       (try simp only [Act.put, List.setIfInBounds_toArray, List.set_cons_zero, List.set_cons_succ])))
  refine mix_call (by rfl) (fun K hK => ?_)
  go_simp
  refine (SU.out _).mono ?_
  rintro e w20 ⟨rfl, hb20⟩
  have ax_20 := ax_19.below hb20 ax_19.lt
  have ae_20 := ae_19.below hb20 ae_19.lt
  have ad_20 := ad_19.below hb20 ad_19.lt
  have aa_20 := aa_19.below hb20 aa_19.lt
  have ab_20 := ab_19.below hb20 ab_19.lt
  have au_20 := au_19.below hb20 au_19.lt
  have av_20 := av_19.below hb20 av_19.lt
  have ha_20 := ha_19.lift hb20
  have re_20 := re_19.lift hb20
  have rd_20 := rd_19.lift hb20
  have hB20 := hB19.trans (hb20.mono hB19.size)
  clear hb20 hB19 rd_19 re_19 ha_19 av_19 au_19 ab_19 aa_19 ad_19 ae_19 ax_19
  refine hK _ _ (fun u => At u (w1.heap.size) 25 #[.int .i64 xa, .int .i64 xb, .int .i64 xc, .int .i64 xd] ∧ At u (w3.heap.size) 28 #[.int .i64 ce, .slice Ae ke ka] ∧ At u (w6.heap.size) 32 #[.int .i64 dc, .int .i64 d0, .int .i64 d1, .int .i64 d2, .int .i64 d3] ∧ At u (w8.heap.size) 25 #[.int .i64 a0, .int .i64 a1, .int .i64 a2, .int .i64 a3] ∧ At u (w8.heap.size + 1) 25 #[.int .i64 b0, .int .i64 b1, .int .i64 b2, .int .i64 b3] ∧ At u (w11.heap.size) 25 #[.int .i64 u0, .int .i64 u1, .int .i64 u2, .int .i64 u3] ∧ At u (w11.heap.size + 1) 25 #[.int .i64 v0, .int .i64 v1, .int .i64 v2, .int .i64 v3]) (fun _ h => h) ⟨ax_20, ae_20, ad_20, aa_20, ab_20, au_20, av_20⟩ ?_
  clear hK K
  (try simp only [Act.put, List.setIfInBounds_toArray, List.set_cons_zero, List.set_cons_succ])
  repeat (first
    | (refine mix_skip (by rfl) ?_
       (try simp only [Act.put, List.setIfInBounds_toArray, List.set_cons_zero, List.set_cons_succ]))
    | (refine mix_pure (v := ?_) (by rfl) (fun u hu => ?_) ?_
       rotate_left
       · obtain ⟨y0, y1, y2, y3, y4, y5, y6⟩ := hu
         obtain ⟨_, _, _, _, _, _, _, _⟩ := y0.four
         obtain ⟨_, _, _, _⟩ := y1.two
         obtain ⟨_, _, _, _, _, _, _, _, _, _⟩ := y2.five
         obtain ⟨_, _, _, _, _, _, _, _⟩ := y3.four
         obtain ⟨_, _, _, _, _, _, _, _⟩ := y4.four
         obtain ⟨_, _, _, _, _, _, _, _⟩ := y5.four
         obtain ⟨_, _, _, _, _, _, _, _⟩ := y6.four
         go_simp
         (with_reducible rfl)
       (try simp only [Act.put, List.setIfInBounds_toArray, List.set_cons_zero, List.set_cons_succ])))
  refine mix_call (by rfl) (fun K hK => ?_)
  go_simp
  refine (FX.out _ (hF.below hB20)).mono ?_
  rintro e w21 ⟨rfl, hb21⟩
  have ax_21 := ax_20.below hb21 ax_20.lt
  have ae_21 := ae_20.below hb21 ae_20.lt
  have ad_21 := ad_20.below hb21 ad_20.lt
  have aa_21 := aa_20.below hb21 aa_20.lt
  have ab_21 := ab_20.below hb21 ab_20.lt
  have au_21 := au_20.below hb21 au_20.lt
  have av_21 := av_20.below hb21 av_20.lt
  have ha_21 := ha_20.lift hb21
  have re_21 := re_20.lift hb21
  have rd_21 := rd_20.lift hb21
  have hB21 := hB20.trans (hb21.mono hB20.size)
  clear hb21 hB20 rd_20 re_20 ha_20 av_20 au_20 ab_20 aa_20 ad_20 ae_20 ax_20
  refine hK _ _ (fun u => At u (w1.heap.size) 25 #[.int .i64 xa, .int .i64 xb, .int .i64 xc, .int .i64 xd] ∧ At u (w3.heap.size) 28 #[.int .i64 ce, .slice Ae ke ka] ∧ At u (w6.heap.size) 32 #[.int .i64 dc, .int .i64 d0, .int .i64 d1, .int .i64 d2, .int .i64 d3] ∧ At u (w8.heap.size) 25 #[.int .i64 a0, .int .i64 a1, .int .i64 a2, .int .i64 a3] ∧ At u (w8.heap.size + 1) 25 #[.int .i64 b0, .int .i64 b1, .int .i64 b2, .int .i64 b3] ∧ At u (w11.heap.size) 25 #[.int .i64 u0, .int .i64 u1, .int .i64 u2, .int .i64 u3] ∧ At u (w11.heap.size + 1) 25 #[.int .i64 v0, .int .i64 v1, .int .i64 v2, .int .i64 v3]) (fun _ h => h) ⟨ax_21, ae_21, ad_21, aa_21, ab_21, au_21, av_21⟩ ?_
  clear hK K
  (try simp only [Act.put, List.setIfInBounds_toArray, List.set_cons_zero, List.set_cons_succ])
  repeat (first
    | (refine mix_skip (by rfl) ?_
       (try simp only [Act.put, List.setIfInBounds_toArray, List.set_cons_zero, List.set_cons_succ]))
    | (refine mix_pure (v := ?_) (by rfl) (fun u hu => ?_) ?_
       rotate_left
       · obtain ⟨y0, y1, y2, y3, y4, y5, y6⟩ := hu
         obtain ⟨_, _, _, _, _, _, _, _⟩ := y0.four
         obtain ⟨_, _, _, _⟩ := y1.two
         obtain ⟨_, _, _, _, _, _, _, _, _, _⟩ := y2.five
         obtain ⟨_, _, _, _, _, _, _, _⟩ := y3.four
         obtain ⟨_, _, _, _, _, _, _, _⟩ := y4.four
         obtain ⟨_, _, _, _, _, _, _, _⟩ := y5.four
         obtain ⟨_, _, _, _, _, _, _, _⟩ := y6.four
         go_simp
         (with_reducible rfl)
       (try simp only [Act.put, List.setIfInBounds_toArray, List.set_cons_zero, List.set_cons_succ])))
  refine mix_nil ?_
  clear F1 SE SD FX IU SU SA
  have H3 := H4.out
  clear H4
  rcases H3 with ⟨rfl, rfl, rfl⟩ | ⟨rfl, rfl, rfl⟩ | ⟨rfl, rfl, rfl⟩
  · obtain ⟨aa0, aa1, aa2, aa3, _, _, _, _⟩ := aa_21.four
    obtain ⟨ab0, ab1, ab2, ab3, _, _, _, _⟩ := ab_21.four
    go_wp2_with fail
    refine (IA.out _).mono ?_
    rintro e w22 ⟨rfl, hb22⟩
    have ax_22 := ax_21.below hb22 ax_21.lt
    have ae_22 := ae_21.below hb22 ae_21.lt
    have ad_22 := ad_21.below hb22 ad_21.lt
    have aa_22 := aa_21.below hb22 aa_21.lt
    have ab_22 := ab_21.below hb22 ab_21.lt
    have ha_22 := ha_21.lift hb22
    have re_22 := re_21.lift hb22
    have rd_22 := rd_21.lift hb22
    have hB22 := hB21.trans (hb22.mono hB21.size)
    clear hb22 aa0 aa1 aa2 aa3 ab0 ab1 ab2 ab3 hB21 rd_21 re_21 ha_21 ab_21 aa_21 ad_21 ae_21 ax_21
    obtain ⟨aa0, aa1, aa2, aa3, _, _, _, _⟩ := aa_22.four
    obtain ⟨ab0, ab1, ab2, ab3, _, _, _, _⟩ := ab_22.four
    go_wp2_with fail
    refine (IB.out _).mono ?_
    rintro e w23 ⟨rfl, hb23⟩
    have ax_23 := ax_22.below hb23 ax_22.lt
    have ae_23 := ae_22.below hb23 ae_22.lt
    have ad_23 := ad_22.below hb23 ad_22.lt
    have aa_23 := aa_22.below hb23 aa_22.lt
    have ab_23 := ab_22.below hb23 ab_22.lt
    have ha_23 := ha_22.lift hb23
    have re_23 := re_22.lift hb23
    have rd_23 := rd_22.lift hb23
    have hB23 := hB22.trans (hb23.mono hB22.size)
    clear hb23 aa0 aa1 aa2 aa3 ab0 ab1 ab2 ab3 hB22 rd_22 re_22 ha_22 ab_22 aa_22 ad_22 ae_22 ax_22
    obtain ⟨aa0, aa1, aa2, aa3, _, _, _, _⟩ := aa_23.four
    obtain ⟨ab0, ab1, ab2, ab3, _, _, _, _⟩ := ab_23.four
    go_wp2_with fail
    refine (IK.out _).mono ?_
    rintro e w24 ⟨rfl, hb24⟩
    have ax_24 := ax_23.below hb24 ax_23.lt
    have ae_24 := ae_23.below hb24 ae_23.lt
    have ad_24 := ad_23.below hb24 ad_23.lt
    have aa_24 := aa_23.below hb24 aa_23.lt
    have ab_24 := ab_23.below hb24 ab_23.lt
    have ha_24 := ha_23.lift hb24
    have re_24 := re_23.lift hb24
    have rd_24 := rd_23.lift hb24
    have hB24 := hB23.trans (hb24.mono hB23.size)
    clear hb24 aa0 aa1 aa2 aa3 ab0 ab1 ab2 ab3 hB23 rd_23 re_23 ha_23 ab_23 aa_23 ad_23 ae_23 ax_23
    clear IA IB IK
    by_cases h0 : dc = 0
    · subst h0
      have hE2 : encodeM (d0, d1, d2, d3) = (0, dd) := by have h := decode_encode (l := dd) (by rw [HD.out]); rw [HD.out] at h; exact h
      have HE2 := fun W (h : Flds W) => implEncodeSample d0 d1 d2 d3 W h
      rw [hE2] at HE2
      clear hE2
      obtain ⟨ad0, ad1, ad2, ad3, ad4, _, _, _, _, _⟩ := ad_24.five
      go_wp2_with fail
      refine (HE2 _ (hF.below hB24)).mono ?_
      rintro e w25 ⟨Az, kz, kza, rfl, oz, hb25⟩
      have ax_25 := ax_24.below hb25 ax_24.lt
      have ae_25 := ae_24.below hb25 ae_24.lt
      have ad_25 := ad_24.below hb25 ad_24.lt
      have ha_25 := ha_24.lift hb25
      have re_25 := re_24.lift hb25
      have rd_25 := rd_24.lift hb25
      have hB25 := hB24.trans (hb25.mono hB24.size)
      clear hb25 ad0 ad1 ad2 ad3 ad4 hB24 rd_24 re_24 ha_24 ad_24 ae_24 ax_24
      have rz := (oz.rd okA).ofA
      have lkz := oz.len okA
      dsimp only at rz lkz
      have HL := lwSame Az Ad kz kd kza kb dd dd _ rz rd_25 lkz Hdl.out
      rw [show decide (dd = dd) = true by simp] at HL
      clear oz HE2 lkz
      obtain ⟨ad0, ad1, ad2, ad3, ad4, _, _, _, _, _⟩ := ad_25.five
      go_wp2_with fail
      refine HL.mono ?_
      rintro e w99 ⟨rfl, rfl⟩
      clear HL rz
      go_wp2_with fail
      by_cases hc : ce = 0
      · have hb26 : Below w25.heap.size w25 w25.drew := (Below.refl _ _).drew
        have ax_26 := ax_25.below hb26 ax_25.lt
        have ae_26 := ae_25.below hb26 ae_25.lt
        have ha_26 := ha_25.lift hb26
        have re_26 := re_25.lift hb26
        have rd_26 := rd_25.lift hb26
        have hB26 := hB25.trans (hb26.mono hB25.size)
        clear hb26 ad0 ad1 ad2 ad3 ad4 hB25 rd_25 re_25 ha_25 ae_25 ax_25
        subst hc
        obtain ⟨hl7, hdec⟩ := encode_decode HFc.out
        rw [HM.out] at hl7 hdec
        dsimp only at hl7 hdec
        obtain rfl : ke = 7 := by rw [← Hke.out]; exact hl7
        have HD3 := fun W h1 h2 => implDecodeSample Ae 7 ka el W h1 hl7 (by unfold maxLen; omega) h2
        rw [hdec] at HD3
        clear hdec hl7
        have F3 := eqlS
        refine wp_region_mix [(0, false), (1, false), (2, false), (3, false), (4, false), (5, false), (6, false), (7, false), (8, false), (9, false), (10, false), (12, false), (13, false), (11, true), (14, false), (15, false), (16, false), (17, false)] (fun u => At u (w1.heap.size) 25 #[.int .i64 xa, .int .i64 xb, .int .i64 xc, .int .i64 xd] ∧ At u (w3.heap.size) 28 #[.int .i64 0, .slice Ae 7 ka]) (by kernel_rfl) (by kernel_rfl) (fun _ _ _ _ _ h => h) ⟨ax_26, ae_26⟩ ?_
        simp only [mixOps, List.map_cons, List.map_nil, List.getElem?_cons_succ, List.getElem?_cons_zero, Option.getD_some]
        repeat (first
          | (refine mix_skip (by rfl) ?_
             (try simp only [Act.put, List.setIfInBounds_toArray, List.set_cons_zero, List.set_cons_succ]))
          | (refine mix_pure (v := ?_) (by rfl) (fun u hu => ?_) ?_
             rotate_left
             · obtain ⟨y0, y1⟩ := hu
               obtain ⟨_, _, _, _, _, _, _, _⟩ := y0.four
               obtain ⟨_, _, _, _⟩ := y1.two
               go_simp
               (with_reducible rfl)
             (try simp only [Act.put, List.setIfInBounds_toArray, List.set_cons_zero, List.set_cons_succ])))
        refine mix_call (by rfl) (fun K hK => ?_)
        go_simp
        refine (HD3 _ re_26 (hF.below hB26)).mono ?_
        rintro e w27 ⟨rfl, hb27⟩
        have ax_27 := ax_26.below hb27 ax_26.lt
        have ae_27 := ae_26.below hb27 ae_26.lt
        have ha_27 := ha_26.lift hb27
        have re_27 := re_26.lift hb27
        have rd_27 := rd_26.lift hb27
        have hB27 := hB26.trans (hb27.mono hB26.size)
        clear hb27 hB26 rd_26 re_26 ha_26 ae_26 ax_26
        refine hK _ _ (fun u => At u (w1.heap.size) 25 #[.int .i64 xa, .int .i64 xb, .int .i64 xc, .int .i64 xd] ∧ At u (w3.heap.size) 28 #[.int .i64 0, .slice Ae 7 ka]) (fun _ h => h) ⟨ax_27, ae_27⟩ ?_
        clear hK K
        (try simp only [Act.put, List.setIfInBounds_toArray, List.set_cons_zero, List.set_cons_succ])
        repeat (first
          | (refine mix_skip (by rfl) ?_
             (try simp only [Act.put, List.setIfInBounds_toArray, List.set_cons_zero, List.set_cons_succ]))
          | (refine mix_pure (v := ?_) (by rfl) (fun u hu => ?_) ?_
             rotate_left
             · obtain ⟨y0, y1⟩ := hu
               obtain ⟨_, _, _, _, _, _, _, _⟩ := y0.four
               obtain ⟨_, _, _, _⟩ := y1.two
               go_simp
               (with_reducible rfl)
             (try simp only [Act.put, List.setIfInBounds_toArray, List.set_cons_zero, List.set_cons_succ])))
        refine mix_nil ?_
        go_wp2
        go_ret
        exact ⟨rfl, hB27⟩
      · obtain rfl : ce = 3 := by
          rcases faultM_or (xa, xb, xc, xd) with h | h
          · exact absurd (HFc.out.symm.trans h) hc
          · exact HFc.out.symm.trans h
        clear hc
        obtain ⟨ae0, ae1, _, _⟩ := ae_25.two
        go_quiet (fail)
        go_wp2
        go_ret
        exact ⟨rfl, bdrewN hB25 _⟩
    · have hne : (dc == 0) = false := by simpa using h0
      clear h0
      obtain ⟨ad0, ad1, ad2, ad3, ad4, _, _, _, _, _⟩ := ad_24.five
      go_wp2_with fail
      by_cases hc : ce = 0
      · have hb25 : Below w24.heap.size w24 w24.drew := (Below.refl _ _).drew
        have ax_25 := ax_24.below hb25 ax_24.lt
        have ae_25 := ae_24.below hb25 ae_24.lt
        have ha_25 := ha_24.lift hb25
        have re_25 := re_24.lift hb25
        have rd_25 := rd_24.lift hb25
        have hB25 := hB24.trans (hb25.mono hB24.size)
        clear hb25 ad0 ad1 ad2 ad3 ad4 hB24 rd_24 re_24 ha_24 ae_24 ax_24
        subst hc
        obtain ⟨hl7, hdec⟩ := encode_decode HFc.out
        rw [HM.out] at hl7 hdec
        dsimp only at hl7 hdec
        obtain rfl : ke = 7 := by rw [← Hke.out]; exact hl7
        have HD3 := fun W h1 h2 => implDecodeSample Ae 7 ka el W h1 hl7 (by unfold maxLen; omega) h2
        rw [hdec] at HD3
        clear hdec hl7
        have F3 := eqlS
        refine wp_region_mix [(0, false), (1, false), (2, false), (3, false), (4, false), (5, false), (6, false), (7, false), (8, false), (9, false), (10, false), (12, false), (13, false), (11, true), (14, false), (15, false), (16, false), (17, false)] (fun u => At u (w1.heap.size) 25 #[.int .i64 xa, .int .i64 xb, .int .i64 xc, .int .i64 xd] ∧ At u (w3.heap.size) 28 #[.int .i64 0, .slice Ae 7 ka]) (by kernel_rfl) (by kernel_rfl) (fun _ _ _ _ _ h => h) ⟨ax_25, ae_25⟩ ?_
        simp only [mixOps, List.map_cons, List.map_nil, List.getElem?_cons_succ, List.getElem?_cons_zero, Option.getD_some]
        repeat (first
          | (refine mix_skip (by rfl) ?_
             (try simp only [Act.put, List.setIfInBounds_toArray, List.set_cons_zero, List.set_cons_succ]))
          | (refine mix_pure (v := ?_) (by rfl) (fun u hu => ?_) ?_
             rotate_left
             · obtain ⟨y0, y1⟩ := hu
               obtain ⟨_, _, _, _, _, _, _, _⟩ := y0.four
               obtain ⟨_, _, _, _⟩ := y1.two
               go_simp
               (with_reducible rfl)
             (try simp only [Act.put, List.setIfInBounds_toArray, List.set_cons_zero, List.set_cons_succ])))
        refine mix_call (by rfl) (fun K hK => ?_)
        go_simp
        refine (HD3 _ re_25 (hF.below hB25)).mono ?_
        rintro e w26 ⟨rfl, hb26⟩
        have ax_26 := ax_25.below hb26 ax_25.lt
        have ae_26 := ae_25.below hb26 ae_25.lt
        have ha_26 := ha_25.lift hb26
        have re_26 := re_25.lift hb26
        have rd_26 := rd_25.lift hb26
        have hB26 := hB25.trans (hb26.mono hB25.size)
        clear hb26 hB25 rd_25 re_25 ha_25 ae_25 ax_25
        refine hK _ _ (fun u => At u (w1.heap.size) 25 #[.int .i64 xa, .int .i64 xb, .int .i64 xc, .int .i64 xd] ∧ At u (w3.heap.size) 28 #[.int .i64 0, .slice Ae 7 ka]) (fun _ h => h) ⟨ax_26, ae_26⟩ ?_
        clear hK K
        (try simp only [Act.put, List.setIfInBounds_toArray, List.set_cons_zero, List.set_cons_succ])
        repeat (first
          | (refine mix_skip (by rfl) ?_
             (try simp only [Act.put, List.setIfInBounds_toArray, List.set_cons_zero, List.set_cons_succ]))
          | (refine mix_pure (v := ?_) (by rfl) (fun u hu => ?_) ?_
             rotate_left
             · obtain ⟨y0, y1⟩ := hu
               obtain ⟨_, _, _, _, _, _, _, _⟩ := y0.four
               obtain ⟨_, _, _, _⟩ := y1.two
               go_simp
               (with_reducible rfl)
             (try simp only [Act.put, List.setIfInBounds_toArray, List.set_cons_zero, List.set_cons_succ])))
        refine mix_nil ?_
        go_wp2
        go_ret
        exact ⟨rfl, hB26⟩
      · obtain rfl : ce = 3 := by
          rcases faultM_or (xa, xb, xc, xd) with h | h
          · exact absurd (HFc.out.symm.trans h) hc
          · exact HFc.out.symm.trans h
        clear hc
        obtain ⟨ae0, ae1, _, _⟩ := ae_24.two
        go_quiet (fail)
        go_wp2
        go_ret
        exact ⟨rfl, bdrewN hB24 _⟩
  · obtain ⟨aa0, aa1, aa2, aa3, _, _, _, _⟩ := aa_21.four
    obtain ⟨ab0, ab1, ab2, ab3, _, _, _, _⟩ := ab_21.four
    go_wp2_with fail
    refine (IA.out _).mono ?_
    rintro e w22 ⟨rfl, hb22⟩
    have ax_22 := ax_21.below hb22 ax_21.lt
    have ae_22 := ae_21.below hb22 ae_21.lt
    have ad_22 := ad_21.below hb22 ad_21.lt
    have aa_22 := aa_21.below hb22 aa_21.lt
    have ab_22 := ab_21.below hb22 ab_21.lt
    have ha_22 := ha_21.lift hb22
    have re_22 := re_21.lift hb22
    have rd_22 := rd_21.lift hb22
    have hB22 := hB21.trans (hb22.mono hB21.size)
    clear hb22 aa0 aa1 aa2 aa3 ab0 ab1 ab2 ab3 hB21 rd_21 re_21 ha_21 ab_21 aa_21 ad_21 ae_21 ax_21
    obtain ⟨aa0, aa1, aa2, aa3, _, _, _, _⟩ := aa_22.four
    obtain ⟨ab0, ab1, ab2, ab3, _, _, _, _⟩ := ab_22.four
    go_wp2_with fail
    refine (IB.out _).mono ?_
    rintro e w23 ⟨rfl, hb23⟩
    have ax_23 := ax_22.below hb23 ax_22.lt
    have ae_23 := ae_22.below hb23 ae_22.lt
    have ad_23 := ad_22.below hb23 ad_22.lt
    have aa_23 := aa_22.below hb23 aa_22.lt
    have ab_23 := ab_22.below hb23 ab_22.lt
    have ha_23 := ha_22.lift hb23
    have re_23 := re_22.lift hb23
    have rd_23 := rd_22.lift hb23
    have hB23 := hB22.trans (hb23.mono hB22.size)
    clear hb23 aa0 aa1 aa2 aa3 ab0 ab1 ab2 ab3 hB22 rd_22 re_22 ha_22 ab_22 aa_22 ad_22 ae_22 ax_22
    obtain ⟨aa0, aa1, aa2, aa3, _, _, _, _⟩ := aa_23.four
    obtain ⟨ab0, ab1, ab2, ab3, _, _, _, _⟩ := ab_23.four
    go_wp2_with fail
    refine (IK.out _).mono ?_
    rintro e w24 ⟨rfl, hb24⟩
    have ax_24 := ax_23.below hb24 ax_23.lt
    have ae_24 := ae_23.below hb24 ae_23.lt
    have ad_24 := ad_23.below hb24 ad_23.lt
    have aa_24 := aa_23.below hb24 aa_23.lt
    have ab_24 := ab_23.below hb24 ab_23.lt
    have ha_24 := ha_23.lift hb24
    have re_24 := re_23.lift hb24
    have rd_24 := rd_23.lift hb24
    have hB24 := hB23.trans (hb24.mono hB23.size)
    clear hb24 aa0 aa1 aa2 aa3 ab0 ab1 ab2 ab3 hB23 rd_23 re_23 ha_23 ab_23 aa_23 ad_23 ae_23 ax_23
    clear IA IB IK
    by_cases h0 : dc = 0
    · subst h0
      have hE2 : encodeM (d0, d1, d2, d3) = (0, dd) := by have h := decode_encode (l := dd) (by rw [HD.out]); rw [HD.out] at h; exact h
      have HE2 := fun W (h : Flds W) => implEncodeSample d0 d1 d2 d3 W h
      rw [hE2] at HE2
      clear hE2
      obtain ⟨ad0, ad1, ad2, ad3, ad4, _, _, _, _, _⟩ := ad_24.five
      go_wp2_with fail
      refine (HE2 _ (hF.below hB24)).mono ?_
      rintro e w25 ⟨Az, kz, kza, rfl, oz, hb25⟩
      have ax_25 := ax_24.below hb25 ax_24.lt
      have ae_25 := ae_24.below hb25 ae_24.lt
      have ad_25 := ad_24.below hb25 ad_24.lt
      have ha_25 := ha_24.lift hb25
      have re_25 := re_24.lift hb25
      have rd_25 := rd_24.lift hb25
      have hB25 := hB24.trans (hb25.mono hB24.size)
      clear hb25 ad0 ad1 ad2 ad3 ad4 hB24 rd_24 re_24 ha_24 ad_24 ae_24 ax_24
      have rz := (oz.rd okA).ofA
      have lkz := oz.len okA
      dsimp only at rz lkz
      have HL := lwSame Az Ad kz kd kza kb dd dd _ rz rd_25 lkz Hdl.out
      rw [show decide (dd = dd) = true by simp] at HL
      clear oz HE2 lkz
      obtain ⟨ad0, ad1, ad2, ad3, ad4, _, _, _, _, _⟩ := ad_25.five
      go_wp2_with fail
      refine HL.mono ?_
      rintro e w99 ⟨rfl, rfl⟩
      clear HL rz
      go_wp2_with fail
      by_cases hc : ce = 0
      · have hb26 : Below w25.heap.size w25 w25.drew := (Below.refl _ _).drew
        have ax_26 := ax_25.below hb26 ax_25.lt
        have ae_26 := ae_25.below hb26 ae_25.lt
        have ha_26 := ha_25.lift hb26
        have re_26 := re_25.lift hb26
        have rd_26 := rd_25.lift hb26
        have hB26 := hB25.trans (hb26.mono hB25.size)
        clear hb26 ad0 ad1 ad2 ad3 ad4 hB25 rd_25 re_25 ha_25 ae_25 ax_25
        subst hc
        obtain ⟨hl7, hdec⟩ := encode_decode HFc.out
        rw [HM.out] at hl7 hdec
        dsimp only at hl7 hdec
        obtain rfl : ke = 7 := by rw [← Hke.out]; exact hl7
        have HD3 := fun W h1 h2 => implDecodeSample Ae 7 ka el W h1 hl7 (by unfold maxLen; omega) h2
        rw [hdec] at HD3
        clear hdec hl7
        have F3 := eqlS
        refine wp_region_mix [(0, false), (1, false), (2, false), (3, false), (4, false), (5, false), (6, false), (7, false), (8, false), (9, false), (10, false), (12, false), (13, false), (11, true), (14, false), (15, false), (16, false), (17, false)] (fun u => At u (w1.heap.size) 25 #[.int .i64 xa, .int .i64 xb, .int .i64 xc, .int .i64 xd] ∧ At u (w3.heap.size) 28 #[.int .i64 0, .slice Ae 7 ka]) (by kernel_rfl) (by kernel_rfl) (fun _ _ _ _ _ h => h) ⟨ax_26, ae_26⟩ ?_
        simp only [mixOps, List.map_cons, List.map_nil, List.getElem?_cons_succ, List.getElem?_cons_zero, Option.getD_some]
        repeat (first
          | (refine mix_skip (by rfl) ?_
             (try simp only [Act.put, List.setIfInBounds_toArray, List.set_cons_zero, List.set_cons_succ]))
          | (refine mix_pure (v := ?_) (by rfl) (fun u hu => ?_) ?_
             rotate_left
             · obtain ⟨y0, y1⟩ := hu
               obtain ⟨_, _, _, _, _, _, _, _⟩ := y0.four
               obtain ⟨_, _, _, _⟩ := y1.two
               go_simp
               (with_reducible rfl)
             (try simp only [Act.put, List.setIfInBounds_toArray, List.set_cons_zero, List.set_cons_succ])))
        refine mix_call (by rfl) (fun K hK => ?_)
        go_simp
        refine (HD3 _ re_26 (hF.below hB26)).mono ?_
        rintro e w27 ⟨rfl, hb27⟩
        have ax_27 := ax_26.below hb27 ax_26.lt
        have ae_27 := ae_26.below hb27 ae_26.lt
        have ha_27 := ha_26.lift hb27
        have re_27 := re_26.lift hb27
        have rd_27 := rd_26.lift hb27
        have hB27 := hB26.trans (hb27.mono hB26.size)
        clear hb27 hB26 rd_26 re_26 ha_26 ae_26 ax_26
        refine hK _ _ (fun u => At u (w1.heap.size) 25 #[.int .i64 xa, .int .i64 xb, .int .i64 xc, .int .i64 xd] ∧ At u (w3.heap.size) 28 #[.int .i64 0, .slice Ae 7 ka]) (fun _ h => h) ⟨ax_27, ae_27⟩ ?_
        clear hK K
        (try simp only [Act.put, List.setIfInBounds_toArray, List.set_cons_zero, List.set_cons_succ])
        repeat (first
          | (refine mix_skip (by rfl) ?_
             (try simp only [Act.put, List.setIfInBounds_toArray, List.set_cons_zero, List.set_cons_succ]))
          | (refine mix_pure (v := ?_) (by rfl) (fun u hu => ?_) ?_
             rotate_left
             · obtain ⟨y0, y1⟩ := hu
               obtain ⟨_, _, _, _, _, _, _, _⟩ := y0.four
               obtain ⟨_, _, _, _⟩ := y1.two
               go_simp
               (with_reducible rfl)
             (try simp only [Act.put, List.setIfInBounds_toArray, List.set_cons_zero, List.set_cons_succ])))
        refine mix_nil ?_
        go_wp2
        go_ret
        exact ⟨rfl, hB27⟩
      · obtain rfl : ce = 3 := by
          rcases faultM_or (xa, xb, xc, xd) with h | h
          · exact absurd (HFc.out.symm.trans h) hc
          · exact HFc.out.symm.trans h
        clear hc
        obtain ⟨ae0, ae1, _, _⟩ := ae_25.two
        go_quiet (fail)
        go_wp2
        go_ret
        exact ⟨rfl, bdrewN hB25 _⟩
    · have hne : (dc == 0) = false := by simpa using h0
      clear h0
      obtain ⟨ad0, ad1, ad2, ad3, ad4, _, _, _, _, _⟩ := ad_24.five
      go_wp2_with fail
      by_cases hc : ce = 0
      · have hb25 : Below w24.heap.size w24 w24.drew := (Below.refl _ _).drew
        have ax_25 := ax_24.below hb25 ax_24.lt
        have ae_25 := ae_24.below hb25 ae_24.lt
        have ha_25 := ha_24.lift hb25
        have re_25 := re_24.lift hb25
        have rd_25 := rd_24.lift hb25
        have hB25 := hB24.trans (hb25.mono hB24.size)
        clear hb25 ad0 ad1 ad2 ad3 ad4 hB24 rd_24 re_24 ha_24 ae_24 ax_24
        subst hc
        obtain ⟨hl7, hdec⟩ := encode_decode HFc.out
        rw [HM.out] at hl7 hdec
        dsimp only at hl7 hdec
        obtain rfl : ke = 7 := by rw [← Hke.out]; exact hl7
        have HD3 := fun W h1 h2 => implDecodeSample Ae 7 ka el W h1 hl7 (by unfold maxLen; omega) h2
        rw [hdec] at HD3
        clear hdec hl7
        have F3 := eqlS
        refine wp_region_mix [(0, false), (1, false), (2, false), (3, false), (4, false), (5, false), (6, false), (7, false), (8, false), (9, false), (10, false), (12, false), (13, false), (11, true), (14, false), (15, false), (16, false), (17, false)] (fun u => At u (w1.heap.size) 25 #[.int .i64 xa, .int .i64 xb, .int .i64 xc, .int .i64 xd] ∧ At u (w3.heap.size) 28 #[.int .i64 0, .slice Ae 7 ka]) (by kernel_rfl) (by kernel_rfl) (fun _ _ _ _ _ h => h) ⟨ax_25, ae_25⟩ ?_
        simp only [mixOps, List.map_cons, List.map_nil, List.getElem?_cons_succ, List.getElem?_cons_zero, Option.getD_some]
        repeat (first
          | (refine mix_skip (by rfl) ?_
             (try simp only [Act.put, List.setIfInBounds_toArray, List.set_cons_zero, List.set_cons_succ]))
          | (refine mix_pure (v := ?_) (by rfl) (fun u hu => ?_) ?_
             rotate_left
             · obtain ⟨y0, y1⟩ := hu
               obtain ⟨_, _, _, _, _, _, _, _⟩ := y0.four
               obtain ⟨_, _, _, _⟩ := y1.two
               go_simp
               (with_reducible rfl)
             (try simp only [Act.put, List.setIfInBounds_toArray, List.set_cons_zero, List.set_cons_succ])))
        refine mix_call (by rfl) (fun K hK => ?_)
        go_simp
        refine (HD3 _ re_25 (hF.below hB25)).mono ?_
        rintro e w26 ⟨rfl, hb26⟩
        have ax_26 := ax_25.below hb26 ax_25.lt
        have ae_26 := ae_25.below hb26 ae_25.lt
        have ha_26 := ha_25.lift hb26
        have re_26 := re_25.lift hb26
        have rd_26 := rd_25.lift hb26
        have hB26 := hB25.trans (hb26.mono hB25.size)
        clear hb26 hB25 rd_25 re_25 ha_25 ae_25 ax_25
        refine hK _ _ (fun u => At u (w1.heap.size) 25 #[.int .i64 xa, .int .i64 xb, .int .i64 xc, .int .i64 xd] ∧ At u (w3.heap.size) 28 #[.int .i64 0, .slice Ae 7 ka]) (fun _ h => h) ⟨ax_26, ae_26⟩ ?_
        clear hK K
        (try simp only [Act.put, List.setIfInBounds_toArray, List.set_cons_zero, List.set_cons_succ])
        repeat (first
          | (refine mix_skip (by rfl) ?_
             (try simp only [Act.put, List.setIfInBounds_toArray, List.set_cons_zero, List.set_cons_succ]))
          | (refine mix_pure (v := ?_) (by rfl) (fun u hu => ?_) ?_
             rotate_left
             · obtain ⟨y0, y1⟩ := hu
               obtain ⟨_, _, _, _, _, _, _, _⟩ := y0.four
               obtain ⟨_, _, _, _⟩ := y1.two
               go_simp
               (with_reducible rfl)
             (try simp only [Act.put, List.setIfInBounds_toArray, List.set_cons_zero, List.set_cons_succ])))
        refine mix_nil ?_
        go_wp2
        go_ret
        exact ⟨rfl, hB26⟩
      · obtain rfl : ce = 3 := by
          rcases faultM_or (xa, xb, xc, xd) with h | h
          · exact absurd (HFc.out.symm.trans h) hc
          · exact HFc.out.symm.trans h
        clear hc
        obtain ⟨ae0, ae1, _, _⟩ := ae_24.two
        go_quiet (fail)
        go_wp2
        go_ret
        exact ⟨rfl, bdrewN hB24 _⟩
  · obtain ⟨aa0, aa1, aa2, aa3, _, _, _, _⟩ := aa_21.four
    obtain ⟨ab0, ab1, ab2, ab3, _, _, _, _⟩ := ab_21.four
    go_wp2_with fail
    refine (IA.out _).mono ?_
    rintro e w22 ⟨rfl, hb22⟩
    have ax_22 := ax_21.below hb22 ax_21.lt
    have ae_22 := ae_21.below hb22 ae_21.lt
    have ad_22 := ad_21.below hb22 ad_21.lt
    have aa_22 := aa_21.below hb22 aa_21.lt
    have ab_22 := ab_21.below hb22 ab_21.lt
    have ha_22 := ha_21.lift hb22
    have re_22 := re_21.lift hb22
    have rd_22 := rd_21.lift hb22
    have hB22 := hB21.trans (hb22.mono hB21.size)
    clear hb22 aa0 aa1 aa2 aa3 ab0 ab1 ab2 ab3 hB21 rd_21 re_21 ha_21 ab_21 aa_21 ad_21 ae_21 ax_21
    obtain ⟨aa0, aa1, aa2, aa3, _, _, _, _⟩ := aa_22.four
    obtain ⟨ab0, ab1, ab2, ab3, _, _, _, _⟩ := ab_22.four
    go_wp2_with fail
    refine (IB.out _).mono ?_
    rintro e w23 ⟨rfl, hb23⟩
    have ax_23 := ax_22.below hb23 ax_22.lt
    have ae_23 := ae_22.below hb23 ae_22.lt
    have ad_23 := ad_22.below hb23 ad_22.lt
    have aa_23 := aa_22.below hb23 aa_22.lt
    have ab_23 := ab_22.below hb23 ab_22.lt
    have ha_23 := ha_22.lift hb23
    have re_23 := re_22.lift hb23
    have rd_23 := rd_22.lift hb23
    have hB23 := hB22.trans (hb23.mono hB22.size)
    clear hb23 aa0 aa1 aa2 aa3 ab0 ab1 ab2 ab3 hB22 rd_22 re_22 ha_22 ab_22 aa_22 ad_22 ae_22 ax_22
    obtain ⟨aa0, aa1, aa2, aa3, _, _, _, _⟩ := aa_23.four
    obtain ⟨ab0, ab1, ab2, ab3, _, _, _, _⟩ := ab_23.four
    go_wp2_with fail
    refine (IK.out _).mono ?_
    rintro e w24 ⟨rfl, hb24⟩
    have ax_24 := ax_23.below hb24 ax_23.lt
    have ae_24 := ae_23.below hb24 ae_23.lt
    have ad_24 := ad_23.below hb24 ad_23.lt
    have aa_24 := aa_23.below hb24 aa_23.lt
    have ab_24 := ab_23.below hb24 ab_23.lt
    have ha_24 := ha_23.lift hb24
    have re_24 := re_23.lift hb24
    have rd_24 := rd_23.lift hb24
    have hB24 := hB23.trans (hb24.mono hB23.size)
    clear hb24 aa0 aa1 aa2 aa3 ab0 ab1 ab2 ab3 hB23 rd_23 re_23 ha_23 ab_23 aa_23 ad_23 ae_23 ax_23
    clear IA IB IK
    by_cases h0 : dc = 0
    · subst h0
      have hE2 : encodeM (d0, d1, d2, d3) = (0, dd) := by have h := decode_encode (l := dd) (by rw [HD.out]); rw [HD.out] at h; exact h
      have HE2 := fun W (h : Flds W) => implEncodeSample d0 d1 d2 d3 W h
      rw [hE2] at HE2
      clear hE2
      obtain ⟨ad0, ad1, ad2, ad3, ad4, _, _, _, _, _⟩ := ad_24.five
      go_wp2_with fail
      refine (HE2 _ (hF.below hB24)).mono ?_
      rintro e w25 ⟨Az, kz, kza, rfl, oz, hb25⟩
      have ax_25 := ax_24.below hb25 ax_24.lt
      have ae_25 := ae_24.below hb25 ae_24.lt
      have ad_25 := ad_24.below hb25 ad_24.lt
      have ha_25 := ha_24.lift hb25
      have re_25 := re_24.lift hb25
      have rd_25 := rd_24.lift hb25
      have hB25 := hB24.trans (hb25.mono hB24.size)
      clear hb25 ad0 ad1 ad2 ad3 ad4 hB24 rd_24 re_24 ha_24 ad_24 ae_24 ax_24
      have rz := (oz.rd okA).ofA
      have lkz := oz.len okA
      dsimp only at rz lkz
      have HL := lwSame Az Ad kz kd kza kb dd dd _ rz rd_25 lkz Hdl.out
      rw [show decide (dd = dd) = true by simp] at HL
      clear oz HE2 lkz
      obtain ⟨ad0, ad1, ad2, ad3, ad4, _, _, _, _, _⟩ := ad_25.five
      go_wp2_with fail
      refine HL.mono ?_
      rintro e w99 ⟨rfl, rfl⟩
      clear HL rz
      go_wp2_with fail
      by_cases hc : ce = 0
      · have hb26 : Below w25.heap.size w25 w25.drew := (Below.refl _ _).drew
        have ax_26 := ax_25.below hb26 ax_25.lt
        have ae_26 := ae_25.below hb26 ae_25.lt
        have ha_26 := ha_25.lift hb26
        have re_26 := re_25.lift hb26
        have rd_26 := rd_25.lift hb26
        have hB26 := hB25.trans (hb26.mono hB25.size)
        clear hb26 ad0 ad1 ad2 ad3 ad4 hB25 rd_25 re_25 ha_25 ae_25 ax_25
        subst hc
        obtain ⟨hl7, hdec⟩ := encode_decode HFc.out
        rw [HM.out] at hl7 hdec
        dsimp only at hl7 hdec
        obtain rfl : ke = 7 := by rw [← Hke.out]; exact hl7
        have HD3 := fun W h1 h2 => implDecodeSample Ae 7 ka el W h1 hl7 (by unfold maxLen; omega) h2
        rw [hdec] at HD3
        clear hdec hl7
        have F3 := eqlS
        refine wp_region_mix [(0, false), (1, false), (2, false), (3, false), (4, false), (5, false), (6, false), (7, false), (8, false), (9, false), (10, false), (12, false), (13, false), (11, true), (14, false), (15, false), (16, false), (17, false)] (fun u => At u (w1.heap.size) 25 #[.int .i64 xa, .int .i64 xb, .int .i64 xc, .int .i64 xd] ∧ At u (w3.heap.size) 28 #[.int .i64 0, .slice Ae 7 ka]) (by kernel_rfl) (by kernel_rfl) (fun _ _ _ _ _ h => h) ⟨ax_26, ae_26⟩ ?_
        simp only [mixOps, List.map_cons, List.map_nil, List.getElem?_cons_succ, List.getElem?_cons_zero, Option.getD_some]
        repeat (first
          | (refine mix_skip (by rfl) ?_
             (try simp only [Act.put, List.setIfInBounds_toArray, List.set_cons_zero, List.set_cons_succ]))
          | (refine mix_pure (v := ?_) (by rfl) (fun u hu => ?_) ?_
             rotate_left
             · obtain ⟨y0, y1⟩ := hu
               obtain ⟨_, _, _, _, _, _, _, _⟩ := y0.four
               obtain ⟨_, _, _, _⟩ := y1.two
               go_simp
               (with_reducible rfl)
             (try simp only [Act.put, List.setIfInBounds_toArray, List.set_cons_zero, List.set_cons_succ])))
        refine mix_call (by rfl) (fun K hK => ?_)
        go_simp
        refine (HD3 _ re_26 (hF.below hB26)).mono ?_
        rintro e w27 ⟨rfl, hb27⟩
        have ax_27 := ax_26.below hb27 ax_26.lt
        have ae_27 := ae_26.below hb27 ae_26.lt
        have ha_27 := ha_26.lift hb27
        have re_27 := re_26.lift hb27
        have rd_27 := rd_26.lift hb27
        have hB27 := hB26.trans (hb27.mono hB26.size)
        clear hb27 hB26 rd_26 re_26 ha_26 ae_26 ax_26
        refine hK _ _ (fun u => At u (w1.heap.size) 25 #[.int .i64 xa, .int .i64 xb, .int .i64 xc, .int .i64 xd] ∧ At u (w3.heap.size) 28 #[.int .i64 0, .slice Ae 7 ka]) (fun _ h => h) ⟨ax_27, ae_27⟩ ?_
        clear hK K
        (try simp only [Act.put, List.setIfInBounds_toArray, List.set_cons_zero, List.set_cons_succ])
        repeat (first
          | (refine mix_skip (by rfl) ?_
             (try simp only [Act.put, List.setIfInBounds_toArray, List.set_cons_zero, List.set_cons_succ]))
          | (refine mix_pure (v := ?_) (by rfl) (fun u hu => ?_) ?_
             rotate_left
             · obtain ⟨y0, y1⟩ := hu
               obtain ⟨_, _, _, _, _, _, _, _⟩ := y0.four
               obtain ⟨_, _, _, _⟩ := y1.two
               go_simp
               (with_reducible rfl)
             (try simp only [Act.put, List.setIfInBounds_toArray, List.set_cons_zero, List.set_cons_succ])))
        refine mix_nil ?_
        go_wp2
        go_ret
        exact ⟨rfl, hB27⟩
      · obtain rfl : ce = 3 := by
          rcases faultM_or (xa, xb, xc, xd) with h | h
          · exact absurd (HFc.out.symm.trans h) hc
          · exact HFc.out.symm.trans h
        clear hc
        obtain ⟨ae0, ae1, _, _⟩ := ae_25.two
        go_quiet (fail)
        go_wp2
        go_ret
        exact ⟨rfl, bdrewN hB25 _⟩
    · have hne : (dc == 0) = false := by simpa using h0
      clear h0
      obtain ⟨ad0, ad1, ad2, ad3, ad4, _, _, _, _, _⟩ := ad_24.five
      go_wp2_with fail
      by_cases hc : ce = 0
      · have hb25 : Below w24.heap.size w24 w24.drew := (Below.refl _ _).drew
        have ax_25 := ax_24.below hb25 ax_24.lt
        have ae_25 := ae_24.below hb25 ae_24.lt
        have ha_25 := ha_24.lift hb25
        have re_25 := re_24.lift hb25
        have rd_25 := rd_24.lift hb25
        have hB25 := hB24.trans (hb25.mono hB24.size)
        clear hb25 ad0 ad1 ad2 ad3 ad4 hB24 rd_24 re_24 ha_24 ae_24 ax_24
        subst hc
        obtain ⟨hl7, hdec⟩ := encode_decode HFc.out
        rw [HM.out] at hl7 hdec
        dsimp only at hl7 hdec
        obtain rfl : ke = 7 := by rw [← Hke.out]; exact hl7
        have HD3 := fun W h1 h2 => implDecodeSample Ae 7 ka el W h1 hl7 (by unfold maxLen; omega) h2
        rw [hdec] at HD3
        clear hdec hl7
        have F3 := eqlS
        refine wp_region_mix [(0, false), (1, false), (2, false), (3, false), (4, false), (5, false), (6, false), (7, false), (8, false), (9, false), (10, false), (12, false), (13, false), (11, true), (14, false), (15, false), (16, false), (17, false)] (fun u => At u (w1.heap.size) 25 #[.int .i64 xa, .int .i64 xb, .int .i64 xc, .int .i64 xd] ∧ At u (w3.heap.size) 28 #[.int .i64 0, .slice Ae 7 ka]) (by kernel_rfl) (by kernel_rfl) (fun _ _ _ _ _ h => h) ⟨ax_25, ae_25⟩ ?_
        simp only [mixOps, List.map_cons, List.map_nil, List.getElem?_cons_succ, List.getElem?_cons_zero, Option.getD_some]
        repeat (first
          | (refine mix_skip (by rfl) ?_
             (try simp only [Act.put, List.setIfInBounds_toArray, List.set_cons_zero, List.set_cons_succ]))
          | (refine mix_pure (v := ?_) (by rfl) (fun u hu => ?_) ?_
             rotate_left
             · obtain ⟨y0, y1⟩ := hu
               obtain ⟨_, _, _, _, _, _, _, _⟩ := y0.four
               obtain ⟨_, _, _, _⟩ := y1.two
               go_simp
               (with_reducible rfl)
             (try simp only [Act.put, List.setIfInBounds_toArray, List.set_cons_zero, List.set_cons_succ])))
        refine mix_call (by rfl) (fun K hK => ?_)
        go_simp
        refine (HD3 _ re_25 (hF.below hB25)).mono ?_
        rintro e w26 ⟨rfl, hb26⟩
        have ax_26 := ax_25.below hb26 ax_25.lt
        have ae_26 := ae_25.below hb26 ae_25.lt
        have ha_26 := ha_25.lift hb26
        have re_26 := re_25.lift hb26
        have rd_26 := rd_25.lift hb26
        have hB26 := hB25.trans (hb26.mono hB25.size)
        clear hb26 hB25 rd_25 re_25 ha_25 ae_25 ax_25
        refine hK _ _ (fun u => At u (w1.heap.size) 25 #[.int .i64 xa, .int .i64 xb, .int .i64 xc, .int .i64 xd] ∧ At u (w3.heap.size) 28 #[.int .i64 0, .slice Ae 7 ka]) (fun _ h => h) ⟨ax_26, ae_26⟩ ?_
        clear hK K
        (try simp only [Act.put, List.setIfInBounds_toArray, List.set_cons_zero, List.set_cons_succ])
        repeat (first
          | (refine mix_skip (by rfl) ?_
             (try simp only [Act.put, List.setIfInBounds_toArray, List.set_cons_zero, List.set_cons_succ]))
          | (refine mix_pure (v := ?_) (by rfl) (fun u hu => ?_) ?_
             rotate_left
             · obtain ⟨y0, y1⟩ := hu
               obtain ⟨_, _, _, _, _, _, _, _⟩ := y0.four
               obtain ⟨_, _, _, _⟩ := y1.two
               go_simp
               (with_reducible rfl)
             (try simp only [Act.put, List.setIfInBounds_toArray, List.set_cons_zero, List.set_cons_succ])))
        refine mix_nil ?_
        go_wp2
        go_ret
        exact ⟨rfl, hB26⟩
      · obtain rfl : ce = 3 := by
          rcases faultM_or (xa, xb, xc, xd) with h | h
          · exact absurd (HFc.out.symm.trans h) hc
          · exact HFc.out.symm.trans h
        clear hc
        obtain ⟨ae0, ae1, _, _⟩ := ae_24.two
        go_quiet (fail)
        go_wp2
        go_ret
        exact ⟨rfl, bdrewN hB24 _⟩
end Go.Proofs.YtpbpahdgdddneaaDoor
