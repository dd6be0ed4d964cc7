/-
  Texts of one proof, joined: each has its own namespace.
-/
import Derived.Test.YtmaillakhhdkfaaGreatDoorBFnRecords11
import Derived.Test.YtmaillakhhdkfaaGreatDoorBFnRecords5
import Derived.Test.YtmaillakhhdkfaaGreatDoorBFnRecords18
import Derived.Test.YtmaillakhhdkfaaGreatDoorBFnRecords10
import Derived.Test.YtmaillakhhdkfaaGreatDoorBFnRecords0
import Derived.BigQuiet
/-
  The law of records: the walk.
-/
namespace Go.Proofs.YtmaillakhhdkfaaGreatDoor
set_option maxRecDepth 20000
open Go.RowKit
set_option linter.unusedSimpArgs false
set_option linter.unusedVariables false
attribute [local irreducible] mixW

theorem lwBig_no (A : Option Addr) (n c : Nat) (w : World) (h : ¬ 1048576 < n) :
    Calls Tryz.prog 6 #[.slice A n c] w fun e w' => e = .returned (.bool false) ∧ w = w' := by
  have hd : decide ((1048576 : Int) < (n : Int)) = false := decide_eq_false (by omega)
  go_enter Tryz.func6, Tryz.ntmps6
  go_wp2
  go_ret
  exact ⟨rfl, rfl⟩
theorem fldB0R (z : Int) (A : Option Addr) (k c : Nat) (u : World) : (Instr.field 30 (.agg #[.int .i64 z, .slice A k c]) 0).run Tryz.prog u = .ok (.int .i64 z) u := by kernel_rfl
theorem fldS0R (z x : Int) (A B : Option Addr) (k c m d : Nat) (u : World) : (Instr.field 43 (.agg #[.int .i64 z, .slice A k c, .slice B m d, .int .i64 x]) 0).run Tryz.prog u = .ok (.int .i64 z) u := by kernel_rfl
theorem fldS1R (z x : Int) (A B : Option Addr) (k c m d : Nat) (u : World) : (Instr.field 43 (.agg #[.int .i64 z, .slice A k c, .slice B m d, .int .i64 x]) 1).run Tryz.prog u = .ok (.agg #[.slice A k c, .slice B m d, .int .i64 x]) u := by kernel_rfl
theorem neqRR (a b c d e f g h : Int) (u : World) : (binOp .neq 34 (.agg #[.int .i64 a, .int .i64 b, .int .i64 c, .int .i64 d, .int .i64 e, .int .i64 f, .int .i64 g, .int .i64 h]) (.agg #[.int .i64 a, .int .i64 b, .int .i64 c, .int .i64 d, .int .i64 e, .int .i64 f, .int .i64 g, .int .i64 h])).run Tryz.prog u = .ok (.bool false) u := by
  go_simp
theorem life_ok {s s' : Sta} {r : Rcd} (h : applyM s r = (0, s')) : stateFaultM s' = 0 ∧ s.2.2 ≤ s'.2.2 ∧ s.1.length ≤ s'.1.length := apply_said h

set_option maxRecDepth 100000 in
set_option maxHeartbeats 16000000 in
theorem fnRecords_walk (X : Option Addr) (n c : Nat) (l : List UInt8) (w : World) (ha : Rd eB w w.heap.size X l) (hn : l.length = n) (hF : Flds w) :
    Calls Tryz.prog 3 #[.slice X n c] w fun e w' => e = .returned (.bool true) ∧ Below w.heap.size w w' := by
  have Hn := Lib.hid hn
  clear hn
  by_cases hbig : 1048576 < n
  · go_enter Tryz.func3, Tryz.ntmps3
    go_wp2
    go_ret
    exact ⟨rfl, Below.refl _ _⟩
  have hm : n ≤ 1048576 := by omega
  go_enter Tryz.func3, Tryz.ntmps3
  go_wp2_with fail
  refine (lwBig_no X n c w hbig).mono ?_
  rintro e w0 ⟨rfl, rfl⟩
  clear hbig
  go_wp2_with fail
  refine (drawEncodeRecord X n c l _ ha Hn.out hm).mono ?_
  rintro e w1 ⟨r0, r1, r2, r3, r4, r5, r6, rfl, hb1⟩
  have ha_1 := ha.lift hb1
  have hB1 := hb1
  clear hb1 ha
  have hb2 : Below w1.heap.size w1 (w1.alloc (.cells #[.int .i64 r0, .int .i64 r1, .int .i64 r2, .int .i64 r3, .int .i64 r4, .int .i64 r5, .int .i64 r6] 27)) := (Below.refl _ _).alloc (Nat.le_refl _) _
  have ax := At.new w1 27 #[.int .i64 r0, .int .i64 r1, .int .i64 r2, .int .i64 r3, .int .i64 r4, .int .i64 r5, .int .i64 r6]
  have ha_2 := ha_1.lift hb2
  have hB2 := hB1.trans (hb2.mono hB1.size)
  clear hb2 hB1 ha_1
  obtain ⟨ce, el, hM⟩ : ∃ ce el, encRecM (r0, r1, (r2, r3, r4, r5), r6) = (ce, el) := ⟨_, _, rfl⟩
  have HE := fun W (h : Flds W) => implEncodeRecord r0 r1 r2 r3 r4 r5 r6 W h
  rw [hM] at HE
  go_wp2_with fail
  refine (HE _ (hF.below hB2)).mono ?_
  rintro e w3 ⟨Ae, ke, ka, rfl, oe, hb3⟩
  have ax_3 := ax.below hb3 ax.lt
  have ha_3 := ha_2.lift hb3
  have hB3 := hB2.trans (hb3.mono hB2.size)
  clear hb3 hB2 ha_2 ax
  have re := oe.rd okB
  have lke := oe.len okB
  have kcp := oe.cap
  have kcm := oe.capMax
  dsimp only at re lke
  clear oe HE
  have hb4 : Below w3.heap.size w3 (w3.alloc (.cells #[.int .i64 ce, .slice Ae ke ka] 30)) := (Below.refl _ _).alloc (Nat.le_refl _) _
  have ae := At.new w3 30 #[.int .i64 ce, .slice Ae ke ka]
  have ax_4 := ax_3.below hb4 ax_3.lt
  have ha_4 := ha_3.lift hb4
  have re_4 := re.lift hb4
  have hB4 := hB3.trans (hb4.mono hB3.size)
  clear hb4 hB3 re ha_3 ax_3
  go_wp2_with fail
  refine (drawDecodeRecord X n c l _ ha_4 Hn.out hm).mono ?_
  rintro e w5 ⟨Ad, kd, kb, dd, rfl, hd10, hdl, hdc, hdm, rd, hb5⟩
  have ax_5 := ax_4.below hb5 ax_4.lt
  have ae_5 := ae.below hb5 ae.lt
  have ha_5 := ha_4.lift hb5
  have re_5 := re_4.lift hb5
  have hB5 := hB4.trans (hb5.mono hB4.size)
  clear hb5 hB4 re_4 ha_4 ae ax_4
  rcases hD : decodeRecM dd with ⟨dc, d0, d1, ⟨d2, d3, d4, d5⟩, d6⟩
  have HDI := fun W h1 h2 => implDecodeRecord Ad kd kb dd W h1 hdl hdc hdm h2
  rw [hD] at HDI
  go_wp2_with fail
  refine (HDI _ rd (hF.below hB5)).mono ?_
  rintro e w6 ⟨rfl, hb6⟩
  have ax_6 := ax_5.below hb6 ax_5.lt
  have ae_6 := ae_5.below hb6 ae_5.lt
  have ha_6 := ha_5.lift hb6
  have re_6 := re_5.lift hb6
  have rd_6 := rd.lift hb6
  have hB6 := hB5.trans (hb6.mono hB5.size)
  clear hb6 hB5 rd re_5 ha_5 ae_5 ax_5
  clear HDI
  have hb7 : Below w6.heap.size w6 (w6.alloc (.cells #[.int .i64 dc, .int .i64 d0, .int .i64 d1, .int .i64 d2, .int .i64 d3, .int .i64 d4, .int .i64 d5, .int .i64 d6] 34)) := (Below.refl _ _).alloc (Nat.le_refl _) _
  have ad := At.new w6 34 #[.int .i64 dc, .int .i64 d0, .int .i64 d1, .int .i64 d2, .int .i64 d3, .int .i64 d4, .int .i64 d5, .int .i64 d6]
  have ax_7 := ax_6.below hb7 ax_6.lt
  have ae_7 := ae_6.below hb7 ae_6.lt
  have ha_7 := ha_6.lift hb7
  have re_7 := re_6.lift hb7
  have rd_7 := rd_6.lift hb7
  have hB7 := hB6.trans (hb7.mono hB6.size)
  clear hb7 hB6 rd_6 re_6 ha_6 ae_6 ax_6
  go_wp2_with fail
  refine (drawApplyRecord X n c l _ ha_7 Hn.out hm).mono ?_
  rintro e w8 ⟨S1, sl, sc, SX, S2, sm, sd, SY, su, o0, o1, o2, o3, o4, o5, o6, rfl, hsl, hsm, os, oh, hb8⟩
  have ax_8 := ax_7.below hb8 ax_7.lt
  have ae_8 := ae_7.below hb8 ae_7.lt
  have ad_8 := ad.below hb8 ad.lt
  have ha_8 := ha_7.lift hb8
  have re_8 := re_7.lift hb8
  have rd_8 := rd_7.lift hb8
  have hB8 := hB7.trans (hb8.mono hB7.size)
  clear hb8 hB7 rd_7 re_7 ha_7 ad ae_7 ax_7
  have rs := os.rd okS
  have rh := oh.rd okH
  have ls1 := os.len okS
  have ls2 := oh.len okH
  clear os oh
  have hb9 : Below w8.heap.size w8 (w8.alloc (.cells #[.slice S1 sl sc, .slice S2 sm sd, .int .i64 su] 39)) := (Below.refl _ _).alloc (Nat.le_refl _) _
  have ay := At.new w8 39 #[.slice S1 sl sc, .slice S2 sm sd, .int .i64 su]
  have ax_9 := ax_8.below hb9 ax_8.lt
  have ae_9 := ae_8.below hb9 ae_8.lt
  have ad_9 := ad_8.below hb9 ad_8.lt
  have ha_9 := ha_8.lift hb9
  have re_9 := re_8.lift hb9
  have rd_9 := rd_8.lift hb9
  have rs_9 := rs.lift hb9
  have rh_9 := rh.lift hb9
  have hB9 := hB8.trans (hb9.mono hB8.size)
  clear hb9 hB8 rh rs rd_8 re_8 ha_8 ad_8 ae_8 ax_8
  have hb10 : Below (w8.alloc (.cells #[.slice S1 sl sc, .slice S2 sm sd, .int .i64 su] 39)).heap.size (w8.alloc (.cells #[.slice S1 sl sc, .slice S2 sm sd, .int .i64 su] 39)) ((w8.alloc (.cells #[.slice S1 sl sc, .slice S2 sm sd, .int .i64 su] 39)).alloc (.cells #[.int .i64 o0, .int .i64 o1, .int .i64 o2, .int .i64 o3, .int .i64 o4, .int .i64 o5, .int .i64 o6] 27)) := (Below.refl _ _).alloc (Nat.le_refl _) _
  have ao := At.newAt (cs := #[.int .i64 o0, .int .i64 o1, .int .i64 o2, .int .i64 o3, .int .i64 o4, .int .i64 o5, .int .i64 o6]) (t := 27) (show (w8.alloc (.cells #[.slice S1 sl sc, .slice S2 sm sd, .int .i64 su] 39)).heap.size = w8.heap.size + 1 by simp)
  have ax_10 := ax_9.below hb10 ax_9.lt
  have ae_10 := ae_9.below hb10 ae_9.lt
  have ad_10 := ad_9.below hb10 ad_9.lt
  have ay_10 := ay.below hb10 ay.lt
  have ha_10 := ha_9.lift hb10
  have re_10 := re_9.lift hb10
  have rd_10 := rd_9.lift hb10
  have rs_10 := rs_9.lift hb10
  have rh_10 := rh_9.lift hb10
  have hB10 := hB9.trans (hb10.mono hB9.size)
  clear hb10 hB9 rh_9 rs_9 rd_9 re_9 ha_9 ay ad_9 ae_9 ax_9
  rcases hA : applyM (SX, SY, su) (o0, o1, (o2, o3, o4, o5), o6) with ⟨ac, la, lh, xa⟩
  have IP := fun W h1 h2 h3 => implApplyRecord S1 S2 sl sc sm sd SX SY su o0 o1 o2 o3 o4 o5 o6 W h1 h2 ls1 ls2 h3
  rw [hA] at IP
  go_wp2_with fail
  refine (IP _ rs_10 rh_10 (hF.below hB10)).mono ?_
  rintro e w11 ⟨A1, an, ad, B1, bm, bd, rfl, oa, ob, hb11⟩
  have ax_11 := ax_10.below hb11 ax_10.lt
  have ae_11 := ae_10.below hb11 ae_10.lt
  have ad_11 := ad_10.below hb11 ad_10.lt
  have ay_11 := ay_10.below hb11 ay_10.lt
  have ao_11 := ao.below hb11 ao.lt
  have ha_11 := ha_10.lift hb11
  have re_11 := re_10.lift hb11
  have rd_11 := rd_10.lift hb11
  have rs_11 := rs_10.lift hb11
  have rh_11 := rh_10.lift hb11
  have hB11 := hB10.trans (hb11.mono hB10.size)
  clear hb11 hB10 rh_10 rs_10 rd_10 re_10 ha_10 ao ay_10 ad_10 ae_10 ax_10
  clear IP
  have ra := oa.rd okS
  have rb := ob.rd okH
  have la1 := oa.len okS
  have la2 := ob.len okH
  have lm1 := oa.small
  have lm2 := ob.small
  dsimp only at ra rb la1 la2
  clear oa ob
  have hb12 : Below w11.heap.size w11 (w11.alloc (.cells #[.int .i64 ac, .slice A1 an ad, .slice B1 bm bd, .int .i64 xa] 43)) := (Below.refl _ _).alloc (Nat.le_refl _) _
  have aa := At.new w11 43 #[.int .i64 ac, .slice A1 an ad, .slice B1 bm bd, .int .i64 xa]
  have ax_12 := ax_11.below hb12 ax_11.lt
  have ae_12 := ae_11.below hb12 ae_11.lt
  have ad_12 := ad_11.below hb12 ad_11.lt
  have ay_12 := ay_11.below hb12 ay_11.lt
  have ao_12 := ao_11.below hb12 ao_11.lt
  have ha_12 := ha_11.lift hb12
  have re_12 := re_11.lift hb12
  have rd_12 := rd_11.lift hb12
  have rs_12 := rs_11.lift hb12
  have rh_12 := rh_11.lift hb12
  have ra_12 := ra.lift hb12
  have rb_12 := rb.lift hb12
  have hB12 := hB11.trans (hb12.mono hB11.size)
  clear hb12 hB11 rb ra rh_11 rs_11 rd_11 re_11 ha_11 ao_11 ay_11 ad_11 ae_11 ax_11
  go_wp2_with fail
  refine (drawSameStates X n c l _ ha_12 Hn.out hm).mono ?_
  rintro e w13 ⟨P1, pl, pc, PX, P2, pm, pd, PY, pu, Q1, ql, qc, QX, Q2, qm, qd, QY, qu, rfl, hpl, hpm, hql, hqm, op, oq, or, ot, hb13⟩
  have ax_13 := ax_12.below hb13 ax_12.lt
  have ae_13 := ae_12.below hb13 ae_12.lt
  have ad_13 := ad_12.below hb13 ad_12.lt
  have ay_13 := ay_12.below hb13 ay_12.lt
  have ao_13 := ao_12.below hb13 ao_12.lt
  have aa_13 := aa.below hb13 aa.lt
  have ha_13 := ha_12.lift hb13
  have re_13 := re_12.lift hb13
  have rd_13 := rd_12.lift hb13
  have rs_13 := rs_12.lift hb13
  have rh_13 := rh_12.lift hb13
  have ra_13 := ra_12.lift hb13
  have rb_13 := rb_12.lift hb13
  have hB13 := hB12.trans (hb13.mono hB12.size)
  clear hb13 hB12 rb_12 ra_12 rh_12 rs_12 rd_12 re_12 ha_12 aa ao_12 ay_12 ad_12 ae_12 ax_12
  have rp := op.rd okS
  have rq := oq.rd okH
  have rr := or.rd okS
  have rt := ot.rd okH
  have lp1 := op.len okS
  have lp2 := oq.len okH
  have lq1 := or.len okS
  have lq2 := ot.len okH
  clear op oq or ot
  have hb14 : Below w13.heap.size w13 (w13.alloc (.cells #[.slice P1 pl pc, .slice P2 pm pd, .int .i64 pu] 39)) := (Below.refl _ _).alloc (Nat.le_refl _) _
  have ap := At.new w13 39 #[.slice P1 pl pc, .slice P2 pm pd, .int .i64 pu]
  have ax_14 := ax_13.below hb14 ax_13.lt
  have ae_14 := ae_13.below hb14 ae_13.lt
  have ad_14 := ad_13.below hb14 ad_13.lt
  have ay_14 := ay_13.below hb14 ay_13.lt
  have ao_14 := ao_13.below hb14 ao_13.lt
  have aa_14 := aa_13.below hb14 aa_13.lt
  have ha_14 := ha_13.lift hb14
  have re_14 := re_13.lift hb14
  have rd_14 := rd_13.lift hb14
  have rs_14 := rs_13.lift hb14
  have rh_14 := rh_13.lift hb14
  have ra_14 := ra_13.lift hb14
  have rb_14 := rb_13.lift hb14
  have rp_14 := rp.lift hb14
  have rq_14 := rq.lift hb14
  have rr_14 := rr.lift hb14
  have rt_14 := rt.lift hb14
  have hB14 := hB13.trans (hb14.mono hB13.size)
  clear hb14 hB13 rt rr rq rp rb_13 ra_13 rh_13 rs_13 rd_13 re_13 ha_13 aa_13 ao_13 ay_13 ad_13 ae_13 ax_13
  have hb15 : Below (w13.alloc (.cells #[.slice P1 pl pc, .slice P2 pm pd, .int .i64 pu] 39)).heap.size (w13.alloc (.cells #[.slice P1 pl pc, .slice P2 pm pd, .int .i64 pu] 39)) ((w13.alloc (.cells #[.slice P1 pl pc, .slice P2 pm pd, .int .i64 pu] 39)).alloc (.cells #[.slice Q1 ql qc, .slice Q2 qm qd, .int .i64 qu] 39)) := (Below.refl _ _).alloc (Nat.le_refl _) _
  have aq := At.newAt (cs := #[.slice Q1 ql qc, .slice Q2 qm qd, .int .i64 qu]) (t := 39) (show (w13.alloc (.cells #[.slice P1 pl pc, .slice P2 pm pd, .int .i64 pu] 39)).heap.size = w13.heap.size + 1 by simp)
  have ax_15 := ax_14.below hb15 ax_14.lt
  have ae_15 := ae_14.below hb15 ae_14.lt
  have ad_15 := ad_14.below hb15 ad_14.lt
  have ay_15 := ay_14.below hb15 ay_14.lt
  have ao_15 := ao_14.below hb15 ao_14.lt
  have aa_15 := aa_14.below hb15 aa_14.lt
  have ap_15 := ap.below hb15 ap.lt
  have ha_15 := ha_14.lift hb15
  have re_15 := re_14.lift hb15
  have rd_15 := rd_14.lift hb15
  have rs_15 := rs_14.lift hb15
  have rh_15 := rh_14.lift hb15
  have ra_15 := ra_14.lift hb15
  have rb_15 := rb_14.lift hb15
  have rp_15 := rp_14.lift hb15
  have rq_15 := rq_14.lift hb15
  have rr_15 := rr_14.lift hb15
  have rt_15 := rt_14.lift hb15
  have hB15 := hB14.trans (hb15.mono hB14.size)
  clear hb15 hB14 rt_14 rr_14 rq_14 rp_14 rb_14 ra_14 rh_14 rs_14 rd_14 re_14 ha_14 ap aa_14 ao_14 ay_14 ad_14 ae_14 ax_14
  have hfc : recFaultM (r0, r1, (r2, r3, r4, r5), r6) = ce := by have h := encRec_code (r0, r1, (r2, r3, r4, r5), r6); rw [hM] at h; exact h.symm
  have FX := fun W (h : Flds W) => implRecordFault r0 r1 r2 r3 r4 r5 r6 W h
  rw [hfc] at FX
  have SE := fun W => specEncodeRecord r0 r1 r2 r3 r4 r5 r6 W
  rw [hM] at SE
  have SD := fun W h1 => specDecodeRecord Ad kd kb dd W h1 hdl hdc hdm
  rw [hD] at SD
  have SP := fun W h1 h2 => specApplyRecord S1 S2 sl sc sm sd SX SY su o0 o1 o2 o3 o4 o5 o6 W h1 h2 ls1 ls2 (by omega) (by omega)
  rw [hA] at SP
  obtain ⟨sq, hsq⟩ : ∃ b, staSame (PX, PY, pu) (QX, QY, qu) = b := ⟨_, rfl⟩
  have IS := fun W h1 h2 h3 h4 => implSameStates P1 P2 Q1 Q2 pl pc pm pd ql qc qm qd PX QX PY QY pu qu W h1 h2 h3 h4 lp1 lp2 lq1 lq2 (by unfold maxLen; omega) (by unfold maxLen; omega)
  rw [hsq] at IS
  have SS := fun W h1 h2 h3 h4 => specSameStates P1 P2 Q1 Q2 pl pc pm pd ql qc qm qd PX QX PY QY pu qu W h1 h2 h3 h4 lp1 lp2 lq1 lq2 (by unfold maxLen; omega) (by unfold maxLen; omega)
  rw [hsq] at SS
  have IA := fun W C1 C2 k1 c1 k2 c2 h1 h2 h3 h4 h5 h6 => implSameStates A1 B1 C1 C2 an ad bm bd k1 c1 k2 c2 la la lh lh xa xa W h1 h2 h3 h4 la1 la2 h5 h6 lm1 lm2
  rw [sta_yes] at IA
  obtain ⟨sf, hsf⟩ : ∃ f, stateFaultM (SX, SY, su) = f := ⟨_, rfl⟩
  have IF := fun W h1 h2 h3 => implStateFault S1 S2 sl sc sm sd SX SY su W h1 h2 ls1 ls2 h3
  rw [hsf] at IF
  have SF := fun W h1 h2 => specStateFault S1 S2 sl sc sm sd SX SY su W h1 h2 ls1 ls2
  rw [hsf] at SF
  have HFc := Lib.hid hfc
  have HM := Lib.hid hM
  have HD := Lib.hid hD
  have HA := Lib.hid hA
  have Hke := Lib.hid lke
  have Hdl := Lib.hid hdl
  have Hdc := Lib.hid hdc
  have Hdm := Lib.hid hdm
  have Hsl := Lib.hid ls1
  have La1 := Lib.hid la1
  have La2 := Lib.hid la2
  clear hfc hM hD hA lke hdl hdc hdm ls1 ls2 lp1 lp2 lq1 lq2 hsq hsf hsl hsm hpl hpm hql hqm hd10
  have FX := Lib.hid FX
  have SE := Lib.hid SE
  have SD := Lib.hid SD
  have SP := Lib.hid SP
  have IS := Lib.hid IS
  have SS := Lib.hid SS
  have IA := Lib.hid IA
  have IF := Lib.hid IF
  have SF := Lib.hid SF
  clear la1
  clear la2
  clear lm1
  clear lm2
  go_wp2_with fail
  have hb16 : Below ((w13.alloc (.cells #[.slice P1 pl pc, .slice P2 pm pd, .int .i64 pu] 39)).alloc (.cells #[.slice Q1 ql qc, .slice Q2 qm qd, .int .i64 qu] 39)).heap.size ((w13.alloc (.cells #[.slice P1 pl pc, .slice P2 pm pd, .int .i64 pu] 39)).alloc (.cells #[.slice Q1 ql qc, .slice Q2 qm qd, .int .i64 qu] 39)) ((w13.alloc (.cells #[.slice P1 pl pc, .slice P2 pm pd, .int .i64 pu] 39)).alloc (.cells #[.slice Q1 ql qc, .slice Q2 qm qd, .int .i64 qu] 39)).drew := (Below.refl _ _).drew
  have ax_16 := ax_15.below hb16 ax_15.lt
  have ae_16 := ae_15.below hb16 ae_15.lt
  have ad_16 := ad_15.below hb16 ad_15.lt
  have ay_16 := ay_15.below hb16 ay_15.lt
  have ao_16 := ao_15.below hb16 ao_15.lt
  have aa_16 := aa_15.below hb16 aa_15.lt
  have ap_16 := ap_15.below hb16 ap_15.lt
  have aq_16 := aq.below hb16 aq.lt
  have re_16 := re_15.lift hb16
  have rd_16 := rd_15.lift hb16
  have rs_16 := rs_15.lift hb16
  have rh_16 := rh_15.lift hb16
  have ra_16 := ra_15.lift hb16
  have rb_16 := rb_15.lift hb16
  have rp_16 := rp_15.lift hb16
  have rq_16 := rq_15.lift hb16
  have rr_16 := rr_15.lift hb16
  have rt_16 := rt_15.lift hb16
  have hB16 := hB15.trans (hb16.mono hB15.size)
  clear hb16 hB15 rt_15 rr_15 rq_15 rp_15 rb_15 ra_15 rh_15 rs_15 rd_15 re_15 aq ap_15 aa_15 ao_15 ay_15 ad_15 ae_15 ax_15
  have F0 := fldB0R
  have F1 := neqRR
  have F2 := fldB1'
  have F3 := fldS0R
  have F4 := fldS1R
  refine wp_region_mix [(0, false), (1, false), (2, false), (3, true), (4, false), (5, false), (6, false), (7, false), (8, false), (9, true), (10, false), (11, false), (12, false), (13, false), (14, false), (15, false), (16, false), (17, true), (18, false), (19, false), (20, false), (21, false), (22, false), (23, false), (24, false), (25, false), (26, true), (27, false), (28, true), (29, false), (30, false), (31, false), (32, false), (33, false), (35, false), (36, false), (34, true), (37, true), (38, false), (39, false), (40, false), (41, false), (43, false), (44, false), (42, true), (45, false), (46, false), (47, false), (48, false), (50, false), (49, true), (51, true), (52, false), (53, false)] (fun u => At u (w1.heap.size) 27 #[.int .i64 r0, .int .i64 r1, .int .i64 r2, .int .i64 r3, .int .i64 r4, .int .i64 r5, .int .i64 r6] ∧ At u (w3.heap.size) 30 #[.int .i64 ce, .slice Ae ke ka] ∧ At u (w6.heap.size) 34 #[.int .i64 dc, .int .i64 d0, .int .i64 d1, .int .i64 d2, .int .i64 d3, .int .i64 d4, .int .i64 d5, .int .i64 d6] ∧ At u (w8.heap.size) 39 #[.slice S1 sl sc, .slice S2 sm sd, .int .i64 su] ∧ At u (w8.heap.size + 1) 27 #[.int .i64 o0, .int .i64 o1, .int .i64 o2, .int .i64 o3, .int .i64 o4, .int .i64 o5, .int .i64 o6] ∧ At u (w11.heap.size) 43 #[.int .i64 ac, .slice A1 an ad, .slice B1 bm bd, .int .i64 xa] ∧ At u (w13.heap.size) 39 #[.slice P1 pl pc, .slice P2 pm pd, .int .i64 pu] ∧ At u (w13.heap.size + 1) 39 #[.slice Q1 ql qc, .slice Q2 qm qd, .int .i64 qu]) (by kernel_rfl) (by kernel_rfl) (fun _ _ _ _ _ h => h) ⟨ax_16, ae_16, ad_16, ay_16, ao_16, aa_16, ap_16, aq_16⟩ ?_
  simp only [mixOps, List.map_cons, List.map_nil, List.getElem?_cons_succ, List.getElem?_cons_zero, Option.getD_some]
  repeat (first
    | (refine mix_skip (by rfl) ?_
       (try simp only [Act.put, List.setIfInBounds_toArray, List.set_cons_zero, List.set_cons_succ]))
    | (refine mix_pure (v := ?_) (by rfl) (fun u hu => ?_) ?_
       rotate_left
       · obtain ⟨y0, y1, y2, y3, y4, y5, y6, y7⟩ := hu
         obtain ⟨_, _, _, _, _, _, _⟩ := y0.seven
         obtain ⟨_, _, _, _⟩ := y1.two
         obtain ⟨_, _, _, _, _, _, _, _⟩ := y2.eightR
         obtain ⟨_, _, _, _, _, _⟩ := y3.three
         obtain ⟨_, _, _, _, _, _, _⟩ := y4.seven
         obtain ⟨_, _, _, _, _, _, _, _⟩ := y5.four
         obtain ⟨_, _, _, _, _, _⟩ := y6.three
         obtain ⟨_, _, _, _, _, _⟩ := y7.three
         go_simp
         (with_reducible rfl)
       (try simp only [Act.put, List.setIfInBounds_toArray, List.set_cons_zero, List.set_cons_succ])))
  refine mix_call (by rfl) (fun K hK => ?_)
  go_simp
  refine (SE.out _).mono ?_
  rintro e w17 ⟨As, ks, cs, rfl, -, hb17⟩
  have ax_17 := ax_16.below hb17 ax_16.lt
  have ae_17 := ae_16.below hb17 ae_16.lt
  have ad_17 := ad_16.below hb17 ad_16.lt
  have ay_17 := ay_16.below hb17 ay_16.lt
  have ao_17 := ao_16.below hb17 ao_16.lt
  have aa_17 := aa_16.below hb17 aa_16.lt
  have ap_17 := ap_16.below hb17 ap_16.lt
  have aq_17 := aq_16.below hb17 aq_16.lt
  have re_17 := re_16.lift hb17
  have rd_17 := rd_16.lift hb17
  have rs_17 := rs_16.lift hb17
  have rh_17 := rh_16.lift hb17
  have ra_17 := ra_16.lift hb17
  have rb_17 := rb_16.lift hb17
  have rp_17 := rp_16.lift hb17
  have rq_17 := rq_16.lift hb17
  have rr_17 := rr_16.lift hb17
  have rt_17 := rt_16.lift hb17
  have hB17 := hB16.trans (hb17.mono hB16.size)
  clear hb17 hB16 rt_16 rr_16 rq_16 rp_16 rb_16 ra_16 rh_16 rs_16 rd_16 re_16 aq_16 ap_16 aa_16 ao_16 ay_16 ad_16 ae_16 ax_16
  refine hK _ _ (fun u => At u (w1.heap.size) 27 #[.int .i64 r0, .int .i64 r1, .int .i64 r2, .int .i64 r3, .int .i64 r4, .int .i64 r5, .int .i64 r6] ∧ At u (w3.heap.size) 30 #[.int .i64 ce, .slice Ae ke ka] ∧ At u (w6.heap.size) 34 #[.int .i64 dc, .int .i64 d0, .int .i64 d1, .int .i64 d2, .int .i64 d3, .int .i64 d4, .int .i64 d5, .int .i64 d6] ∧ At u (w8.heap.size) 39 #[.slice S1 sl sc, .slice S2 sm sd, .int .i64 su] ∧ At u (w8.heap.size + 1) 27 #[.int .i64 o0, .int .i64 o1, .int .i64 o2, .int .i64 o3, .int .i64 o4, .int .i64 o5, .int .i64 o6] ∧ At u (w11.heap.size) 43 #[.int .i64 ac, .slice A1 an ad, .slice B1 bm bd, .int .i64 xa] ∧ At u (w13.heap.size) 39 #[.slice P1 pl pc, .slice P2 pm pd, .int .i64 pu] ∧ At u (w13.heap.size + 1) 39 #[.slice Q1 ql qc, .slice Q2 qm qd, .int .i64 qu]) (fun _ h => h) ⟨ax_17, ae_17, ad_17, ay_17, ao_17, aa_17, ap_17, aq_17⟩ ?_
  clear hK K
  (try simp only [Act.put, List.setIfInBounds_toArray, List.set_cons_zero, List.set_cons_succ])
  repeat (first
    | (refine mix_skip (by rfl) ?_
       (try simp only [Act.put, List.setIfInBounds_toArray, List.set_cons_zero, List.set_cons_succ]))
    | (refine mix_pure (v := ?_) (by rfl) (fun u hu => ?_) ?_
       rotate_left
       · obtain ⟨y0, y1, y2, y3, y4, y5, y6, y7⟩ := hu
         obtain ⟨_, _, _, _, _, _, _⟩ := y0.seven
         obtain ⟨_, _, _, _⟩ := y1.two
         obtain ⟨_, _, _, _, _, _, _, _⟩ := y2.eightR
         obtain ⟨_, _, _, _, _, _⟩ := y3.three
         obtain ⟨_, _, _, _, _, _, _⟩ := y4.seven
         obtain ⟨_, _, _, _, _, _, _, _⟩ := y5.four
         obtain ⟨_, _, _, _, _, _⟩ := y6.three
         obtain ⟨_, _, _, _, _, _⟩ := y7.three
         go_simp
         (with_reducible rfl)
       (try simp only [Act.put, List.setIfInBounds_toArray, List.set_cons_zero, List.set_cons_succ])))
  refine mix_call (by rfl) (fun K hK => ?_)
  go_simp
  refine (SD.out _ rd_17).mono ?_
  rintro e w18 ⟨rfl, hb18⟩
  have ax_18 := ax_17.below hb18 ax_17.lt
  have ae_18 := ae_17.below hb18 ae_17.lt
  have ad_18 := ad_17.below hb18 ad_17.lt
  have ay_18 := ay_17.below hb18 ay_17.lt
  have ao_18 := ao_17.below hb18 ao_17.lt
  have aa_18 := aa_17.below hb18 aa_17.lt
  have ap_18 := ap_17.below hb18 ap_17.lt
  have aq_18 := aq_17.below hb18 aq_17.lt
  have re_18 := re_17.lift hb18
  have rd_18 := rd_17.lift hb18
  have rs_18 := rs_17.lift hb18
  have rh_18 := rh_17.lift hb18
  have ra_18 := ra_17.lift hb18
  have rb_18 := rb_17.lift hb18
  have rp_18 := rp_17.lift hb18
  have rq_18 := rq_17.lift hb18
  have rr_18 := rr_17.lift hb18
  have rt_18 := rt_17.lift hb18
  have hB18 := hB17.trans (hb18.mono hB17.size)
  clear hb18 hB17 rt_17 rr_17 rq_17 rp_17 rb_17 ra_17 rh_17 rs_17 rd_17 re_17 aq_17 ap_17 aa_17 ao_17 ay_17 ad_17 ae_17 ax_17
  refine hK _ _ (fun u => At u (w1.heap.size) 27 #[.int .i64 r0, .int .i64 r1, .int .i64 r2, .int .i64 r3, .int .i64 r4, .int .i64 r5, .int .i64 r6] ∧ At u (w3.heap.size) 30 #[.int .i64 ce, .slice Ae ke ka] ∧ At u (w6.heap.size) 34 #[.int .i64 dc, .int .i64 d0, .int .i64 d1, .int .i64 d2, .int .i64 d3, .int .i64 d4, .int .i64 d5, .int .i64 d6] ∧ At u (w8.heap.size) 39 #[.slice S1 sl sc, .slice S2 sm sd, .int .i64 su] ∧ At u (w8.heap.size + 1) 27 #[.int .i64 o0, .int .i64 o1, .int .i64 o2, .int .i64 o3, .int .i64 o4, .int .i64 o5, .int .i64 o6] ∧ At u (w11.heap.size) 43 #[.int .i64 ac, .slice A1 an ad, .slice B1 bm bd, .int .i64 xa] ∧ At u (w13.heap.size) 39 #[.slice P1 pl pc, .slice P2 pm pd, .int .i64 pu] ∧ At u (w13.heap.size + 1) 39 #[.slice Q1 ql qc, .slice Q2 qm qd, .int .i64 qu]) (fun _ h => h) ⟨ax_18, ae_18, ad_18, ay_18, ao_18, aa_18, ap_18, aq_18⟩ ?_
  clear hK K
  (try simp only [Act.put, List.setIfInBounds_toArray, List.set_cons_zero, List.set_cons_succ])
  repeat (first
    | (refine mix_skip (by rfl) ?_
       (try simp only [Act.put, List.setIfInBounds_toArray, List.set_cons_zero, List.set_cons_succ]))
    | (refine mix_pure (v := ?_) (by rfl) (fun u hu => ?_) ?_
       rotate_left
       · obtain ⟨y0, y1, y2, y3, y4, y5, y6, y7⟩ := hu
         obtain ⟨_, _, _, _, _, _, _⟩ := y0.seven
         obtain ⟨_, _, _, _⟩ := y1.two
         obtain ⟨_, _, _, _, _, _, _, _⟩ := y2.eightR
         obtain ⟨_, _, _, _, _, _⟩ := y3.three
         obtain ⟨_, _, _, _, _, _, _⟩ := y4.seven
         obtain ⟨_, _, _, _, _, _, _, _⟩ := y5.four
         obtain ⟨_, _, _, _, _, _⟩ := y6.three
         obtain ⟨_, _, _, _, _, _⟩ := y7.three
         go_simp
         (with_reducible rfl)
       (try simp only [Act.put, List.setIfInBounds_toArray, List.set_cons_zero, List.set_cons_succ])))
  refine mix_call (by rfl) (fun K hK => ?_)
  go_simp
  refine (SP.out _ rs_18 rh_18).mono ?_
  rintro e w19 ⟨C1, k1, c1, C2, k2, c2, rfl, -, -, hb19⟩
  have ax_19 := ax_18.below hb19 ax_18.lt
  have ae_19 := ae_18.below hb19 ae_18.lt
  have ad_19 := ad_18.below hb19 ad_18.lt
  have ay_19 := ay_18.below hb19 ay_18.lt
  have ao_19 := ao_18.below hb19 ao_18.lt
  have aa_19 := aa_18.below hb19 aa_18.lt
  have ap_19 := ap_18.below hb19 ap_18.lt
  have aq_19 := aq_18.below hb19 aq_18.lt
  have re_19 := re_18.lift hb19
  have rd_19 := rd_18.lift hb19
  have rs_19 := rs_18.lift hb19
  have rh_19 := rh_18.lift hb19
  have ra_19 := ra_18.lift hb19
  have rb_19 := rb_18.lift hb19
  have rp_19 := rp_18.lift hb19
  have rq_19 := rq_18.lift hb19
  have rr_19 := rr_18.lift hb19
  have rt_19 := rt_18.lift hb19
  have hB19 := hB18.trans (hb19.mono hB18.size)
  clear hb19 hB18 rt_18 rr_18 rq_18 rp_18 rb_18 ra_18 rh_18 rs_18 rd_18 re_18 aq_18 ap_18 aa_18 ao_18 ay_18 ad_18 ae_18 ax_18
  refine hK _ _ (fun u => At u (w1.heap.size) 27 #[.int .i64 r0, .int .i64 r1, .int .i64 r2, .int .i64 r3, .int .i64 r4, .int .i64 r5, .int .i64 r6] ∧ At u (w3.heap.size) 30 #[.int .i64 ce, .slice Ae ke ka] ∧ At u (w6.heap.size) 34 #[.int .i64 dc, .int .i64 d0, .int .i64 d1, .int .i64 d2, .int .i64 d3, .int .i64 d4, .int .i64 d5, .int .i64 d6] ∧ At u (w8.heap.size) 39 #[.slice S1 sl sc, .slice S2 sm sd, .int .i64 su] ∧ At u (w8.heap.size + 1) 27 #[.int .i64 o0, .int .i64 o1, .int .i64 o2, .int .i64 o3, .int .i64 o4, .int .i64 o5, .int .i64 o6] ∧ At u (w11.heap.size) 43 #[.int .i64 ac, .slice A1 an ad, .slice B1 bm bd, .int .i64 xa] ∧ At u (w13.heap.size) 39 #[.slice P1 pl pc, .slice P2 pm pd, .int .i64 pu] ∧ At u (w13.heap.size + 1) 39 #[.slice Q1 ql qc, .slice Q2 qm qd, .int .i64 qu]) (fun _ h => h) ⟨ax_19, ae_19, ad_19, ay_19, ao_19, aa_19, ap_19, aq_19⟩ ?_
  clear hK K
  (try simp only [Act.put, List.setIfInBounds_toArray, List.set_cons_zero, List.set_cons_succ])
  repeat (first
    | (refine mix_skip (by rfl) ?_
       (try simp only [Act.put, List.setIfInBounds_toArray, List.set_cons_zero, List.set_cons_succ]))
    | (refine mix_pure (v := ?_) (by rfl) (fun u hu => ?_) ?_
       rotate_left
       · obtain ⟨y0, y1, y2, y3, y4, y5, y6, y7⟩ := hu
         obtain ⟨_, _, _, _, _, _, _⟩ := y0.seven
         obtain ⟨_, _, _, _⟩ := y1.two
         obtain ⟨_, _, _, _, _, _, _, _⟩ := y2.eightR
         obtain ⟨_, _, _, _, _, _⟩ := y3.three
         obtain ⟨_, _, _, _, _, _, _⟩ := y4.seven
         obtain ⟨_, _, _, _, _, _, _, _⟩ := y5.four
         obtain ⟨_, _, _, _, _, _⟩ := y6.three
         obtain ⟨_, _, _, _, _, _⟩ := y7.three
         go_simp
         (with_reducible rfl)
       (try simp only [Act.put, List.setIfInBounds_toArray, List.set_cons_zero, List.set_cons_succ])))
  refine mix_call (by rfl) (fun K hK => ?_)
  go_simp
  refine (SP.out _ rs_19 rh_19).mono ?_
  rintro e w20 ⟨C1', k1', c1', C2', k2', c2', rfl, oc, od, hb20⟩
  have ax_20 := ax_19.below hb20 ax_19.lt
  have ae_20 := ae_19.below hb20 ae_19.lt
  have ad_20 := ad_19.below hb20 ad_19.lt
  have ay_20 := ay_19.below hb20 ay_19.lt
  have ao_20 := ao_19.below hb20 ao_19.lt
  have aa_20 := aa_19.below hb20 aa_19.lt
  have ap_20 := ap_19.below hb20 ap_19.lt
  have aq_20 := aq_19.below hb20 aq_19.lt
  have re_20 := re_19.lift hb20
  have rd_20 := rd_19.lift hb20
  have rs_20 := rs_19.lift hb20
  have rh_20 := rh_19.lift hb20
  have ra_20 := ra_19.lift hb20
  have rb_20 := rb_19.lift hb20
  have rp_20 := rp_19.lift hb20
  have rq_20 := rq_19.lift hb20
  have rr_20 := rr_19.lift hb20
  have rt_20 := rt_19.lift hb20
  have hB20 := hB19.trans (hb20.mono hB19.size)
  clear hb20 hB19 rt_19 rr_19 rq_19 rp_19 rb_19 ra_19 rh_19 rs_19 rd_19 re_19 aq_19 ap_19 aa_19 ao_19 ay_19 ad_19 ae_19 ax_19
  have rc := oc.rd okS
  have rdd := od.rd okH
  refine hK _ _ (fun u => At u (w1.heap.size) 27 #[.int .i64 r0, .int .i64 r1, .int .i64 r2, .int .i64 r3, .int .i64 r4, .int .i64 r5, .int .i64 r6] ∧ At u (w3.heap.size) 30 #[.int .i64 ce, .slice Ae ke ka] ∧ At u (w6.heap.size) 34 #[.int .i64 dc, .int .i64 d0, .int .i64 d1, .int .i64 d2, .int .i64 d3, .int .i64 d4, .int .i64 d5, .int .i64 d6] ∧ At u (w8.heap.size) 39 #[.slice S1 sl sc, .slice S2 sm sd, .int .i64 su] ∧ At u (w8.heap.size + 1) 27 #[.int .i64 o0, .int .i64 o1, .int .i64 o2, .int .i64 o3, .int .i64 o4, .int .i64 o5, .int .i64 o6] ∧ At u (w11.heap.size) 43 #[.int .i64 ac, .slice A1 an ad, .slice B1 bm bd, .int .i64 xa] ∧ At u (w13.heap.size) 39 #[.slice P1 pl pc, .slice P2 pm pd, .int .i64 pu] ∧ At u (w13.heap.size + 1) 39 #[.slice Q1 ql qc, .slice Q2 qm qd, .int .i64 qu]) (fun _ h => h) ⟨ax_20, ae_20, ad_20, ay_20, ao_20, aa_20, ap_20, aq_20⟩ ?_
  clear hK K
  (try simp only [Act.put, List.setIfInBounds_toArray, List.set_cons_zero, List.set_cons_succ])
  have lc1 := oc.len okS
  have lc2 := od.len okH
  dsimp only at rc rdd lc1 lc2
  clear oc od
  repeat (first
    | (refine mix_skip (by rfl) ?_
       (try simp only [Act.put, List.setIfInBounds_toArray, List.set_cons_zero, List.set_cons_succ]))
    | (refine mix_pure (v := ?_) (by rfl) (fun u hu => ?_) ?_
       rotate_left
       · obtain ⟨y0, y1, y2, y3, y4, y5, y6, y7⟩ := hu
         obtain ⟨_, _, _, _, _, _, _⟩ := y0.seven
         obtain ⟨_, _, _, _⟩ := y1.two
         obtain ⟨_, _, _, _, _, _, _, _⟩ := y2.eightR
         obtain ⟨_, _, _, _, _, _⟩ := y3.three
         obtain ⟨_, _, _, _, _, _, _⟩ := y4.seven
         obtain ⟨_, _, _, _, _, _, _, _⟩ := y5.four
         obtain ⟨_, _, _, _, _, _⟩ := y6.three
         obtain ⟨_, _, _, _, _, _⟩ := y7.three
         go_simp
         (with_reducible rfl)
       (try simp only [Act.put, List.setIfInBounds_toArray, List.set_cons_zero, List.set_cons_succ])))
  refine mix_call (by rfl) (fun K hK => ?_)
  go_simp
  refine (IA.out _ _ _ _ _ _ _ ra_20 rb_20 rc rdd lc1 lc2).mono ?_
  rintro e w21 ⟨rfl, hb21⟩
  have ax_21 := ax_20.below hb21 ax_20.lt
  have ae_21 := ae_20.below hb21 ae_20.lt
  have ad_21 := ad_20.below hb21 ad_20.lt
  have ay_21 := ay_20.below hb21 ay_20.lt
  have ao_21 := ao_20.below hb21 ao_20.lt
  have aa_21 := aa_20.below hb21 aa_20.lt
  have ap_21 := ap_20.below hb21 ap_20.lt
  have aq_21 := aq_20.below hb21 aq_20.lt
  have re_21 := re_20.lift hb21
  have rd_21 := rd_20.lift hb21
  have rs_21 := rs_20.lift hb21
  have rh_21 := rh_20.lift hb21
  have ra_21 := ra_20.lift hb21
  have rb_21 := rb_20.lift hb21
  have rp_21 := rp_20.lift hb21
  have rq_21 := rq_20.lift hb21
  have rr_21 := rr_20.lift hb21
  have rt_21 := rt_20.lift hb21
  have rc_21 := rc.lift hb21
  have rdd_21 := rdd.lift hb21
  have hB21 := hB20.trans (hb21.mono hB20.size)
  clear hb21 hB20 rdd rc rt_20 rr_20 rq_20 rp_20 rb_20 ra_20 rh_20 rs_20 rd_20 re_20 aq_20 ap_20 aa_20 ao_20 ay_20 ad_20 ae_20 ax_20
  refine hK _ _ (fun u => At u (w1.heap.size) 27 #[.int .i64 r0, .int .i64 r1, .int .i64 r2, .int .i64 r3, .int .i64 r4, .int .i64 r5, .int .i64 r6] ∧ At u (w3.heap.size) 30 #[.int .i64 ce, .slice Ae ke ka] ∧ At u (w6.heap.size) 34 #[.int .i64 dc, .int .i64 d0, .int .i64 d1, .int .i64 d2, .int .i64 d3, .int .i64 d4, .int .i64 d5, .int .i64 d6] ∧ At u (w8.heap.size) 39 #[.slice S1 sl sc, .slice S2 sm sd, .int .i64 su] ∧ At u (w8.heap.size + 1) 27 #[.int .i64 o0, .int .i64 o1, .int .i64 o2, .int .i64 o3, .int .i64 o4, .int .i64 o5, .int .i64 o6] ∧ At u (w11.heap.size) 43 #[.int .i64 ac, .slice A1 an ad, .slice B1 bm bd, .int .i64 xa] ∧ At u (w13.heap.size) 39 #[.slice P1 pl pc, .slice P2 pm pd, .int .i64 pu] ∧ At u (w13.heap.size + 1) 39 #[.slice Q1 ql qc, .slice Q2 qm qd, .int .i64 qu]) (fun _ h => h) ⟨ax_21, ae_21, ad_21, ay_21, ao_21, aa_21, ap_21, aq_21⟩ ?_
  clear hK K
  (try simp only [Act.put, List.setIfInBounds_toArray, List.set_cons_zero, List.set_cons_succ])
  repeat (first
    | (refine mix_skip (by rfl) ?_
       (try simp only [Act.put, List.setIfInBounds_toArray, List.set_cons_zero, List.set_cons_succ]))
    | (refine mix_pure (v := ?_) (by rfl) (fun u hu => ?_) ?_
       rotate_left
       · obtain ⟨y0, y1, y2, y3, y4, y5, y6, y7⟩ := hu
         obtain ⟨_, _, _, _, _, _, _⟩ := y0.seven
         obtain ⟨_, _, _, _⟩ := y1.two
         obtain ⟨_, _, _, _, _, _, _, _⟩ := y2.eightR
         obtain ⟨_, _, _, _, _, _⟩ := y3.three
         obtain ⟨_, _, _, _, _, _, _⟩ := y4.seven
         obtain ⟨_, _, _, _, _, _, _, _⟩ := y5.four
         obtain ⟨_, _, _, _, _, _⟩ := y6.three
         obtain ⟨_, _, _, _, _, _⟩ := y7.three
         go_simp
         (with_reducible rfl)
       (try simp only [Act.put, List.setIfInBounds_toArray, List.set_cons_zero, List.set_cons_succ])))
  refine mix_call (by rfl) (fun K hK => ?_)
  go_simp
  refine (IS.out _ rp_21 rq_21 rr_21 rt_21).mono ?_
  rintro e w22 ⟨rfl, hb22⟩
  have ax_22 := ax_21.below hb22 ax_21.lt
  have ae_22 := ae_21.below hb22 ae_21.lt
  have ad_22 := ad_21.below hb22 ad_21.lt
  have ay_22 := ay_21.below hb22 ay_21.lt
  have ao_22 := ao_21.below hb22 ao_21.lt
  have aa_22 := aa_21.below hb22 aa_21.lt
  have ap_22 := ap_21.below hb22 ap_21.lt
  have aq_22 := aq_21.below hb22 aq_21.lt
  have re_22 := re_21.lift hb22
  have rd_22 := rd_21.lift hb22
  have rs_22 := rs_21.lift hb22
  have rh_22 := rh_21.lift hb22
  have ra_22 := ra_21.lift hb22
  have rb_22 := rb_21.lift hb22
  have rp_22 := rp_21.lift hb22
  have rq_22 := rq_21.lift hb22
  have rr_22 := rr_21.lift hb22
  have rt_22 := rt_21.lift hb22
  have hB22 := hB21.trans (hb22.mono hB21.size)
  clear hb22 hB21 rt_21 rr_21 rq_21 rp_21 rb_21 ra_21 rh_21 rs_21 rd_21 re_21 aq_21 ap_21 aa_21 ao_21 ay_21 ad_21 ae_21 ax_21
  refine hK _ _ (fun u => At u (w1.heap.size) 27 #[.int .i64 r0, .int .i64 r1, .int .i64 r2, .int .i64 r3, .int .i64 r4, .int .i64 r5, .int .i64 r6] ∧ At u (w3.heap.size) 30 #[.int .i64 ce, .slice Ae ke ka] ∧ At u (w6.heap.size) 34 #[.int .i64 dc, .int .i64 d0, .int .i64 d1, .int .i64 d2, .int .i64 d3, .int .i64 d4, .int .i64 d5, .int .i64 d6] ∧ At u (w8.heap.size) 39 #[.slice S1 sl sc, .slice S2 sm sd, .int .i64 su] ∧ At u (w8.heap.size + 1) 27 #[.int .i64 o0, .int .i64 o1, .int .i64 o2, .int .i64 o3, .int .i64 o4, .int .i64 o5, .int .i64 o6] ∧ At u (w11.heap.size) 43 #[.int .i64 ac, .slice A1 an ad, .slice B1 bm bd, .int .i64 xa] ∧ At u (w13.heap.size) 39 #[.slice P1 pl pc, .slice P2 pm pd, .int .i64 pu] ∧ At u (w13.heap.size + 1) 39 #[.slice Q1 ql qc, .slice Q2 qm qd, .int .i64 qu]) (fun _ h => h) ⟨ax_22, ae_22, ad_22, ay_22, ao_22, aa_22, ap_22, aq_22⟩ ?_
  clear hK K
  (try simp only [Act.put, List.setIfInBounds_toArray, List.set_cons_zero, List.set_cons_succ])
  repeat (first
    | (refine mix_skip (by rfl) ?_
       (try simp only [Act.put, List.setIfInBounds_toArray, List.set_cons_zero, List.set_cons_succ]))
    | (refine mix_pure (v := ?_) (by rfl) (fun u hu => ?_) ?_
       rotate_left
       · obtain ⟨y0, y1, y2, y3, y4, y5, y6, y7⟩ := hu
         obtain ⟨_, _, _, _, _, _, _⟩ := y0.seven
         obtain ⟨_, _, _, _⟩ := y1.two
         obtain ⟨_, _, _, _, _, _, _, _⟩ := y2.eightR
         obtain ⟨_, _, _, _, _, _⟩ := y3.three
         obtain ⟨_, _, _, _, _, _, _⟩ := y4.seven
         obtain ⟨_, _, _, _, _, _, _, _⟩ := y5.four
         obtain ⟨_, _, _, _, _, _⟩ := y6.three
         obtain ⟨_, _, _, _, _, _⟩ := y7.three
         go_simp
         (with_reducible rfl)
       (try simp only [Act.put, List.setIfInBounds_toArray, List.set_cons_zero, List.set_cons_succ])))
  refine mix_call (by rfl) (fun K hK => ?_)
  go_simp
  refine (SS.out _ rp_22 rq_22 rr_22 rt_22).mono ?_
  rintro e w23 ⟨rfl, hb23⟩
  have ax_23 := ax_22.below hb23 ax_22.lt
  have ae_23 := ae_22.below hb23 ae_22.lt
  have ad_23 := ad_22.below hb23 ad_22.lt
  have ay_23 := ay_22.below hb23 ay_22.lt
  have ao_23 := ao_22.below hb23 ao_22.lt
  have aa_23 := aa_22.below hb23 aa_22.lt
  have ap_23 := ap_22.below hb23 ap_22.lt
  have aq_23 := aq_22.below hb23 aq_22.lt
  have re_23 := re_22.lift hb23
  have rd_23 := rd_22.lift hb23
  have rs_23 := rs_22.lift hb23
  have rh_23 := rh_22.lift hb23
  have ra_23 := ra_22.lift hb23
  have rb_23 := rb_22.lift hb23
  have rp_23 := rp_22.lift hb23
  have rq_23 := rq_22.lift hb23
  have rr_23 := rr_22.lift hb23
  have rt_23 := rt_22.lift hb23
  have hB23 := hB22.trans (hb23.mono hB22.size)
  clear hb23 hB22 rt_22 rr_22 rq_22 rp_22 rb_22 ra_22 rh_22 rs_22 rd_22 re_22 aq_22 ap_22 aa_22 ao_22 ay_22 ad_22 ae_22 ax_22
  refine hK _ _ (fun u => At u (w1.heap.size) 27 #[.int .i64 r0, .int .i64 r1, .int .i64 r2, .int .i64 r3, .int .i64 r4, .int .i64 r5, .int .i64 r6] ∧ At u (w3.heap.size) 30 #[.int .i64 ce, .slice Ae ke ka] ∧ At u (w6.heap.size) 34 #[.int .i64 dc, .int .i64 d0, .int .i64 d1, .int .i64 d2, .int .i64 d3, .int .i64 d4, .int .i64 d5, .int .i64 d6] ∧ At u (w8.heap.size) 39 #[.slice S1 sl sc, .slice S2 sm sd, .int .i64 su] ∧ At u (w8.heap.size + 1) 27 #[.int .i64 o0, .int .i64 o1, .int .i64 o2, .int .i64 o3, .int .i64 o4, .int .i64 o5, .int .i64 o6] ∧ At u (w11.heap.size) 43 #[.int .i64 ac, .slice A1 an ad, .slice B1 bm bd, .int .i64 xa] ∧ At u (w13.heap.size) 39 #[.slice P1 pl pc, .slice P2 pm pd, .int .i64 pu] ∧ At u (w13.heap.size + 1) 39 #[.slice Q1 ql qc, .slice Q2 qm qd, .int .i64 qu]) (fun _ h => h) ⟨ax_23, ae_23, ad_23, ay_23, ao_23, aa_23, ap_23, aq_23⟩ ?_
  clear hK K
  (try simp only [Act.put, List.setIfInBounds_toArray, List.set_cons_zero, List.set_cons_succ])
  repeat (first
    | (refine mix_skip (by rfl) ?_
       (try simp only [Act.put, List.setIfInBounds_toArray, List.set_cons_zero, List.set_cons_succ]))
    | (refine mix_pure (v := ?_) (by rfl) (fun u hu => ?_) ?_
       rotate_left
       · obtain ⟨y0, y1, y2, y3, y4, y5, y6, y7⟩ := hu
         obtain ⟨_, _, _, _, _, _, _⟩ := y0.seven
         obtain ⟨_, _, _, _⟩ := y1.two
         obtain ⟨_, _, _, _, _, _, _, _⟩ := y2.eightR
         obtain ⟨_, _, _, _, _, _⟩ := y3.three
         obtain ⟨_, _, _, _, _, _, _⟩ := y4.seven
         obtain ⟨_, _, _, _, _, _, _, _⟩ := y5.four
         obtain ⟨_, _, _, _, _, _⟩ := y6.three
         obtain ⟨_, _, _, _, _, _⟩ := y7.three
         go_simp
         (with_reducible rfl)
       (try simp only [Act.put, List.setIfInBounds_toArray, List.set_cons_zero, List.set_cons_succ])))
  refine mix_call (by rfl) (fun K hK => ?_)
  go_simp
  refine (FX.out _ (hF.below hB23)).mono ?_
  rintro e w24 ⟨rfl, hb24⟩
  have ax_24 := ax_23.below hb24 ax_23.lt
  have ae_24 := ae_23.below hb24 ae_23.lt
  have ad_24 := ad_23.below hb24 ad_23.lt
  have ay_24 := ay_23.below hb24 ay_23.lt
  have ao_24 := ao_23.below hb24 ao_23.lt
  have aa_24 := aa_23.below hb24 aa_23.lt
  have ap_24 := ap_23.below hb24 ap_23.lt
  have aq_24 := aq_23.below hb24 aq_23.lt
  have re_24 := re_23.lift hb24
  have rd_24 := rd_23.lift hb24
  have rs_24 := rs_23.lift hb24
  have rh_24 := rh_23.lift hb24
  have ra_24 := ra_23.lift hb24
  have rb_24 := rb_23.lift hb24
  have rp_24 := rp_23.lift hb24
  have rq_24 := rq_23.lift hb24
  have rr_24 := rr_23.lift hb24
  have rt_24 := rt_23.lift hb24
  have hB24 := hB23.trans (hb24.mono hB23.size)
  clear hb24 hB23 rt_23 rr_23 rq_23 rp_23 rb_23 ra_23 rh_23 rs_23 rd_23 re_23 aq_23 ap_23 aa_23 ao_23 ay_23 ad_23 ae_23 ax_23
  refine hK _ _ (fun u => At u (w1.heap.size) 27 #[.int .i64 r0, .int .i64 r1, .int .i64 r2, .int .i64 r3, .int .i64 r4, .int .i64 r5, .int .i64 r6] ∧ At u (w3.heap.size) 30 #[.int .i64 ce, .slice Ae ke ka] ∧ At u (w6.heap.size) 34 #[.int .i64 dc, .int .i64 d0, .int .i64 d1, .int .i64 d2, .int .i64 d3, .int .i64 d4, .int .i64 d5, .int .i64 d6] ∧ At u (w8.heap.size) 39 #[.slice S1 sl sc, .slice S2 sm sd, .int .i64 su] ∧ At u (w8.heap.size + 1) 27 #[.int .i64 o0, .int .i64 o1, .int .i64 o2, .int .i64 o3, .int .i64 o4, .int .i64 o5, .int .i64 o6] ∧ At u (w11.heap.size) 43 #[.int .i64 ac, .slice A1 an ad, .slice B1 bm bd, .int .i64 xa] ∧ At u (w13.heap.size) 39 #[.slice P1 pl pc, .slice P2 pm pd, .int .i64 pu] ∧ At u (w13.heap.size + 1) 39 #[.slice Q1 ql qc, .slice Q2 qm qd, .int .i64 qu]) (fun _ h => h) ⟨ax_24, ae_24, ad_24, ay_24, ao_24, aa_24, ap_24, aq_24⟩ ?_
  clear hK K
  (try simp only [Act.put, List.setIfInBounds_toArray, List.set_cons_zero, List.set_cons_succ])
  repeat (first
    | (refine mix_skip (by rfl) ?_
       (try simp only [Act.put, List.setIfInBounds_toArray, List.set_cons_zero, List.set_cons_succ]))
    | (refine mix_pure (v := ?_) (by rfl) (fun u hu => ?_) ?_
       rotate_left
       · obtain ⟨y0, y1, y2, y3, y4, y5, y6, y7⟩ := hu
         obtain ⟨_, _, _, _, _, _, _⟩ := y0.seven
         obtain ⟨_, _, _, _⟩ := y1.two
         obtain ⟨_, _, _, _, _, _, _, _⟩ := y2.eightR
         obtain ⟨_, _, _, _, _, _⟩ := y3.three
         obtain ⟨_, _, _, _, _, _, _⟩ := y4.seven
         obtain ⟨_, _, _, _, _, _, _, _⟩ := y5.four
         obtain ⟨_, _, _, _, _, _⟩ := y6.three
         obtain ⟨_, _, _, _, _, _⟩ := y7.three
         go_simp
         (with_reducible rfl)
       (try simp only [Act.put, List.setIfInBounds_toArray, List.set_cons_zero, List.set_cons_succ])))
  refine mix_call (by rfl) (fun K hK => ?_)
  go_simp
  refine (IF.out _ rs_24 rh_24 (hF.below hB24)).mono ?_
  rintro e w25 ⟨rfl, hb25⟩
  have ax_25 := ax_24.below hb25 ax_24.lt
  have ae_25 := ae_24.below hb25 ae_24.lt
  have ad_25 := ad_24.below hb25 ad_24.lt
  have ay_25 := ay_24.below hb25 ay_24.lt
  have ao_25 := ao_24.below hb25 ao_24.lt
  have aa_25 := aa_24.below hb25 aa_24.lt
  have ap_25 := ap_24.below hb25 ap_24.lt
  have aq_25 := aq_24.below hb25 aq_24.lt
  have re_25 := re_24.lift hb25
  have rd_25 := rd_24.lift hb25
  have rs_25 := rs_24.lift hb25
  have rh_25 := rh_24.lift hb25
  have ra_25 := ra_24.lift hb25
  have rb_25 := rb_24.lift hb25
  have rp_25 := rp_24.lift hb25
  have rq_25 := rq_24.lift hb25
  have rr_25 := rr_24.lift hb25
  have rt_25 := rt_24.lift hb25
  have hB25 := hB24.trans (hb25.mono hB24.size)
  clear hb25 hB24 rt_24 rr_24 rq_24 rp_24 rb_24 ra_24 rh_24 rs_24 rd_24 re_24 aq_24 ap_24 aa_24 ao_24 ay_24 ad_24 ae_24 ax_24
  refine hK _ _ (fun u => At u (w1.heap.size) 27 #[.int .i64 r0, .int .i64 r1, .int .i64 r2, .int .i64 r3, .int .i64 r4, .int .i64 r5, .int .i64 r6] ∧ At u (w3.heap.size) 30 #[.int .i64 ce, .slice Ae ke ka] ∧ At u (w6.heap.size) 34 #[.int .i64 dc, .int .i64 d0, .int .i64 d1, .int .i64 d2, .int .i64 d3, .int .i64 d4, .int .i64 d5, .int .i64 d6] ∧ At u (w8.heap.size) 39 #[.slice S1 sl sc, .slice S2 sm sd, .int .i64 su] ∧ At u (w8.heap.size + 1) 27 #[.int .i64 o0, .int .i64 o1, .int .i64 o2, .int .i64 o3, .int .i64 o4, .int .i64 o5, .int .i64 o6] ∧ At u (w11.heap.size) 43 #[.int .i64 ac, .slice A1 an ad, .slice B1 bm bd, .int .i64 xa] ∧ At u (w13.heap.size) 39 #[.slice P1 pl pc, .slice P2 pm pd, .int .i64 pu] ∧ At u (w13.heap.size + 1) 39 #[.slice Q1 ql qc, .slice Q2 qm qd, .int .i64 qu]) (fun _ h => h) ⟨ax_25, ae_25, ad_25, ay_25, ao_25, aa_25, ap_25, aq_25⟩ ?_
  clear hK K
  (try simp only [Act.put, List.setIfInBounds_toArray, List.set_cons_zero, List.set_cons_succ])
  repeat (first
    | (refine mix_skip (by rfl) ?_
       (try simp only [Act.put, List.setIfInBounds_toArray, List.set_cons_zero, List.set_cons_succ]))
    | (refine mix_pure (v := ?_) (by rfl) (fun u hu => ?_) ?_
       rotate_left
       · obtain ⟨y0, y1, y2, y3, y4, y5, y6, y7⟩ := hu
         obtain ⟨_, _, _, _, _, _, _⟩ := y0.seven
         obtain ⟨_, _, _, _⟩ := y1.two
         obtain ⟨_, _, _, _, _, _, _, _⟩ := y2.eightR
         obtain ⟨_, _, _, _, _, _⟩ := y3.three
         obtain ⟨_, _, _, _, _, _, _⟩ := y4.seven
         obtain ⟨_, _, _, _, _, _, _, _⟩ := y5.four
         obtain ⟨_, _, _, _, _, _⟩ := y6.three
         obtain ⟨_, _, _, _, _, _⟩ := y7.three
         go_simp
         (with_reducible rfl)
       (try simp only [Act.put, List.setIfInBounds_toArray, List.set_cons_zero, List.set_cons_succ])))
  refine mix_call (by rfl) (fun K hK => ?_)
  go_simp
  refine (SF.out _ rs_25 rh_25).mono ?_
  rintro e w26 ⟨rfl, hb26⟩
  have ax_26 := ax_25.below hb26 ax_25.lt
  have ae_26 := ae_25.below hb26 ae_25.lt
  have ad_26 := ad_25.below hb26 ad_25.lt
  have ay_26 := ay_25.below hb26 ay_25.lt
  have ao_26 := ao_25.below hb26 ao_25.lt
  have aa_26 := aa_25.below hb26 aa_25.lt
  have ap_26 := ap_25.below hb26 ap_25.lt
  have aq_26 := aq_25.below hb26 aq_25.lt
  have re_26 := re_25.lift hb26
  have rd_26 := rd_25.lift hb26
  have rs_26 := rs_25.lift hb26
  have rh_26 := rh_25.lift hb26
  have ra_26 := ra_25.lift hb26
  have rb_26 := rb_25.lift hb26
  have rp_26 := rp_25.lift hb26
  have rq_26 := rq_25.lift hb26
  have rr_26 := rr_25.lift hb26
  have rt_26 := rt_25.lift hb26
  have hB26 := hB25.trans (hb26.mono hB25.size)
  clear hb26 hB25 rt_25 rr_25 rq_25 rp_25 rb_25 ra_25 rh_25 rs_25 rd_25 re_25 aq_25 ap_25 aa_25 ao_25 ay_25 ad_25 ae_25 ax_25
  refine hK _ _ (fun u => At u (w1.heap.size) 27 #[.int .i64 r0, .int .i64 r1, .int .i64 r2, .int .i64 r3, .int .i64 r4, .int .i64 r5, .int .i64 r6] ∧ At u (w3.heap.size) 30 #[.int .i64 ce, .slice Ae ke ka] ∧ At u (w6.heap.size) 34 #[.int .i64 dc, .int .i64 d0, .int .i64 d1, .int .i64 d2, .int .i64 d3, .int .i64 d4, .int .i64 d5, .int .i64 d6] ∧ At u (w8.heap.size) 39 #[.slice S1 sl sc, .slice S2 sm sd, .int .i64 su] ∧ At u (w8.heap.size + 1) 27 #[.int .i64 o0, .int .i64 o1, .int .i64 o2, .int .i64 o3, .int .i64 o4, .int .i64 o5, .int .i64 o6] ∧ At u (w11.heap.size) 43 #[.int .i64 ac, .slice A1 an ad, .slice B1 bm bd, .int .i64 xa] ∧ At u (w13.heap.size) 39 #[.slice P1 pl pc, .slice P2 pm pd, .int .i64 pu] ∧ At u (w13.heap.size + 1) 39 #[.slice Q1 ql qc, .slice Q2 qm qd, .int .i64 qu]) (fun _ h => h) ⟨ax_26, ae_26, ad_26, ay_26, ao_26, aa_26, ap_26, aq_26⟩ ?_
  clear hK K
  (try simp only [Act.put, List.setIfInBounds_toArray, List.set_cons_zero, List.set_cons_succ])
  repeat (first
    | (refine mix_skip (by rfl) ?_
       (try simp only [Act.put, List.setIfInBounds_toArray, List.set_cons_zero, List.set_cons_succ]))
    | (refine mix_pure (v := ?_) (by rfl) (fun u hu => ?_) ?_
       rotate_left
       · obtain ⟨y0, y1, y2, y3, y4, y5, y6, y7⟩ := hu
         obtain ⟨_, _, _, _, _, _, _⟩ := y0.seven
         obtain ⟨_, _, _, _⟩ := y1.two
         obtain ⟨_, _, _, _, _, _, _, _⟩ := y2.eightR
         obtain ⟨_, _, _, _, _, _⟩ := y3.three
         obtain ⟨_, _, _, _, _, _, _⟩ := y4.seven
         obtain ⟨_, _, _, _, _, _, _, _⟩ := y5.four
         obtain ⟨_, _, _, _, _, _⟩ := y6.three
         obtain ⟨_, _, _, _, _, _⟩ := y7.three
         go_simp
         (with_reducible rfl)
       (try simp only [Act.put, List.setIfInBounds_toArray, List.set_cons_zero, List.set_cons_succ])))
  refine mix_nil ?_
  clear SE SD SP IS SS IA IF SF FX F3 F4
  by_cases hc : ce = 0
  · subst hc
    have hbk := rec_back HFc.out
    have hel : encR (r0, r1, (r2, r3, r4, r5), r6) = el := by have h := HM.out; unfold encRecM at h; rw [if_pos HFc.out] at h; exact (Prod.mk.inj h).2
    rw [hel] at hbk
    clear hel
    have HD3 := fun W h1 h2 => implDecodeRecord Ae ke ka el W h1 Hke.out kcp kcm h2
    rw [hbk] at HD3
    clear hbk
    go_wp2_with fail
    have hb27 : Below w26.heap.size w26 w26.drew := (Below.refl _ _).drew
    have ax_27 := ax_26.below hb27 ax_26.lt
    have ae_27 := ae_26.below hb27 ae_26.lt
    have ad_27 := ad_26.below hb27 ad_26.lt
    have ay_27 := ay_26.below hb27 ay_26.lt
    have aa_27 := aa_26.below hb27 aa_26.lt
    have re_27 := re_26.lift hb27
    have rd_27 := rd_26.lift hb27
    have rs_27 := rs_26.lift hb27
    have rh_27 := rh_26.lift hb27
    have ra_27 := ra_26.lift hb27
    have rb_27 := rb_26.lift hb27
    have hB27 := hB26.trans (hb27.mono hB26.size)
    clear hb27 hB26 rb_26 ra_26 rh_26 rs_26 rd_26 re_26 aa_26 ay_26 ad_26 ae_26 ax_26
    refine wp_region_mix [(0, false), (1, false), (2, false), (3, false), (4, false), (5, false), (7, false), (8, false), (6, true), (9, false), (10, false)] (fun u => At u (w1.heap.size) 27 #[.int .i64 r0, .int .i64 r1, .int .i64 r2, .int .i64 r3, .int .i64 r4, .int .i64 r5, .int .i64 r6] ∧ At u (w3.heap.size) 30 #[.int .i64 0, .slice Ae ke ka]) (by kernel_rfl) (by kernel_rfl) (fun _ _ _ _ _ h => h) ⟨ax_27, ae_27⟩ ?_
    simp only [mixOps, List.map_cons, List.map_nil, List.getElem?_cons_succ, List.getElem?_cons_zero, Option.getD_some]
    repeat (first
      | (refine mix_skip (by rfl) ?_
         (try simp only [Act.put, List.setIfInBounds_toArray, List.set_cons_zero, List.set_cons_succ]))
      | (refine mix_pure (v := ?_) (by rfl) (fun u hu => ?_) ?_
         rotate_left
         · obtain ⟨y0, y1⟩ := hu
           obtain ⟨_, _, _, _, _, _, _⟩ := y0.seven
           obtain ⟨_, _, _, _⟩ := y1.two
           go_simp
           (with_reducible rfl)
         (try simp only [Act.put, List.setIfInBounds_toArray, List.set_cons_zero, List.set_cons_succ])))
    refine mix_call (by rfl) (fun K hK => ?_)
    go_simp
    refine (HD3 _ re_27 (hF.below hB27)).mono ?_
    rintro e w28 ⟨rfl, hb28⟩
    have ax_28 := ax_27.below hb28 ax_27.lt
    have ae_28 := ae_27.below hb28 ae_27.lt
    have ad_28 := ad_27.below hb28 ad_27.lt
    have ay_28 := ay_27.below hb28 ay_27.lt
    have aa_28 := aa_27.below hb28 aa_27.lt
    have re_28 := re_27.lift hb28
    have rd_28 := rd_27.lift hb28
    have rs_28 := rs_27.lift hb28
    have rh_28 := rh_27.lift hb28
    have ra_28 := ra_27.lift hb28
    have rb_28 := rb_27.lift hb28
    have hB28 := hB27.trans (hb28.mono hB27.size)
    clear hb28 hB27 rb_27 ra_27 rh_27 rs_27 rd_27 re_27 aa_27 ay_27 ad_27 ae_27 ax_27
    refine hK _ _ (fun u => At u (w1.heap.size) 27 #[.int .i64 r0, .int .i64 r1, .int .i64 r2, .int .i64 r3, .int .i64 r4, .int .i64 r5, .int .i64 r6] ∧ At u (w3.heap.size) 30 #[.int .i64 0, .slice Ae ke ka]) (fun _ h => h) ⟨ax_28, ae_28⟩ ?_
    clear hK K
    (try simp only [Act.put, List.setIfInBounds_toArray, List.set_cons_zero, List.set_cons_succ])
    repeat (first
      | (refine mix_skip (by rfl) ?_
         (try simp only [Act.put, List.setIfInBounds_toArray, List.set_cons_zero, List.set_cons_succ]))
      | (refine mix_pure (v := ?_) (by rfl) (fun u hu => ?_) ?_
         rotate_left
         · obtain ⟨y0, y1⟩ := hu
           obtain ⟨_, _, _, _, _, _, _⟩ := y0.seven
           obtain ⟨_, _, _, _⟩ := y1.two
           go_simp
           (with_reducible rfl)
         (try simp only [Act.put, List.setIfInBounds_toArray, List.set_cons_zero, List.set_cons_succ])))
    refine mix_nil ?_
    by_cases h0 : dc = 0
    · subst h0
      have hE2 : encRecM (d0, d1, (d2, d3, d4, d5), d6) = (0, dd) := by have h := rec_forth (l := dd) (by rw [HD.out]); rw [HD.out] at h; exact h
      have HE2 := fun W (h : Flds W) => implEncodeRecord d0 d1 d2 d3 d4 d5 d6 W h
      rw [hE2] at HE2
      clear hE2
      obtain ⟨ad0, ad1, ad2, ad3, ad4, ad5, ad6, ad7⟩ := ad_28.eightR
      go_wp2_with fail
      refine (HE2 _ (hF.below hB28)).mono ?_
      rintro e w29 ⟨Az, kz, kza, rfl, oz, hb29⟩
      have ad_29 := ad_28.below hb29 ad_28.lt
      have ay_29 := ay_28.below hb29 ay_28.lt
      have aa_29 := aa_28.below hb29 aa_28.lt
      have rd_29 := rd_28.lift hb29
      have rs_29 := rs_28.lift hb29
      have rh_29 := rh_28.lift hb29
      have ra_29 := ra_28.lift hb29
      have rb_29 := rb_28.lift hb29
      have hB29 := hB28.trans (hb29.mono hB28.size)
      clear hb29 ad0 ad1 ad2 ad3 ad4 ad5 ad6 ad7 hB28 rb_28 ra_28 rh_28 rs_28 rd_28 aa_28 ay_28 ad_28
      have rz := oz.rd okB
      have lkz := oz.len okB
      dsimp only at rz lkz
      have HL := lwSame Az Ad kz kd kza kb dd dd _ rz rd_29 lkz Hdl.out
      rw [show decide (dd = dd) = true by simp] at HL
      clear oz HE2 lkz
      obtain ⟨ad0, ad1, ad2, ad3, ad4, ad5, ad6, ad7⟩ := ad_29.eightR
      go_wp2_with fail
      refine HL.mono ?_
      rintro e w99 ⟨rfl, rfl⟩
      clear HL rz
      by_cases hz : ac = 0
      · subst hz
        obtain ⟨hs1, hs2, hs3⟩ := life_ok HA.out
        dsimp only at hs2 hs3
        have IF2 := fun W h1 h2 h3 => implStateFault A1 B1 an ad bm bd la lh xa W h1 h2 La1.out La2.out h3
        rw [hs1] at IF2
        clear hs1
        have hlen : (sl : Int) ≤ (an : Int) := by have := Hsl.out; have := La1.out; omega
        obtain ⟨ay0, ay1, ay2, _, _, _⟩ := ay_29.three
        obtain ⟨aa0, aa1, aa2, aa3, _, _, _, _⟩ := aa_29.four
        go_wp2_with fail
        refine (IF2 _ ra_29 rb_29 (hF.below hB29)).mono ?_
        rintro e w30 ⟨rfl, hb30⟩
        have ay_30 := ay_29.below hb30 ay_29.lt
        have aa_30 := aa_29.below hb30 aa_29.lt
        have rs_30 := rs_29.lift hb30
        have rh_30 := rh_29.lift hb30
        have ra_30 := ra_29.lift hb30
        have rb_30 := rb_29.lift hb30
        have hB30 := hB29.trans (hb30.mono hB29.size)
        clear hb30 ad0 ad1 ad2 ad3 ad4 ad5 ad6 ad7 ay0 ay1 ay2 aa0 aa1 aa2 aa3 hB29 rb_29 ra_29 rh_29 rs_29 aa_29 ay_29
        obtain ⟨ay0, ay1, ay2, _, _, _⟩ := ay_30.three
        obtain ⟨aa0, aa1, aa2, aa3, _, _, _, _⟩ := aa_30.four
        go_wp2
        go_ret
        exact ⟨rfl, hB30⟩
      · have hne3 : (ac != 0) = true := by rw [bne_iff_ne]; exact hz
        clear hz
        obtain ⟨aa0, aa1, aa2, aa3, _, _, _, _⟩ := aa_29.four
        go_wp2
        go_ret
        exact ⟨rfl, hB29⟩
    · have hne2 : (dc == 0) = false := by simpa using h0
      clear h0
      obtain ⟨ad0, ad1, ad2, ad3, ad4, ad5, ad6, ad7⟩ := ad_28.eightR
      by_cases hz : ac = 0
      · subst hz
        obtain ⟨hs1, hs2, hs3⟩ := life_ok HA.out
        dsimp only at hs2 hs3
        have IF2 := fun W h1 h2 h3 => implStateFault A1 B1 an ad bm bd la lh xa W h1 h2 La1.out La2.out h3
        rw [hs1] at IF2
        clear hs1
        have hlen : (sl : Int) ≤ (an : Int) := by have := Hsl.out; have := La1.out; omega
        obtain ⟨ay0, ay1, ay2, _, _, _⟩ := ay_28.three
        obtain ⟨aa0, aa1, aa2, aa3, _, _, _, _⟩ := aa_28.four
        go_wp2_with fail
        refine (IF2 _ ra_28 rb_28 (hF.below hB28)).mono ?_
        rintro e w29 ⟨rfl, hb29⟩
        have ay_29 := ay_28.below hb29 ay_28.lt
        have aa_29 := aa_28.below hb29 aa_28.lt
        have rs_29 := rs_28.lift hb29
        have rh_29 := rh_28.lift hb29
        have ra_29 := ra_28.lift hb29
        have rb_29 := rb_28.lift hb29
        have hB29 := hB28.trans (hb29.mono hB28.size)
        clear hb29 ad0 ad1 ad2 ad3 ad4 ad5 ad6 ad7 ay0 ay1 ay2 aa0 aa1 aa2 aa3 hB28 rb_28 ra_28 rh_28 rs_28 aa_28 ay_28
        obtain ⟨ay0, ay1, ay2, _, _, _⟩ := ay_29.three
        obtain ⟨aa0, aa1, aa2, aa3, _, _, _, _⟩ := aa_29.four
        go_wp2
        go_ret
        exact ⟨rfl, hB29⟩
      · have hne3 : (ac != 0) = true := by rw [bne_iff_ne]; exact hz
        clear hz
        obtain ⟨aa0, aa1, aa2, aa3, _, _, _, _⟩ := aa_28.four
        go_wp2
        go_ret
        exact ⟨rfl, hB28⟩
  · have hne : (ce == 0) = false := by simpa using hc
    clear hc
    go_wp2_with fail
    have hb27 : Below w26.heap.size w26 w26.drew := (Below.refl _ _).drew
    have ax_27 := ax_26.below hb27 ax_26.lt
    have ae_27 := ae_26.below hb27 ae_26.lt
    have ad_27 := ad_26.below hb27 ad_26.lt
    have ay_27 := ay_26.below hb27 ay_26.lt
    have aa_27 := aa_26.below hb27 aa_26.lt
    have re_27 := re_26.lift hb27
    have rd_27 := rd_26.lift hb27
    have rs_27 := rs_26.lift hb27
    have rh_27 := rh_26.lift hb27
    have ra_27 := ra_26.lift hb27
    have rb_27 := rb_26.lift hb27
    have hB27 := hB26.trans (hb27.mono hB26.size)
    clear hb27 hB26 rb_26 ra_26 rh_26 rs_26 rd_26 re_26 aa_26 ay_26 ad_26 ae_26 ax_26
    refine wp_region_mix [(0, false), (1, false), (2, false), (3, false), (4, false), (5, false), (7, false), (8, false), (6, true), (9, false), (10, false)] (fun u => At u (w1.heap.size) 27 #[.int .i64 r0, .int .i64 r1, .int .i64 r2, .int .i64 r3, .int .i64 r4, .int .i64 r5, .int .i64 r6] ∧ At u (w3.heap.size) 30 #[.int .i64 ce, .slice Ae ke ka]) (by kernel_rfl) (by kernel_rfl) (fun _ _ _ _ _ h => h) ⟨ax_27, ae_27⟩ ?_
    simp only [mixOps, List.map_cons, List.map_nil, List.getElem?_cons_succ, List.getElem?_cons_zero, Option.getD_some]
    repeat (first
      | (refine mix_skip (by rfl) ?_
         (try simp only [Act.put, List.setIfInBounds_toArray, List.set_cons_zero, List.set_cons_succ]))
      | (refine mix_pure (v := ?_) (by rfl) (fun u hu => ?_) ?_
         rotate_left
         · obtain ⟨y0, y1⟩ := hu
           obtain ⟨_, _, _, _, _, _, _⟩ := y0.seven
           obtain ⟨_, _, _, _⟩ := y1.two
           go_simp
           (with_reducible rfl)
         (try simp only [Act.put, List.setIfInBounds_toArray, List.set_cons_zero, List.set_cons_succ])))
    refine mix_nil ?_
    by_cases h0 : dc = 0
    · subst h0
      have hE2 : encRecM (d0, d1, (d2, d3, d4, d5), d6) = (0, dd) := by have h := rec_forth (l := dd) (by rw [HD.out]); rw [HD.out] at h; exact h
      have HE2 := fun W (h : Flds W) => implEncodeRecord d0 d1 d2 d3 d4 d5 d6 W h
      rw [hE2] at HE2
      clear hE2
      obtain ⟨ad0, ad1, ad2, ad3, ad4, ad5, ad6, ad7⟩ := ad_27.eightR
      go_wp2_with fail
      refine (HE2 _ (hF.below hB27)).mono ?_
      rintro e w28 ⟨Az, kz, kza, rfl, oz, hb28⟩
      have ad_28 := ad_27.below hb28 ad_27.lt
      have ay_28 := ay_27.below hb28 ay_27.lt
      have aa_28 := aa_27.below hb28 aa_27.lt
      have rd_28 := rd_27.lift hb28
      have rs_28 := rs_27.lift hb28
      have rh_28 := rh_27.lift hb28
      have ra_28 := ra_27.lift hb28
      have rb_28 := rb_27.lift hb28
      have hB28 := hB27.trans (hb28.mono hB27.size)
      clear hb28 ad0 ad1 ad2 ad3 ad4 ad5 ad6 ad7 hB27 rb_27 ra_27 rh_27 rs_27 rd_27 aa_27 ay_27 ad_27
      have rz := oz.rd okB
      have lkz := oz.len okB
      dsimp only at rz lkz
      have HL := lwSame Az Ad kz kd kza kb dd dd _ rz rd_28 lkz Hdl.out
      rw [show decide (dd = dd) = true by simp] at HL
      clear oz HE2 lkz
      obtain ⟨ad0, ad1, ad2, ad3, ad4, ad5, ad6, ad7⟩ := ad_28.eightR
      go_wp2_with fail
      refine HL.mono ?_
      rintro e w99 ⟨rfl, rfl⟩
      clear HL rz
      by_cases hz : ac = 0
      · subst hz
        obtain ⟨hs1, hs2, hs3⟩ := life_ok HA.out
        dsimp only at hs2 hs3
        have IF2 := fun W h1 h2 h3 => implStateFault A1 B1 an ad bm bd la lh xa W h1 h2 La1.out La2.out h3
        rw [hs1] at IF2
        clear hs1
        have hlen : (sl : Int) ≤ (an : Int) := by have := Hsl.out; have := La1.out; omega
        obtain ⟨ay0, ay1, ay2, _, _, _⟩ := ay_28.three
        obtain ⟨aa0, aa1, aa2, aa3, _, _, _, _⟩ := aa_28.four
        go_wp2_with fail
        refine (IF2 _ ra_28 rb_28 (hF.below hB28)).mono ?_
        rintro e w29 ⟨rfl, hb29⟩
        have ay_29 := ay_28.below hb29 ay_28.lt
        have aa_29 := aa_28.below hb29 aa_28.lt
        have rs_29 := rs_28.lift hb29
        have rh_29 := rh_28.lift hb29
        have ra_29 := ra_28.lift hb29
        have rb_29 := rb_28.lift hb29
        have hB29 := hB28.trans (hb29.mono hB28.size)
        clear hb29 ad0 ad1 ad2 ad3 ad4 ad5 ad6 ad7 ay0 ay1 ay2 aa0 aa1 aa2 aa3 hB28 rb_28 ra_28 rh_28 rs_28 aa_28 ay_28
        obtain ⟨ay0, ay1, ay2, _, _, _⟩ := ay_29.three
        obtain ⟨aa0, aa1, aa2, aa3, _, _, _, _⟩ := aa_29.four
        go_wp2
        go_ret
        exact ⟨rfl, hB29⟩
      · have hne3 : (ac != 0) = true := by rw [bne_iff_ne]; exact hz
        clear hz
        obtain ⟨aa0, aa1, aa2, aa3, _, _, _, _⟩ := aa_28.four
        go_wp2
        go_ret
        exact ⟨rfl, hB28⟩
    · have hne2 : (dc == 0) = false := by simpa using h0
      clear h0
      obtain ⟨ad0, ad1, ad2, ad3, ad4, ad5, ad6, ad7⟩ := ad_27.eightR
      by_cases hz : ac = 0
      · subst hz
        obtain ⟨hs1, hs2, hs3⟩ := life_ok HA.out
        dsimp only at hs2 hs3
        have IF2 := fun W h1 h2 h3 => implStateFault A1 B1 an ad bm bd la lh xa W h1 h2 La1.out La2.out h3
        rw [hs1] at IF2
        clear hs1
        have hlen : (sl : Int) ≤ (an : Int) := by have := Hsl.out; have := La1.out; omega
        obtain ⟨ay0, ay1, ay2, _, _, _⟩ := ay_27.three
        obtain ⟨aa0, aa1, aa2, aa3, _, _, _, _⟩ := aa_27.four
        go_wp2_with fail
        refine (IF2 _ ra_27 rb_27 (hF.below hB27)).mono ?_
        rintro e w28 ⟨rfl, hb28⟩
        have ay_28 := ay_27.below hb28 ay_27.lt
        have aa_28 := aa_27.below hb28 aa_27.lt
        have rs_28 := rs_27.lift hb28
        have rh_28 := rh_27.lift hb28
        have ra_28 := ra_27.lift hb28
        have rb_28 := rb_27.lift hb28
        have hB28 := hB27.trans (hb28.mono hB27.size)
        clear hb28 ad0 ad1 ad2 ad3 ad4 ad5 ad6 ad7 ay0 ay1 ay2 aa0 aa1 aa2 aa3 hB27 rb_27 ra_27 rh_27 rs_27 aa_27 ay_27
        obtain ⟨ay0, ay1, ay2, _, _, _⟩ := ay_28.three
        obtain ⟨aa0, aa1, aa2, aa3, _, _, _, _⟩ := aa_28.four
        go_wp2
        go_ret
        exact ⟨rfl, hB28⟩
      · have hne3 : (ac != 0) = true := by rw [bne_iff_ne]; exact hz
        clear hz
        obtain ⟨aa0, aa1, aa2, aa3, _, _, _, _⟩ := aa_27.four
        go_wp2
        go_ret
        exact ⟨rfl, hB27⟩
end Go.Proofs.YtmaillakhhdkfaaGreatDoor
