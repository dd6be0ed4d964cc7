/-
  Texts of one proof, joined: each has its own namespace.
-/
import Derived.Test.YtjlkmfijkhjjkaaDoorBFnHints4
import Derived.Test.YtjlkmfijkhjjkaaDoorBFnHints5
import Derived.Test.YtjlkmfijkhjjkaaDoorBFnHints8
import Derived.Test.YtjlkmfijkhjjkaaDoorBFnHints9
import Derived.Test.YtjlkmfijkhjjkaaDoorBFnHints7
import Derived.Test.YtjlkmfijkhjjkaaDoorBFnHints3
import Derived.Test.YtjlkmfijkhjjkaaDoorBFnHints14
import Derived.BigQuiet
/-
  The law of hints: the walk.
-/
namespace Go.Proofs.YtjlkmfijkhjjkaaDoor
set_option maxRecDepth 20000
open Go.RowKit
set_option linter.unusedSimpArgs false
set_option linter.unusedVariables false
attribute [local irreducible] mixW

theorem lwBig_noH (A : Option Addr) (n c : Nat) (w : World) (h : ¬ 1048576 < n) :
    Calls Tryd.prog 9 #[.slice A n c] w fun e w' => e = .returned (.bool false) ∧ w = w' := by
  have hd : decide ((1048576 : Int) < (n : Int)) = false := decide_eq_false (by omega)
  go_enter Tryd.func9, Tryd.ntmps9
  go_wp2
  go_ret
  exact ⟨rfl, rfl⟩
theorem undrewH {w w' : World} {k : Nat} (h : Below (w.drewN k).heap.size (w.drewN k) w') : Below w.heap.size w w' := ⟨h.os, h.tape, h.output, h.size, h.block⟩
theorem fldHR0 (z : Int) (A : Option Addr) (k c : Nat) (u : World) : (Instr.field 30 (.agg #[.int .i64 z, .slice A k c]) 0).run Tryd.prog u = .ok (.int .i64 z) u := by kernel_rfl
theorem fldHR1 (z : Int) (A : Option Addr) (k c : Nat) (u : World) : (Instr.field 30 (.agg #[.int .i64 z, .slice A k c]) 1).run Tryd.prog u = .ok (.slice A k c) u := by kernel_rfl
theorem neqIR (a b : Int) (u : World) : (binOp .neq 46 (.agg #[.int .i64 a, .int .i64 b]) (.agg #[.int .i64 a, .int .i64 b])).run Tryd.prog u = .ok (.bool false) u := by
  go_simp
theorem neqHB (a : Bool) (u : World) : (binOp .neq 4 (.bool a) (.bool a)).run Tryd.prog u = .ok (.bool false) u := by
  go_simp
theorem neqHI (a : Int) (u : World) : (binOp .neq 2 (.int .i64 a) (.int .i64 a)).run Tryd.prog u = .ok (.bool false) u := by
  go_simp
theorem neqHH (a0 a1 a2 a3 a4 a5 a6 : Int) (u : World) : (binOp .neq 50 (.agg #[.int .i64 a0, .int .i64 a1, .int .i64 a2, .int .i64 a3, .int .i64 a4, .int .i64 a5, .int .i64 a6]) (.agg #[.int .i64 a0, .int .i64 a1, .int .i64 a2, .int .i64 a3, .int .i64 a4, .int .i64 a5, .int .i64 a6])).run Tryd.prog u = .ok (.bool false) u := by
  go_simp

set_option maxRecDepth 100000 in
set_option maxHeartbeats 32000000 in
theorem fnHints_walk (X : Option Addr) (n c : Nat) (l : List UInt8) (w : World) (ha : Rd eB w w.heap.size X l) (hn : l.length = n) (hF : Flds w) :
    Calls Tryd.prog 3 #[.slice X n c] w fun e w' => e = .returned (.bool true) ∧ Below w.heap.size w w' := by
  have Hn := Lib.hid hn
  clear hn
  by_cases hbig : 1048576 < n
  · go_enter Tryd.func3, Tryd.ntmps3
    go_wp2
    go_ret
    exact ⟨rfl, Below.refl _ _⟩
  have hm : n ≤ 1048576 := by omega
  go_enter Tryd.func3, Tryd.ntmps3
  go_wp2_with fail
  refine (lwBig_noH X n c w hbig).mono ?_
  rintro e w0 ⟨rfl, rfl⟩
  clear hbig
  go_wp2_with fail
  refine (drawAddHint X n c l _ ha Hn.out hm).mono ?_
  rintro e w1 ⟨Ah, nh, ch, hl, p, x0, x1, x2, x3, rfl, hnh, oh, hb1⟩
  have ha_1 := ha.lift hb1
  have hF_1 := hF.below hb1
  have hB_1 := hb1
  clear hb1 hF ha
  have Hh := Lib.hid (oh.len okH)
  have rh := oh.rd okH
  clear oh
  have hb2 : Below w1.heap.size w1 (w1.alloc (.cells #[.int .i64 x0, .int .i64 x1, .int .i64 x2, .int .i64 x3] 26)) := (Below.refl _ _).alloc (Nat.le_refl _) _
  have bx := At.new w1 26 #[.int .i64 x0, .int .i64 x1, .int .i64 x2, .int .i64 x3]
  have ha_2 := ha_1.lift hb2
  have rh_2 := rh.lift hb2
  have hF_2 := hF_1.below hb2
  have hB_2 := hB_1.trans (hb2.mono hB_1.size)
  clear hb2 hB_1 hF_1 rh ha_1
  obtain ⟨⟨ec, el⟩, hP⟩ : ∃ r, addM hl p (x0, x1, x2, x3) = r := ⟨_, rfl⟩
  have HI := fun W h1 h2 => implAddHint Ah nh ch hl p x0 x1 x2 x3 W h1 Hh.out h2
  rw [hP] at HI
  have HE := Lib.hid hP
  clear hP
  obtain ⟨bxc0, bxc1, bxc2, bxc3, _, _, _, _⟩ := bx.four
  go_wp2_with fail
  refine (HI _ rh_2 hF_2).mono ?_
  rintro e w3 ⟨Ae, ne, ce, rfl, oe, hb3⟩
  have bx_3 := bx.below hb3 bx.lt
  have ha_3 := ha_2.lift hb3
  have rh_3 := rh_2.lift hb3
  have hF_3 := hF_2.below hb3
  have hB_3 := hB_2.trans (hb3.mono hB_2.size)
  clear hb3 bxc0 bxc1 bxc2 bxc3 hB_2 hF_2 rh_2 ha_2 bx
  have He := Lib.hid (oe.len okH)
  have re := oe.rd okH
  clear oe
  clear HI
  have hb4 : Below w3.heap.size w3 (w3.alloc (.cells #[.int .i64 ec, .slice Ae ne ce] 30)) := (Below.refl _ _).alloc (Nat.le_refl _) _
  have be := At.new w3 30 #[.int .i64 ec, .slice Ae ne ce]
  have bx_4 := bx_3.below hb4 bx_3.lt
  have ha_4 := ha_3.lift hb4
  have rh_4 := rh_3.lift hb4
  have re_4 := re.lift hb4
  have hF_4 := hF_3.below hb4
  have hB_4 := hB_3.trans (hb4.mono hB_3.size)
  clear hb4 hB_3 hF_3 re rh_3 ha_3 bx_3
  go_wp2_with fail
  refine (drawDoneHint X n c l _ ha_4 Hn.out hm).mono ?_
  rintro e w5 ⟨Ag, ng, cg, gl, who, id, rfl, hng, og, hb5⟩
  have bx_5 := bx_4.below hb5 bx_4.lt
  have be_5 := be.below hb5 be.lt
  have ha_5 := ha_4.lift hb5
  have rh_5 := rh_4.lift hb5
  have re_5 := re_4.lift hb5
  have hF_5 := hF_4.below hb5
  have hB_5 := hB_4.trans (hb5.mono hB_4.size)
  clear hb5 hB_4 hF_4 re_4 rh_4 ha_4 be bx_4
  have hcg := Lib.hid og.cap
  have Hg := Lib.hid (og.len okH)
  have rg := og.rd okH
  clear og
  obtain ⟨⟨dc, dl⟩, hP⟩ : ∃ r, doneM gl who id = r := ⟨_, rfl⟩
  have HI := fun W h1 h2 => implDoneHint Ag ng cg gl who id W h1 Hg.out h2
  rw [hP] at HI
  have HD := Lib.hid hP
  clear hP
  go_wp2_with fail
  refine (HI _ rg hF_5).mono ?_
  rintro e w6 ⟨Ad, nd, cd, rfl, od, hb6⟩
  have bx_6 := bx_5.below hb6 bx_5.lt
  have be_6 := be_5.below hb6 be_5.lt
  have ha_6 := ha_5.lift hb6
  have rh_6 := rh_5.lift hb6
  have re_6 := re_5.lift hb6
  have rg_6 := rg.lift hb6
  have hF_6 := hF_5.below hb6
  have hB_6 := hB_5.trans (hb6.mono hB_5.size)
  clear hb6 hB_5 hF_5 rg re_5 rh_5 ha_5 be_5 bx_5
  have Hd := Lib.hid (od.len okH)
  have rd := od.rd okH
  clear od
  clear HI
  have hb7 : Below w6.heap.size w6 (w6.alloc (.cells #[.int .i64 dc, .slice Ad nd cd] 30)) := (Below.refl _ _).alloc (Nat.le_refl _) _
  have bd := At.new w6 30 #[.int .i64 dc, .slice Ad nd cd]
  have bx_7 := bx_6.below hb7 bx_6.lt
  have be_7 := be_6.below hb7 be_6.lt
  have ha_7 := ha_6.lift hb7
  have rh_7 := rh_6.lift hb7
  have re_7 := re_6.lift hb7
  have rg_7 := rg_6.lift hb7
  have rd_7 := rd.lift hb7
  have hF_7 := hF_6.below hb7
  have hB_7 := hB_6.trans (hb7.mono hB_6.size)
  clear hb7 hB_6 hF_6 rd rg_6 re_6 rh_6 ha_6 be_6 bx_6
  go_wp2_with fail
  refine (drawSentHint X n c l _ ha_7 Hn.out hm).mono ?_
  rintro e w8 ⟨Al, nl, cl, ll, other, number, now, rfl, hnl, ol, hb8⟩
  have bx_8 := bx_7.below hb8 bx_7.lt
  have be_8 := be_7.below hb8 be_7.lt
  have bd_8 := bd.below hb8 bd.lt
  have ha_8 := ha_7.lift hb8
  have rh_8 := rh_7.lift hb8
  have re_8 := re_7.lift hb8
  have rg_8 := rg_7.lift hb8
  have rd_8 := rd_7.lift hb8
  have hF_8 := hF_7.below hb8
  have hB_8 := hB_7.trans (hb8.mono hB_7.size)
  clear hb8 hB_7 hF_7 rd_7 rg_7 re_7 rh_7 ha_7 bd be_7 bx_7
  have Hl := Lib.hid (ol.len okH)
  have rl := ol.rd okH
  clear ol
  obtain ⟨⟨sc, sl⟩, hP⟩ : ∃ r, sentM ll other number now = r := ⟨_, rfl⟩
  have HI := fun W h1 h2 => implSentHint Al nl cl ll other number now W h1 Hl.out h2
  rw [hP] at HI
  have HS := Lib.hid hP
  clear hP
  go_wp2_with fail
  refine (HI _ rl hF_8).mono ?_
  rintro e w9 ⟨As, ns, cs, rfl, os, hb9⟩
  have bx_9 := bx_8.below hb9 bx_8.lt
  have be_9 := be_8.below hb9 be_8.lt
  have bd_9 := bd_8.below hb9 bd_8.lt
  have ha_9 := ha_8.lift hb9
  have rh_9 := rh_8.lift hb9
  have re_9 := re_8.lift hb9
  have rg_9 := rg_8.lift hb9
  have rd_9 := rd_8.lift hb9
  have rl_9 := rl.lift hb9
  have hF_9 := hF_8.below hb9
  have hB_9 := hB_8.trans (hb9.mono hB_8.size)
  clear hb9 hB_8 hF_8 rl rd_8 rg_8 re_8 rh_8 ha_8 bd_8 be_8 bx_8
  have Hs := Lib.hid (os.len okH)
  have rs := os.rd okH
  clear os
  clear HI
  have hb10 : Below w9.heap.size w9 (w9.alloc (.cells #[.int .i64 sc, .slice As ns cs] 30)) := (Below.refl _ _).alloc (Nat.le_refl _) _
  have bs := At.new w9 30 #[.int .i64 sc, .slice As ns cs]
  have bx_10 := bx_9.below hb10 bx_9.lt
  have be_10 := be_9.below hb10 be_9.lt
  have bd_10 := bd_9.below hb10 bd_9.lt
  have ha_10 := ha_9.lift hb10
  have rh_10 := rh_9.lift hb10
  have re_10 := re_9.lift hb10
  have rg_10 := rg_9.lift hb10
  have rd_10 := rd_9.lift hb10
  have rl_10 := rl_9.lift hb10
  have rs_10 := rs.lift hb10
  have hF_10 := hF_9.below hb10
  have hB_10 := hB_9.trans (hb10.mono hB_9.size)
  clear hb10 hB_9 hF_9 rs rl_9 rd_9 rg_9 re_9 rh_9 ha_9 bd_9 be_9 bx_9
  go_wp2_with fail
  refine (drawDueHints X n c l _ ha_10 Hn.out hm).mono ?_
  rintro e w11 ⟨Au, nu, cu, ul, when_, rfl, hnu, ou, hb11⟩
  have bx_11 := bx_10.below hb11 bx_10.lt
  have be_11 := be_10.below hb11 be_10.lt
  have bd_11 := bd_10.below hb11 bd_10.lt
  have bs_11 := bs.below hb11 bs.lt
  have ha_11 := ha_10.lift hb11
  have rh_11 := rh_10.lift hb11
  have re_11 := re_10.lift hb11
  have rg_11 := rg_10.lift hb11
  have rd_11 := rd_10.lift hb11
  have rl_11 := rl_10.lift hb11
  have rs_11 := rs_10.lift hb11
  have hF_11 := hF_10.below hb11
  have hB_11 := hB_10.trans (hb11.mono hB_10.size)
  clear hb11 hB_10 hF_10 rs_10 rl_10 rd_10 rg_10 re_10 rh_10 ha_10 bs bd_10 be_10 bx_10
  have Hu := Lib.hid (ou.len okH)
  have ru := ou.rd okH
  clear ou
  obtain ⟨⟨vc, vl⟩, hP⟩ : ∃ r, dueM ul when_ = r := ⟨_, rfl⟩
  have HI := fun W h1 h2 => implDueHints Au nu cu ul when_ W h1 Hu.out h2
  rw [hP] at HI
  have HV := Lib.hid hP
  clear hP
  go_wp2_with fail
  refine (HI _ ru hF_11).mono ?_
  rintro e w12 ⟨Av, nv, cv, rfl, ov, hb12⟩
  have bx_12 := bx_11.below hb12 bx_11.lt
  have be_12 := be_11.below hb12 be_11.lt
  have bd_12 := bd_11.below hb12 bd_11.lt
  have bs_12 := bs_11.below hb12 bs_11.lt
  have ha_12 := ha_11.lift hb12
  have rh_12 := rh_11.lift hb12
  have re_12 := re_11.lift hb12
  have rg_12 := rg_11.lift hb12
  have rd_12 := rd_11.lift hb12
  have rl_12 := rl_11.lift hb12
  have rs_12 := rs_11.lift hb12
  have ru_12 := ru.lift hb12
  have hF_12 := hF_11.below hb12
  have hB_12 := hB_11.trans (hb12.mono hB_11.size)
  clear hb12 hB_11 hF_11 ru rs_11 rl_11 rd_11 rg_11 re_11 rh_11 ha_11 bs_11 bd_11 be_11 bx_11
  have Hv := Lib.hid (ov.len okH)
  have rv := ov.rd okH
  clear ov
  clear HI
  have hb13 : Below w12.heap.size w12 (w12.alloc (.cells #[.int .i64 vc, .slice Av nv cv] 30)) := (Below.refl _ _).alloc (Nat.le_refl _) _
  have bv := At.new w12 30 #[.int .i64 vc, .slice Av nv cv]
  have bx_13 := bx_12.below hb13 bx_12.lt
  have be_13 := be_12.below hb13 be_12.lt
  have bd_13 := bd_12.below hb13 bd_12.lt
  have bs_13 := bs_12.below hb13 bs_12.lt
  have ha_13 := ha_12.lift hb13
  have rh_13 := rh_12.lift hb13
  have re_13 := re_12.lift hb13
  have rg_13 := rg_12.lift hb13
  have rd_13 := rd_12.lift hb13
  have rl_13 := rl_12.lift hb13
  have rs_13 := rs_12.lift hb13
  have ru_13 := ru_12.lift hb13
  have rv_13 := rv.lift hb13
  have hF_13 := hF_12.below hb13
  have hB_13 := hB_12.trans (hb13.mono hB_12.size)
  clear hb13 hB_12 hF_12 rv ru_12 rs_12 rl_12 rd_12 rg_12 re_12 rh_12 ha_12 bs_12 bd_12 be_12 bx_12
  go_wp2_with fail
  refine (drawBackoffOf X n c l _ ha_13 Hn.out hm).mono ?_
  rintro e w14 ⟨tt, rfl, hb14⟩
  have bx_14 := bx_13.below hb14 bx_13.lt
  have be_14 := be_13.below hb14 be_13.lt
  have bd_14 := bd_13.below hb14 bd_13.lt
  have bs_14 := bs_13.below hb14 bs_13.lt
  have bv_14 := bv.below hb14 bv.lt
  have ha_14 := ha_13.lift hb14
  have rh_14 := rh_13.lift hb14
  have re_14 := re_13.lift hb14
  have rg_14 := rg_13.lift hb14
  have rd_14 := rd_13.lift hb14
  have rl_14 := rl_13.lift hb14
  have rs_14 := rs_13.lift hb14
  have ru_14 := ru_13.lift hb14
  have rv_14 := rv_13.lift hb14
  have hF_14 := hF_13.below hb14
  have hB_14 := hB_13.trans (hb14.mono hB_13.size)
  clear hb14 hB_13 hF_13 rv_13 ru_13 rs_13 rl_13 rd_13 rg_13 re_13 rh_13 ha_13 bv bs_13 bd_13 be_13 bx_13
  go_wp2_with fail
  refine (drawSameHints X n c l _ ha_14 Hn.out hm).mono ?_
  rintro e w15 ⟨Aa, Ab, na, nb, ca, cb, al, bl, rfl, hna, hnb, oa, ob, hb15⟩
  have bx_15 := bx_14.below hb15 bx_14.lt
  have be_15 := be_14.below hb15 be_14.lt
  have bd_15 := bd_14.below hb15 bd_14.lt
  have bs_15 := bs_14.below hb15 bs_14.lt
  have bv_15 := bv_14.below hb15 bv_14.lt
  have ha_15 := ha_14.lift hb15
  have rh_15 := rh_14.lift hb15
  have re_15 := re_14.lift hb15
  have rg_15 := rg_14.lift hb15
  have rd_15 := rd_14.lift hb15
  have rl_15 := rl_14.lift hb15
  have rs_15 := rs_14.lift hb15
  have ru_15 := ru_14.lift hb15
  have rv_15 := rv_14.lift hb15
  have hF_15 := hF_14.below hb15
  have hB_15 := hB_14.trans (hb15.mono hB_14.size)
  clear hb15 hB_14 hF_14 rv_14 ru_14 rs_14 rl_14 rd_14 rg_14 re_14 rh_14 ha_14 bv_14 bs_14 bd_14 be_14 bx_14
  have Ha := Lib.hid (oa.len okH)
  have ra := oa.rd okH
  clear oa
  have Hb := Lib.hid (ob.len okH)
  have rb := ob.rd okH
  clear ob
  have SA := fun W h1 => specAddHint Ah nh ch hl p x0 x1 x2 x3 W h1 Hh.out
  rw [HE.out] at SA
  have SD := fun W h1 => specDoneHint Ag ng cg gl who id W h1 Hg.out hcg.out
  rw [HD.out] at SD
  have SS := fun W h1 => specSentHint Al nl cl ll other number now W h1 Hl.out
  rw [HS.out] at SS
  have SV := fun W h1 => specDueHints Au nu cu ul when_ W h1 Hu.out
  rw [HV.out] at SV
  have SA := Lib.hid SA
  have SD := Lib.hid SD
  have SS := Lib.hid SS
  have SV := Lib.hid SV
  obtain ⟨hf, hhf⟩ : ∃ hf, hintsFaultM hl = hf := ⟨_, rfl⟩
  obtain ⟨ab, hab⟩ : ∃ ab, decide (al = bl) = ab := ⟨_, rfl⟩
  obtain ⟨⟨kc, kv⟩, hbk⟩ : ∃ r, backM tt = r := ⟨_, rfl⟩
  have IB := fun W => implBackoff tt W
  have SB := fun W => specBackoff tt W
  rw [hbk] at IB SB
  have IF := fun W h1 h2 => implHintsFault Ah nh ch hl W h1 Hh.out h2
  have SF := fun W h1 => specHintsFault Ah nh ch hl W h1 Hh.out
  rw [hhf] at IF SF
  have IE := fun W h1 h2 => implSameHints Aa Ab na nb ca cb al bl W h1 h2 Ha.out Hb.out (by unfold maxLen; omega)
  have SE := fun W h1 h2 => specSameHints Aa Ab na nb ca cb al bl W h1 h2 Ha.out Hb.out (by unfold maxLen; omega)
  rw [hab] at IE SE
  have IB := Lib.hid IB
  have SB := Lib.hid SB
  have IF := Lib.hid IF
  have SF := Lib.hid SF
  have IE := Lib.hid IE
  have SE := Lib.hid SE
  clear hhf hab hbk
  as_aux_lemma =>
    go_wp2_with fail
    have F0 := fldHR0
    have F1 := fldHR1
    have F5 := neqIR
    have F6 := neqHB
    have F7 := neqHI
    (try simp only [List.append_eq, List.cons_append, List.nil_append])
    refine wp_region_mix_at (opsOf Tryd.f3 13) [(0, false), (1, false), (2, false), (3, false), (4, false), (5, true), (6, false), (7, false), (8, false), (9, false), (10, false), (11, false), (12, false), (13, false), (14, true), (15, false), (16, true), (17, false), (18, false), (19, false), (20, false), (21, false), (22, false), (23, false), (24, false), (25, true), (26, false), (27, false), (28, false), (29, false), (30, false), (31, false), (32, false), (33, false), (34, false), (35, true), (36, false), (37, true), (38, false), (39, false), (40, false), (41, false), (42, false), (43, false), (44, false), (45, false), (46, false), (47, true), (48, false), (49, false), (50, false), (51, false), (52, false), (53, false), (54, false), (55, false), (56, false), (57, false), (58, true), (59, false), (60, true), (61, false), (62, false), (63, false), (64, false), (65, false), (66, false), (67, false), (68, true), (69, false), (70, false), (71, false), (72, false), (73, false), (74, false), (75, false), (76, false), (77, true), (78, false), (79, true), (80, false), (81, false), (82, false), (83, false), (85, false), (84, true), (86, true), (87, false), (88, false), (89, false), (90, false), (91, false), (93, false), (94, false), (92, true), (95, true), (96, false), (97, false), (98, false), (99, false), (101, false), (100, true), (102, true), (103, false), (104, false)] (fun u => (At u (w1.heap.size) 26 #[.int .i64 x0, .int .i64 x1, .int .i64 x2, .int .i64 x3]) ∧ (At u (w3.heap.size) 30 #[.int .i64 ec, .slice Ae ne ce]) ∧ (At u (w6.heap.size) 30 #[.int .i64 dc, .slice Ad nd cd]) ∧ (At u (w9.heap.size) 30 #[.int .i64 sc, .slice As ns cs]) ∧ (At u (w12.heap.size) 30 #[.int .i64 vc, .slice Av nv cv])) (by kernel_rfl) (by kernel_rfl) hlOrder (fun _ _ _ _ _ h => h) ⟨bx_15.drew, be_15.drew, bd_15.drew, bs_15.drew, bv_15.drew⟩ ?_
    simp only [mixOps, List.map_cons, List.map_nil, List.getElem?_cons_succ, List.getElem?_cons_zero, Option.getD_some]
    as_aux_lemma =>
      repeat (first
        | (refine mix_skip (by rfl) ?_
           (try simp only [Act.put, List.setIfInBounds_toArray, List.set_cons_zero, List.set_cons_succ]))
        | (refine mix_pure (v := ?_) (by rfl) (fun u hu => ?_) ?_
           rotate_left
           · obtain ⟨y0, y1, y2, y3, y4⟩ := hu
             obtain ⟨_, _, _, _, _, _, _, _⟩ := y0.four
             obtain ⟨_, _, _, _⟩ := y1.two
             obtain ⟨_, _, _, _⟩ := y2.two
             obtain ⟨_, _, _, _⟩ := y3.two
             obtain ⟨_, _, _, _⟩ := y4.two
             go_simp
             (with_reducible rfl)
           (try simp only [Act.put, List.setIfInBounds_toArray, List.set_cons_zero, List.set_cons_succ])))
      as_aux_lemma =>
        refine mix_call (by rfl) (fun K hK => ?_)
        go_simp
        refine (SA.out _ (rh_15.drewN 1)).mono ?_
        rintro e w16 ⟨A16, n16, c16, rfl, -, hb16⟩
        have hb16 := undrewH hb16
        have bx_16 := bx_15.below hb16 bx_15.lt
        have be_16 := be_15.below hb16 be_15.lt
        have bd_16 := bd_15.below hb16 bd_15.lt
        have bs_16 := bs_15.below hb16 bs_15.lt
        have bv_16 := bv_15.below hb16 bv_15.lt
        have ha_16 := ha_15.lift hb16
        have rh_16 := rh_15.lift hb16
        have re_16 := re_15.lift hb16
        have rg_16 := rg_15.lift hb16
        have rd_16 := rd_15.lift hb16
        have rl_16 := rl_15.lift hb16
        have rs_16 := rs_15.lift hb16
        have ru_16 := ru_15.lift hb16
        have rv_16 := rv_15.lift hb16
        have ra_16 := ra.lift hb16
        have rb_16 := rb.lift hb16
        have hF_16 := hF_15.below hb16
        have hB_16 := hB_15.trans (hb16.mono hB_15.size)
        clear hb16 hB_15 hF_15 rb ra rv_15 ru_15 rs_15 rl_15 rd_15 rg_15 re_15 rh_15 ha_15 bv_15 bs_15 bd_15 be_15 bx_15
        refine hK _ _ (fun u => (At u (w1.heap.size) 26 #[.int .i64 x0, .int .i64 x1, .int .i64 x2, .int .i64 x3]) ∧ (At u (w3.heap.size) 30 #[.int .i64 ec, .slice Ae ne ce]) ∧ (At u (w6.heap.size) 30 #[.int .i64 dc, .slice Ad nd cd]) ∧ (At u (w9.heap.size) 30 #[.int .i64 sc, .slice As ns cs]) ∧ (At u (w12.heap.size) 30 #[.int .i64 vc, .slice Av nv cv])) (fun _ h => h) ⟨bx_16, be_16, bd_16, bs_16, bv_16⟩ ?_
        clear hK K
        (try simp only [Act.put, List.setIfInBounds_toArray, List.set_cons_zero, List.set_cons_succ])
        repeat (first
          | (refine mix_skip (by rfl) ?_
             (try simp only [Act.put, List.setIfInBounds_toArray, List.set_cons_zero, List.set_cons_succ]))
          | (refine mix_pure (v := ?_) (by rfl) (fun u hu => ?_) ?_
             rotate_left
             · obtain ⟨y0, y1, y2, y3, y4⟩ := hu
               obtain ⟨_, _, _, _, _, _, _, _⟩ := y0.four
               obtain ⟨_, _, _, _⟩ := y1.two
               obtain ⟨_, _, _, _⟩ := y2.two
               obtain ⟨_, _, _, _⟩ := y3.two
               obtain ⟨_, _, _, _⟩ := y4.two
               go_simp
               (with_reducible rfl)
             (try simp only [Act.put, List.setIfInBounds_toArray, List.set_cons_zero, List.set_cons_succ])))
        refine mix_call (by rfl) (fun K hK => ?_)
        go_simp
        refine (SA.out _ rh_16).mono ?_
        rintro e w17 ⟨A17, n17, c17, rfl, o17, hb17⟩
        have bx_17 := bx_16.below hb17 bx_16.lt
        have be_17 := be_16.below hb17 be_16.lt
        have bd_17 := bd_16.below hb17 bd_16.lt
        have bs_17 := bs_16.below hb17 bs_16.lt
        have bv_17 := bv_16.below hb17 bv_16.lt
        have ha_17 := ha_16.lift hb17
        have rh_17 := rh_16.lift hb17
        have re_17 := re_16.lift hb17
        have rg_17 := rg_16.lift hb17
        have rd_17 := rd_16.lift hb17
        have rl_17 := rl_16.lift hb17
        have rs_17 := rs_16.lift hb17
        have ru_17 := ru_16.lift hb17
        have rv_17 := rv_16.lift hb17
        have ra_17 := ra_16.lift hb17
        have rb_17 := rb_16.lift hb17
        have hF_17 := hF_16.below hb17
        have hB_17 := hB_16.trans (hb17.mono hB_16.size)
        clear hb17 hB_16 hF_16 rb_16 ra_16 rv_16 ru_16 rs_16 rl_16 rd_16 rg_16 re_16 rh_16 ha_16 bv_16 bs_16 bd_16 be_16 bx_16
        have v17 := o17.rd okH
        have h17 := o17.len okH
        clear o17 SA
        refine hK _ _ (fun u => (At u (w1.heap.size) 26 #[.int .i64 x0, .int .i64 x1, .int .i64 x2, .int .i64 x3]) ∧ (At u (w3.heap.size) 30 #[.int .i64 ec, .slice Ae ne ce]) ∧ (At u (w6.heap.size) 30 #[.int .i64 dc, .slice Ad nd cd]) ∧ (At u (w9.heap.size) 30 #[.int .i64 sc, .slice As ns cs]) ∧ (At u (w12.heap.size) 30 #[.int .i64 vc, .slice Av nv cv])) (fun _ h => h) ⟨bx_17, be_17, bd_17, bs_17, bv_17⟩ ?_
        clear hK K
        (try simp only [Act.put, List.setIfInBounds_toArray, List.set_cons_zero, List.set_cons_succ])
        repeat (first
          | (refine mix_skip (by rfl) ?_
             (try simp only [Act.put, List.setIfInBounds_toArray, List.set_cons_zero, List.set_cons_succ]))
          | (refine mix_pure (v := ?_) (by rfl) (fun u hu => ?_) ?_
             rotate_left
             · obtain ⟨y0, y1, y2, y3, y4⟩ := hu
               obtain ⟨_, _, _, _, _, _, _, _⟩ := y0.four
               obtain ⟨_, _, _, _⟩ := y1.two
               obtain ⟨_, _, _, _⟩ := y2.two
               obtain ⟨_, _, _, _⟩ := y3.two
               obtain ⟨_, _, _, _⟩ := y4.two
               go_simp
               (with_reducible rfl)
             (try simp only [Act.put, List.setIfInBounds_toArray, List.set_cons_zero, List.set_cons_succ])))
        refine mix_call (by rfl) (fun K hK => ?_)
        go_simp
        refine (implSameHints Ae A17 ne n17 ce c17 el el _ re_17 v17 He.out h17 (by have := addM_small HE.out Hh.out hnh; have := He.out; unfold maxLen; omega)).mono ?_
        rintro e w18 ⟨rfl, hb18⟩
        have bx_18 := bx_17.below hb18 bx_17.lt
        have be_18 := be_17.below hb18 be_17.lt
        have bd_18 := bd_17.below hb18 bd_17.lt
        have bs_18 := bs_17.below hb18 bs_17.lt
        have bv_18 := bv_17.below hb18 bv_17.lt
        have ha_18 := ha_17.lift hb18
        have rh_18 := rh_17.lift hb18
        have re_18 := re_17.lift hb18
        have rg_18 := rg_17.lift hb18
        have rd_18 := rd_17.lift hb18
        have rl_18 := rl_17.lift hb18
        have rs_18 := rs_17.lift hb18
        have ru_18 := ru_17.lift hb18
        have rv_18 := rv_17.lift hb18
        have ra_18 := ra_17.lift hb18
        have rb_18 := rb_17.lift hb18
        have v17_18 := v17.lift hb18
        have hF_18 := hF_17.below hb18
        have hB_18 := hB_17.trans (hb18.mono hB_17.size)
        clear hb18 hB_17 hF_17 v17 rb_17 ra_17 rv_17 ru_17 rs_17 rl_17 rd_17 rg_17 re_17 rh_17 ha_17 bv_17 bs_17 bd_17 be_17 bx_17
        rw [show decide (el = el) = true from decide_eq_true rfl]
        refine hK _ _ (fun u => (At u (w1.heap.size) 26 #[.int .i64 x0, .int .i64 x1, .int .i64 x2, .int .i64 x3]) ∧ (At u (w3.heap.size) 30 #[.int .i64 ec, .slice Ae ne ce]) ∧ (At u (w6.heap.size) 30 #[.int .i64 dc, .slice Ad nd cd]) ∧ (At u (w9.heap.size) 30 #[.int .i64 sc, .slice As ns cs]) ∧ (At u (w12.heap.size) 30 #[.int .i64 vc, .slice Av nv cv])) (fun _ h => h) ⟨bx_18, be_18, bd_18, bs_18, bv_18⟩ ?_
        clear hK K
        (try simp only [Act.put, List.setIfInBounds_toArray, List.set_cons_zero, List.set_cons_succ])
        repeat (first
          | (refine mix_skip (by rfl) ?_
             (try simp only [Act.put, List.setIfInBounds_toArray, List.set_cons_zero, List.set_cons_succ]))
          | (refine mix_pure (v := ?_) (by rfl) (fun u hu => ?_) ?_
             rotate_left
             · obtain ⟨y0, y1, y2, y3, y4⟩ := hu
               obtain ⟨_, _, _, _, _, _, _, _⟩ := y0.four
               obtain ⟨_, _, _, _⟩ := y1.two
               obtain ⟨_, _, _, _⟩ := y2.two
               obtain ⟨_, _, _, _⟩ := y3.two
               obtain ⟨_, _, _, _⟩ := y4.two
               go_simp
               (with_reducible rfl)
             (try simp only [Act.put, List.setIfInBounds_toArray, List.set_cons_zero, List.set_cons_succ])))
        as_aux_lemma =>
          refine mix_call (by rfl) (fun K hK => ?_)
          go_simp
          refine (SD.out _ rg_18).mono ?_
          rintro e w19 ⟨A19, n19, c19, rfl, -, hb19⟩
          have bx_19 := bx_18.below hb19 bx_18.lt
          have be_19 := be_18.below hb19 be_18.lt
          have bd_19 := bd_18.below hb19 bd_18.lt
          have bs_19 := bs_18.below hb19 bs_18.lt
          have bv_19 := bv_18.below hb19 bv_18.lt
          have ha_19 := ha_18.lift hb19
          have rh_19 := rh_18.lift hb19
          have re_19 := re_18.lift hb19
          have rg_19 := rg_18.lift hb19
          have rd_19 := rd_18.lift hb19
          have rl_19 := rl_18.lift hb19
          have rs_19 := rs_18.lift hb19
          have ru_19 := ru_18.lift hb19
          have rv_19 := rv_18.lift hb19
          have ra_19 := ra_18.lift hb19
          have rb_19 := rb_18.lift hb19
          have hF_19 := hF_18.below hb19
          have hB_19 := hB_18.trans (hb19.mono hB_18.size)
          clear hb19 hB_18 hF_18 rb_18 ra_18 rv_18 ru_18 rs_18 rl_18 rd_18 rg_18 re_18 rh_18 ha_18 bv_18 bs_18 bd_18 be_18 bx_18
          refine hK _ _ (fun u => (At u (w1.heap.size) 26 #[.int .i64 x0, .int .i64 x1, .int .i64 x2, .int .i64 x3]) ∧ (At u (w3.heap.size) 30 #[.int .i64 ec, .slice Ae ne ce]) ∧ (At u (w6.heap.size) 30 #[.int .i64 dc, .slice Ad nd cd]) ∧ (At u (w9.heap.size) 30 #[.int .i64 sc, .slice As ns cs]) ∧ (At u (w12.heap.size) 30 #[.int .i64 vc, .slice Av nv cv])) (fun _ h => h) ⟨bx_19, be_19, bd_19, bs_19, bv_19⟩ ?_
          clear hK K
          (try simp only [Act.put, List.setIfInBounds_toArray, List.set_cons_zero, List.set_cons_succ])
          repeat (first
            | (refine mix_skip (by rfl) ?_
               (try simp only [Act.put, List.setIfInBounds_toArray, List.set_cons_zero, List.set_cons_succ]))
            | (refine mix_pure (v := ?_) (by rfl) (fun u hu => ?_) ?_
               rotate_left
               · obtain ⟨y0, y1, y2, y3, y4⟩ := hu
                 obtain ⟨_, _, _, _, _, _, _, _⟩ := y0.four
                 obtain ⟨_, _, _, _⟩ := y1.two
                 obtain ⟨_, _, _, _⟩ := y2.two
                 obtain ⟨_, _, _, _⟩ := y3.two
                 obtain ⟨_, _, _, _⟩ := y4.two
                 go_simp
                 (with_reducible rfl)
               (try simp only [Act.put, List.setIfInBounds_toArray, List.set_cons_zero, List.set_cons_succ])))
          refine mix_call (by rfl) (fun K hK => ?_)
          go_simp
          refine (SD.out _ rg_19).mono ?_
          rintro e w20 ⟨A20, n20, c20, rfl, o20, hb20⟩
          have bx_20 := bx_19.below hb20 bx_19.lt
          have be_20 := be_19.below hb20 be_19.lt
          have bd_20 := bd_19.below hb20 bd_19.lt
          have bs_20 := bs_19.below hb20 bs_19.lt
          have bv_20 := bv_19.below hb20 bv_19.lt
          have ha_20 := ha_19.lift hb20
          have rh_20 := rh_19.lift hb20
          have re_20 := re_19.lift hb20
          have rg_20 := rg_19.lift hb20
          have rd_20 := rd_19.lift hb20
          have rl_20 := rl_19.lift hb20
          have rs_20 := rs_19.lift hb20
          have ru_20 := ru_19.lift hb20
          have rv_20 := rv_19.lift hb20
          have ra_20 := ra_19.lift hb20
          have rb_20 := rb_19.lift hb20
          have hF_20 := hF_19.below hb20
          have hB_20 := hB_19.trans (hb20.mono hB_19.size)
          clear hb20 hB_19 hF_19 rb_19 ra_19 rv_19 ru_19 rs_19 rl_19 rd_19 rg_19 re_19 rh_19 ha_19 bv_19 bs_19 bd_19 be_19 bx_19
          have v20 := o20.rd okH
          have h20 := o20.len okH
          clear o20 SD
          refine hK _ _ (fun u => (At u (w1.heap.size) 26 #[.int .i64 x0, .int .i64 x1, .int .i64 x2, .int .i64 x3]) ∧ (At u (w3.heap.size) 30 #[.int .i64 ec, .slice Ae ne ce]) ∧ (At u (w6.heap.size) 30 #[.int .i64 dc, .slice Ad nd cd]) ∧ (At u (w9.heap.size) 30 #[.int .i64 sc, .slice As ns cs]) ∧ (At u (w12.heap.size) 30 #[.int .i64 vc, .slice Av nv cv])) (fun _ h => h) ⟨bx_20, be_20, bd_20, bs_20, bv_20⟩ ?_
          clear hK K
          (try simp only [Act.put, List.setIfInBounds_toArray, List.set_cons_zero, List.set_cons_succ])
          repeat (first
            | (refine mix_skip (by rfl) ?_
               (try simp only [Act.put, List.setIfInBounds_toArray, List.set_cons_zero, List.set_cons_succ]))
            | (refine mix_pure (v := ?_) (by rfl) (fun u hu => ?_) ?_
               rotate_left
               · obtain ⟨y0, y1, y2, y3, y4⟩ := hu
                 obtain ⟨_, _, _, _, _, _, _, _⟩ := y0.four
                 obtain ⟨_, _, _, _⟩ := y1.two
                 obtain ⟨_, _, _, _⟩ := y2.two
                 obtain ⟨_, _, _, _⟩ := y3.two
                 obtain ⟨_, _, _, _⟩ := y4.two
                 go_simp
                 (with_reducible rfl)
               (try simp only [Act.put, List.setIfInBounds_toArray, List.set_cons_zero, List.set_cons_succ])))
          refine mix_call (by rfl) (fun K hK => ?_)
          go_simp
          refine (implSameHints Ad A20 nd n20 cd c20 dl dl _ rd_20 v20 Hd.out h20 (by have := doneM_small HD.out Hg.out hng; have := Hd.out; unfold maxLen; omega)).mono ?_
          rintro e w21 ⟨rfl, hb21⟩
          have bx_21 := bx_20.below hb21 bx_20.lt
          have be_21 := be_20.below hb21 be_20.lt
          have bd_21 := bd_20.below hb21 bd_20.lt
          have bs_21 := bs_20.below hb21 bs_20.lt
          have bv_21 := bv_20.below hb21 bv_20.lt
          have ha_21 := ha_20.lift hb21
          have rh_21 := rh_20.lift hb21
          have re_21 := re_20.lift hb21
          have rg_21 := rg_20.lift hb21
          have rd_21 := rd_20.lift hb21
          have rl_21 := rl_20.lift hb21
          have rs_21 := rs_20.lift hb21
          have ru_21 := ru_20.lift hb21
          have rv_21 := rv_20.lift hb21
          have ra_21 := ra_20.lift hb21
          have rb_21 := rb_20.lift hb21
          have v20_21 := v20.lift hb21
          have hF_21 := hF_20.below hb21
          have hB_21 := hB_20.trans (hb21.mono hB_20.size)
          clear hb21 hB_20 hF_20 v20 rb_20 ra_20 rv_20 ru_20 rs_20 rl_20 rd_20 rg_20 re_20 rh_20 ha_20 bv_20 bs_20 bd_20 be_20 bx_20
          rw [show decide (dl = dl) = true from decide_eq_true rfl]
          refine hK _ _ (fun u => (At u (w1.heap.size) 26 #[.int .i64 x0, .int .i64 x1, .int .i64 x2, .int .i64 x3]) ∧ (At u (w3.heap.size) 30 #[.int .i64 ec, .slice Ae ne ce]) ∧ (At u (w6.heap.size) 30 #[.int .i64 dc, .slice Ad nd cd]) ∧ (At u (w9.heap.size) 30 #[.int .i64 sc, .slice As ns cs]) ∧ (At u (w12.heap.size) 30 #[.int .i64 vc, .slice Av nv cv])) (fun _ h => h) ⟨bx_21, be_21, bd_21, bs_21, bv_21⟩ ?_
          clear hK K
          (try simp only [Act.put, List.setIfInBounds_toArray, List.set_cons_zero, List.set_cons_succ])
          repeat (first
            | (refine mix_skip (by rfl) ?_
               (try simp only [Act.put, List.setIfInBounds_toArray, List.set_cons_zero, List.set_cons_succ]))
            | (refine mix_pure (v := ?_) (by rfl) (fun u hu => ?_) ?_
               rotate_left
               · obtain ⟨y0, y1, y2, y3, y4⟩ := hu
                 obtain ⟨_, _, _, _, _, _, _, _⟩ := y0.four
                 obtain ⟨_, _, _, _⟩ := y1.two
                 obtain ⟨_, _, _, _⟩ := y2.two
                 obtain ⟨_, _, _, _⟩ := y3.two
                 obtain ⟨_, _, _, _⟩ := y4.two
                 go_simp
                 (with_reducible rfl)
               (try simp only [Act.put, List.setIfInBounds_toArray, List.set_cons_zero, List.set_cons_succ])))
          as_aux_lemma =>
            refine mix_call (by rfl) (fun K hK => ?_)
            go_simp
            refine (SS.out _ rl_21).mono ?_
            rintro e w22 ⟨A22, n22, c22, rfl, -, hb22⟩
            have bx_22 := bx_21.below hb22 bx_21.lt
            have be_22 := be_21.below hb22 be_21.lt
            have bd_22 := bd_21.below hb22 bd_21.lt
            have bs_22 := bs_21.below hb22 bs_21.lt
            have bv_22 := bv_21.below hb22 bv_21.lt
            have ha_22 := ha_21.lift hb22
            have rh_22 := rh_21.lift hb22
            have re_22 := re_21.lift hb22
            have rg_22 := rg_21.lift hb22
            have rd_22 := rd_21.lift hb22
            have rl_22 := rl_21.lift hb22
            have rs_22 := rs_21.lift hb22
            have ru_22 := ru_21.lift hb22
            have rv_22 := rv_21.lift hb22
            have ra_22 := ra_21.lift hb22
            have rb_22 := rb_21.lift hb22
            have hF_22 := hF_21.below hb22
            have hB_22 := hB_21.trans (hb22.mono hB_21.size)
            clear hb22 hB_21 hF_21 rb_21 ra_21 rv_21 ru_21 rs_21 rl_21 rd_21 rg_21 re_21 rh_21 ha_21 bv_21 bs_21 bd_21 be_21 bx_21
            refine hK _ _ (fun u => (At u (w1.heap.size) 26 #[.int .i64 x0, .int .i64 x1, .int .i64 x2, .int .i64 x3]) ∧ (At u (w3.heap.size) 30 #[.int .i64 ec, .slice Ae ne ce]) ∧ (At u (w6.heap.size) 30 #[.int .i64 dc, .slice Ad nd cd]) ∧ (At u (w9.heap.size) 30 #[.int .i64 sc, .slice As ns cs]) ∧ (At u (w12.heap.size) 30 #[.int .i64 vc, .slice Av nv cv])) (fun _ h => h) ⟨bx_22, be_22, bd_22, bs_22, bv_22⟩ ?_
            clear hK K
            (try simp only [Act.put, List.setIfInBounds_toArray, List.set_cons_zero, List.set_cons_succ])
            repeat (first
              | (refine mix_skip (by rfl) ?_
                 (try simp only [Act.put, List.setIfInBounds_toArray, List.set_cons_zero, List.set_cons_succ]))
              | (refine mix_pure (v := ?_) (by rfl) (fun u hu => ?_) ?_
                 rotate_left
                 · obtain ⟨y0, y1, y2, y3, y4⟩ := hu
                   obtain ⟨_, _, _, _, _, _, _, _⟩ := y0.four
                   obtain ⟨_, _, _, _⟩ := y1.two
                   obtain ⟨_, _, _, _⟩ := y2.two
                   obtain ⟨_, _, _, _⟩ := y3.two
                   obtain ⟨_, _, _, _⟩ := y4.two
                   go_simp
                   (with_reducible rfl)
                 (try simp only [Act.put, List.setIfInBounds_toArray, List.set_cons_zero, List.set_cons_succ])))
            refine mix_call (by rfl) (fun K hK => ?_)
            go_simp
            refine (SS.out _ rl_22).mono ?_
            rintro e w23 ⟨A23, n23, c23, rfl, o23, hb23⟩
            have bx_23 := bx_22.below hb23 bx_22.lt
            have be_23 := be_22.below hb23 be_22.lt
            have bd_23 := bd_22.below hb23 bd_22.lt
            have bs_23 := bs_22.below hb23 bs_22.lt
            have bv_23 := bv_22.below hb23 bv_22.lt
            have ha_23 := ha_22.lift hb23
            have rh_23 := rh_22.lift hb23
            have re_23 := re_22.lift hb23
            have rg_23 := rg_22.lift hb23
            have rd_23 := rd_22.lift hb23
            have rl_23 := rl_22.lift hb23
            have rs_23 := rs_22.lift hb23
            have ru_23 := ru_22.lift hb23
            have rv_23 := rv_22.lift hb23
            have ra_23 := ra_22.lift hb23
            have rb_23 := rb_22.lift hb23
            have hF_23 := hF_22.below hb23
            have hB_23 := hB_22.trans (hb23.mono hB_22.size)
            clear hb23 hB_22 hF_22 rb_22 ra_22 rv_22 ru_22 rs_22 rl_22 rd_22 rg_22 re_22 rh_22 ha_22 bv_22 bs_22 bd_22 be_22 bx_22
            have v23 := o23.rd okH
            have h23 := o23.len okH
            clear o23 SS
            refine hK _ _ (fun u => (At u (w1.heap.size) 26 #[.int .i64 x0, .int .i64 x1, .int .i64 x2, .int .i64 x3]) ∧ (At u (w3.heap.size) 30 #[.int .i64 ec, .slice Ae ne ce]) ∧ (At u (w6.heap.size) 30 #[.int .i64 dc, .slice Ad nd cd]) ∧ (At u (w9.heap.size) 30 #[.int .i64 sc, .slice As ns cs]) ∧ (At u (w12.heap.size) 30 #[.int .i64 vc, .slice Av nv cv])) (fun _ h => h) ⟨bx_23, be_23, bd_23, bs_23, bv_23⟩ ?_
            clear hK K
            (try simp only [Act.put, List.setIfInBounds_toArray, List.set_cons_zero, List.set_cons_succ])
            repeat (first
              | (refine mix_skip (by rfl) ?_
                 (try simp only [Act.put, List.setIfInBounds_toArray, List.set_cons_zero, List.set_cons_succ]))
              | (refine mix_pure (v := ?_) (by rfl) (fun u hu => ?_) ?_
                 rotate_left
                 · obtain ⟨y0, y1, y2, y3, y4⟩ := hu
                   obtain ⟨_, _, _, _, _, _, _, _⟩ := y0.four
                   obtain ⟨_, _, _, _⟩ := y1.two
                   obtain ⟨_, _, _, _⟩ := y2.two
                   obtain ⟨_, _, _, _⟩ := y3.two
                   obtain ⟨_, _, _, _⟩ := y4.two
                   go_simp
                   (with_reducible rfl)
                 (try simp only [Act.put, List.setIfInBounds_toArray, List.set_cons_zero, List.set_cons_succ])))
            refine mix_call (by rfl) (fun K hK => ?_)
            go_simp
            refine (implSameHints As A23 ns n23 cs c23 sl sl _ rs_23 v23 Hs.out h23 (by have := sentM_small HS.out Hl.out hnl; have := Hs.out; unfold maxLen; omega)).mono ?_
            rintro e w24 ⟨rfl, hb24⟩
            have bx_24 := bx_23.below hb24 bx_23.lt
            have be_24 := be_23.below hb24 be_23.lt
            have bd_24 := bd_23.below hb24 bd_23.lt
            have bs_24 := bs_23.below hb24 bs_23.lt
            have bv_24 := bv_23.below hb24 bv_23.lt
            have ha_24 := ha_23.lift hb24
            have rh_24 := rh_23.lift hb24
            have re_24 := re_23.lift hb24
            have rg_24 := rg_23.lift hb24
            have rd_24 := rd_23.lift hb24
            have rl_24 := rl_23.lift hb24
            have rs_24 := rs_23.lift hb24
            have ru_24 := ru_23.lift hb24
            have rv_24 := rv_23.lift hb24
            have ra_24 := ra_23.lift hb24
            have rb_24 := rb_23.lift hb24
            have v23_24 := v23.lift hb24
            have hF_24 := hF_23.below hb24
            have hB_24 := hB_23.trans (hb24.mono hB_23.size)
            clear hb24 hB_23 hF_23 v23 rb_23 ra_23 rv_23 ru_23 rs_23 rl_23 rd_23 rg_23 re_23 rh_23 ha_23 bv_23 bs_23 bd_23 be_23 bx_23
            rw [show decide (sl = sl) = true from decide_eq_true rfl]
            refine hK _ _ (fun u => (At u (w1.heap.size) 26 #[.int .i64 x0, .int .i64 x1, .int .i64 x2, .int .i64 x3]) ∧ (At u (w3.heap.size) 30 #[.int .i64 ec, .slice Ae ne ce]) ∧ (At u (w6.heap.size) 30 #[.int .i64 dc, .slice Ad nd cd]) ∧ (At u (w9.heap.size) 30 #[.int .i64 sc, .slice As ns cs]) ∧ (At u (w12.heap.size) 30 #[.int .i64 vc, .slice Av nv cv])) (fun _ h => h) ⟨bx_24, be_24, bd_24, bs_24, bv_24⟩ ?_
            clear hK K
            (try simp only [Act.put, List.setIfInBounds_toArray, List.set_cons_zero, List.set_cons_succ])
            repeat (first
              | (refine mix_skip (by rfl) ?_
                 (try simp only [Act.put, List.setIfInBounds_toArray, List.set_cons_zero, List.set_cons_succ]))
              | (refine mix_pure (v := ?_) (by rfl) (fun u hu => ?_) ?_
                 rotate_left
                 · obtain ⟨y0, y1, y2, y3, y4⟩ := hu
                   obtain ⟨_, _, _, _, _, _, _, _⟩ := y0.four
                   obtain ⟨_, _, _, _⟩ := y1.two
                   obtain ⟨_, _, _, _⟩ := y2.two
                   obtain ⟨_, _, _, _⟩ := y3.two
                   obtain ⟨_, _, _, _⟩ := y4.two
                   go_simp
                   (with_reducible rfl)
                 (try simp only [Act.put, List.setIfInBounds_toArray, List.set_cons_zero, List.set_cons_succ])))
            as_aux_lemma =>
              refine mix_call (by rfl) (fun K hK => ?_)
              go_simp
              refine (SV.out _ ru_24).mono ?_
              rintro e w25 ⟨A25, n25, c25, rfl, -, hb25⟩
              have bx_25 := bx_24.below hb25 bx_24.lt
              have be_25 := be_24.below hb25 be_24.lt
              have bd_25 := bd_24.below hb25 bd_24.lt
              have bs_25 := bs_24.below hb25 bs_24.lt
              have bv_25 := bv_24.below hb25 bv_24.lt
              have ha_25 := ha_24.lift hb25
              have rh_25 := rh_24.lift hb25
              have re_25 := re_24.lift hb25
              have rg_25 := rg_24.lift hb25
              have rd_25 := rd_24.lift hb25
              have rl_25 := rl_24.lift hb25
              have rs_25 := rs_24.lift hb25
              have ru_25 := ru_24.lift hb25
              have rv_25 := rv_24.lift hb25
              have ra_25 := ra_24.lift hb25
              have rb_25 := rb_24.lift hb25
              have hF_25 := hF_24.below hb25
              have hB_25 := hB_24.trans (hb25.mono hB_24.size)
              clear hb25 hB_24 hF_24 rb_24 ra_24 rv_24 ru_24 rs_24 rl_24 rd_24 rg_24 re_24 rh_24 ha_24 bv_24 bs_24 bd_24 be_24 bx_24
              refine hK _ _ (fun u => (At u (w1.heap.size) 26 #[.int .i64 x0, .int .i64 x1, .int .i64 x2, .int .i64 x3]) ∧ (At u (w3.heap.size) 30 #[.int .i64 ec, .slice Ae ne ce]) ∧ (At u (w6.heap.size) 30 #[.int .i64 dc, .slice Ad nd cd]) ∧ (At u (w9.heap.size) 30 #[.int .i64 sc, .slice As ns cs]) ∧ (At u (w12.heap.size) 30 #[.int .i64 vc, .slice Av nv cv])) (fun _ h => h) ⟨bx_25, be_25, bd_25, bs_25, bv_25⟩ ?_
              clear hK K
              (try simp only [Act.put, List.setIfInBounds_toArray, List.set_cons_zero, List.set_cons_succ])
              repeat (first
                | (refine mix_skip (by rfl) ?_
                   (try simp only [Act.put, List.setIfInBounds_toArray, List.set_cons_zero, List.set_cons_succ]))
                | (refine mix_pure (v := ?_) (by rfl) (fun u hu => ?_) ?_
                   rotate_left
                   · obtain ⟨y0, y1, y2, y3, y4⟩ := hu
                     obtain ⟨_, _, _, _, _, _, _, _⟩ := y0.four
                     obtain ⟨_, _, _, _⟩ := y1.two
                     obtain ⟨_, _, _, _⟩ := y2.two
                     obtain ⟨_, _, _, _⟩ := y3.two
                     obtain ⟨_, _, _, _⟩ := y4.two
                     go_simp
                     (with_reducible rfl)
                   (try simp only [Act.put, List.setIfInBounds_toArray, List.set_cons_zero, List.set_cons_succ])))
              refine mix_call (by rfl) (fun K hK => ?_)
              go_simp
              refine (SV.out _ ru_25).mono ?_
              rintro e w26 ⟨A26, n26, c26, rfl, o26, hb26⟩
              have bx_26 := bx_25.below hb26 bx_25.lt
              have be_26 := be_25.below hb26 be_25.lt
              have bd_26 := bd_25.below hb26 bd_25.lt
              have bs_26 := bs_25.below hb26 bs_25.lt
              have bv_26 := bv_25.below hb26 bv_25.lt
              have ha_26 := ha_25.lift hb26
              have rh_26 := rh_25.lift hb26
              have re_26 := re_25.lift hb26
              have rg_26 := rg_25.lift hb26
              have rd_26 := rd_25.lift hb26
              have rl_26 := rl_25.lift hb26
              have rs_26 := rs_25.lift hb26
              have ru_26 := ru_25.lift hb26
              have rv_26 := rv_25.lift hb26
              have ra_26 := ra_25.lift hb26
              have rb_26 := rb_25.lift hb26
              have hF_26 := hF_25.below hb26
              have hB_26 := hB_25.trans (hb26.mono hB_25.size)
              clear hb26 hB_25 hF_25 rb_25 ra_25 rv_25 ru_25 rs_25 rl_25 rd_25 rg_25 re_25 rh_25 ha_25 bv_25 bs_25 bd_25 be_25 bx_25
              have v26 := o26.rd okH
              have h26 := o26.len okH
              clear o26 SV
              refine hK _ _ (fun u => (At u (w1.heap.size) 26 #[.int .i64 x0, .int .i64 x1, .int .i64 x2, .int .i64 x3]) ∧ (At u (w3.heap.size) 30 #[.int .i64 ec, .slice Ae ne ce]) ∧ (At u (w6.heap.size) 30 #[.int .i64 dc, .slice Ad nd cd]) ∧ (At u (w9.heap.size) 30 #[.int .i64 sc, .slice As ns cs]) ∧ (At u (w12.heap.size) 30 #[.int .i64 vc, .slice Av nv cv])) (fun _ h => h) ⟨bx_26, be_26, bd_26, bs_26, bv_26⟩ ?_
              clear hK K
              (try simp only [Act.put, List.setIfInBounds_toArray, List.set_cons_zero, List.set_cons_succ])
              repeat (first
                | (refine mix_skip (by rfl) ?_
                   (try simp only [Act.put, List.setIfInBounds_toArray, List.set_cons_zero, List.set_cons_succ]))
                | (refine mix_pure (v := ?_) (by rfl) (fun u hu => ?_) ?_
                   rotate_left
                   · obtain ⟨y0, y1, y2, y3, y4⟩ := hu
                     obtain ⟨_, _, _, _, _, _, _, _⟩ := y0.four
                     obtain ⟨_, _, _, _⟩ := y1.two
                     obtain ⟨_, _, _, _⟩ := y2.two
                     obtain ⟨_, _, _, _⟩ := y3.two
                     obtain ⟨_, _, _, _⟩ := y4.two
                     go_simp
                     (with_reducible rfl)
                   (try simp only [Act.put, List.setIfInBounds_toArray, List.set_cons_zero, List.set_cons_succ])))
              refine mix_call (by rfl) (fun K hK => ?_)
              go_simp
              refine (implSameHints Av A26 nv n26 cv c26 vl vl _ rv_26 v26 Hv.out h26 (by have := dueM_small HV.out Hu.out hnu; have := Hv.out; unfold maxLen; omega)).mono ?_
              rintro e w27 ⟨rfl, hb27⟩
              have bx_27 := bx_26.below hb27 bx_26.lt
              have be_27 := be_26.below hb27 be_26.lt
              have bd_27 := bd_26.below hb27 bd_26.lt
              have bs_27 := bs_26.below hb27 bs_26.lt
              have bv_27 := bv_26.below hb27 bv_26.lt
              have ha_27 := ha_26.lift hb27
              have rh_27 := rh_26.lift hb27
              have re_27 := re_26.lift hb27
              have rg_27 := rg_26.lift hb27
              have rd_27 := rd_26.lift hb27
              have rl_27 := rl_26.lift hb27
              have rs_27 := rs_26.lift hb27
              have ru_27 := ru_26.lift hb27
              have rv_27 := rv_26.lift hb27
              have ra_27 := ra_26.lift hb27
              have rb_27 := rb_26.lift hb27
              have v26_27 := v26.lift hb27
              have hF_27 := hF_26.below hb27
              have hB_27 := hB_26.trans (hb27.mono hB_26.size)
              clear hb27 hB_26 hF_26 v26 rb_26 ra_26 rv_26 ru_26 rs_26 rl_26 rd_26 rg_26 re_26 rh_26 ha_26 bv_26 bs_26 bd_26 be_26 bx_26
              rw [show decide (vl = vl) = true from decide_eq_true rfl]
              refine hK _ _ (fun u => (At u (w1.heap.size) 26 #[.int .i64 x0, .int .i64 x1, .int .i64 x2, .int .i64 x3]) ∧ (At u (w3.heap.size) 30 #[.int .i64 ec, .slice Ae ne ce]) ∧ (At u (w6.heap.size) 30 #[.int .i64 dc, .slice Ad nd cd]) ∧ (At u (w9.heap.size) 30 #[.int .i64 sc, .slice As ns cs]) ∧ (At u (w12.heap.size) 30 #[.int .i64 vc, .slice Av nv cv])) (fun _ h => h) ⟨bx_27, be_27, bd_27, bs_27, bv_27⟩ ?_
              clear hK K
              (try simp only [Act.put, List.setIfInBounds_toArray, List.set_cons_zero, List.set_cons_succ])
              repeat (first
                | (refine mix_skip (by rfl) ?_
                   (try simp only [Act.put, List.setIfInBounds_toArray, List.set_cons_zero, List.set_cons_succ]))
                | (refine mix_pure (v := ?_) (by rfl) (fun u hu => ?_) ?_
                   rotate_left
                   · obtain ⟨y0, y1, y2, y3, y4⟩ := hu
                     obtain ⟨_, _, _, _, _, _, _, _⟩ := y0.four
                     obtain ⟨_, _, _, _⟩ := y1.two
                     obtain ⟨_, _, _, _⟩ := y2.two
                     obtain ⟨_, _, _, _⟩ := y3.two
                     obtain ⟨_, _, _, _⟩ := y4.two
                     go_simp
                     (with_reducible rfl)
                   (try simp only [Act.put, List.setIfInBounds_toArray, List.set_cons_zero, List.set_cons_succ])))
              as_aux_lemma =>
                refine mix_call (by rfl) (fun K hK => ?_)
                go_simp
                refine (IB.out _).mono ?_
                rintro e w28 ⟨rfl, hb28⟩
                have bx_28 := bx_27.below hb28 bx_27.lt
                have be_28 := be_27.below hb28 be_27.lt
                have bd_28 := bd_27.below hb28 bd_27.lt
                have bs_28 := bs_27.below hb28 bs_27.lt
                have bv_28 := bv_27.below hb28 bv_27.lt
                have ha_28 := ha_27.lift hb28
                have rh_28 := rh_27.lift hb28
                have re_28 := re_27.lift hb28
                have rg_28 := rg_27.lift hb28
                have rd_28 := rd_27.lift hb28
                have rl_28 := rl_27.lift hb28
                have rs_28 := rs_27.lift hb28
                have ru_28 := ru_27.lift hb28
                have rv_28 := rv_27.lift hb28
                have ra_28 := ra_27.lift hb28
                have rb_28 := rb_27.lift hb28
                have hF_28 := hF_27.below hb28
                have hB_28 := hB_27.trans (hb28.mono hB_27.size)
                clear hb28 hB_27 hF_27 rb_27 ra_27 rv_27 ru_27 rs_27 rl_27 rd_27 rg_27 re_27 rh_27 ha_27 bv_27 bs_27 bd_27 be_27 bx_27
                refine hK _ _ (fun u => (At u (w1.heap.size) 26 #[.int .i64 x0, .int .i64 x1, .int .i64 x2, .int .i64 x3]) ∧ (At u (w3.heap.size) 30 #[.int .i64 ec, .slice Ae ne ce]) ∧ (At u (w6.heap.size) 30 #[.int .i64 dc, .slice Ad nd cd]) ∧ (At u (w9.heap.size) 30 #[.int .i64 sc, .slice As ns cs]) ∧ (At u (w12.heap.size) 30 #[.int .i64 vc, .slice Av nv cv])) (fun _ h => h) ⟨bx_28, be_28, bd_28, bs_28, bv_28⟩ ?_
                clear hK K
                (try simp only [Act.put, List.setIfInBounds_toArray, List.set_cons_zero, List.set_cons_succ])
                repeat (first
                  | (refine mix_skip (by rfl) ?_
                     (try simp only [Act.put, List.setIfInBounds_toArray, List.set_cons_zero, List.set_cons_succ]))
                  | (refine mix_pure (v := ?_) (by rfl) (fun u hu => ?_) ?_
                     rotate_left
                     · obtain ⟨y0, y1, y2, y3, y4⟩ := hu
                       obtain ⟨_, _, _, _, _, _, _, _⟩ := y0.four
                       obtain ⟨_, _, _, _⟩ := y1.two
                       obtain ⟨_, _, _, _⟩ := y2.two
                       obtain ⟨_, _, _, _⟩ := y3.two
                       obtain ⟨_, _, _, _⟩ := y4.two
                       go_simp
                       (with_reducible rfl)
                     (try simp only [Act.put, List.setIfInBounds_toArray, List.set_cons_zero, List.set_cons_succ])))
                refine mix_call (by rfl) (fun K hK => ?_)
                go_simp
                refine (SB.out _).mono ?_
                rintro e w29 ⟨rfl, hb29⟩
                have bx_29 := bx_28.below hb29 bx_28.lt
                have be_29 := be_28.below hb29 be_28.lt
                have bd_29 := bd_28.below hb29 bd_28.lt
                have bs_29 := bs_28.below hb29 bs_28.lt
                have bv_29 := bv_28.below hb29 bv_28.lt
                have ha_29 := ha_28.lift hb29
                have rh_29 := rh_28.lift hb29
                have re_29 := re_28.lift hb29
                have rg_29 := rg_28.lift hb29
                have rd_29 := rd_28.lift hb29
                have rl_29 := rl_28.lift hb29
                have rs_29 := rs_28.lift hb29
                have ru_29 := ru_28.lift hb29
                have rv_29 := rv_28.lift hb29
                have ra_29 := ra_28.lift hb29
                have rb_29 := rb_28.lift hb29
                have hF_29 := hF_28.below hb29
                have hB_29 := hB_28.trans (hb29.mono hB_28.size)
                clear hb29 hB_28 hF_28 rb_28 ra_28 rv_28 ru_28 rs_28 rl_28 rd_28 rg_28 re_28 rh_28 ha_28 bv_28 bs_28 bd_28 be_28 bx_28
                refine hK _ _ (fun u => (At u (w1.heap.size) 26 #[.int .i64 x0, .int .i64 x1, .int .i64 x2, .int .i64 x3]) ∧ (At u (w3.heap.size) 30 #[.int .i64 ec, .slice Ae ne ce]) ∧ (At u (w6.heap.size) 30 #[.int .i64 dc, .slice Ad nd cd]) ∧ (At u (w9.heap.size) 30 #[.int .i64 sc, .slice As ns cs]) ∧ (At u (w12.heap.size) 30 #[.int .i64 vc, .slice Av nv cv])) (fun _ h => h) ⟨bx_29, be_29, bd_29, bs_29, bv_29⟩ ?_
                clear hK K
                (try simp only [Act.put, List.setIfInBounds_toArray, List.set_cons_zero, List.set_cons_succ])
                repeat (first
                  | (refine mix_skip (by rfl) ?_
                     (try simp only [Act.put, List.setIfInBounds_toArray, List.set_cons_zero, List.set_cons_succ]))
                  | (refine mix_pure (v := ?_) (by rfl) (fun u hu => ?_) ?_
                     rotate_left
                     · obtain ⟨y0, y1, y2, y3, y4⟩ := hu
                       obtain ⟨_, _, _, _, _, _, _, _⟩ := y0.four
                       obtain ⟨_, _, _, _⟩ := y1.two
                       obtain ⟨_, _, _, _⟩ := y2.two
                       obtain ⟨_, _, _, _⟩ := y3.two
                       obtain ⟨_, _, _, _⟩ := y4.two
                       go_simp
                       (with_reducible rfl)
                     (try simp only [Act.put, List.setIfInBounds_toArray, List.set_cons_zero, List.set_cons_succ])))
                as_aux_lemma =>
                  refine mix_call (by rfl) (fun K hK => ?_)
                  go_simp
                  refine (IE.out _ ra_29 rb_29).mono ?_
                  rintro e w30 ⟨rfl, hb30⟩
                  have bx_30 := bx_29.below hb30 bx_29.lt
                  have be_30 := be_29.below hb30 be_29.lt
                  have bd_30 := bd_29.below hb30 bd_29.lt
                  have bs_30 := bs_29.below hb30 bs_29.lt
                  have bv_30 := bv_29.below hb30 bv_29.lt
                  have ha_30 := ha_29.lift hb30
                  have rh_30 := rh_29.lift hb30
                  have re_30 := re_29.lift hb30
                  have rg_30 := rg_29.lift hb30
                  have rd_30 := rd_29.lift hb30
                  have rl_30 := rl_29.lift hb30
                  have rs_30 := rs_29.lift hb30
                  have ru_30 := ru_29.lift hb30
                  have rv_30 := rv_29.lift hb30
                  have ra_30 := ra_29.lift hb30
                  have rb_30 := rb_29.lift hb30
                  have hF_30 := hF_29.below hb30
                  have hB_30 := hB_29.trans (hb30.mono hB_29.size)
                  clear hb30 hB_29 hF_29 rb_29 ra_29 rv_29 ru_29 rs_29 rl_29 rd_29 rg_29 re_29 rh_29 ha_29 bv_29 bs_29 bd_29 be_29 bx_29
                  refine hK _ _ (fun u => (At u (w1.heap.size) 26 #[.int .i64 x0, .int .i64 x1, .int .i64 x2, .int .i64 x3]) ∧ (At u (w3.heap.size) 30 #[.int .i64 ec, .slice Ae ne ce]) ∧ (At u (w6.heap.size) 30 #[.int .i64 dc, .slice Ad nd cd]) ∧ (At u (w9.heap.size) 30 #[.int .i64 sc, .slice As ns cs]) ∧ (At u (w12.heap.size) 30 #[.int .i64 vc, .slice Av nv cv])) (fun _ h => h) ⟨bx_30, be_30, bd_30, bs_30, bv_30⟩ ?_
                  clear hK K
                  (try simp only [Act.put, List.setIfInBounds_toArray, List.set_cons_zero, List.set_cons_succ])
                  repeat (first
                    | (refine mix_skip (by rfl) ?_
                       (try simp only [Act.put, List.setIfInBounds_toArray, List.set_cons_zero, List.set_cons_succ]))
                    | (refine mix_pure (v := ?_) (by rfl) (fun u hu => ?_) ?_
                       rotate_left
                       · obtain ⟨y0, y1, y2, y3, y4⟩ := hu
                         obtain ⟨_, _, _, _, _, _, _, _⟩ := y0.four
                         obtain ⟨_, _, _, _⟩ := y1.two
                         obtain ⟨_, _, _, _⟩ := y2.two
                         obtain ⟨_, _, _, _⟩ := y3.two
                         obtain ⟨_, _, _, _⟩ := y4.two
                         go_simp
                         (with_reducible rfl)
                       (try simp only [Act.put, List.setIfInBounds_toArray, List.set_cons_zero, List.set_cons_succ])))
                  refine mix_call (by rfl) (fun K hK => ?_)
                  go_simp
                  refine (SE.out _ ra_30 rb_30).mono ?_
                  rintro e w31 ⟨rfl, hb31⟩
                  have bx_31 := bx_30.below hb31 bx_30.lt
                  have be_31 := be_30.below hb31 be_30.lt
                  have bd_31 := bd_30.below hb31 bd_30.lt
                  have bs_31 := bs_30.below hb31 bs_30.lt
                  have bv_31 := bv_30.below hb31 bv_30.lt
                  have ha_31 := ha_30.lift hb31
                  have rh_31 := rh_30.lift hb31
                  have re_31 := re_30.lift hb31
                  have rg_31 := rg_30.lift hb31
                  have rd_31 := rd_30.lift hb31
                  have rl_31 := rl_30.lift hb31
                  have rs_31 := rs_30.lift hb31
                  have ru_31 := ru_30.lift hb31
                  have rv_31 := rv_30.lift hb31
                  have ra_31 := ra_30.lift hb31
                  have rb_31 := rb_30.lift hb31
                  have hF_31 := hF_30.below hb31
                  have hB_31 := hB_30.trans (hb31.mono hB_30.size)
                  clear hb31 hB_30 hF_30 rb_30 ra_30 rv_30 ru_30 rs_30 rl_30 rd_30 rg_30 re_30 rh_30 ha_30 bv_30 bs_30 bd_30 be_30 bx_30
                  refine hK _ _ (fun u => (At u (w1.heap.size) 26 #[.int .i64 x0, .int .i64 x1, .int .i64 x2, .int .i64 x3]) ∧ (At u (w3.heap.size) 30 #[.int .i64 ec, .slice Ae ne ce]) ∧ (At u (w6.heap.size) 30 #[.int .i64 dc, .slice Ad nd cd]) ∧ (At u (w9.heap.size) 30 #[.int .i64 sc, .slice As ns cs]) ∧ (At u (w12.heap.size) 30 #[.int .i64 vc, .slice Av nv cv])) (fun _ h => h) ⟨bx_31, be_31, bd_31, bs_31, bv_31⟩ ?_
                  clear hK K
                  (try simp only [Act.put, List.setIfInBounds_toArray, List.set_cons_zero, List.set_cons_succ])
                  repeat (first
                    | (refine mix_skip (by rfl) ?_
                       (try simp only [Act.put, List.setIfInBounds_toArray, List.set_cons_zero, List.set_cons_succ]))
                    | (refine mix_pure (v := ?_) (by rfl) (fun u hu => ?_) ?_
                       rotate_left
                       · obtain ⟨y0, y1, y2, y3, y4⟩ := hu
                         obtain ⟨_, _, _, _, _, _, _, _⟩ := y0.four
                         obtain ⟨_, _, _, _⟩ := y1.two
                         obtain ⟨_, _, _, _⟩ := y2.two
                         obtain ⟨_, _, _, _⟩ := y3.two
                         obtain ⟨_, _, _, _⟩ := y4.two
                         go_simp
                         (with_reducible rfl)
                       (try simp only [Act.put, List.setIfInBounds_toArray, List.set_cons_zero, List.set_cons_succ])))
                  refine mix_call (by rfl) (fun K hK => ?_)
                  go_simp
                  refine (IF.out _ rh_31 hF_31).mono ?_
                  rintro e w32 ⟨rfl, hb32⟩
                  have bx_32 := bx_31.below hb32 bx_31.lt
                  have be_32 := be_31.below hb32 be_31.lt
                  have bd_32 := bd_31.below hb32 bd_31.lt
                  have bs_32 := bs_31.below hb32 bs_31.lt
                  have bv_32 := bv_31.below hb32 bv_31.lt
                  have ha_32 := ha_31.lift hb32
                  have rh_32 := rh_31.lift hb32
                  have re_32 := re_31.lift hb32
                  have rg_32 := rg_31.lift hb32
                  have rd_32 := rd_31.lift hb32
                  have rl_32 := rl_31.lift hb32
                  have rs_32 := rs_31.lift hb32
                  have ru_32 := ru_31.lift hb32
                  have rv_32 := rv_31.lift hb32
                  have ra_32 := ra_31.lift hb32
                  have rb_32 := rb_31.lift hb32
                  have hF_32 := hF_31.below hb32
                  have hB_32 := hB_31.trans (hb32.mono hB_31.size)
                  clear hb32 hB_31 hF_31 rb_31 ra_31 rv_31 ru_31 rs_31 rl_31 rd_31 rg_31 re_31 rh_31 ha_31 bv_31 bs_31 bd_31 be_31 bx_31
                  refine hK _ _ (fun u => (At u (w1.heap.size) 26 #[.int .i64 x0, .int .i64 x1, .int .i64 x2, .int .i64 x3]) ∧ (At u (w3.heap.size) 30 #[.int .i64 ec, .slice Ae ne ce]) ∧ (At u (w6.heap.size) 30 #[.int .i64 dc, .slice Ad nd cd]) ∧ (At u (w9.heap.size) 30 #[.int .i64 sc, .slice As ns cs]) ∧ (At u (w12.heap.size) 30 #[.int .i64 vc, .slice Av nv cv])) (fun _ h => h) ⟨bx_32, be_32, bd_32, bs_32, bv_32⟩ ?_
                  clear hK K
                  (try simp only [Act.put, List.setIfInBounds_toArray, List.set_cons_zero, List.set_cons_succ])
                  repeat (first
                    | (refine mix_skip (by rfl) ?_
                       (try simp only [Act.put, List.setIfInBounds_toArray, List.set_cons_zero, List.set_cons_succ]))
                    | (refine mix_pure (v := ?_) (by rfl) (fun u hu => ?_) ?_
                       rotate_left
                       · obtain ⟨y0, y1, y2, y3, y4⟩ := hu
                         obtain ⟨_, _, _, _, _, _, _, _⟩ := y0.four
                         obtain ⟨_, _, _, _⟩ := y1.two
                         obtain ⟨_, _, _, _⟩ := y2.two
                         obtain ⟨_, _, _, _⟩ := y3.two
                         obtain ⟨_, _, _, _⟩ := y4.two
                         go_simp
                         (with_reducible rfl)
                       (try simp only [Act.put, List.setIfInBounds_toArray, List.set_cons_zero, List.set_cons_succ])))
                  refine mix_call (by rfl) (fun K hK => ?_)
                  go_simp
                  refine (SF.out _ rh_32).mono ?_
                  rintro e w33 ⟨rfl, hb33⟩
                  have bx_33 := bx_32.below hb33 bx_32.lt
                  have be_33 := be_32.below hb33 be_32.lt
                  have bd_33 := bd_32.below hb33 bd_32.lt
                  have bs_33 := bs_32.below hb33 bs_32.lt
                  have bv_33 := bv_32.below hb33 bv_32.lt
                  have ha_33 := ha_32.lift hb33
                  have rh_33 := rh_32.lift hb33
                  have re_33 := re_32.lift hb33
                  have rg_33 := rg_32.lift hb33
                  have rd_33 := rd_32.lift hb33
                  have rl_33 := rl_32.lift hb33
                  have rs_33 := rs_32.lift hb33
                  have ru_33 := ru_32.lift hb33
                  have rv_33 := rv_32.lift hb33
                  have ra_33 := ra_32.lift hb33
                  have rb_33 := rb_32.lift hb33
                  have hF_33 := hF_32.below hb33
                  have hB_33 := hB_32.trans (hb33.mono hB_32.size)
                  clear hb33 hB_32 hF_32 rb_32 ra_32 rv_32 ru_32 rs_32 rl_32 rd_32 rg_32 re_32 rh_32 ha_32 bv_32 bs_32 bd_32 be_32 bx_32
                  refine hK _ _ (fun u => (At u (w1.heap.size) 26 #[.int .i64 x0, .int .i64 x1, .int .i64 x2, .int .i64 x3]) ∧ (At u (w3.heap.size) 30 #[.int .i64 ec, .slice Ae ne ce]) ∧ (At u (w6.heap.size) 30 #[.int .i64 dc, .slice Ad nd cd]) ∧ (At u (w9.heap.size) 30 #[.int .i64 sc, .slice As ns cs]) ∧ (At u (w12.heap.size) 30 #[.int .i64 vc, .slice Av nv cv])) (fun _ h => h) ⟨bx_33, be_33, bd_33, bs_33, bv_33⟩ ?_
                  clear hK K
                  (try simp only [Act.put, List.setIfInBounds_toArray, List.set_cons_zero, List.set_cons_succ])
                  repeat (first
                    | (refine mix_skip (by rfl) ?_
                       (try simp only [Act.put, List.setIfInBounds_toArray, List.set_cons_zero, List.set_cons_succ]))
                    | (refine mix_pure (v := ?_) (by rfl) (fun u hu => ?_) ?_
                       rotate_left
                       · obtain ⟨y0, y1, y2, y3, y4⟩ := hu
                         obtain ⟨_, _, _, _, _, _, _, _⟩ := y0.four
                         obtain ⟨_, _, _, _⟩ := y1.two
                         obtain ⟨_, _, _, _⟩ := y2.two
                         obtain ⟨_, _, _, _⟩ := y3.two
                         obtain ⟨_, _, _, _⟩ := y4.two
                         go_simp
                         (with_reducible rfl)
                       (try simp only [Act.put, List.setIfInBounds_toArray, List.set_cons_zero, List.set_cons_succ])))
                  as_aux_lemma =>
                    refine mix_nil ?_
                    clear F0 F1 F5 F6 F7 IB SB IF SF IE SE
                    by_cases hc : ec = 0
                    · as_aux_lemma =>
                        subst hc
                        obtain ⟨hsf, hdn, htk⟩ := add_said HE.out
                        have HSF := fun W h1 h2 => implHintsFault Ae ne ce el W h1 He.out h2
                        rw [hsf] at HSF
                        have HDN := fun W h1 h2 => implDoneHint Ae ne ce el p x2 W h1 He.out h2
                        rw [hdn] at HDN
                        obtain ⟨⟨yc, yl⟩, hY⟩ : ∃ r, addM el p (x0, x1, x2, x3) = r := ⟨_, rfl⟩
                        rw [hY] at htk
                        obtain rfl : yc = 6 := htk
                        have HTK := fun W h1 h2 => implAddHint Ae ne ce el p x0 x1 x2 x3 W h1 He.out h2
                        rw [hY] at HTK
                        have HSF := Lib.hid HSF
                        have HDN := Lib.hid HDN
                        have HTK := Lib.hid HTK
                        clear hsf hdn hY
                        have F0 := fldHR0
                        have F1 := fldHR1
                        obtain ⟨bec0, bec1, _, _⟩ := be_33.two
                        obtain ⟨bxc0, bxc1, bxc2, bxc3, _, _, _, _⟩ := bx_33.four
                        go_wp2_with fail
                        refine (HSF.out _ re_33 hF_33).mono ?_
                        rintro e w34 ⟨rfl, hb34⟩
                        have bx_34 := bx_33.below hb34 bx_33.lt
                        have be_34 := be_33.below hb34 be_33.lt
                        have bd_34 := bd_33.below hb34 bd_33.lt
                        have bs_34 := bs_33.below hb34 bs_33.lt
                        have rh_34 := rh_33.lift hb34
                        have re_34 := re_33.lift hb34
                        have rd_34 := rd_33.lift hb34
                        have rl_34 := rl_33.lift hb34
                        have rs_34 := rs_33.lift hb34
                        have hF_34 := hF_33.below hb34
                        have hB_34 := hB_33.trans (hb34.mono hB_33.size)
                        clear hb34 bec0 bec1 bxc0 bxc1 bxc2 bxc3 hB_33 hF_33 rs_33 rl_33 rd_33 re_33 rh_33 bs_33 bd_33 be_33 bx_33
                        clear HSF
                        obtain ⟨bec0, bec1, _, _⟩ := be_34.two
                        obtain ⟨bxc0, bxc1, bxc2, bxc3, _, _, _, _⟩ := bx_34.four
                        go_wp2_with fail
                        refine (HDN.out _ re_34 hF_34).mono ?_
                        rintro e w35 ⟨A2, n2, c2, rfl, o2, hb35⟩
                        have bx_35 := bx_34.below hb35 bx_34.lt
                        have be_35 := be_34.below hb35 be_34.lt
                        have bd_35 := bd_34.below hb35 bd_34.lt
                        have bs_35 := bs_34.below hb35 bs_34.lt
                        have rh_35 := rh_34.lift hb35
                        have re_35 := re_34.lift hb35
                        have rd_35 := rd_34.lift hb35
                        have rl_35 := rl_34.lift hb35
                        have rs_35 := rs_34.lift hb35
                        have hF_35 := hF_34.below hb35
                        have hB_35 := hB_34.trans (hb35.mono hB_34.size)
                        clear hb35 bec0 bec1 bxc0 bxc1 bxc2 bxc3 hB_34 hF_34 rs_34 rl_34 rd_34 re_34 rh_34 bs_34 bd_34 be_34 bx_34
                        have v2 := o2.rd okH
                        have hv2 := o2.len okH
                        clear o2 HDN
                        obtain ⟨bec0, bec1, _, _⟩ := be_35.two
                        obtain ⟨bxc0, bxc1, bxc2, bxc3, _, _, _, _⟩ := bx_35.four
                        go_wp2_with fail
                        refine (implSameHints A2 Ah n2 nh c2 ch hl hl _ v2 rh_35 hv2 Hh.out (by have := Hh.out; unfold maxLen; omega)).mono ?_
                        rintro e w36 ⟨rfl, hb36⟩
                        have bx_36 := bx_35.below hb36 bx_35.lt
                        have be_36 := be_35.below hb36 be_35.lt
                        have bd_36 := bd_35.below hb36 bd_35.lt
                        have bs_36 := bs_35.below hb36 bs_35.lt
                        have rh_36 := rh_35.lift hb36
                        have re_36 := re_35.lift hb36
                        have rd_36 := rd_35.lift hb36
                        have rl_36 := rl_35.lift hb36
                        have rs_36 := rs_35.lift hb36
                        have v2_36 := v2.lift hb36
                        have hF_36 := hF_35.below hb36
                        have hB_36 := hB_35.trans (hb36.mono hB_35.size)
                        clear hb36 bec0 bec1 bxc0 bxc1 bxc2 bxc3 hB_35 hF_35 v2 rs_35 rl_35 rd_35 re_35 rh_35 bs_35 bd_35 be_35 bx_35
                        rw [show decide (hl = hl) = true from decide_eq_true rfl]
                        obtain ⟨bec0, bec1, _, _⟩ := be_36.two
                        obtain ⟨bxc0, bxc1, bxc2, bxc3, _, _, _, _⟩ := bx_36.four
                        go_wp2_with fail
                        refine (HTK.out _ re_36 hF_36).mono ?_
                        rintro e w37 ⟨A3, n3, c3, rfl, -, hb37⟩
                        have bx_37 := bx_36.below hb37 bx_36.lt
                        have be_37 := be_36.below hb37 be_36.lt
                        have bd_37 := bd_36.below hb37 bd_36.lt
                        have bs_37 := bs_36.below hb37 bs_36.lt
                        have rh_37 := rh_36.lift hb37
                        have re_37 := re_36.lift hb37
                        have rd_37 := rd_36.lift hb37
                        have rl_37 := rl_36.lift hb37
                        have rs_37 := rs_36.lift hb37
                        have hF_37 := hF_36.below hb37
                        have hB_37 := hB_36.trans (hb37.mono hB_36.size)
                        clear hb37 bec0 bec1 bxc0 bxc1 bxc2 bxc3 hB_36 hF_36 rs_36 rl_36 rd_36 re_36 rh_36 bs_36 bd_36 be_36 bx_36
                        clear HTK F1
                        by_cases hc : dc = 0
                        · as_aux_lemma =>
                            subst hc
                            obtain ⟨hlen, hno⟩ := done_said HD.out
                            obtain ⟨⟨yc, yl⟩, hY⟩ : ∃ r, doneM dl who id = r := ⟨_, rfl⟩
                            rw [hY] at hno
                            obtain rfl : yc = 4 := hno
                            have HNO := fun W h1 h2 => implDoneHint Ad nd cd dl who id W h1 Hd.out h2
                            rw [hY] at HNO
                            have HNO := Lib.hid HNO
                            have hnn : ng = nd + 1 := by rw [← Hg.out, ← Hd.out]; exact hlen.symm
                            clear hY hlen
                            have hsub : ((ng : Int) - 1) = (nd : Int) := by omega
                            have hnn' := Lib.hid hnn
                            clear hnn
                            have F0 := fldHR0
                            obtain ⟨bdc0, bdc1, _, _⟩ := bd_37.two
                            go_wp2_with fail
                            refine (HNO.out _ rd_37 hF_37).mono ?_
                            rintro e w38 ⟨A4, n4, c4, rfl, -, hb38⟩
                            have bd_38 := bd_37.below hb38 bd_37.lt
                            have bs_38 := bs_37.below hb38 bs_37.lt
                            have rd_38 := rd_37.lift hb38
                            have rl_38 := rl_37.lift hb38
                            have rs_38 := rs_37.lift hb38
                            have hF_38 := hF_37.below hb38
                            have hB_38 := hB_37.trans (hb38.mono hB_37.size)
                            clear hb38 bdc0 bdc1 hB_37 hF_37 rs_37 rl_37 rd_37 bs_37 bd_37
                            clear HNO
                            by_cases hc : sc = 0
                            · as_aux_lemma =>
                                subst hc
                                obtain ⟨hlen, hfa, ⟨hn0, hn1⟩, hat⟩ := sent_said HS.out
                                have HAT := Lib.hid hat
                                obtain rfl : ns = nl := by rw [← Hs.out, ← Hl.out]; exact hlen
                                have HSF := fun W h1 h2 => implHintsFault As ns cs sl W h1 Hs.out h2
                                rw [hfa] at HSF
                                have HSF := Lib.hid HSF
                                clear hlen hfa hat
                                obtain ⟨bsc0, bsc1, _, _⟩ := bs_38.two
                                go_wp2
                                go_loopw [22] (fun iv wr => ∃ k : Nat, k ≤ ns ∧ iv = .int .i64 k ∧ Below w38.heap.size w38 wr) (fun i _ => ns - (intOf i).toNat)
                                case atStart => exact ⟨0, Nat.zero_le _, rfl, Below.refl _ _⟩
                                case round =>
                                  obtain ⟨k, hk, rfl, hbel⟩ := hrel
                                  have bsr := bs_38.below hbel bs_38.lt
                                  have rlr := rl_38.lift hbel
                                  have rsr := rs_38.lift hbel
                                  have hFr := hF_38.below hbel
                                  have hBr := hB_38.trans (hbel.mono hB_38.size)
                                  clear bsc0 bsc1
                                  obtain ⟨q0, q1, _, _⟩ := bsr.two
                                  by_cases hlt : k < ns
                                  · obtain ⟨g, o, a0, a1, a2, a3, a4, a5, a6, rfl, hg, hx, d0, d1, d2, d3, d4, d5, d6⟩ := rlr.hnt (k := k) (by rw [Hl.out]; exact hlt)
                                    obtain ⟨⟨y0, ⟨y1, y2, y3, y4⟩, y5, y6⟩, hy, hmine, hnot⟩ := HAT.out k _ hx
                                    obtain ⟨g', o', z0, z1, z2, z3, z4, z5, z6, rfl, hg', hz, e0, e1, e2, e3, e4, e5, e6⟩ := rsr.hnt (k := k) (by rw [Hs.out]; exact hlt)
                                    obtain ⟨rfl, ⟨rfl, rfl, rfl, rfl⟩, rfl, rfl⟩ : y0 = z0 ∧ (y1 = z1 ∧ y2 = z2 ∧ y3 = z3 ∧ y4 = z4) ∧ y5 = z5 ∧ y6 = z6 := by simpa using Option.some.inj (hy.symm.trans hz)
                                    clear hx hy hz
                                    simp only [idH] at hmine hnot
                                    by_cases h1 : a0 = other
                                    rotate_left
                                    · have hms : ¬ (a0 = other ∧ a3 = number) := fun h => h1 h.1
                                      obtain ⟨rfl, ⟨rfl, rfl, rfl, rfl⟩, rfl, rfl⟩ : y0 = a0 ∧ (y1 = a1 ∧ y2 = a2 ∧ y3 = a3 ∧ y4 = a4) ∧ y5 = a5 ∧ y6 = a6 := by simpa using hnot hms
                                      clear hmine hnot
                                      have F5 := neqHH
                                      have he : (y0 == other) = false := by simpa using h1
                                      clear hms h1
                                      go_wp2_with fail
                                      go_quiet (fail)
                                      go_wp2
                                      exact ⟨⟨k + 1, by omega, by go_num, bdrewN hbel _⟩, by simp [intOf]; omega⟩
                                    by_cases h2 : a3 = number
                                    rotate_left
                                    · have hms : ¬ (a0 = other ∧ a3 = number) := fun h => h2 h.2
                                      obtain ⟨rfl, ⟨rfl, rfl, rfl, rfl⟩, rfl, rfl⟩ : y0 = a0 ∧ (y1 = a1 ∧ y2 = a2 ∧ y3 = a3 ∧ y4 = a4) ∧ y5 = a5 ∧ y6 = a6 := by simpa using hnot hms
                                      clear hmine hnot
                                      have F5 := neqHH
                                      subst h1
                                      have he : (y3 == number) = false := by simpa using h2
                                      clear hms h2
                                      go_wp2_with fail
                                      go_quiet (fail)
                                      go_wp2
                                      exact ⟨⟨k + 1, by omega, by go_num, bdrewN hbel _⟩, by simp [intOf]; omega⟩
                                    obtain ⟨m0, m1, m2⟩ := hmine ⟨h1, h2⟩
                                    clear hmine hnot
                                    subst h1
                                    subst h2
                                    have w0 : decide (y6 ≤ now) = false := decide_eq_false (by omega)
                                    have w1 : decide (now + 16 < y6) = false := decide_eq_false (by omega)
                                    have w2 : decide (y5 < a5) = false := decide_eq_false (by omega)
                                    go_wp2_with fail
                                    go_quiet (fail)
                                    go_wp2
                                    exact ⟨⟨k + 1, by omega, by go_num, bdrewN hbel _⟩, by simp [intOf]; omega⟩
                                  · obtain rfl : k = ns := by omega
                                    go_wp2_with fail
                                    refine (HSF.out _ rsr hFr).mono ?_
                                    rintro e wz ⟨rfl, hbz⟩
                                    go_wp2
                                    go_ret
                                    exact ⟨rfl, hBr.trans (hbz.mono hBr.size)⟩
                            · as_aux_lemma =>
                                have hns : (sc != 0) = true := by rw [bne_iff_ne]; exact hc
                                clear hc
                                obtain ⟨bsc0, bsc1, _, _⟩ := bs_38.two
                                go_wp2
                                go_ret
                                exact ⟨rfl, hB_38⟩
                        · as_aux_lemma =>
                            have hnd : (dc == 0) = false := by simpa using hc
                            clear hc
                            obtain ⟨bdc0, bdc1, _, _⟩ := bd_37.two
                            by_cases hc : sc = 0
                            · as_aux_lemma =>
                                subst hc
                                obtain ⟨hlen, hfa, ⟨hn0, hn1⟩, hat⟩ := sent_said HS.out
                                have HAT := Lib.hid hat
                                obtain rfl : ns = nl := by rw [← Hs.out, ← Hl.out]; exact hlen
                                have HSF := fun W h1 h2 => implHintsFault As ns cs sl W h1 Hs.out h2
                                rw [hfa] at HSF
                                have HSF := Lib.hid HSF
                                clear hlen hfa hat
                                obtain ⟨bsc0, bsc1, _, _⟩ := bs_37.two
                                go_wp2
                                go_loopw [22] (fun iv wr => ∃ k : Nat, k ≤ ns ∧ iv = .int .i64 k ∧ Below w37.heap.size w37 wr) (fun i _ => ns - (intOf i).toNat)
                                case atStart => exact ⟨0, Nat.zero_le _, rfl, Below.refl _ _⟩
                                case round =>
                                  obtain ⟨k, hk, rfl, hbel⟩ := hrel
                                  have bsr := bs_37.below hbel bs_37.lt
                                  have rlr := rl_37.lift hbel
                                  have rsr := rs_37.lift hbel
                                  have hFr := hF_37.below hbel
                                  have hBr := hB_37.trans (hbel.mono hB_37.size)
                                  clear bdc0 bdc1 bsc0 bsc1
                                  obtain ⟨q0, q1, _, _⟩ := bsr.two
                                  by_cases hlt : k < ns
                                  · obtain ⟨g, o, a0, a1, a2, a3, a4, a5, a6, rfl, hg, hx, d0, d1, d2, d3, d4, d5, d6⟩ := rlr.hnt (k := k) (by rw [Hl.out]; exact hlt)
                                    obtain ⟨⟨y0, ⟨y1, y2, y3, y4⟩, y5, y6⟩, hy, hmine, hnot⟩ := HAT.out k _ hx
                                    obtain ⟨g', o', z0, z1, z2, z3, z4, z5, z6, rfl, hg', hz, e0, e1, e2, e3, e4, e5, e6⟩ := rsr.hnt (k := k) (by rw [Hs.out]; exact hlt)
                                    obtain ⟨rfl, ⟨rfl, rfl, rfl, rfl⟩, rfl, rfl⟩ : y0 = z0 ∧ (y1 = z1 ∧ y2 = z2 ∧ y3 = z3 ∧ y4 = z4) ∧ y5 = z5 ∧ y6 = z6 := by simpa using Option.some.inj (hy.symm.trans hz)
                                    clear hx hy hz
                                    simp only [idH] at hmine hnot
                                    by_cases h1 : a0 = other
                                    rotate_left
                                    · have hms : ¬ (a0 = other ∧ a3 = number) := fun h => h1 h.1
                                      obtain ⟨rfl, ⟨rfl, rfl, rfl, rfl⟩, rfl, rfl⟩ : y0 = a0 ∧ (y1 = a1 ∧ y2 = a2 ∧ y3 = a3 ∧ y4 = a4) ∧ y5 = a5 ∧ y6 = a6 := by simpa using hnot hms
                                      clear hmine hnot
                                      have F5 := neqHH
                                      have he : (y0 == other) = false := by simpa using h1
                                      clear hms h1
                                      go_wp2_with fail
                                      go_quiet (fail)
                                      go_wp2
                                      exact ⟨⟨k + 1, by omega, by go_num, bdrewN hbel _⟩, by simp [intOf]; omega⟩
                                    by_cases h2 : a3 = number
                                    rotate_left
                                    · have hms : ¬ (a0 = other ∧ a3 = number) := fun h => h2 h.2
                                      obtain ⟨rfl, ⟨rfl, rfl, rfl, rfl⟩, rfl, rfl⟩ : y0 = a0 ∧ (y1 = a1 ∧ y2 = a2 ∧ y3 = a3 ∧ y4 = a4) ∧ y5 = a5 ∧ y6 = a6 := by simpa using hnot hms
                                      clear hmine hnot
                                      have F5 := neqHH
                                      subst h1
                                      have he : (y3 == number) = false := by simpa using h2
                                      clear hms h2
                                      go_wp2_with fail
                                      go_quiet (fail)
                                      go_wp2
                                      exact ⟨⟨k + 1, by omega, by go_num, bdrewN hbel _⟩, by simp [intOf]; omega⟩
                                    obtain ⟨m0, m1, m2⟩ := hmine ⟨h1, h2⟩
                                    clear hmine hnot
                                    subst h1
                                    subst h2
                                    have w0 : decide (y6 ≤ now) = false := decide_eq_false (by omega)
                                    have w1 : decide (now + 16 < y6) = false := decide_eq_false (by omega)
                                    have w2 : decide (y5 < a5) = false := decide_eq_false (by omega)
                                    go_wp2_with fail
                                    go_quiet (fail)
                                    go_wp2
                                    exact ⟨⟨k + 1, by omega, by go_num, bdrewN hbel _⟩, by simp [intOf]; omega⟩
                                  · obtain rfl : k = ns := by omega
                                    go_wp2_with fail
                                    refine (HSF.out _ rsr hFr).mono ?_
                                    rintro e wz ⟨rfl, hbz⟩
                                    go_wp2
                                    go_ret
                                    exact ⟨rfl, hBr.trans (hbz.mono hBr.size)⟩
                            · as_aux_lemma =>
                                have hns : (sc != 0) = true := by rw [bne_iff_ne]; exact hc
                                clear hc
                                obtain ⟨bsc0, bsc1, _, _⟩ := bs_37.two
                                go_wp2
                                go_ret
                                exact ⟨rfl, hB_37⟩
                    · as_aux_lemma =>
                        have hne : (ec == 0) = false := by simpa using hc
                        clear hc
                        obtain ⟨bec0, bec1, _, _⟩ := be_33.two
                        by_cases hc : dc = 0
                        · as_aux_lemma =>
                            subst hc
                            obtain ⟨hlen, hno⟩ := done_said HD.out
                            obtain ⟨⟨yc, yl⟩, hY⟩ : ∃ r, doneM dl who id = r := ⟨_, rfl⟩
                            rw [hY] at hno
                            obtain rfl : yc = 4 := hno
                            have HNO := fun W h1 h2 => implDoneHint Ad nd cd dl who id W h1 Hd.out h2
                            rw [hY] at HNO
                            have HNO := Lib.hid HNO
                            have hnn : ng = nd + 1 := by rw [← Hg.out, ← Hd.out]; exact hlen.symm
                            clear hY hlen
                            have hsub : ((ng : Int) - 1) = (nd : Int) := by omega
                            have hnn' := Lib.hid hnn
                            clear hnn
                            have F0 := fldHR0
                            obtain ⟨bdc0, bdc1, _, _⟩ := bd_33.two
                            go_wp2_with fail
                            refine (HNO.out _ rd_33 hF_33).mono ?_
                            rintro e w34 ⟨A4, n4, c4, rfl, -, hb34⟩
                            have bd_34 := bd_33.below hb34 bd_33.lt
                            have bs_34 := bs_33.below hb34 bs_33.lt
                            have rd_34 := rd_33.lift hb34
                            have rl_34 := rl_33.lift hb34
                            have rs_34 := rs_33.lift hb34
                            have hF_34 := hF_33.below hb34
                            have hB_34 := hB_33.trans (hb34.mono hB_33.size)
                            clear hb34 bec0 bec1 bdc0 bdc1 hB_33 hF_33 rs_33 rl_33 rd_33 bs_33 bd_33
                            clear HNO
                            by_cases hc : sc = 0
                            · as_aux_lemma =>
                                subst hc
                                obtain ⟨hlen, hfa, ⟨hn0, hn1⟩, hat⟩ := sent_said HS.out
                                have HAT := Lib.hid hat
                                obtain rfl : ns = nl := by rw [← Hs.out, ← Hl.out]; exact hlen
                                have HSF := fun W h1 h2 => implHintsFault As ns cs sl W h1 Hs.out h2
                                rw [hfa] at HSF
                                have HSF := Lib.hid HSF
                                clear hlen hfa hat
                                obtain ⟨bsc0, bsc1, _, _⟩ := bs_34.two
                                go_wp2
                                go_loopw [22] (fun iv wr => ∃ k : Nat, k ≤ ns ∧ iv = .int .i64 k ∧ Below w34.heap.size w34 wr) (fun i _ => ns - (intOf i).toNat)
                                case atStart => exact ⟨0, Nat.zero_le _, rfl, Below.refl _ _⟩
                                case round =>
                                  obtain ⟨k, hk, rfl, hbel⟩ := hrel
                                  have bsr := bs_34.below hbel bs_34.lt
                                  have rlr := rl_34.lift hbel
                                  have rsr := rs_34.lift hbel
                                  have hFr := hF_34.below hbel
                                  have hBr := hB_34.trans (hbel.mono hB_34.size)
                                  clear bsc0 bsc1
                                  obtain ⟨q0, q1, _, _⟩ := bsr.two
                                  by_cases hlt : k < ns
                                  · obtain ⟨g, o, a0, a1, a2, a3, a4, a5, a6, rfl, hg, hx, d0, d1, d2, d3, d4, d5, d6⟩ := rlr.hnt (k := k) (by rw [Hl.out]; exact hlt)
                                    obtain ⟨⟨y0, ⟨y1, y2, y3, y4⟩, y5, y6⟩, hy, hmine, hnot⟩ := HAT.out k _ hx
                                    obtain ⟨g', o', z0, z1, z2, z3, z4, z5, z6, rfl, hg', hz, e0, e1, e2, e3, e4, e5, e6⟩ := rsr.hnt (k := k) (by rw [Hs.out]; exact hlt)
                                    obtain ⟨rfl, ⟨rfl, rfl, rfl, rfl⟩, rfl, rfl⟩ : y0 = z0 ∧ (y1 = z1 ∧ y2 = z2 ∧ y3 = z3 ∧ y4 = z4) ∧ y5 = z5 ∧ y6 = z6 := by simpa using Option.some.inj (hy.symm.trans hz)
                                    clear hx hy hz
                                    simp only [idH] at hmine hnot
                                    by_cases h1 : a0 = other
                                    rotate_left
                                    · have hms : ¬ (a0 = other ∧ a3 = number) := fun h => h1 h.1
                                      obtain ⟨rfl, ⟨rfl, rfl, rfl, rfl⟩, rfl, rfl⟩ : y0 = a0 ∧ (y1 = a1 ∧ y2 = a2 ∧ y3 = a3 ∧ y4 = a4) ∧ y5 = a5 ∧ y6 = a6 := by simpa using hnot hms
                                      clear hmine hnot
                                      have F5 := neqHH
                                      have he : (y0 == other) = false := by simpa using h1
                                      clear hms h1
                                      go_wp2_with fail
                                      go_quiet (fail)
                                      go_wp2
                                      exact ⟨⟨k + 1, by omega, by go_num, bdrewN hbel _⟩, by simp [intOf]; omega⟩
                                    by_cases h2 : a3 = number
                                    rotate_left
                                    · have hms : ¬ (a0 = other ∧ a3 = number) := fun h => h2 h.2
                                      obtain ⟨rfl, ⟨rfl, rfl, rfl, rfl⟩, rfl, rfl⟩ : y0 = a0 ∧ (y1 = a1 ∧ y2 = a2 ∧ y3 = a3 ∧ y4 = a4) ∧ y5 = a5 ∧ y6 = a6 := by simpa using hnot hms
                                      clear hmine hnot
                                      have F5 := neqHH
                                      subst h1
                                      have he : (y3 == number) = false := by simpa using h2
                                      clear hms h2
                                      go_wp2_with fail
                                      go_quiet (fail)
                                      go_wp2
                                      exact ⟨⟨k + 1, by omega, by go_num, bdrewN hbel _⟩, by simp [intOf]; omega⟩
                                    obtain ⟨m0, m1, m2⟩ := hmine ⟨h1, h2⟩
                                    clear hmine hnot
                                    subst h1
                                    subst h2
                                    have w0 : decide (y6 ≤ now) = false := decide_eq_false (by omega)
                                    have w1 : decide (now + 16 < y6) = false := decide_eq_false (by omega)
                                    have w2 : decide (y5 < a5) = false := decide_eq_false (by omega)
                                    go_wp2_with fail
                                    go_quiet (fail)
                                    go_wp2
                                    exact ⟨⟨k + 1, by omega, by go_num, bdrewN hbel _⟩, by simp [intOf]; omega⟩
                                  · obtain rfl : k = ns := by omega
                                    go_wp2_with fail
                                    refine (HSF.out _ rsr hFr).mono ?_
                                    rintro e wz ⟨rfl, hbz⟩
                                    go_wp2
                                    go_ret
                                    exact ⟨rfl, hBr.trans (hbz.mono hBr.size)⟩
                            · as_aux_lemma =>
                                have hns : (sc != 0) = true := by rw [bne_iff_ne]; exact hc
                                clear hc
                                obtain ⟨bsc0, bsc1, _, _⟩ := bs_34.two
                                go_wp2
                                go_ret
                                exact ⟨rfl, hB_34⟩
                        · as_aux_lemma =>
                            have hnd : (dc == 0) = false := by simpa using hc
                            clear hc
                            obtain ⟨bdc0, bdc1, _, _⟩ := bd_33.two
                            by_cases hc : sc = 0
                            · as_aux_lemma =>
                                subst hc
                                obtain ⟨hlen, hfa, ⟨hn0, hn1⟩, hat⟩ := sent_said HS.out
                                have HAT := Lib.hid hat
                                obtain rfl : ns = nl := by rw [← Hs.out, ← Hl.out]; exact hlen
                                have HSF := fun W h1 h2 => implHintsFault As ns cs sl W h1 Hs.out h2
                                rw [hfa] at HSF
                                have HSF := Lib.hid HSF
                                clear hlen hfa hat
                                obtain ⟨bsc0, bsc1, _, _⟩ := bs_33.two
                                go_wp2
                                go_loopw [22] (fun iv wr => ∃ k : Nat, k ≤ ns ∧ iv = .int .i64 k ∧ Below w33.heap.size w33 wr) (fun i _ => ns - (intOf i).toNat)
                                case atStart => exact ⟨0, Nat.zero_le _, rfl, Below.refl _ _⟩
                                case round =>
                                  obtain ⟨k, hk, rfl, hbel⟩ := hrel
                                  have bsr := bs_33.below hbel bs_33.lt
                                  have rlr := rl_33.lift hbel
                                  have rsr := rs_33.lift hbel
                                  have hFr := hF_33.below hbel
                                  have hBr := hB_33.trans (hbel.mono hB_33.size)
                                  clear bec0 bec1 bdc0 bdc1 bsc0 bsc1
                                  obtain ⟨q0, q1, _, _⟩ := bsr.two
                                  by_cases hlt : k < ns
                                  · obtain ⟨g, o, a0, a1, a2, a3, a4, a5, a6, rfl, hg, hx, d0, d1, d2, d3, d4, d5, d6⟩ := rlr.hnt (k := k) (by rw [Hl.out]; exact hlt)
                                    obtain ⟨⟨y0, ⟨y1, y2, y3, y4⟩, y5, y6⟩, hy, hmine, hnot⟩ := HAT.out k _ hx
                                    obtain ⟨g', o', z0, z1, z2, z3, z4, z5, z6, rfl, hg', hz, e0, e1, e2, e3, e4, e5, e6⟩ := rsr.hnt (k := k) (by rw [Hs.out]; exact hlt)
                                    obtain ⟨rfl, ⟨rfl, rfl, rfl, rfl⟩, rfl, rfl⟩ : y0 = z0 ∧ (y1 = z1 ∧ y2 = z2 ∧ y3 = z3 ∧ y4 = z4) ∧ y5 = z5 ∧ y6 = z6 := by simpa using Option.some.inj (hy.symm.trans hz)
                                    clear hx hy hz
                                    simp only [idH] at hmine hnot
                                    by_cases h1 : a0 = other
                                    rotate_left
                                    · have hms : ¬ (a0 = other ∧ a3 = number) := fun h => h1 h.1
                                      obtain ⟨rfl, ⟨rfl, rfl, rfl, rfl⟩, rfl, rfl⟩ : y0 = a0 ∧ (y1 = a1 ∧ y2 = a2 ∧ y3 = a3 ∧ y4 = a4) ∧ y5 = a5 ∧ y6 = a6 := by simpa using hnot hms
                                      clear hmine hnot
                                      have F5 := neqHH
                                      have he : (y0 == other) = false := by simpa using h1
                                      clear hms h1
                                      go_wp2_with fail
                                      go_quiet (fail)
                                      go_wp2
                                      exact ⟨⟨k + 1, by omega, by go_num, bdrewN hbel _⟩, by simp [intOf]; omega⟩
                                    by_cases h2 : a3 = number
                                    rotate_left
                                    · have hms : ¬ (a0 = other ∧ a3 = number) := fun h => h2 h.2
                                      obtain ⟨rfl, ⟨rfl, rfl, rfl, rfl⟩, rfl, rfl⟩ : y0 = a0 ∧ (y1 = a1 ∧ y2 = a2 ∧ y3 = a3 ∧ y4 = a4) ∧ y5 = a5 ∧ y6 = a6 := by simpa using hnot hms
                                      clear hmine hnot
                                      have F5 := neqHH
                                      subst h1
                                      have he : (y3 == number) = false := by simpa using h2
                                      clear hms h2
                                      go_wp2_with fail
                                      go_quiet (fail)
                                      go_wp2
                                      exact ⟨⟨k + 1, by omega, by go_num, bdrewN hbel _⟩, by simp [intOf]; omega⟩
                                    obtain ⟨m0, m1, m2⟩ := hmine ⟨h1, h2⟩
                                    clear hmine hnot
                                    subst h1
                                    subst h2
                                    have w0 : decide (y6 ≤ now) = false := decide_eq_false (by omega)
                                    have w1 : decide (now + 16 < y6) = false := decide_eq_false (by omega)
                                    have w2 : decide (y5 < a5) = false := decide_eq_false (by omega)
                                    go_wp2_with fail
                                    go_quiet (fail)
                                    go_wp2
                                    exact ⟨⟨k + 1, by omega, by go_num, bdrewN hbel _⟩, by simp [intOf]; omega⟩
                                  · obtain rfl : k = ns := by omega
                                    go_wp2_with fail
                                    refine (HSF.out _ rsr hFr).mono ?_
                                    rintro e wz ⟨rfl, hbz⟩
                                    go_wp2
                                    go_ret
                                    exact ⟨rfl, hBr.trans (hbz.mono hBr.size)⟩
                            · as_aux_lemma =>
                                have hns : (sc != 0) = true := by rw [bne_iff_ne]; exact hc
                                clear hc
                                obtain ⟨bsc0, bsc1, _, _⟩ := bs_33.two
                                go_wp2
                                go_ret
                                exact ⟨rfl, hB_33⟩
end Go.Proofs.YtjlkmfijkhjjkaaDoor
