/-
  Texts of one proof, joined: each has its own namespace.
-/
import Derived.Test.YtkgbjlbhlhdhbaaDoorBFnStores4
import Derived.Test.YtkgbjlbhlhdhbaaDoorBFnStores9
/-
  The law of stores: the walk.
-/
namespace Go.Proofs.YtkgbjlbhlhdhbaaDoor
set_option maxRecDepth 20000
open Go.RowKit
set_option linter.unusedSimpArgs false
set_option linter.unusedVariables false
attribute [local irreducible] mixW

theorem fldI0 (z : Int) (b : Bool) (A : Option Addr) (k c : Nat) (u : World) : (Instr.field 30 (.agg #[.int .i64 z, .bool b, .slice A k c]) 0).run Tryd.prog u = .ok (.int .i64 z) u := by kernel_rfl
theorem fldI1 (z : Int) (b : Bool) (A : Option Addr) (k c : Nat) (u : World) : (Instr.field 30 (.agg #[.int .i64 z, .bool b, .slice A k c]) 1).run Tryd.prog u = .ok (.bool b) u := by kernel_rfl
theorem fldI2 (z : Int) (b : Bool) (A : Option Addr) (k c : Nat) (u : World) : (Instr.field 30 (.agg #[.int .i64 z, .bool b, .slice A k c]) 2).run Tryd.prog u = .ok (.slice A k c) u := by kernel_rfl
theorem fldF1 (z a b c d : Int) (u : World) : (Instr.field 38 (.agg #[.int .i64 z, .int .i64 a, .int .i64 b, .int .i64 c, .int .i64 d]) 1).run Tryd.prog u = .ok (.agg #[.int .i64 a, .int .i64 b, .int .i64 c, .int .i64 d]) u := by kernel_rfl
theorem neqF (a b c d e : Int) (u : World) : (binOp .neq 38 (.agg #[.int .i64 a, .int .i64 b, .int .i64 c, .int .i64 d, .int .i64 e]) (.agg #[.int .i64 a, .int .i64 b, .int .i64 c, .int .i64 d, .int .i64 e])).run Tryd.prog u = .ok (.bool false) u := by
  go_simp
theorem neqX (a b c d : Int) (u : World) : (binOp .neq 26 (.agg #[.int .i64 a, .int .i64 b, .int .i64 c, .int .i64 d]) (.agg #[.int .i64 a, .int .i64 b, .int .i64 c, .int .i64 d])).run Tryd.prog u = .ok (.bool false) u := by
  go_simp
theorem neqB (a : Bool) (u : World) : (binOp .neq 4 (.bool a) (.bool a)).run Tryd.prog u = .ok (.bool false) u := by
  go_simp
theorem neqI (a : Int) (u : World) : (binOp .neq 2 (.int .i64 a) (.int .i64 a)).run Tryd.prog u = .ok (.bool false) u := by
  go_simp
theorem geqI {m q : Nat} (h : m < q) (u : World) : (binOp .geq 3 (.int .i64 (m : Int)) (.int .i64 (q : Int))).run Tryd.prog u = .ok (.bool false) u := by
  have hi : (m : Int) < (q : Int) := by omega
  go_simp
theorem query_fault_nil {l ql : List Smp} {s f t qc : Int} (h : queryStoreM l s f t = (qc, ql)) (hc : qc ≠ 0) : ql = [] := by
  unfold queryStoreM at h
  split at h
  · exact (Prod.mk.inj h).2.symm
  · split at h
    · exact (Prod.mk.inj h).2.symm
    · exact absurd (Prod.mk.inj h).1.symm hc
theorem query_fine {l ql : List Smp} {s f t : Int} (h : queryStoreM l s f t = (0, ql)) : ql = queryM l s f t := by
  unfold queryStoreM at h
  split at h
  · exact absurd (Prod.mk.inj h).1 (by assumption)
  · split at h
    · exact absurd (Prod.mk.inj h).1 (by decide)
    · exact (Prod.mk.inj h).2.symm
theorem lookM_is {m : List Smp} {x : Smp} {z a b c d y0 y1 y2 y3 : Int} (h : lookM m x = (z, a, b, c, d)) (k : (lookM m x).2 = (y0, y1, y2, y3)) : y0 = a ∧ y1 = b ∧ y2 = c ∧ y3 = d := by
  rw [h] at k
  obtain ⟨h0, h1, h2, h3⟩ : a = y0 ∧ b = y1 ∧ c = y2 ∧ d = y3 := by simpa using k
  exact ⟨h0.symm, h1.symm, h2.symm, h3.symm⟩

theorem insert_small {s pl : List Smp} {x : Smp} {pc : Int} {pn : Bool} {ns : Nat} (h : insertM s x = (pc, pn, pl)) (hns : ns ≤ 200) (hs : s.length = ns) : pl.length ≤ 201 := by
  unfold insertM at h
  split at h
  · rw [← (Prod.mk.inj (Prod.mk.inj h).2).2]; simp
  · split at h
    · rw [← (Prod.mk.inj (Prod.mk.inj h).2).2]; simp
    · split at h
      · rw [← (Prod.mk.inj (Prod.mk.inj h).2).2]; omega
      · split at h
        · rw [← (Prod.mk.inj (Prod.mk.inj h).2).2]; simp
        · rw [← (Prod.mk.inj (Prod.mk.inj h).2).2, insM_len]; omega
theorem query_small {tt ql : List Smp} {se f t qc : Int} {nt : Nat} (h : queryStoreM tt se f t = (qc, ql)) (hnt : nt ≤ 200) (ht : tt.length = nt) : ql.length ≤ 200 := by
  have := queryStore_le tt se f t
  rw [h] at this
  simp only at this
  omega

set_option maxRecDepth 100000 in
set_option maxHeartbeats 32000000 in
theorem fnStores_walk (X : Option Addr) (n c : Nat) (l : List UInt8) (w : World) (ha : Rd eB w w.heap.size X l) (hn : l.length = n) (hF : Flds w) :
    Calls Tryd.prog 3 #[.slice X n c] w fun e w' => e = .returned (.bool true) ∧ Below w.heap.size w w' := by
  have Hn := Lib.hid hn
  clear hn
  by_cases hbig : 1048576 < n
  · go_enter Tryd.func3, Tryd.ntmps3
    go_wp2
    go_ret
    exact ⟨rfl, Below.refl _ _⟩
  have hm : n ≤ 1048576 := by omega
  go_enter Tryd.func3, Tryd.ntmps3
  go_wp2_with fail
  refine (lwBig_no X n c w hbig).mono ?_
  rintro e w0 ⟨rfl, rfl⟩
  clear hbig
  go_wp2_with fail
  refine (drawInsertSample X n c l _ ha Hn.out hm).mono ?_
  rintro e w1 ⟨As, ns, cs, s, x0, x1, x2, x3, rfl, hns, os, hb1⟩
  have ha_1 := ha.lift hb1
  have hF_1 := hF.below hb1
  have hB_1 := hb1
  clear hb1 hF ha
  have Hs := Lib.hid (os.len okS)
  have rs := os.rd okS
  clear os
  have hb2 : Below w1.heap.size w1 (w1.alloc (.cells #[.int .i64 x0, .int .i64 x1, .int .i64 x2, .int .i64 x3] 26)) := (Below.refl _ _).alloc (Nat.le_refl _) _
  have bx := At.new w1 26 #[.int .i64 x0, .int .i64 x1, .int .i64 x2, .int .i64 x3]
  have ha_2 := ha_1.lift hb2
  have rs_2 := rs.lift hb2
  have hF_2 := hF_1.below hb2
  have hB_2 := hB_1.trans (hb2.mono hB_1.size)
  clear hb2 hB_1 hF_1 rs ha_1
  obtain ⟨pc, pn, pl, hP⟩ : ∃ pc pn pl, insertM s (x0, x1, x2, x3) = (pc, pn, pl) := ⟨_, _, _, rfl⟩
  have HI := fun W h1 h2 => implInsertSample As ns cs s x0 x1 x2 x3 W h1 Hs.out (by omega) h2
  rw [hP] at HI
  obtain ⟨bxc0, bxc1, bxc2, bxc3, _, _, _, _⟩ := bx.four
  go_wp2_with fail
  refine (HI _ rs_2 hF_2).mono ?_
  rintro e w3 ⟨Ap, np, cp, rfl, op, hb3⟩
  have bx_3 := bx.below hb3 bx.lt
  have ha_3 := ha_2.lift hb3
  have rs_3 := rs_2.lift hb3
  have hF_3 := hF_2.below hb3
  have hB_3 := hB_2.trans (hb3.mono hB_2.size)
  clear hb3 bxc0 bxc1 bxc2 bxc3 hB_2 hF_2 rs_2 ha_2 bx
  have Hp := Lib.hid (op.len okS)
  have rp := op.rd okS
  clear op
  clear HI
  have hb4 : Below w3.heap.size w3 (w3.alloc (.cells #[.int .i64 pc, .bool pn, .slice Ap np cp] 30)) := (Below.refl _ _).alloc (Nat.le_refl _) _
  have bp := At.new w3 30 #[.int .i64 pc, .bool pn, .slice Ap np cp]
  have bx_4 := bx_3.below hb4 bx_3.lt
  have ha_4 := ha_3.lift hb4
  have rs_4 := rs_3.lift hb4
  have rp_4 := rp.lift hb4
  have hF_4 := hF_3.below hb4
  have hB_4 := hB_3.trans (hb4.mono hB_3.size)
  clear hb4 hB_3 hF_3 rp rs_3 ha_3 bx_3
  go_wp2_with fail
  refine (drawQueryStore X n c l _ ha_4 Hn.out hm).mono ?_
  rintro e w5 ⟨At0, nt, ct, tt, se, fr, til, rfl, hnt, ot, hb5⟩
  have bx_5 := bx_4.below hb5 bx_4.lt
  have bp_5 := bp.below hb5 bp.lt
  have ha_5 := ha_4.lift hb5
  have rs_5 := rs_4.lift hb5
  have rp_5 := rp_4.lift hb5
  have hF_5 := hF_4.below hb5
  have hB_5 := hB_4.trans (hb5.mono hB_4.size)
  clear hb5 hB_4 hF_4 rp_4 rs_4 ha_4 bp bx_4
  have Ht := Lib.hid (ot.len okS)
  have rt := ot.rd okS
  clear ot
  obtain ⟨⟨qc, ql⟩, hQ⟩ : ∃ r, queryStoreM tt se fr til = r := ⟨_, rfl⟩
  have HI := fun W h1 h2 => implQueryStore At0 nt ct tt se fr til W h1 Ht.out h2
  rw [hQ] at HI
  go_wp2_with fail
  refine (HI _ rt hF_5).mono ?_
  rintro e w6 ⟨Aq, nq, cq, rfl, oq, hb6⟩
  have bx_6 := bx_5.below hb6 bx_5.lt
  have bp_6 := bp_5.below hb6 bp_5.lt
  have ha_6 := ha_5.lift hb6
  have rs_6 := rs_5.lift hb6
  have rp_6 := rp_5.lift hb6
  have rt_6 := rt.lift hb6
  have hF_6 := hF_5.below hb6
  have hB_6 := hB_5.trans (hb6.mono hB_5.size)
  clear hb6 hB_5 hF_5 rt rp_5 rs_5 ha_5 bp_5 bx_5
  have Hq := Lib.hid (oq.len okS)
  have rq := oq.rd okS
  clear oq
  clear HI
  have hb7 : Below w6.heap.size w6 (w6.alloc (.cells #[.int .i64 qc, .slice Aq nq cq] 35)) := (Below.refl _ _).alloc (Nat.le_refl _) _
  have bq := At.new w6 35 #[.int .i64 qc, .slice Aq nq cq]
  have bx_7 := bx_6.below hb7 bx_6.lt
  have bp_7 := bp_6.below hb7 bp_6.lt
  have ha_7 := ha_6.lift hb7
  have rs_7 := rs_6.lift hb7
  have rp_7 := rp_6.lift hb7
  have rt_7 := rt_6.lift hb7
  have rq_7 := rq.lift hb7
  have hF_7 := hF_6.below hb7
  have hB_7 := hB_6.trans (hb7.mono hB_6.size)
  clear hb7 hB_6 hF_6 rq rt_6 rp_6 rs_6 ha_6 bp_6 bx_6
  go_wp2_with fail
  refine (drawFindSample X n c l _ ha_7 Hn.out hm).mono ?_
  rintro e w8 ⟨Au, nu, cu, uu, k0, k1, k2, k3, rfl, hnu, ou, hb8⟩
  have bx_8 := bx_7.below hb8 bx_7.lt
  have bp_8 := bp_7.below hb8 bp_7.lt
  have bq_8 := bq.below hb8 bq.lt
  have ha_8 := ha_7.lift hb8
  have rs_8 := rs_7.lift hb8
  have rp_8 := rp_7.lift hb8
  have rt_8 := rt_7.lift hb8
  have rq_8 := rq_7.lift hb8
  have hF_8 := hF_7.below hb8
  have hB_8 := hB_7.trans (hb8.mono hB_7.size)
  clear hb8 hB_7 hF_7 rq_7 rt_7 rp_7 rs_7 ha_7 bq bp_7 bx_7
  have Hu := Lib.hid (ou.len okS)
  have ru := ou.rd okS
  clear ou
  have hb9 : Below w8.heap.size w8 (w8.alloc (.cells #[.int .i64 k0, .int .i64 k1, .int .i64 k2, .int .i64 k3] 26)) := (Below.refl _ _).alloc (Nat.le_refl _) _
  have bk := At.new w8 26 #[.int .i64 k0, .int .i64 k1, .int .i64 k2, .int .i64 k3]
  have bx_9 := bx_8.below hb9 bx_8.lt
  have bp_9 := bp_8.below hb9 bp_8.lt
  have bq_9 := bq_8.below hb9 bq_8.lt
  have ha_9 := ha_8.lift hb9
  have rs_9 := rs_8.lift hb9
  have rp_9 := rp_8.lift hb9
  have rt_9 := rt_8.lift hb9
  have rq_9 := rq_8.lift hb9
  have ru_9 := ru.lift hb9
  have hF_9 := hF_8.below hb9
  have hB_9 := hB_8.trans (hb9.mono hB_8.size)
  clear hb9 hB_8 hF_8 ru rq_8 rt_8 rp_8 rs_8 ha_8 bq_8 bp_8 bx_8
  obtain ⟨fc, f0, f1, f2, f3, hL⟩ : ∃ fc f0 f1 f2 f3, lookM uu (k0, k1, k2, k3) = (fc, f0, f1, f2, f3) := ⟨_, _, _, _, _, rfl⟩
  have HI := fun W h1 h2 => implFindSample Au nu cu uu k0 k1 k2 k3 W h1 Hu.out h2
  rw [hL] at HI
  obtain ⟨bkc0, bkc1, bkc2, bkc3, _, _, _, _⟩ := bk.four
  go_wp2_with fail
  refine (HI _ ru_9 hF_9).mono ?_
  rintro e w10 ⟨rfl, hb10⟩
  have bx_10 := bx_9.below hb10 bx_9.lt
  have bp_10 := bp_9.below hb10 bp_9.lt
  have bq_10 := bq_9.below hb10 bq_9.lt
  have bk_10 := bk.below hb10 bk.lt
  have ha_10 := ha_9.lift hb10
  have rs_10 := rs_9.lift hb10
  have rp_10 := rp_9.lift hb10
  have rt_10 := rt_9.lift hb10
  have rq_10 := rq_9.lift hb10
  have ru_10 := ru_9.lift hb10
  have hF_10 := hF_9.below hb10
  have hB_10 := hB_9.trans (hb10.mono hB_9.size)
  clear hb10 bkc0 bkc1 bkc2 bkc3 hB_9 hF_9 ru_9 rq_9 rt_9 rp_9 rs_9 ha_9 bk bq_9 bp_9 bx_9
  clear HI
  have hb11 : Below w10.heap.size w10 (w10.alloc (.cells #[.int .i64 fc, .int .i64 f0, .int .i64 f1, .int .i64 f2, .int .i64 f3] 38)) := (Below.refl _ _).alloc (Nat.le_refl _) _
  have bf := At.new w10 38 #[.int .i64 fc, .int .i64 f0, .int .i64 f1, .int .i64 f2, .int .i64 f3]
  have bx_11 := bx_10.below hb11 bx_10.lt
  have bp_11 := bp_10.below hb11 bp_10.lt
  have bq_11 := bq_10.below hb11 bq_10.lt
  have bk_11 := bk_10.below hb11 bk_10.lt
  have ha_11 := ha_10.lift hb11
  have rs_11 := rs_10.lift hb11
  have rp_11 := rp_10.lift hb11
  have rt_11 := rt_10.lift hb11
  have rq_11 := rq_10.lift hb11
  have ru_11 := ru_10.lift hb11
  have hF_11 := hF_10.below hb11
  have hB_11 := hB_10.trans (hb11.mono hB_10.size)
  clear hb11 hB_10 hF_10 ru_10 rq_10 rt_10 rp_10 rs_10 ha_10 bk_10 bq_10 bp_10 bx_10
  go_wp2_with fail
  refine (drawSameSamples X n c l _ ha_11 Hn.out hm).mono ?_
  rintro e w12 ⟨Aa, Ab, na, nb, ca, cb, a, b, rfl, hna, hnb, oa, ob, hb12⟩
  have bx_12 := bx_11.below hb12 bx_11.lt
  have bp_12 := bp_11.below hb12 bp_11.lt
  have bq_12 := bq_11.below hb12 bq_11.lt
  have bk_12 := bk_11.below hb12 bk_11.lt
  have bf_12 := bf.below hb12 bf.lt
  have ha_12 := ha_11.lift hb12
  have rs_12 := rs_11.lift hb12
  have rp_12 := rp_11.lift hb12
  have rt_12 := rt_11.lift hb12
  have rq_12 := rq_11.lift hb12
  have ru_12 := ru_11.lift hb12
  have hF_12 := hF_11.below hb12
  have hB_12 := hB_11.trans (hb12.mono hB_11.size)
  clear hb12 hB_11 hF_11 ru_11 rq_11 rt_11 rp_11 rs_11 ha_11 bf bk_11 bq_11 bp_11 bx_11
  have Ha := Lib.hid (oa.len okS)
  have ra := oa.rd okS
  clear oa
  have Hb := Lib.hid (ob.len okS)
  have rb := ob.rd okS
  clear ob
  have SI := fun W h1 => specInsertSample As ns cs s x0 x1 x2 x3 W h1 Hs.out (by omega)
  rw [hP] at SI
  have SQ := fun W h1 => specQueryStore At0 nt ct tt se fr til W h1 Ht.out (by omega)
  rw [hQ] at SQ
  have SL := fun W h1 => specFindSample Au nu cu uu k0 k1 k2 k3 W h1 Hu.out (by omega)
  rw [hL] at SL
  have SI := Lib.hid SI
  have SQ := Lib.hid SQ
  have SL := Lib.hid SL
  have HP := Lib.hid hP
  have HQ := Lib.hid hQ
  clear hP hQ hL
  obtain ⟨sf, hsf⟩ : ∃ sf, storeFaultM s = sf := ⟨_, rfl⟩
  obtain ⟨ab, hab⟩ : ∃ ab, decide (a = b) = ab := ⟨_, rfl⟩
  have IS := fun W h1 h2 => implStoreFault As ns cs s W h1 Hs.out h2
  have SS := fun W h1 => specStoreFault As ns cs s W h1 Hs.out
  rw [hsf] at IS SS
  have IE := fun W h1 h2 => implSameSamples Aa Ab na nb ca cb a b W h1 h2 Ha.out Hb.out (by unfold maxLen; omega)
  have SE := fun W h1 h2 => specSameSamples Aa Ab na nb ca cb a b W h1 h2 Ha.out Hb.out (by unfold maxLen; omega)
  rw [hab] at IE SE
  have IS := Lib.hid IS
  have SS := Lib.hid SS
  have IE := Lib.hid IE
  have SE := Lib.hid SE
  clear hsf hab
  go_wp2_with fail
  have F0 := fldI0
  have F1 := fldI1
  have F2 := fldI2
  have F3 := fldS0
  have F4 := fldS1
  have F5 := neqF
  have F6 := neqB
  have F7 := neqI
  (try simp only [List.append_eq, List.cons_append, List.nil_append])
  refine wp_region_mix [(0, false), (1, false), (2, false), (3, false), (4, true), (5, false), (6, false), (7, false), (8, false), (9, false), (10, false), (11, false), (12, true), (13, false), (14, false), (15, false), (16, false), (17, false), (18, false), (19, false), (20, false), (21, true), (22, false), (23, true), (24, false), (25, false), (26, false), (27, false), (28, false), (29, false), (30, false), (31, false), (32, false), (33, true), (34, false), (35, false), (36, false), (37, false), (38, false), (39, false), (40, false), (41, false), (42, false), (43, false), (44, true), (45, false), (46, true), (47, false), (48, false), (49, false), (50, false), (51, false), (52, false), (53, true), (54, false), (55, false), (56, false), (57, false), (58, false), (60, false), (61, false), (59, true), (62, true), (63, false), (64, false), (65, false), (66, false), (68, false), (67, true), (69, true), (70, false), (71, false)] (fun u => (At u (w1.heap.size) 26 #[.int .i64 x0, .int .i64 x1, .int .i64 x2, .int .i64 x3]) ∧ (At u (w3.heap.size) 30 #[.int .i64 pc, .bool pn, .slice Ap np cp]) ∧ (At u (w6.heap.size) 35 #[.int .i64 qc, .slice Aq nq cq]) ∧ (At u (w8.heap.size) 26 #[.int .i64 k0, .int .i64 k1, .int .i64 k2, .int .i64 k3]) ∧ (At u (w10.heap.size) 38 #[.int .i64 fc, .int .i64 f0, .int .i64 f1, .int .i64 f2, .int .i64 f3])) (by kernel_rfl) (by kernel_rfl) (fun _ _ _ _ _ h => h) ⟨bx_12.drew, bp_12.drew, bq_12.drew, bk_12.drew, bf_12.drew⟩ ?_
  simp only [mixOps, List.map_cons, List.map_nil, List.getElem?_cons_succ, List.getElem?_cons_zero, Option.getD_some]
  repeat (first
    | (refine mix_skip (by rfl) ?_
       (try simp only [Act.put, List.setIfInBounds_toArray, List.set_cons_zero, List.set_cons_succ]))
    | (refine mix_pure (v := ?_) (by rfl) (fun u hu => ?_) ?_
       rotate_left
       · obtain ⟨y0, y1, y2, y3, y4⟩ := hu
         obtain ⟨_, _, _, _, _, _, _, _⟩ := y0.four
         obtain ⟨_, _, _, _, _, _⟩ := y1.three
         obtain ⟨_, _, _, _⟩ := y2.two
         obtain ⟨_, _, _, _, _, _, _, _⟩ := y3.four
         obtain ⟨_, _, _, _, _, _, _, _, _, _⟩ := y4.five
         go_simp
         (with_reducible rfl)
       (try simp only [Act.put, List.setIfInBounds_toArray, List.set_cons_zero, List.set_cons_succ])))
  refine mix_call (by rfl) (fun K hK => ?_)
  go_simp
  refine (SI.out _ (rs_12.drewN 1)).mono ?_
  rintro e w13 ⟨A13, n13, c13, rfl, -, hb13⟩
  have hb13 := undrew hb13
  have bx_13 := bx_12.below hb13 bx_12.lt
  have bp_13 := bp_12.below hb13 bp_12.lt
  have bq_13 := bq_12.below hb13 bq_12.lt
  have bk_13 := bk_12.below hb13 bk_12.lt
  have bf_13 := bf_12.below hb13 bf_12.lt
  have ha_13 := ha_12.lift hb13
  have rs_13 := rs_12.lift hb13
  have rp_13 := rp_12.lift hb13
  have rt_13 := rt_12.lift hb13
  have rq_13 := rq_12.lift hb13
  have ru_13 := ru_12.lift hb13
  have ra_13 := ra.lift hb13
  have rb_13 := rb.lift hb13
  have hF_13 := hF_12.below hb13
  have hB_13 := hB_12.trans (hb13.mono hB_12.size)
  clear hb13 hB_12 hF_12 rb ra ru_12 rq_12 rt_12 rp_12 rs_12 ha_12 bf_12 bk_12 bq_12 bp_12 bx_12
  refine hK _ _ (fun u => (At u (w1.heap.size) 26 #[.int .i64 x0, .int .i64 x1, .int .i64 x2, .int .i64 x3]) ∧ (At u (w3.heap.size) 30 #[.int .i64 pc, .bool pn, .slice Ap np cp]) ∧ (At u (w6.heap.size) 35 #[.int .i64 qc, .slice Aq nq cq]) ∧ (At u (w8.heap.size) 26 #[.int .i64 k0, .int .i64 k1, .int .i64 k2, .int .i64 k3]) ∧ (At u (w10.heap.size) 38 #[.int .i64 fc, .int .i64 f0, .int .i64 f1, .int .i64 f2, .int .i64 f3])) (fun _ h => h) ⟨bx_13, bp_13, bq_13, bk_13, bf_13⟩ ?_
  clear hK K
  (try simp only [Act.put, List.setIfInBounds_toArray, List.set_cons_zero, List.set_cons_succ])
  repeat (first
    | (refine mix_skip (by rfl) ?_
       (try simp only [Act.put, List.setIfInBounds_toArray, List.set_cons_zero, List.set_cons_succ]))
    | (refine mix_pure (v := ?_) (by rfl) (fun u hu => ?_) ?_
       rotate_left
       · obtain ⟨y0, y1, y2, y3, y4⟩ := hu
         obtain ⟨_, _, _, _, _, _, _, _⟩ := y0.four
         obtain ⟨_, _, _, _, _, _⟩ := y1.three
         obtain ⟨_, _, _, _⟩ := y2.two
         obtain ⟨_, _, _, _, _, _, _, _⟩ := y3.four
         obtain ⟨_, _, _, _, _, _, _, _, _, _⟩ := y4.five
         go_simp
         (with_reducible rfl)
       (try simp only [Act.put, List.setIfInBounds_toArray, List.set_cons_zero, List.set_cons_succ])))
  refine mix_call (by rfl) (fun K hK => ?_)
  go_simp
  refine (SI.out _ rs_13).mono ?_
  rintro e w14 ⟨A14, n14, c14, rfl, -, hb14⟩
  have bx_14 := bx_13.below hb14 bx_13.lt
  have bp_14 := bp_13.below hb14 bp_13.lt
  have bq_14 := bq_13.below hb14 bq_13.lt
  have bk_14 := bk_13.below hb14 bk_13.lt
  have bf_14 := bf_13.below hb14 bf_13.lt
  have ha_14 := ha_13.lift hb14
  have rs_14 := rs_13.lift hb14
  have rp_14 := rp_13.lift hb14
  have rt_14 := rt_13.lift hb14
  have rq_14 := rq_13.lift hb14
  have ru_14 := ru_13.lift hb14
  have ra_14 := ra_13.lift hb14
  have rb_14 := rb_13.lift hb14
  have hF_14 := hF_13.below hb14
  have hB_14 := hB_13.trans (hb14.mono hB_13.size)
  clear hb14 hB_13 hF_13 rb_13 ra_13 ru_13 rq_13 rt_13 rp_13 rs_13 ha_13 bf_13 bk_13 bq_13 bp_13 bx_13
  refine hK _ _ (fun u => (At u (w1.heap.size) 26 #[.int .i64 x0, .int .i64 x1, .int .i64 x2, .int .i64 x3]) ∧ (At u (w3.heap.size) 30 #[.int .i64 pc, .bool pn, .slice Ap np cp]) ∧ (At u (w6.heap.size) 35 #[.int .i64 qc, .slice Aq nq cq]) ∧ (At u (w8.heap.size) 26 #[.int .i64 k0, .int .i64 k1, .int .i64 k2, .int .i64 k3]) ∧ (At u (w10.heap.size) 38 #[.int .i64 fc, .int .i64 f0, .int .i64 f1, .int .i64 f2, .int .i64 f3])) (fun _ h => h) ⟨bx_14, bp_14, bq_14, bk_14, bf_14⟩ ?_
  clear hK K
  (try simp only [Act.put, List.setIfInBounds_toArray, List.set_cons_zero, List.set_cons_succ])
  repeat (first
    | (refine mix_skip (by rfl) ?_
       (try simp only [Act.put, List.setIfInBounds_toArray, List.set_cons_zero, List.set_cons_succ]))
    | (refine mix_pure (v := ?_) (by rfl) (fun u hu => ?_) ?_
       rotate_left
       · obtain ⟨y0, y1, y2, y3, y4⟩ := hu
         obtain ⟨_, _, _, _, _, _, _, _⟩ := y0.four
         obtain ⟨_, _, _, _, _, _⟩ := y1.three
         obtain ⟨_, _, _, _⟩ := y2.two
         obtain ⟨_, _, _, _, _, _, _, _⟩ := y3.four
         obtain ⟨_, _, _, _, _, _, _, _, _, _⟩ := y4.five
         go_simp
         (with_reducible rfl)
       (try simp only [Act.put, List.setIfInBounds_toArray, List.set_cons_zero, List.set_cons_succ])))
  refine mix_call (by rfl) (fun K hK => ?_)
  go_simp
  refine (SI.out _ rs_14).mono ?_
  rintro e w15 ⟨A15, n15, c15, rfl, o15, hb15⟩
  have bx_15 := bx_14.below hb15 bx_14.lt
  have bp_15 := bp_14.below hb15 bp_14.lt
  have bq_15 := bq_14.below hb15 bq_14.lt
  have bk_15 := bk_14.below hb15 bk_14.lt
  have bf_15 := bf_14.below hb15 bf_14.lt
  have ha_15 := ha_14.lift hb15
  have rs_15 := rs_14.lift hb15
  have rp_15 := rp_14.lift hb15
  have rt_15 := rt_14.lift hb15
  have rq_15 := rq_14.lift hb15
  have ru_15 := ru_14.lift hb15
  have ra_15 := ra_14.lift hb15
  have rb_15 := rb_14.lift hb15
  have hF_15 := hF_14.below hb15
  have hB_15 := hB_14.trans (hb15.mono hB_14.size)
  clear hb15 hB_14 hF_14 rb_14 ra_14 ru_14 rq_14 rt_14 rp_14 rs_14 ha_14 bf_14 bk_14 bq_14 bp_14 bx_14
  have v15 := o15.rd okS
  have h15 := o15.len okS
  clear o15 SI
  refine hK _ _ (fun u => (At u (w1.heap.size) 26 #[.int .i64 x0, .int .i64 x1, .int .i64 x2, .int .i64 x3]) ∧ (At u (w3.heap.size) 30 #[.int .i64 pc, .bool pn, .slice Ap np cp]) ∧ (At u (w6.heap.size) 35 #[.int .i64 qc, .slice Aq nq cq]) ∧ (At u (w8.heap.size) 26 #[.int .i64 k0, .int .i64 k1, .int .i64 k2, .int .i64 k3]) ∧ (At u (w10.heap.size) 38 #[.int .i64 fc, .int .i64 f0, .int .i64 f1, .int .i64 f2, .int .i64 f3])) (fun _ h => h) ⟨bx_15, bp_15, bq_15, bk_15, bf_15⟩ ?_
  clear hK K
  (try simp only [Act.put, List.setIfInBounds_toArray, List.set_cons_zero, List.set_cons_succ])
  repeat (first
    | (refine mix_skip (by rfl) ?_
       (try simp only [Act.put, List.setIfInBounds_toArray, List.set_cons_zero, List.set_cons_succ]))
    | (refine mix_pure (v := ?_) (by rfl) (fun u hu => ?_) ?_
       rotate_left
       · obtain ⟨y0, y1, y2, y3, y4⟩ := hu
         obtain ⟨_, _, _, _, _, _, _, _⟩ := y0.four
         obtain ⟨_, _, _, _, _, _⟩ := y1.three
         obtain ⟨_, _, _, _⟩ := y2.two
         obtain ⟨_, _, _, _, _, _, _, _⟩ := y3.four
         obtain ⟨_, _, _, _, _, _, _, _, _, _⟩ := y4.five
         go_simp
         (with_reducible rfl)
       (try simp only [Act.put, List.setIfInBounds_toArray, List.set_cons_zero, List.set_cons_succ])))
  refine mix_call (by rfl) (fun K hK => ?_)
  go_simp
  refine (implSameSamples Ap A15 np n15 cp c15 pl pl _ rp_15 v15 Hp.out h15 (by have := insert_small HP.out hns Hs.out; have := Hp.out; unfold maxLen; omega)).mono ?_
  rintro e w16 ⟨rfl, hb16⟩
  have bx_16 := bx_15.below hb16 bx_15.lt
  have bp_16 := bp_15.below hb16 bp_15.lt
  have bq_16 := bq_15.below hb16 bq_15.lt
  have bk_16 := bk_15.below hb16 bk_15.lt
  have bf_16 := bf_15.below hb16 bf_15.lt
  have ha_16 := ha_15.lift hb16
  have rs_16 := rs_15.lift hb16
  have rp_16 := rp_15.lift hb16
  have rt_16 := rt_15.lift hb16
  have rq_16 := rq_15.lift hb16
  have ru_16 := ru_15.lift hb16
  have ra_16 := ra_15.lift hb16
  have rb_16 := rb_15.lift hb16
  have v15_16 := v15.lift hb16
  have hF_16 := hF_15.below hb16
  have hB_16 := hB_15.trans (hb16.mono hB_15.size)
  clear hb16 hB_15 hF_15 v15 rb_15 ra_15 ru_15 rq_15 rt_15 rp_15 rs_15 ha_15 bf_15 bk_15 bq_15 bp_15 bx_15
  rw [show decide (pl = pl) = true from decide_eq_true rfl]
  refine hK _ _ (fun u => (At u (w1.heap.size) 26 #[.int .i64 x0, .int .i64 x1, .int .i64 x2, .int .i64 x3]) ∧ (At u (w3.heap.size) 30 #[.int .i64 pc, .bool pn, .slice Ap np cp]) ∧ (At u (w6.heap.size) 35 #[.int .i64 qc, .slice Aq nq cq]) ∧ (At u (w8.heap.size) 26 #[.int .i64 k0, .int .i64 k1, .int .i64 k2, .int .i64 k3]) ∧ (At u (w10.heap.size) 38 #[.int .i64 fc, .int .i64 f0, .int .i64 f1, .int .i64 f2, .int .i64 f3])) (fun _ h => h) ⟨bx_16, bp_16, bq_16, bk_16, bf_16⟩ ?_
  clear hK K
  (try simp only [Act.put, List.setIfInBounds_toArray, List.set_cons_zero, List.set_cons_succ])
  repeat (first
    | (refine mix_skip (by rfl) ?_
       (try simp only [Act.put, List.setIfInBounds_toArray, List.set_cons_zero, List.set_cons_succ]))
    | (refine mix_pure (v := ?_) (by rfl) (fun u hu => ?_) ?_
       rotate_left
       · obtain ⟨y0, y1, y2, y3, y4⟩ := hu
         obtain ⟨_, _, _, _, _, _, _, _⟩ := y0.four
         obtain ⟨_, _, _, _, _, _⟩ := y1.three
         obtain ⟨_, _, _, _⟩ := y2.two
         obtain ⟨_, _, _, _, _, _, _, _⟩ := y3.four
         obtain ⟨_, _, _, _, _, _, _, _, _, _⟩ := y4.five
         go_simp
         (with_reducible rfl)
       (try simp only [Act.put, List.setIfInBounds_toArray, List.set_cons_zero, List.set_cons_succ])))
  refine mix_call (by rfl) (fun K hK => ?_)
  go_simp
  refine (SQ.out _ rt_16).mono ?_
  rintro e w17 ⟨A17, n17, c17, rfl, -, hb17⟩
  have bx_17 := bx_16.below hb17 bx_16.lt
  have bp_17 := bp_16.below hb17 bp_16.lt
  have bq_17 := bq_16.below hb17 bq_16.lt
  have bk_17 := bk_16.below hb17 bk_16.lt
  have bf_17 := bf_16.below hb17 bf_16.lt
  have ha_17 := ha_16.lift hb17
  have rs_17 := rs_16.lift hb17
  have rp_17 := rp_16.lift hb17
  have rt_17 := rt_16.lift hb17
  have rq_17 := rq_16.lift hb17
  have ru_17 := ru_16.lift hb17
  have ra_17 := ra_16.lift hb17
  have rb_17 := rb_16.lift hb17
  have hF_17 := hF_16.below hb17
  have hB_17 := hB_16.trans (hb17.mono hB_16.size)
  clear hb17 hB_16 hF_16 rb_16 ra_16 ru_16 rq_16 rt_16 rp_16 rs_16 ha_16 bf_16 bk_16 bq_16 bp_16 bx_16
  refine hK _ _ (fun u => (At u (w1.heap.size) 26 #[.int .i64 x0, .int .i64 x1, .int .i64 x2, .int .i64 x3]) ∧ (At u (w3.heap.size) 30 #[.int .i64 pc, .bool pn, .slice Ap np cp]) ∧ (At u (w6.heap.size) 35 #[.int .i64 qc, .slice Aq nq cq]) ∧ (At u (w8.heap.size) 26 #[.int .i64 k0, .int .i64 k1, .int .i64 k2, .int .i64 k3]) ∧ (At u (w10.heap.size) 38 #[.int .i64 fc, .int .i64 f0, .int .i64 f1, .int .i64 f2, .int .i64 f3])) (fun _ h => h) ⟨bx_17, bp_17, bq_17, bk_17, bf_17⟩ ?_
  clear hK K
  (try simp only [Act.put, List.setIfInBounds_toArray, List.set_cons_zero, List.set_cons_succ])
  repeat (first
    | (refine mix_skip (by rfl) ?_
       (try simp only [Act.put, List.setIfInBounds_toArray, List.set_cons_zero, List.set_cons_succ]))
    | (refine mix_pure (v := ?_) (by rfl) (fun u hu => ?_) ?_
       rotate_left
       · obtain ⟨y0, y1, y2, y3, y4⟩ := hu
         obtain ⟨_, _, _, _, _, _, _, _⟩ := y0.four
         obtain ⟨_, _, _, _, _, _⟩ := y1.three
         obtain ⟨_, _, _, _⟩ := y2.two
         obtain ⟨_, _, _, _, _, _, _, _⟩ := y3.four
         obtain ⟨_, _, _, _, _, _, _, _, _, _⟩ := y4.five
         go_simp
         (with_reducible rfl)
       (try simp only [Act.put, List.setIfInBounds_toArray, List.set_cons_zero, List.set_cons_succ])))
  refine mix_call (by rfl) (fun K hK => ?_)
  go_simp
  refine (SQ.out _ rt_17).mono ?_
  rintro e w18 ⟨A18, n18, c18, rfl, o18, hb18⟩
  have bx_18 := bx_17.below hb18 bx_17.lt
  have bp_18 := bp_17.below hb18 bp_17.lt
  have bq_18 := bq_17.below hb18 bq_17.lt
  have bk_18 := bk_17.below hb18 bk_17.lt
  have bf_18 := bf_17.below hb18 bf_17.lt
  have ha_18 := ha_17.lift hb18
  have rs_18 := rs_17.lift hb18
  have rp_18 := rp_17.lift hb18
  have rt_18 := rt_17.lift hb18
  have rq_18 := rq_17.lift hb18
  have ru_18 := ru_17.lift hb18
  have ra_18 := ra_17.lift hb18
  have rb_18 := rb_17.lift hb18
  have hF_18 := hF_17.below hb18
  have hB_18 := hB_17.trans (hb18.mono hB_17.size)
  clear hb18 hB_17 hF_17 rb_17 ra_17 ru_17 rq_17 rt_17 rp_17 rs_17 ha_17 bf_17 bk_17 bq_17 bp_17 bx_17
  have v18 := o18.rd okS
  have h18 := o18.len okS
  clear o18 SQ
  refine hK _ _ (fun u => (At u (w1.heap.size) 26 #[.int .i64 x0, .int .i64 x1, .int .i64 x2, .int .i64 x3]) ∧ (At u (w3.heap.size) 30 #[.int .i64 pc, .bool pn, .slice Ap np cp]) ∧ (At u (w6.heap.size) 35 #[.int .i64 qc, .slice Aq nq cq]) ∧ (At u (w8.heap.size) 26 #[.int .i64 k0, .int .i64 k1, .int .i64 k2, .int .i64 k3]) ∧ (At u (w10.heap.size) 38 #[.int .i64 fc, .int .i64 f0, .int .i64 f1, .int .i64 f2, .int .i64 f3])) (fun _ h => h) ⟨bx_18, bp_18, bq_18, bk_18, bf_18⟩ ?_
  clear hK K
  (try simp only [Act.put, List.setIfInBounds_toArray, List.set_cons_zero, List.set_cons_succ])
  repeat (first
    | (refine mix_skip (by rfl) ?_
       (try simp only [Act.put, List.setIfInBounds_toArray, List.set_cons_zero, List.set_cons_succ]))
    | (refine mix_pure (v := ?_) (by rfl) (fun u hu => ?_) ?_
       rotate_left
       · obtain ⟨y0, y1, y2, y3, y4⟩ := hu
         obtain ⟨_, _, _, _, _, _, _, _⟩ := y0.four
         obtain ⟨_, _, _, _, _, _⟩ := y1.three
         obtain ⟨_, _, _, _⟩ := y2.two
         obtain ⟨_, _, _, _, _, _, _, _⟩ := y3.four
         obtain ⟨_, _, _, _, _, _, _, _, _, _⟩ := y4.five
         go_simp
         (with_reducible rfl)
       (try simp only [Act.put, List.setIfInBounds_toArray, List.set_cons_zero, List.set_cons_succ])))
  refine mix_call (by rfl) (fun K hK => ?_)
  go_simp
  refine (implSameSamples Aq A18 nq n18 cq c18 ql ql _ rq_18 v18 Hq.out h18 (by have := query_small HQ.out hnt Ht.out; have := Hq.out; unfold maxLen; omega)).mono ?_
  rintro e w19 ⟨rfl, hb19⟩
  have bx_19 := bx_18.below hb19 bx_18.lt
  have bp_19 := bp_18.below hb19 bp_18.lt
  have bq_19 := bq_18.below hb19 bq_18.lt
  have bk_19 := bk_18.below hb19 bk_18.lt
  have bf_19 := bf_18.below hb19 bf_18.lt
  have ha_19 := ha_18.lift hb19
  have rs_19 := rs_18.lift hb19
  have rp_19 := rp_18.lift hb19
  have rt_19 := rt_18.lift hb19
  have rq_19 := rq_18.lift hb19
  have ru_19 := ru_18.lift hb19
  have ra_19 := ra_18.lift hb19
  have rb_19 := rb_18.lift hb19
  have v18_19 := v18.lift hb19
  have hF_19 := hF_18.below hb19
  have hB_19 := hB_18.trans (hb19.mono hB_18.size)
  clear hb19 hB_18 hF_18 v18 rb_18 ra_18 ru_18 rq_18 rt_18 rp_18 rs_18 ha_18 bf_18 bk_18 bq_18 bp_18 bx_18
  rw [show decide (ql = ql) = true from decide_eq_true rfl]
  refine hK _ _ (fun u => (At u (w1.heap.size) 26 #[.int .i64 x0, .int .i64 x1, .int .i64 x2, .int .i64 x3]) ∧ (At u (w3.heap.size) 30 #[.int .i64 pc, .bool pn, .slice Ap np cp]) ∧ (At u (w6.heap.size) 35 #[.int .i64 qc, .slice Aq nq cq]) ∧ (At u (w8.heap.size) 26 #[.int .i64 k0, .int .i64 k1, .int .i64 k2, .int .i64 k3]) ∧ (At u (w10.heap.size) 38 #[.int .i64 fc, .int .i64 f0, .int .i64 f1, .int .i64 f2, .int .i64 f3])) (fun _ h => h) ⟨bx_19, bp_19, bq_19, bk_19, bf_19⟩ ?_
  clear hK K
  (try simp only [Act.put, List.setIfInBounds_toArray, List.set_cons_zero, List.set_cons_succ])
  repeat (first
    | (refine mix_skip (by rfl) ?_
       (try simp only [Act.put, List.setIfInBounds_toArray, List.set_cons_zero, List.set_cons_succ]))
    | (refine mix_pure (v := ?_) (by rfl) (fun u hu => ?_) ?_
       rotate_left
       · obtain ⟨y0, y1, y2, y3, y4⟩ := hu
         obtain ⟨_, _, _, _, _, _, _, _⟩ := y0.four
         obtain ⟨_, _, _, _, _, _⟩ := y1.three
         obtain ⟨_, _, _, _⟩ := y2.two
         obtain ⟨_, _, _, _, _, _, _, _⟩ := y3.four
         obtain ⟨_, _, _, _, _, _, _, _, _, _⟩ := y4.five
         go_simp
         (with_reducible rfl)
       (try simp only [Act.put, List.setIfInBounds_toArray, List.set_cons_zero, List.set_cons_succ])))
  refine mix_call (by rfl) (fun K hK => ?_)
  go_simp
  refine (SL.out _ ru_19).mono ?_
  rintro e w20 ⟨rfl, hb20⟩
  have bx_20 := bx_19.below hb20 bx_19.lt
  have bp_20 := bp_19.below hb20 bp_19.lt
  have bq_20 := bq_19.below hb20 bq_19.lt
  have bk_20 := bk_19.below hb20 bk_19.lt
  have bf_20 := bf_19.below hb20 bf_19.lt
  have ha_20 := ha_19.lift hb20
  have rs_20 := rs_19.lift hb20
  have rp_20 := rp_19.lift hb20
  have rt_20 := rt_19.lift hb20
  have rq_20 := rq_19.lift hb20
  have ru_20 := ru_19.lift hb20
  have ra_20 := ra_19.lift hb20
  have rb_20 := rb_19.lift hb20
  have hF_20 := hF_19.below hb20
  have hB_20 := hB_19.trans (hb20.mono hB_19.size)
  clear hb20 hB_19 hF_19 rb_19 ra_19 ru_19 rq_19 rt_19 rp_19 rs_19 ha_19 bf_19 bk_19 bq_19 bp_19 bx_19
  clear SL
  refine hK _ _ (fun u => (At u (w1.heap.size) 26 #[.int .i64 x0, .int .i64 x1, .int .i64 x2, .int .i64 x3]) ∧ (At u (w3.heap.size) 30 #[.int .i64 pc, .bool pn, .slice Ap np cp]) ∧ (At u (w6.heap.size) 35 #[.int .i64 qc, .slice Aq nq cq]) ∧ (At u (w8.heap.size) 26 #[.int .i64 k0, .int .i64 k1, .int .i64 k2, .int .i64 k3]) ∧ (At u (w10.heap.size) 38 #[.int .i64 fc, .int .i64 f0, .int .i64 f1, .int .i64 f2, .int .i64 f3])) (fun _ h => h) ⟨bx_20, bp_20, bq_20, bk_20, bf_20⟩ ?_
  clear hK K
  (try simp only [Act.put, List.setIfInBounds_toArray, List.set_cons_zero, List.set_cons_succ])
  repeat (first
    | (refine mix_skip (by rfl) ?_
       (try simp only [Act.put, List.setIfInBounds_toArray, List.set_cons_zero, List.set_cons_succ]))
    | (refine mix_pure (v := ?_) (by rfl) (fun u hu => ?_) ?_
       rotate_left
       · obtain ⟨y0, y1, y2, y3, y4⟩ := hu
         obtain ⟨_, _, _, _, _, _, _, _⟩ := y0.four
         obtain ⟨_, _, _, _, _, _⟩ := y1.three
         obtain ⟨_, _, _, _⟩ := y2.two
         obtain ⟨_, _, _, _, _, _, _, _⟩ := y3.four
         obtain ⟨_, _, _, _, _, _, _, _, _, _⟩ := y4.five
         go_simp
         (with_reducible rfl)
       (try simp only [Act.put, List.setIfInBounds_toArray, List.set_cons_zero, List.set_cons_succ])))
  refine mix_call (by rfl) (fun K hK => ?_)
  go_simp
  refine (IE.out _ ra_20 rb_20).mono ?_
  rintro e w21 ⟨rfl, hb21⟩
  have bx_21 := bx_20.below hb21 bx_20.lt
  have bp_21 := bp_20.below hb21 bp_20.lt
  have bq_21 := bq_20.below hb21 bq_20.lt
  have bk_21 := bk_20.below hb21 bk_20.lt
  have bf_21 := bf_20.below hb21 bf_20.lt
  have ha_21 := ha_20.lift hb21
  have rs_21 := rs_20.lift hb21
  have rp_21 := rp_20.lift hb21
  have rt_21 := rt_20.lift hb21
  have rq_21 := rq_20.lift hb21
  have ru_21 := ru_20.lift hb21
  have ra_21 := ra_20.lift hb21
  have rb_21 := rb_20.lift hb21
  have hF_21 := hF_20.below hb21
  have hB_21 := hB_20.trans (hb21.mono hB_20.size)
  clear hb21 hB_20 hF_20 rb_20 ra_20 ru_20 rq_20 rt_20 rp_20 rs_20 ha_20 bf_20 bk_20 bq_20 bp_20 bx_20
  refine hK _ _ (fun u => (At u (w1.heap.size) 26 #[.int .i64 x0, .int .i64 x1, .int .i64 x2, .int .i64 x3]) ∧ (At u (w3.heap.size) 30 #[.int .i64 pc, .bool pn, .slice Ap np cp]) ∧ (At u (w6.heap.size) 35 #[.int .i64 qc, .slice Aq nq cq]) ∧ (At u (w8.heap.size) 26 #[.int .i64 k0, .int .i64 k1, .int .i64 k2, .int .i64 k3]) ∧ (At u (w10.heap.size) 38 #[.int .i64 fc, .int .i64 f0, .int .i64 f1, .int .i64 f2, .int .i64 f3])) (fun _ h => h) ⟨bx_21, bp_21, bq_21, bk_21, bf_21⟩ ?_
  clear hK K
  (try simp only [Act.put, List.setIfInBounds_toArray, List.set_cons_zero, List.set_cons_succ])
  repeat (first
    | (refine mix_skip (by rfl) ?_
       (try simp only [Act.put, List.setIfInBounds_toArray, List.set_cons_zero, List.set_cons_succ]))
    | (refine mix_pure (v := ?_) (by rfl) (fun u hu => ?_) ?_
       rotate_left
       · obtain ⟨y0, y1, y2, y3, y4⟩ := hu
         obtain ⟨_, _, _, _, _, _, _, _⟩ := y0.four
         obtain ⟨_, _, _, _, _, _⟩ := y1.three
         obtain ⟨_, _, _, _⟩ := y2.two
         obtain ⟨_, _, _, _, _, _, _, _⟩ := y3.four
         obtain ⟨_, _, _, _, _, _, _, _, _, _⟩ := y4.five
         go_simp
         (with_reducible rfl)
       (try simp only [Act.put, List.setIfInBounds_toArray, List.set_cons_zero, List.set_cons_succ])))
  refine mix_call (by rfl) (fun K hK => ?_)
  go_simp
  refine (SE.out _ ra_21 rb_21).mono ?_
  rintro e w22 ⟨rfl, hb22⟩
  have bx_22 := bx_21.below hb22 bx_21.lt
  have bp_22 := bp_21.below hb22 bp_21.lt
  have bq_22 := bq_21.below hb22 bq_21.lt
  have bk_22 := bk_21.below hb22 bk_21.lt
  have bf_22 := bf_21.below hb22 bf_21.lt
  have ha_22 := ha_21.lift hb22
  have rs_22 := rs_21.lift hb22
  have rp_22 := rp_21.lift hb22
  have rt_22 := rt_21.lift hb22
  have rq_22 := rq_21.lift hb22
  have ru_22 := ru_21.lift hb22
  have ra_22 := ra_21.lift hb22
  have rb_22 := rb_21.lift hb22
  have hF_22 := hF_21.below hb22
  have hB_22 := hB_21.trans (hb22.mono hB_21.size)
  clear hb22 hB_21 hF_21 rb_21 ra_21 ru_21 rq_21 rt_21 rp_21 rs_21 ha_21 bf_21 bk_21 bq_21 bp_21 bx_21
  refine hK _ _ (fun u => (At u (w1.heap.size) 26 #[.int .i64 x0, .int .i64 x1, .int .i64 x2, .int .i64 x3]) ∧ (At u (w3.heap.size) 30 #[.int .i64 pc, .bool pn, .slice Ap np cp]) ∧ (At u (w6.heap.size) 35 #[.int .i64 qc, .slice Aq nq cq]) ∧ (At u (w8.heap.size) 26 #[.int .i64 k0, .int .i64 k1, .int .i64 k2, .int .i64 k3]) ∧ (At u (w10.heap.size) 38 #[.int .i64 fc, .int .i64 f0, .int .i64 f1, .int .i64 f2, .int .i64 f3])) (fun _ h => h) ⟨bx_22, bp_22, bq_22, bk_22, bf_22⟩ ?_
  clear hK K
  (try simp only [Act.put, List.setIfInBounds_toArray, List.set_cons_zero, List.set_cons_succ])
  repeat (first
    | (refine mix_skip (by rfl) ?_
       (try simp only [Act.put, List.setIfInBounds_toArray, List.set_cons_zero, List.set_cons_succ]))
    | (refine mix_pure (v := ?_) (by rfl) (fun u hu => ?_) ?_
       rotate_left
       · obtain ⟨y0, y1, y2, y3, y4⟩ := hu
         obtain ⟨_, _, _, _, _, _, _, _⟩ := y0.four
         obtain ⟨_, _, _, _, _, _⟩ := y1.three
         obtain ⟨_, _, _, _⟩ := y2.two
         obtain ⟨_, _, _, _, _, _, _, _⟩ := y3.four
         obtain ⟨_, _, _, _, _, _, _, _, _, _⟩ := y4.five
         go_simp
         (with_reducible rfl)
       (try simp only [Act.put, List.setIfInBounds_toArray, List.set_cons_zero, List.set_cons_succ])))
  refine mix_call (by rfl) (fun K hK => ?_)
  go_simp
  refine (IS.out _ rs_22 hF_22).mono ?_
  rintro e w23 ⟨rfl, hb23⟩
  have bx_23 := bx_22.below hb23 bx_22.lt
  have bp_23 := bp_22.below hb23 bp_22.lt
  have bq_23 := bq_22.below hb23 bq_22.lt
  have bk_23 := bk_22.below hb23 bk_22.lt
  have bf_23 := bf_22.below hb23 bf_22.lt
  have ha_23 := ha_22.lift hb23
  have rs_23 := rs_22.lift hb23
  have rp_23 := rp_22.lift hb23
  have rt_23 := rt_22.lift hb23
  have rq_23 := rq_22.lift hb23
  have ru_23 := ru_22.lift hb23
  have ra_23 := ra_22.lift hb23
  have rb_23 := rb_22.lift hb23
  have hF_23 := hF_22.below hb23
  have hB_23 := hB_22.trans (hb23.mono hB_22.size)
  clear hb23 hB_22 hF_22 rb_22 ra_22 ru_22 rq_22 rt_22 rp_22 rs_22 ha_22 bf_22 bk_22 bq_22 bp_22 bx_22
  refine hK _ _ (fun u => (At u (w1.heap.size) 26 #[.int .i64 x0, .int .i64 x1, .int .i64 x2, .int .i64 x3]) ∧ (At u (w3.heap.size) 30 #[.int .i64 pc, .bool pn, .slice Ap np cp]) ∧ (At u (w6.heap.size) 35 #[.int .i64 qc, .slice Aq nq cq]) ∧ (At u (w8.heap.size) 26 #[.int .i64 k0, .int .i64 k1, .int .i64 k2, .int .i64 k3]) ∧ (At u (w10.heap.size) 38 #[.int .i64 fc, .int .i64 f0, .int .i64 f1, .int .i64 f2, .int .i64 f3])) (fun _ h => h) ⟨bx_23, bp_23, bq_23, bk_23, bf_23⟩ ?_
  clear hK K
  (try simp only [Act.put, List.setIfInBounds_toArray, List.set_cons_zero, List.set_cons_succ])
  repeat (first
    | (refine mix_skip (by rfl) ?_
       (try simp only [Act.put, List.setIfInBounds_toArray, List.set_cons_zero, List.set_cons_succ]))
    | (refine mix_pure (v := ?_) (by rfl) (fun u hu => ?_) ?_
       rotate_left
       · obtain ⟨y0, y1, y2, y3, y4⟩ := hu
         obtain ⟨_, _, _, _, _, _, _, _⟩ := y0.four
         obtain ⟨_, _, _, _, _, _⟩ := y1.three
         obtain ⟨_, _, _, _⟩ := y2.two
         obtain ⟨_, _, _, _, _, _, _, _⟩ := y3.four
         obtain ⟨_, _, _, _, _, _, _, _, _, _⟩ := y4.five
         go_simp
         (with_reducible rfl)
       (try simp only [Act.put, List.setIfInBounds_toArray, List.set_cons_zero, List.set_cons_succ])))
  refine mix_call (by rfl) (fun K hK => ?_)
  go_simp
  refine (SS.out _ rs_23).mono ?_
  rintro e w24 ⟨rfl, hb24⟩
  have bx_24 := bx_23.below hb24 bx_23.lt
  have bp_24 := bp_23.below hb24 bp_23.lt
  have bq_24 := bq_23.below hb24 bq_23.lt
  have bk_24 := bk_23.below hb24 bk_23.lt
  have bf_24 := bf_23.below hb24 bf_23.lt
  have ha_24 := ha_23.lift hb24
  have rs_24 := rs_23.lift hb24
  have rp_24 := rp_23.lift hb24
  have rt_24 := rt_23.lift hb24
  have rq_24 := rq_23.lift hb24
  have ru_24 := ru_23.lift hb24
  have ra_24 := ra_23.lift hb24
  have rb_24 := rb_23.lift hb24
  have hF_24 := hF_23.below hb24
  have hB_24 := hB_23.trans (hb24.mono hB_23.size)
  clear hb24 hB_23 hF_23 rb_23 ra_23 ru_23 rq_23 rt_23 rp_23 rs_23 ha_23 bf_23 bk_23 bq_23 bp_23 bx_23
  refine hK _ _ (fun u => (At u (w1.heap.size) 26 #[.int .i64 x0, .int .i64 x1, .int .i64 x2, .int .i64 x3]) ∧ (At u (w3.heap.size) 30 #[.int .i64 pc, .bool pn, .slice Ap np cp]) ∧ (At u (w6.heap.size) 35 #[.int .i64 qc, .slice Aq nq cq]) ∧ (At u (w8.heap.size) 26 #[.int .i64 k0, .int .i64 k1, .int .i64 k2, .int .i64 k3]) ∧ (At u (w10.heap.size) 38 #[.int .i64 fc, .int .i64 f0, .int .i64 f1, .int .i64 f2, .int .i64 f3])) (fun _ h => h) ⟨bx_24, bp_24, bq_24, bk_24, bf_24⟩ ?_
  clear hK K
  (try simp only [Act.put, List.setIfInBounds_toArray, List.set_cons_zero, List.set_cons_succ])
  repeat (first
    | (refine mix_skip (by rfl) ?_
       (try simp only [Act.put, List.setIfInBounds_toArray, List.set_cons_zero, List.set_cons_succ]))
    | (refine mix_pure (v := ?_) (by rfl) (fun u hu => ?_) ?_
       rotate_left
       · obtain ⟨y0, y1, y2, y3, y4⟩ := hu
         obtain ⟨_, _, _, _, _, _, _, _⟩ := y0.four
         obtain ⟨_, _, _, _, _, _⟩ := y1.three
         obtain ⟨_, _, _, _⟩ := y2.two
         obtain ⟨_, _, _, _, _, _, _, _⟩ := y3.four
         obtain ⟨_, _, _, _, _, _, _, _, _, _⟩ := y4.five
         go_simp
         (with_reducible rfl)
       (try simp only [Act.put, List.setIfInBounds_toArray, List.set_cons_zero, List.set_cons_succ])))
  refine mix_nil ?_
  clear F0 F1 F2 F3 F4 F5 IS SS IE SE
  by_cases hc : pc = 0
  · as_aux_lemma =>
      subst hc
      obtain ⟨hsf, hin, hlk, hnew⟩ := insert_said HP.out
      have HI := fun W h1 h2 => implInsertSample Ap np cp pl x0 x1 x2 x3 W h1 Hp.out (by have := insert_small HP.out hns Hs.out; have := Hp.out; omega) h2
      rw [hin] at HI
      have HSF := fun W h1 h2 => implStoreFault Ap np cp pl W h1 Hp.out h2
      rw [hsf] at HSF
      obtain ⟨z, e0, e1, e2, e3, hL⟩ : ∃ z e0 e1 e2 e3, lookM pl (x0, x1, x2, x3) = (z, e0, e1, e2, e3) := ⟨_, _, _, _, _, rfl⟩
      obtain rfl := lookM_code hL hlk
      have HFS := fun W h1 h2 => implFindSample Ap np cp pl x0 x1 x2 x3 W h1 Hp.out h2
      rw [hL] at HFS
      have HN := Lib.hid (fun h : pn = true => lookM_is hL (hnew h))
      have HI := Lib.hid HI
      have HSF := Lib.hid HSF
      have HFS := Lib.hid HFS
      clear hsf hin hlk hnew hL
      obtain ⟨bpc0, bpc1, bpc2, _, _, _⟩ := bp_24.three
      obtain ⟨bxc0, bxc1, bxc2, bxc3, _, _, _, _⟩ := bx_24.four
      go_wp2_with fail
      refine (HI.out _ rp_24 hF_24).mono ?_
      rintro e w25 ⟨A2, n2, c2, rfl, o2, hb25⟩
      have bx_25 := bx_24.below hb25 bx_24.lt
      have bp_25 := bp_24.below hb25 bp_24.lt
      have bq_25 := bq_24.below hb25 bq_24.lt
      have rp_25 := rp_24.lift hb25
      have rt_25 := rt_24.lift hb25
      have rq_25 := rq_24.lift hb25
      have hF_25 := hF_24.below hb25
      have hB_25 := hB_24.trans (hb25.mono hB_24.size)
      clear hb25 bpc0 bpc1 bpc2 bxc0 bxc1 bxc2 bxc3 hB_24 hF_24 rq_24 rt_24 rp_24 bq_24 bp_24 bx_24
      have v2 := o2.rd okS
      have hv2 := o2.len okS
      clear o2 HI
      have hb26 : Below w25.heap.size w25 (w25.alloc (.cells #[.int .i64 0, .bool false, .slice A2 n2 c2] 30)) := (Below.refl _ _).alloc (Nat.le_refl _) _
      have bg := At.new w25 30 #[.int .i64 0, .bool false, .slice A2 n2 c2]
      have bx_26 := bx_25.below hb26 bx_25.lt
      have bp_26 := bp_25.below hb26 bp_25.lt
      have bq_26 := bq_25.below hb26 bq_25.lt
      have rp_26 := rp_25.lift hb26
      have rt_26 := rt_25.lift hb26
      have rq_26 := rq_25.lift hb26
      have v2_26 := v2.lift hb26
      have hF_26 := hF_25.below hb26
      have hB_26 := hB_25.trans (hb26.mono hB_25.size)
      clear hb26 hB_25 hF_25 v2 rq_25 rt_25 rp_25 bq_25 bp_25 bx_25
      rcases pn
      · as_aux_lemma =>
          have F3 := fldF0
          have F4 := fldF1
          have F5 := neqX
          go_wp2_with fail
          (try simp only [List.append_eq, List.cons_append, List.nil_append])
          refine wp_region_mix [(0, false), (1, false), (2, true), (3, false), (4, false), (5, false), (6, false), (7, false), (8, false), (9, false), (10, false), (11, false), (12, false), (13, true), (14, false), (15, false), (16, false), (17, false), (18, false), (19, false), (20, true), (21, false), (22, false), (23, false), (24, false), (25, false), (26, false), (27, false), (28, false), (29, false), (30, false), (33, false), (31, true), (32, false), (34, false), (35, false), (36, false)] (fun u => (At u (w1.heap.size) 26 #[.int .i64 x0, .int .i64 x1, .int .i64 x2, .int .i64 x3]) ∧ (At u (w3.heap.size) 30 #[.int .i64 0, .bool false, .slice Ap np cp]) ∧ (At u (w25.heap.size) 30 #[.int .i64 0, .bool false, .slice A2 n2 c2])) (by kernel_rfl) (by kernel_rfl) (fun _ _ _ _ _ h => h) ⟨bx_26.drew, bp_26.drew, bg.drew⟩ ?_
          simp only [mixOps, List.map_cons, List.map_nil, List.getElem?_cons_succ, List.getElem?_cons_zero, Option.getD_some]
          repeat (first
            | (refine mix_skip (by rfl) ?_
               (try simp only [Act.put, List.setIfInBounds_toArray, List.set_cons_zero, List.set_cons_succ]))
            | (refine mix_pure (v := ?_) (by rfl) (fun u hu => ?_) ?_
               rotate_left
               · obtain ⟨y0, y1, y2⟩ := hu
                 obtain ⟨_, _, _, _, _, _, _, _⟩ := y0.four
                 obtain ⟨_, _, _, _, _, _⟩ := y1.three
                 obtain ⟨_, _, _, _, _, _⟩ := y2.three
                 go_simp
                 (with_reducible rfl)
               (try simp only [Act.put, List.setIfInBounds_toArray, List.set_cons_zero, List.set_cons_succ])))
          refine mix_call (by rfl) (fun K hK => ?_)
          go_simp
          refine (HSF.out _ (rp_26.drewN 1) hF_26).mono ?_
          rintro e w27 ⟨rfl, hb27⟩
          have hb27 := undrew hb27
          have bx_27 := bx_26.below hb27 bx_26.lt
          have bp_27 := bp_26.below hb27 bp_26.lt
          have bq_27 := bq_26.below hb27 bq_26.lt
          have bg_27 := bg.below hb27 bg.lt
          have rp_27 := rp_26.lift hb27
          have rt_27 := rt_26.lift hb27
          have rq_27 := rq_26.lift hb27
          have v2_27 := v2_26.lift hb27
          have hF_27 := hF_26.below hb27
          have hB_27 := hB_26.trans (hb27.mono hB_26.size)
          clear hb27 hB_26 hF_26 v2_26 rq_26 rt_26 rp_26 bg bq_26 bp_26 bx_26
          refine hK _ _ (fun u => (At u (w1.heap.size) 26 #[.int .i64 x0, .int .i64 x1, .int .i64 x2, .int .i64 x3]) ∧ (At u (w3.heap.size) 30 #[.int .i64 0, .bool false, .slice Ap np cp]) ∧ (At u (w25.heap.size) 30 #[.int .i64 0, .bool false, .slice A2 n2 c2])) (fun _ h => h) ⟨bx_27, bp_27, bg_27⟩ ?_
          clear hK K
          (try simp only [Act.put, List.setIfInBounds_toArray, List.set_cons_zero, List.set_cons_succ])
          repeat (first
            | (refine mix_skip (by rfl) ?_
               (try simp only [Act.put, List.setIfInBounds_toArray, List.set_cons_zero, List.set_cons_succ]))
            | (refine mix_pure (v := ?_) (by rfl) (fun u hu => ?_) ?_
               rotate_left
               · obtain ⟨y0, y1, y2⟩ := hu
                 obtain ⟨_, _, _, _, _, _, _, _⟩ := y0.four
                 obtain ⟨_, _, _, _, _, _⟩ := y1.three
                 obtain ⟨_, _, _, _, _, _⟩ := y2.three
                 go_simp
                 (with_reducible rfl)
               (try simp only [Act.put, List.setIfInBounds_toArray, List.set_cons_zero, List.set_cons_succ])))
          refine mix_call (by rfl) (fun K hK => ?_)
          go_simp
          refine (implSameSamples A2 Ap n2 np c2 cp pl pl _ v2_27 rp_27 hv2 Hp.out (by have := insert_small HP.out hns Hs.out; have := Hp.out; unfold maxLen; omega)).mono ?_
          rintro e w28 ⟨rfl, hb28⟩
          have bx_28 := bx_27.below hb28 bx_27.lt
          have bp_28 := bp_27.below hb28 bp_27.lt
          have bq_28 := bq_27.below hb28 bq_27.lt
          have bg_28 := bg_27.below hb28 bg_27.lt
          have rp_28 := rp_27.lift hb28
          have rt_28 := rt_27.lift hb28
          have rq_28 := rq_27.lift hb28
          have v2_28 := v2_27.lift hb28
          have hF_28 := hF_27.below hb28
          have hB_28 := hB_27.trans (hb28.mono hB_27.size)
          clear hb28 hB_27 hF_27 v2_27 rq_27 rt_27 rp_27 bg_27 bq_27 bp_27 bx_27
          rw [show decide (pl = pl) = true from decide_eq_true rfl]
          refine hK _ _ (fun u => (At u (w1.heap.size) 26 #[.int .i64 x0, .int .i64 x1, .int .i64 x2, .int .i64 x3]) ∧ (At u (w3.heap.size) 30 #[.int .i64 0, .bool false, .slice Ap np cp]) ∧ (At u (w25.heap.size) 30 #[.int .i64 0, .bool false, .slice A2 n2 c2])) (fun _ h => h) ⟨bx_28, bp_28, bg_28⟩ ?_
          clear hK K
          (try simp only [Act.put, List.setIfInBounds_toArray, List.set_cons_zero, List.set_cons_succ])
          repeat (first
            | (refine mix_skip (by rfl) ?_
               (try simp only [Act.put, List.setIfInBounds_toArray, List.set_cons_zero, List.set_cons_succ]))
            | (refine mix_pure (v := ?_) (by rfl) (fun u hu => ?_) ?_
               rotate_left
               · obtain ⟨y0, y1, y2⟩ := hu
                 obtain ⟨_, _, _, _, _, _, _, _⟩ := y0.four
                 obtain ⟨_, _, _, _, _, _⟩ := y1.three
                 obtain ⟨_, _, _, _, _, _⟩ := y2.three
                 go_simp
                 (with_reducible rfl)
               (try simp only [Act.put, List.setIfInBounds_toArray, List.set_cons_zero, List.set_cons_succ])))
          refine mix_call (by rfl) (fun K hK => ?_)
          go_simp
          refine (HFS.out _ rp_28 hF_28).mono ?_
          rintro e w29 ⟨rfl, hb29⟩
          have bx_29 := bx_28.below hb29 bx_28.lt
          have bp_29 := bp_28.below hb29 bp_28.lt
          have bq_29 := bq_28.below hb29 bq_28.lt
          have bg_29 := bg_28.below hb29 bg_28.lt
          have rp_29 := rp_28.lift hb29
          have rt_29 := rt_28.lift hb29
          have rq_29 := rq_28.lift hb29
          have v2_29 := v2_28.lift hb29
          have hF_29 := hF_28.below hb29
          have hB_29 := hB_28.trans (hb29.mono hB_28.size)
          clear hb29 hB_28 hF_28 v2_28 rq_28 rt_28 rp_28 bg_28 bq_28 bp_28 bx_28
          refine hK _ _ (fun u => (At u (w1.heap.size) 26 #[.int .i64 x0, .int .i64 x1, .int .i64 x2, .int .i64 x3]) ∧ (At u (w3.heap.size) 30 #[.int .i64 0, .bool false, .slice Ap np cp]) ∧ (At u (w25.heap.size) 30 #[.int .i64 0, .bool false, .slice A2 n2 c2])) (fun _ h => h) ⟨bx_29, bp_29, bg_29⟩ ?_
          clear hK K
          (try simp only [Act.put, List.setIfInBounds_toArray, List.set_cons_zero, List.set_cons_succ])
          repeat (first
            | (refine mix_skip (by rfl) ?_
               (try simp only [Act.put, List.setIfInBounds_toArray, List.set_cons_zero, List.set_cons_succ]))
            | (refine mix_pure (v := ?_) (by rfl) (fun u hu => ?_) ?_
               rotate_left
               · obtain ⟨y0, y1, y2⟩ := hu
                 obtain ⟨_, _, _, _, _, _, _, _⟩ := y0.four
                 obtain ⟨_, _, _, _, _, _⟩ := y1.three
                 obtain ⟨_, _, _, _, _, _⟩ := y2.three
                 go_simp
                 (with_reducible rfl)
               (try simp only [Act.put, List.setIfInBounds_toArray, List.set_cons_zero, List.set_cons_succ])))
          refine mix_nil ?_
          clear HSF HFS HN F3 F4 F5
          by_cases hc : qc = 0
          · as_aux_lemma =>
              subst hc
              have hql := query_fine HQ.out
              have Hql := Lib.hid hql
              clear hql
              obtain ⟨bqc0, bqc1, _, _⟩ := bq_29.two
              go_wp2
              go_loopw [17, 18] (fun nv iv wr => ∃ k : Nat, k ≤ nt ∧ iv = .int .i64 k ∧ nv = .int .i64 ((queryM (tt.take k) se fr til).length : Int) ∧ Below w29.heap.size w29 wr) (fun _ i _ => nt - (intOf i).toNat)
              case atStart => exact ⟨0, Nat.zero_le _, rfl, rfl, Below.refl _ _⟩
              case round =>
                obtain ⟨k, hk, rfl, rfl, hbel⟩ := hrel
                have bqr := bq_29.below hbel bq_29.lt
                have rtr := rt_29.lift hbel
                have rqr := rq_29.lift hbel
                have hBr := hB_29.trans (hbel.mono hB_29.size)
                clear bqc0 bqc1
                have hmk := query_len tt k se fr til
                by_cases hlt : k < nt
                · obtain ⟨g, o, a0, a1, a2, a3, rfl, hg, hx, cx⟩ := rtr.smp (k := k) (by rw [Ht.out]; exact hlt)
                  by_cases hs : a0 = se
                  rotate_left
                  · have he : (a0 == se) = false := by simpa using hs
                    have Hw := Lib.hid (query_miss (s := se) (f := fr) (t := til) hx (want_no hs))
                    clear hs
                    obtain ⟨q0, q1, q2, q3⟩ := cx
                    generalize hm : (queryM (tt.take k) se fr til).length = m at *
                    have Hmm := Lib.hid hm
                    clear hx hm
                    go_wp2
                    exact ⟨⟨k + 1, by omega, by go_num, by rw [Hw.out, Hmm.out], hbel⟩, by simp [intOf]; omega⟩
                  subst hs
                  by_cases h1 : fr ≤ a1
                  rotate_left
                  · have h1' : a1 < fr := by omega
                    have Hw := Lib.hid (query_miss (s := a0) (f := fr) (t := til) hx (by rw [want_is]; simp [inB]; omega))
                    obtain ⟨q0, q1, q2, q3⟩ := cx
                    generalize hm : (queryM (tt.take k) a0 fr til).length = m at *
                    have Hmm := Lib.hid hm
                    clear hx hm
                    go_wp2
                    exact ⟨⟨k + 1, by omega, by go_num, by rw [Hw.out, Hmm.out], hbel⟩, by simp [intOf]; omega⟩
                  by_cases h2 : a1 ≤ til
                  rotate_left
                  · have h2' : til < a1 := by omega
                    have Hw := Lib.hid (query_miss (s := a0) (f := fr) (t := til) hx (by rw [want_is]; simp [inB]; omega))
                    obtain ⟨q0, q1, q2, q3⟩ := cx
                    generalize hm : (queryM (tt.take k) a0 fr til).length = m at *
                    have Hmm := Lib.hid hm
                    clear hx hm
                    go_wp2
                    exact ⟨⟨k + 1, by omega, by go_num, by rw [Hw.out, Hmm.out], hbel⟩, by simp [intOf]; omega⟩
                  have hwant : wantM a0 fr til (a0, a1, a2, a3) = true := by rw [want_is]; simp [inB]; omega
                  have Hw := Lib.hid (query_hit (s := a0) (f := fr) (t := til) hx hwant)
                  have hqa := query_at a0 fr til hx hwant
                  rw [← Hql.out] at hqa
                  obtain ⟨m, hm⟩ : ∃ m, (queryM (tt.take k) a0 fr til).length = m := ⟨_, rfl⟩
                  rw [hm] at hqa
                  simp only [hm] at hmk ⊢
                  have Hmm := Lib.hid hm
                  have hmq : m < nq := by have := getElem?_some_lt hqa; have := Hq.out; omega
                  obtain ⟨g', o', b0, b1, b2, b3, rfl, hg', hy, cy⟩ := rqr.smp (k := m) (by rw [Hq.out]; exact hmq)
                  obtain ⟨rfl, rfl, rfl, rfl⟩ : a0 = b0 ∧ a1 = b1 ∧ a2 = b2 ∧ a3 = b3 := by simpa using Option.some.inj (hqa.symm.trans hy)
                  have hmi : (m : Int) < (nq : Int) := by omega
                  clear hx hm hwant hqa hy
                  have cx' := cx
                  obtain ⟨q0, q1, q2, q3⟩ := cx'
                  have F5 := neqX
                  have F8 := geqI hmq
                  go_wp2_with fail
                  (try simp only [List.append_eq, List.cons_append, List.nil_append])
                  refine wp_region_mix [(0, false), (1, false), (2, false), (3, false), (4, false), (5, false), (6, false), (7, false), (8, false), (9, false), (10, false), (11, false), (12, false), (13, false), (14, false), (15, false), (16, false)] (fun u => (At u (w6.heap.size) 35 #[.int .i64 0, .slice (some ⟨g', o', none⟩) nq cq]) ∧ S4 u g (o + k * 4) a0 a1 a2 a3 ∧ S4 u g' (o' + m * 4) a0 a1 a2 a3) (by kernel_rfl) (by kernel_rfl) (fun _ _ _ _ _ h => h) ⟨bqr.drew, cx.drew, cy.drew⟩ ?_
                  simp only [mixOps, List.map_cons, List.map_nil, List.getElem?_cons_succ, List.getElem?_cons_zero, Option.getD_some]
                  iterate 4 (first
                    | (refine mix_skip (by rfl) ?_
                       (try simp only [Act.put, List.setIfInBounds_toArray, List.set_cons_zero, List.set_cons_succ]))
                    | (refine mix_pure (v := ?_) (by rfl) (fun u hu => ?_) ?_
                       rotate_left
                       · obtain ⟨y0, y1, y2⟩ := hu
                         obtain ⟨_, _, _, _⟩ := y0.two
                         obtain ⟨_, _, _, _⟩ := y1
                         obtain ⟨_, _, _, _⟩ := y2
                         go_simp
                         (with_reducible rfl)
                       (try simp only [Act.put, List.setIfInBounds_toArray, List.set_cons_zero, List.set_cons_succ])))
                  refine mix_pure (v := .bool false) (by rfl) (fun u _ => by go_simp) ?_
                  (try simp only [Act.put, List.setIfInBounds_toArray, List.set_cons_zero, List.set_cons_succ])
                  repeat (first
                    | (refine mix_skip (by rfl) ?_
                       (try simp only [Act.put, List.setIfInBounds_toArray, List.set_cons_zero, List.set_cons_succ]))
                    | (refine mix_pure (v := ?_) (by rfl) (fun u hu => ?_) ?_
                       rotate_left
                       · obtain ⟨y0, y1, y2⟩ := hu
                         obtain ⟨_, _, _, _⟩ := y0.two
                         obtain ⟨_, _, _, _⟩ := y1
                         obtain ⟨_, _, _, _⟩ := y2
                         go_simp
                         (with_reducible rfl)
                       (try simp only [Act.put, List.setIfInBounds_toArray, List.set_cons_zero, List.set_cons_succ])))
                  refine mix_nil ?_
                  go_wp2
                  exact ⟨⟨k + 1, by omega, by go_num, by rw [Hw.out, List.length_append, Hmm.out]; simp, hbel.drew⟩, by simp [intOf]; omega⟩
                · obtain rfl : k = nt := by omega
                  have hfin : ((queryM (tt.take k) se fr til).length : Int) = (nq : Int) := by rw [List.take_of_length_le (by rw [Ht.out]; exact Nat.le_refl _), ← Hql.out, Hq.out]
                  rw [hfin]
                  obtain ⟨q0, q1, _, _⟩ := bqr.two
                  clear hfin hmk
                  go_wp2
                  go_ret
                  exact ⟨rfl, hBr⟩
          · as_aux_lemma =>
              have hnq : (qc != 0) = true := by rw [bne_iff_ne]; exact hc
              have hnil := query_fault_nil HQ.out hc
              obtain rfl : nq = 0 := by rw [← Hq.out, hnil]; rfl
              clear hc hnil
              obtain ⟨bqc0, bqc1, _, _⟩ := bq_29.two
              go_wp2
              go_ret
              exact ⟨rfl, hB_29⟩
      · as_aux_lemma =>
          obtain ⟨rfl, rfl, rfl, rfl⟩ := HN.out rfl
          have F3 := fldF0
          have F4 := fldF1
          have F5 := neqX
          go_wp2_with fail
          (try simp only [List.append_eq, List.cons_append, List.nil_append])
          refine wp_region_mix [(0, false), (1, false), (2, true), (3, false), (4, false), (5, false), (6, false), (7, false), (8, false), (9, false), (10, false), (11, false), (12, false), (13, true), (14, false), (15, false), (16, false), (17, false), (18, false), (19, false), (20, true), (21, false), (22, false), (23, false), (24, false), (25, false), (26, false), (27, false), (28, false), (29, false), (30, false), (33, false), (31, true), (32, false), (34, false), (35, false), (36, false)] (fun u => (At u (w1.heap.size) 26 #[.int .i64 x0, .int .i64 x1, .int .i64 x2, .int .i64 x3]) ∧ (At u (w3.heap.size) 30 #[.int .i64 0, .bool true, .slice Ap np cp]) ∧ (At u (w25.heap.size) 30 #[.int .i64 0, .bool false, .slice A2 n2 c2])) (by kernel_rfl) (by kernel_rfl) (fun _ _ _ _ _ h => h) ⟨bx_26.drew, bp_26.drew, bg.drew⟩ ?_
          simp only [mixOps, List.map_cons, List.map_nil, List.getElem?_cons_succ, List.getElem?_cons_zero, Option.getD_some]
          repeat (first
            | (refine mix_skip (by rfl) ?_
               (try simp only [Act.put, List.setIfInBounds_toArray, List.set_cons_zero, List.set_cons_succ]))
            | (refine mix_pure (v := ?_) (by rfl) (fun u hu => ?_) ?_
               rotate_left
               · obtain ⟨y0, y1, y2⟩ := hu
                 obtain ⟨_, _, _, _, _, _, _, _⟩ := y0.four
                 obtain ⟨_, _, _, _, _, _⟩ := y1.three
                 obtain ⟨_, _, _, _, _, _⟩ := y2.three
                 go_simp
                 (with_reducible rfl)
               (try simp only [Act.put, List.setIfInBounds_toArray, List.set_cons_zero, List.set_cons_succ])))
          refine mix_call (by rfl) (fun K hK => ?_)
          go_simp
          refine (HSF.out _ (rp_26.drewN 1) hF_26).mono ?_
          rintro e w27 ⟨rfl, hb27⟩
          have hb27 := undrew hb27
          have bx_27 := bx_26.below hb27 bx_26.lt
          have bp_27 := bp_26.below hb27 bp_26.lt
          have bq_27 := bq_26.below hb27 bq_26.lt
          have bg_27 := bg.below hb27 bg.lt
          have rp_27 := rp_26.lift hb27
          have rt_27 := rt_26.lift hb27
          have rq_27 := rq_26.lift hb27
          have v2_27 := v2_26.lift hb27
          have hF_27 := hF_26.below hb27
          have hB_27 := hB_26.trans (hb27.mono hB_26.size)
          clear hb27 hB_26 hF_26 v2_26 rq_26 rt_26 rp_26 bg bq_26 bp_26 bx_26
          refine hK _ _ (fun u => (At u (w1.heap.size) 26 #[.int .i64 x0, .int .i64 x1, .int .i64 x2, .int .i64 x3]) ∧ (At u (w3.heap.size) 30 #[.int .i64 0, .bool true, .slice Ap np cp]) ∧ (At u (w25.heap.size) 30 #[.int .i64 0, .bool false, .slice A2 n2 c2])) (fun _ h => h) ⟨bx_27, bp_27, bg_27⟩ ?_
          clear hK K
          (try simp only [Act.put, List.setIfInBounds_toArray, List.set_cons_zero, List.set_cons_succ])
          repeat (first
            | (refine mix_skip (by rfl) ?_
               (try simp only [Act.put, List.setIfInBounds_toArray, List.set_cons_zero, List.set_cons_succ]))
            | (refine mix_pure (v := ?_) (by rfl) (fun u hu => ?_) ?_
               rotate_left
               · obtain ⟨y0, y1, y2⟩ := hu
                 obtain ⟨_, _, _, _, _, _, _, _⟩ := y0.four
                 obtain ⟨_, _, _, _, _, _⟩ := y1.three
                 obtain ⟨_, _, _, _, _, _⟩ := y2.three
                 go_simp
                 (with_reducible rfl)
               (try simp only [Act.put, List.setIfInBounds_toArray, List.set_cons_zero, List.set_cons_succ])))
          refine mix_call (by rfl) (fun K hK => ?_)
          go_simp
          refine (implSameSamples A2 Ap n2 np c2 cp pl pl _ v2_27 rp_27 hv2 Hp.out (by have := insert_small HP.out hns Hs.out; have := Hp.out; unfold maxLen; omega)).mono ?_
          rintro e w28 ⟨rfl, hb28⟩
          have bx_28 := bx_27.below hb28 bx_27.lt
          have bp_28 := bp_27.below hb28 bp_27.lt
          have bq_28 := bq_27.below hb28 bq_27.lt
          have bg_28 := bg_27.below hb28 bg_27.lt
          have rp_28 := rp_27.lift hb28
          have rt_28 := rt_27.lift hb28
          have rq_28 := rq_27.lift hb28
          have v2_28 := v2_27.lift hb28
          have hF_28 := hF_27.below hb28
          have hB_28 := hB_27.trans (hb28.mono hB_27.size)
          clear hb28 hB_27 hF_27 v2_27 rq_27 rt_27 rp_27 bg_27 bq_27 bp_27 bx_27
          rw [show decide (pl = pl) = true from decide_eq_true rfl]
          refine hK _ _ (fun u => (At u (w1.heap.size) 26 #[.int .i64 x0, .int .i64 x1, .int .i64 x2, .int .i64 x3]) ∧ (At u (w3.heap.size) 30 #[.int .i64 0, .bool true, .slice Ap np cp]) ∧ (At u (w25.heap.size) 30 #[.int .i64 0, .bool false, .slice A2 n2 c2])) (fun _ h => h) ⟨bx_28, bp_28, bg_28⟩ ?_
          clear hK K
          (try simp only [Act.put, List.setIfInBounds_toArray, List.set_cons_zero, List.set_cons_succ])
          repeat (first
            | (refine mix_skip (by rfl) ?_
               (try simp only [Act.put, List.setIfInBounds_toArray, List.set_cons_zero, List.set_cons_succ]))
            | (refine mix_pure (v := ?_) (by rfl) (fun u hu => ?_) ?_
               rotate_left
               · obtain ⟨y0, y1, y2⟩ := hu
                 obtain ⟨_, _, _, _, _, _, _, _⟩ := y0.four
                 obtain ⟨_, _, _, _, _, _⟩ := y1.three
                 obtain ⟨_, _, _, _, _, _⟩ := y2.three
                 go_simp
                 (with_reducible rfl)
               (try simp only [Act.put, List.setIfInBounds_toArray, List.set_cons_zero, List.set_cons_succ])))
          refine mix_call (by rfl) (fun K hK => ?_)
          go_simp
          refine (HFS.out _ rp_28 hF_28).mono ?_
          rintro e w29 ⟨rfl, hb29⟩
          have bx_29 := bx_28.below hb29 bx_28.lt
          have bp_29 := bp_28.below hb29 bp_28.lt
          have bq_29 := bq_28.below hb29 bq_28.lt
          have bg_29 := bg_28.below hb29 bg_28.lt
          have rp_29 := rp_28.lift hb29
          have rt_29 := rt_28.lift hb29
          have rq_29 := rq_28.lift hb29
          have v2_29 := v2_28.lift hb29
          have hF_29 := hF_28.below hb29
          have hB_29 := hB_28.trans (hb29.mono hB_28.size)
          clear hb29 hB_28 hF_28 v2_28 rq_28 rt_28 rp_28 bg_28 bq_28 bp_28 bx_28
          refine hK _ _ (fun u => (At u (w1.heap.size) 26 #[.int .i64 x0, .int .i64 x1, .int .i64 x2, .int .i64 x3]) ∧ (At u (w3.heap.size) 30 #[.int .i64 0, .bool true, .slice Ap np cp]) ∧ (At u (w25.heap.size) 30 #[.int .i64 0, .bool false, .slice A2 n2 c2])) (fun _ h => h) ⟨bx_29, bp_29, bg_29⟩ ?_
          clear hK K
          (try simp only [Act.put, List.setIfInBounds_toArray, List.set_cons_zero, List.set_cons_succ])
          repeat (first
            | (refine mix_skip (by rfl) ?_
               (try simp only [Act.put, List.setIfInBounds_toArray, List.set_cons_zero, List.set_cons_succ]))
            | (refine mix_pure (v := ?_) (by rfl) (fun u hu => ?_) ?_
               rotate_left
               · obtain ⟨y0, y1, y2⟩ := hu
                 obtain ⟨_, _, _, _, _, _, _, _⟩ := y0.four
                 obtain ⟨_, _, _, _, _, _⟩ := y1.three
                 obtain ⟨_, _, _, _, _, _⟩ := y2.three
                 go_simp
                 (with_reducible rfl)
               (try simp only [Act.put, List.setIfInBounds_toArray, List.set_cons_zero, List.set_cons_succ])))
          refine mix_call (by rfl) (fun K hK => ?_)
          go_simp
          refine (HFS.out _ rp_29 hF_29).mono ?_
          rintro e w30 ⟨rfl, hb30⟩
          have bx_30 := bx_29.below hb30 bx_29.lt
          have bp_30 := bp_29.below hb30 bp_29.lt
          have bq_30 := bq_29.below hb30 bq_29.lt
          have bg_30 := bg_29.below hb30 bg_29.lt
          have rp_30 := rp_29.lift hb30
          have rt_30 := rt_29.lift hb30
          have rq_30 := rq_29.lift hb30
          have v2_30 := v2_29.lift hb30
          have hF_30 := hF_29.below hb30
          have hB_30 := hB_29.trans (hb30.mono hB_29.size)
          clear hb30 hB_29 hF_29 v2_29 rq_29 rt_29 rp_29 bg_29 bq_29 bp_29 bx_29
          refine hK _ _ (fun u => (At u (w1.heap.size) 26 #[.int .i64 x0, .int .i64 x1, .int .i64 x2, .int .i64 x3]) ∧ (At u (w3.heap.size) 30 #[.int .i64 0, .bool true, .slice Ap np cp]) ∧ (At u (w25.heap.size) 30 #[.int .i64 0, .bool false, .slice A2 n2 c2])) (fun _ h => h) ⟨bx_30, bp_30, bg_30⟩ ?_
          clear hK K
          (try simp only [Act.put, List.setIfInBounds_toArray, List.set_cons_zero, List.set_cons_succ])
          repeat (first
            | (refine mix_skip (by rfl) ?_
               (try simp only [Act.put, List.setIfInBounds_toArray, List.set_cons_zero, List.set_cons_succ]))
            | (refine mix_pure (v := ?_) (by rfl) (fun u hu => ?_) ?_
               rotate_left
               · obtain ⟨y0, y1, y2⟩ := hu
                 obtain ⟨_, _, _, _, _, _, _, _⟩ := y0.four
                 obtain ⟨_, _, _, _, _, _⟩ := y1.three
                 obtain ⟨_, _, _, _, _, _⟩ := y2.three
                 go_simp
                 (with_reducible rfl)
               (try simp only [Act.put, List.setIfInBounds_toArray, List.set_cons_zero, List.set_cons_succ])))
          refine mix_nil ?_
          clear HSF HFS HN F3 F4 F5
          by_cases hc : qc = 0
          · as_aux_lemma =>
              subst hc
              have hql := query_fine HQ.out
              have Hql := Lib.hid hql
              clear hql
              obtain ⟨bqc0, bqc1, _, _⟩ := bq_30.two
              go_wp2
              go_loopw [17, 18] (fun nv iv wr => ∃ k : Nat, k ≤ nt ∧ iv = .int .i64 k ∧ nv = .int .i64 ((queryM (tt.take k) se fr til).length : Int) ∧ Below w30.heap.size w30 wr) (fun _ i _ => nt - (intOf i).toNat)
              case atStart => exact ⟨0, Nat.zero_le _, rfl, rfl, Below.refl _ _⟩
              case round =>
                obtain ⟨k, hk, rfl, rfl, hbel⟩ := hrel
                have bqr := bq_30.below hbel bq_30.lt
                have rtr := rt_30.lift hbel
                have rqr := rq_30.lift hbel
                have hBr := hB_30.trans (hbel.mono hB_30.size)
                clear bqc0 bqc1
                have hmk := query_len tt k se fr til
                by_cases hlt : k < nt
                · obtain ⟨g, o, a0, a1, a2, a3, rfl, hg, hx, cx⟩ := rtr.smp (k := k) (by rw [Ht.out]; exact hlt)
                  by_cases hs : a0 = se
                  rotate_left
                  · have he : (a0 == se) = false := by simpa using hs
                    have Hw := Lib.hid (query_miss (s := se) (f := fr) (t := til) hx (want_no hs))
                    clear hs
                    obtain ⟨q0, q1, q2, q3⟩ := cx
                    generalize hm : (queryM (tt.take k) se fr til).length = m at *
                    have Hmm := Lib.hid hm
                    clear hx hm
                    go_wp2
                    exact ⟨⟨k + 1, by omega, by go_num, by rw [Hw.out, Hmm.out], hbel⟩, by simp [intOf]; omega⟩
                  subst hs
                  by_cases h1 : fr ≤ a1
                  rotate_left
                  · have h1' : a1 < fr := by omega
                    have Hw := Lib.hid (query_miss (s := a0) (f := fr) (t := til) hx (by rw [want_is]; simp [inB]; omega))
                    obtain ⟨q0, q1, q2, q3⟩ := cx
                    generalize hm : (queryM (tt.take k) a0 fr til).length = m at *
                    have Hmm := Lib.hid hm
                    clear hx hm
                    go_wp2
                    exact ⟨⟨k + 1, by omega, by go_num, by rw [Hw.out, Hmm.out], hbel⟩, by simp [intOf]; omega⟩
                  by_cases h2 : a1 ≤ til
                  rotate_left
                  · have h2' : til < a1 := by omega
                    have Hw := Lib.hid (query_miss (s := a0) (f := fr) (t := til) hx (by rw [want_is]; simp [inB]; omega))
                    obtain ⟨q0, q1, q2, q3⟩ := cx
                    generalize hm : (queryM (tt.take k) a0 fr til).length = m at *
                    have Hmm := Lib.hid hm
                    clear hx hm
                    go_wp2
                    exact ⟨⟨k + 1, by omega, by go_num, by rw [Hw.out, Hmm.out], hbel⟩, by simp [intOf]; omega⟩
                  have hwant : wantM a0 fr til (a0, a1, a2, a3) = true := by rw [want_is]; simp [inB]; omega
                  have Hw := Lib.hid (query_hit (s := a0) (f := fr) (t := til) hx hwant)
                  have hqa := query_at a0 fr til hx hwant
                  rw [← Hql.out] at hqa
                  obtain ⟨m, hm⟩ : ∃ m, (queryM (tt.take k) a0 fr til).length = m := ⟨_, rfl⟩
                  rw [hm] at hqa
                  simp only [hm] at hmk ⊢
                  have Hmm := Lib.hid hm
                  have hmq : m < nq := by have := getElem?_some_lt hqa; have := Hq.out; omega
                  obtain ⟨g', o', b0, b1, b2, b3, rfl, hg', hy, cy⟩ := rqr.smp (k := m) (by rw [Hq.out]; exact hmq)
                  obtain ⟨rfl, rfl, rfl, rfl⟩ : a0 = b0 ∧ a1 = b1 ∧ a2 = b2 ∧ a3 = b3 := by simpa using Option.some.inj (hqa.symm.trans hy)
                  have hmi : (m : Int) < (nq : Int) := by omega
                  clear hx hm hwant hqa hy
                  have cx' := cx
                  obtain ⟨q0, q1, q2, q3⟩ := cx'
                  have F5 := neqX
                  have F8 := geqI hmq
                  go_wp2_with fail
                  (try simp only [List.append_eq, List.cons_append, List.nil_append])
                  refine wp_region_mix [(0, false), (1, false), (2, false), (3, false), (4, false), (5, false), (6, false), (7, false), (8, false), (9, false), (10, false), (11, false), (12, false), (13, false), (14, false), (15, false), (16, false)] (fun u => (At u (w6.heap.size) 35 #[.int .i64 0, .slice (some ⟨g', o', none⟩) nq cq]) ∧ S4 u g (o + k * 4) a0 a1 a2 a3 ∧ S4 u g' (o' + m * 4) a0 a1 a2 a3) (by kernel_rfl) (by kernel_rfl) (fun _ _ _ _ _ h => h) ⟨bqr.drew, cx.drew, cy.drew⟩ ?_
                  simp only [mixOps, List.map_cons, List.map_nil, List.getElem?_cons_succ, List.getElem?_cons_zero, Option.getD_some]
                  iterate 4 (first
                    | (refine mix_skip (by rfl) ?_
                       (try simp only [Act.put, List.setIfInBounds_toArray, List.set_cons_zero, List.set_cons_succ]))
                    | (refine mix_pure (v := ?_) (by rfl) (fun u hu => ?_) ?_
                       rotate_left
                       · obtain ⟨y0, y1, y2⟩ := hu
                         obtain ⟨_, _, _, _⟩ := y0.two
                         obtain ⟨_, _, _, _⟩ := y1
                         obtain ⟨_, _, _, _⟩ := y2
                         go_simp
                         (with_reducible rfl)
                       (try simp only [Act.put, List.setIfInBounds_toArray, List.set_cons_zero, List.set_cons_succ])))
                  refine mix_pure (v := .bool false) (by rfl) (fun u _ => by go_simp) ?_
                  (try simp only [Act.put, List.setIfInBounds_toArray, List.set_cons_zero, List.set_cons_succ])
                  repeat (first
                    | (refine mix_skip (by rfl) ?_
                       (try simp only [Act.put, List.setIfInBounds_toArray, List.set_cons_zero, List.set_cons_succ]))
                    | (refine mix_pure (v := ?_) (by rfl) (fun u hu => ?_) ?_
                       rotate_left
                       · obtain ⟨y0, y1, y2⟩ := hu
                         obtain ⟨_, _, _, _⟩ := y0.two
                         obtain ⟨_, _, _, _⟩ := y1
                         obtain ⟨_, _, _, _⟩ := y2
                         go_simp
                         (with_reducible rfl)
                       (try simp only [Act.put, List.setIfInBounds_toArray, List.set_cons_zero, List.set_cons_succ])))
                  refine mix_nil ?_
                  go_wp2
                  exact ⟨⟨k + 1, by omega, by go_num, by rw [Hw.out, List.length_append, Hmm.out]; simp, hbel.drew⟩, by simp [intOf]; omega⟩
                · obtain rfl : k = nt := by omega
                  have hfin : ((queryM (tt.take k) se fr til).length : Int) = (nq : Int) := by rw [List.take_of_length_le (by rw [Ht.out]; exact Nat.le_refl _), ← Hql.out, Hq.out]
                  rw [hfin]
                  obtain ⟨q0, q1, _, _⟩ := bqr.two
                  clear hfin hmk
                  go_wp2
                  go_ret
                  exact ⟨rfl, hBr⟩
          · as_aux_lemma =>
              have hnq : (qc != 0) = true := by rw [bne_iff_ne]; exact hc
              have hnil := query_fault_nil HQ.out hc
              obtain rfl : nq = 0 := by rw [← Hq.out, hnil]; rfl
              clear hc hnil
              obtain ⟨bqc0, bqc1, _, _⟩ := bq_30.two
              go_wp2
              go_ret
              exact ⟨rfl, hB_30⟩
  · as_aux_lemma =>
      have hne : (pc == 0) = false := by simpa using hc
      clear hc
      obtain ⟨bpc0, bpc1, bpc2, _, _, _⟩ := bp_24.three
      by_cases hc : qc = 0
      · as_aux_lemma =>
          subst hc
          have hql := query_fine HQ.out
          have Hql := Lib.hid hql
          clear hql
          obtain ⟨bqc0, bqc1, _, _⟩ := bq_24.two
          go_wp2
          go_loopw [17, 18] (fun nv iv wr => ∃ k : Nat, k ≤ nt ∧ iv = .int .i64 k ∧ nv = .int .i64 ((queryM (tt.take k) se fr til).length : Int) ∧ Below w24.heap.size w24 wr) (fun _ i _ => nt - (intOf i).toNat)
          case atStart => exact ⟨0, Nat.zero_le _, rfl, rfl, Below.refl _ _⟩
          case round =>
            obtain ⟨k, hk, rfl, rfl, hbel⟩ := hrel
            have bqr := bq_24.below hbel bq_24.lt
            have rtr := rt_24.lift hbel
            have rqr := rq_24.lift hbel
            have hBr := hB_24.trans (hbel.mono hB_24.size)
            clear bpc0 bpc1 bpc2 bqc0 bqc1
            have hmk := query_len tt k se fr til
            by_cases hlt : k < nt
            · obtain ⟨g, o, a0, a1, a2, a3, rfl, hg, hx, cx⟩ := rtr.smp (k := k) (by rw [Ht.out]; exact hlt)
              by_cases hs : a0 = se
              rotate_left
              · have he : (a0 == se) = false := by simpa using hs
                have Hw := Lib.hid (query_miss (s := se) (f := fr) (t := til) hx (want_no hs))
                clear hs
                obtain ⟨q0, q1, q2, q3⟩ := cx
                generalize hm : (queryM (tt.take k) se fr til).length = m at *
                have Hmm := Lib.hid hm
                clear hx hm
                go_wp2
                exact ⟨⟨k + 1, by omega, by go_num, by rw [Hw.out, Hmm.out], hbel⟩, by simp [intOf]; omega⟩
              subst hs
              by_cases h1 : fr ≤ a1
              rotate_left
              · have h1' : a1 < fr := by omega
                have Hw := Lib.hid (query_miss (s := a0) (f := fr) (t := til) hx (by rw [want_is]; simp [inB]; omega))
                obtain ⟨q0, q1, q2, q3⟩ := cx
                generalize hm : (queryM (tt.take k) a0 fr til).length = m at *
                have Hmm := Lib.hid hm
                clear hx hm
                go_wp2
                exact ⟨⟨k + 1, by omega, by go_num, by rw [Hw.out, Hmm.out], hbel⟩, by simp [intOf]; omega⟩
              by_cases h2 : a1 ≤ til
              rotate_left
              · have h2' : til < a1 := by omega
                have Hw := Lib.hid (query_miss (s := a0) (f := fr) (t := til) hx (by rw [want_is]; simp [inB]; omega))
                obtain ⟨q0, q1, q2, q3⟩ := cx
                generalize hm : (queryM (tt.take k) a0 fr til).length = m at *
                have Hmm := Lib.hid hm
                clear hx hm
                go_wp2
                exact ⟨⟨k + 1, by omega, by go_num, by rw [Hw.out, Hmm.out], hbel⟩, by simp [intOf]; omega⟩
              have hwant : wantM a0 fr til (a0, a1, a2, a3) = true := by rw [want_is]; simp [inB]; omega
              have Hw := Lib.hid (query_hit (s := a0) (f := fr) (t := til) hx hwant)
              have hqa := query_at a0 fr til hx hwant
              rw [← Hql.out] at hqa
              obtain ⟨m, hm⟩ : ∃ m, (queryM (tt.take k) a0 fr til).length = m := ⟨_, rfl⟩
              rw [hm] at hqa
              simp only [hm] at hmk ⊢
              have Hmm := Lib.hid hm
              have hmq : m < nq := by have := getElem?_some_lt hqa; have := Hq.out; omega
              obtain ⟨g', o', b0, b1, b2, b3, rfl, hg', hy, cy⟩ := rqr.smp (k := m) (by rw [Hq.out]; exact hmq)
              obtain ⟨rfl, rfl, rfl, rfl⟩ : a0 = b0 ∧ a1 = b1 ∧ a2 = b2 ∧ a3 = b3 := by simpa using Option.some.inj (hqa.symm.trans hy)
              have hmi : (m : Int) < (nq : Int) := by omega
              clear hx hm hwant hqa hy
              have cx' := cx
              obtain ⟨q0, q1, q2, q3⟩ := cx'
              have F5 := neqX
              have F8 := geqI hmq
              go_wp2_with fail
              (try simp only [List.append_eq, List.cons_append, List.nil_append])
              refine wp_region_mix [(0, false), (1, false), (2, false), (3, false), (4, false), (5, false), (6, false), (7, false), (8, false), (9, false), (10, false), (11, false), (12, false), (13, false), (14, false), (15, false), (16, false)] (fun u => (At u (w6.heap.size) 35 #[.int .i64 0, .slice (some ⟨g', o', none⟩) nq cq]) ∧ S4 u g (o + k * 4) a0 a1 a2 a3 ∧ S4 u g' (o' + m * 4) a0 a1 a2 a3) (by kernel_rfl) (by kernel_rfl) (fun _ _ _ _ _ h => h) ⟨bqr.drew, cx.drew, cy.drew⟩ ?_
              simp only [mixOps, List.map_cons, List.map_nil, List.getElem?_cons_succ, List.getElem?_cons_zero, Option.getD_some]
              iterate 4 (first
                | (refine mix_skip (by rfl) ?_
                   (try simp only [Act.put, List.setIfInBounds_toArray, List.set_cons_zero, List.set_cons_succ]))
                | (refine mix_pure (v := ?_) (by rfl) (fun u hu => ?_) ?_
                   rotate_left
                   · obtain ⟨y0, y1, y2⟩ := hu
                     obtain ⟨_, _, _, _⟩ := y0.two
                     obtain ⟨_, _, _, _⟩ := y1
                     obtain ⟨_, _, _, _⟩ := y2
                     go_simp
                     (with_reducible rfl)
                   (try simp only [Act.put, List.setIfInBounds_toArray, List.set_cons_zero, List.set_cons_succ])))
              refine mix_pure (v := .bool false) (by rfl) (fun u _ => by go_simp) ?_
              (try simp only [Act.put, List.setIfInBounds_toArray, List.set_cons_zero, List.set_cons_succ])
              repeat (first
                | (refine mix_skip (by rfl) ?_
                   (try simp only [Act.put, List.setIfInBounds_toArray, List.set_cons_zero, List.set_cons_succ]))
                | (refine mix_pure (v := ?_) (by rfl) (fun u hu => ?_) ?_
                   rotate_left
                   · obtain ⟨y0, y1, y2⟩ := hu
                     obtain ⟨_, _, _, _⟩ := y0.two
                     obtain ⟨_, _, _, _⟩ := y1
                     obtain ⟨_, _, _, _⟩ := y2
                     go_simp
                     (with_reducible rfl)
                   (try simp only [Act.put, List.setIfInBounds_toArray, List.set_cons_zero, List.set_cons_succ])))
              refine mix_nil ?_
              go_wp2
              exact ⟨⟨k + 1, by omega, by go_num, by rw [Hw.out, List.length_append, Hmm.out]; simp, hbel.drew⟩, by simp [intOf]; omega⟩
            · obtain rfl : k = nt := by omega
              have hfin : ((queryM (tt.take k) se fr til).length : Int) = (nq : Int) := by rw [List.take_of_length_le (by rw [Ht.out]; exact Nat.le_refl _), ← Hql.out, Hq.out]
              rw [hfin]
              obtain ⟨q0, q1, _, _⟩ := bqr.two
              clear hfin hmk
              go_wp2
              go_ret
              exact ⟨rfl, hBr⟩
      · as_aux_lemma =>
          have hnq : (qc != 0) = true := by rw [bne_iff_ne]; exact hc
          have hnil := query_fault_nil HQ.out hc
          obtain rfl : nq = 0 := by rw [← Hq.out, hnil]; rfl
          clear hc hnil
          obtain ⟨bqc0, bqc1, _, _⟩ := bq_24.two
          go_wp2
          go_ret
          exact ⟨rfl, hB_24⟩
end Go.Proofs.YtkgbjlbhlhdhbaaDoor
