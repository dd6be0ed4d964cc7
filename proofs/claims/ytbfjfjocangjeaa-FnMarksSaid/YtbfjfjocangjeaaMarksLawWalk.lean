/-
  The law of marks: the walk.
-/
import Derived.Test.YtbfjfjocangjeaaDrawMg
import Derived.Test.YtbfjfjocangjeaaMgP
import Derived.Deep.DeepCutAuto
namespace Go.Proofs.Ytbfjfjocangjeaa
set_option maxRecDepth 20000
open Go.RowKit
set_option linter.unusedSimpArgs false
set_option linter.unusedVariables false
attribute [local irreducible] mixW

theorem lwBig_noMk (A : Option Addr) (n c : Nat) (w : World) (h : ¬ 1048576 < n) :
    Calls Try.prog 16 #[.slice A n c] w fun e w' => e = .returned (.bool false) ∧ w = w' := by
  have hd : decide ((1048576 : Int) < (n : Int)) = false := decide_eq_false (by omega)
  go_enter Try.func16, Try.ntmps16
  go_wp2
  go_ret
  exact ⟨rfl, rfl⟩
theorem neqMkT (a b : Int) (u : World) : (binOp .neq 25 (.agg #[.int .i64 a, .int .i64 b]) (.agg #[.int .i64 a, .int .i64 b])).run Try.prog u = .ok (.bool false) u := by
  go_simp
theorem fldM0 (z : Int) (A : Option Addr) (k c : Nat) (u : World) : (Instr.field 50 (.agg #[.int .i64 z, .slice A k c]) 0).run Try.prog u = .ok (.int .i64 z) u := by kernel_rfl
theorem fldM1 (z : Int) (A : Option Addr) (k c : Nat) (u : World) : (Instr.field 50 (.agg #[.int .i64 z, .slice A k c]) 1).run Try.prog u = .ok (.slice A k c) u := by kernel_rfl
theorem mergeMk_code {a b m : List Mrk} {z : Int} (h : mergeMkM a b = (z, m)) (hz : z ≠ 0) : m = [] := by
  unfold mergeMkM at h
  by_cases h1 : 4 < a.length ∨ 4 < b.length ∨ a.length ≠ b.length
  · rw [if_pos h1] at h; exact (Prod.mk.inj h).2.symm
  rw [if_neg h1] at h
  by_cases h2 : marksFaultM a = 0
  rotate_left
  · rw [if_pos h2] at h; exact (Prod.mk.inj h).2.symm
  rw [if_neg (by simp [h2])] at h
  by_cases h3 : marksFaultM b = 0
  rotate_left
  · rw [if_pos h3] at h; exact (Prod.mk.inj h).2.symm
  rw [if_neg (by simp [h3])] at h
  exact absurd (Prod.mk.inj h).1.symm hz

set_option maxRecDepth 100000 in
set_option maxHeartbeats 16000000 in
theorem fnMarks_walk (X : Option Addr) (n c : Nat) (l : List UInt8) (w : World) (ha : Rd eB w w.heap.size X l) (hn : l.length = n) :
    Calls Try.prog 4 #[.slice X n c] w fun e w' => e = .returned (.bool true) ∧ Below w.heap.size w w' := by
  have Hn := Lib.hid hn
  clear hn
  by_cases hbig : 1048576 < n
  · go_enter Try.func4, Try.ntmps4
    go_wp2
    go_ret
    exact ⟨rfl, Below.refl _ _⟩
  have hm : n ≤ 1048576 := by omega
  go_enter Try.func4, Try.ntmps4
  go_wp2_with fail
  refine (lwBig_noMk X n c w hbig).mono ?_
  rintro e w0 ⟨rfl, rfl⟩
  clear hbig
  go_wp2_with fail
  refine (drawMergeMarks X n c l _ ha Hn.out hm).mono ?_
  rintro e w1 ⟨A1, n1, c1, xa, B1, n2, c2, xb, rfl, hn1, hn2, oa, ob, hb1⟩
  have ha_1 := ha.lift hb1
  have hB1 := hb1
  clear hb1 ha
  have ra := oa.rd okMk
  have rb := ob.rd okMk
  have la := oa.len okMk
  have lb := ob.len okMk
  clear oa ob
  rcases h1 : mergeMkM xa xb with ⟨z1, m1⟩
  rcases h2 : mergeMkM xb xa with ⟨z2, m2⟩
  have I1 := fun W h h' => implMergeMarks A1 B1 n1 n2 c1 c2 xa xb W h h' la lb
  rw [h1] at I1
  have S1 := fun W h h' => specMergeMarks A1 B1 n1 n2 c1 c2 xa xb W h h' la lb
  rw [h1] at S1
  have I2 := fun W h h' => implMergeMarks B1 A1 n2 n1 c2 c1 xb xa W h h' lb la
  rw [h2] at I2
  simp only [RetMk] at I1
  have I1 := Lib.hid I1
  simp only [RetMk] at S1
  have S1 := Lib.hid S1
  simp only [RetMk] at I2
  have I2 := Lib.hid I2
  have H1 := Lib.hid h1
  have H2 := Lib.hid h2
  have La := Lib.hid la
  clear h1 h2 lb la
  go_wp2_with fail
  refine (I1.out _ ra rb).mono ?_
  rintro e w2 ⟨M1, k1, d1, rfl, o5, hb2⟩
  have ra_2 := ra.lift hb2
  have rb_2 := rb.lift hb2
  have hB2 := hB1.trans (hb2.mono hB1.size)
  clear hb2 hB1 rb ra
  have r5 := o5.rd okMk
  have l5 := o5.len okMk
  clear o5 I1
  have hb3 : Below w2.heap.size w2 (w2.alloc (.cells #[.int .i64 z1, .slice M1 k1 d1] 50)) := (Below.refl _ _).alloc (Nat.le_refl _) _
  have t5 := At.new w2 50 #[.int .i64 z1, .slice M1 k1 d1]
  have ra_3 := ra_2.lift hb3
  have rb_3 := rb_2.lift hb3
  have r5_3 := r5.lift hb3
  have hB3 := hB2.trans (hb3.mono hB2.size)
  clear hb3 hB2 r5 rb_2 ra_2
  go_wp2_with fail
  refine (I2.out _ rb_3 ra_3).mono ?_
  rintro e w4 ⟨M2, k2, d2, rfl, o6, hb4⟩
  have t5_4 := t5.below hb4 t5.lt
  have ra_4 := ra_3.lift hb4
  have rb_4 := rb_3.lift hb4
  have r5_4 := r5_3.lift hb4
  have hB4 := hB3.trans (hb4.mono hB3.size)
  clear hb4 hB3 r5_3 rb_3 ra_3 t5
  have r6 := o6.rd okMk
  have l6 := o6.len okMk
  clear o6 I2
  have hb5 : Below w4.heap.size w4 (w4.alloc (.cells #[.int .i64 z2, .slice M2 k2 d2] 50)) := (Below.refl _ _).alloc (Nat.le_refl _) _
  have t6 := At.new w4 50 #[.int .i64 z2, .slice M2 k2 d2]
  have t5_5 := t5_4.below hb5 t5_4.lt
  have ra_5 := ra_4.lift hb5
  have rb_5 := rb_4.lift hb5
  have r5_5 := r5_4.lift hb5
  have r6_5 := r6.lift hb5
  have hB5 := hB4.trans (hb5.mono hB4.size)
  clear hb5 hB4 r6 r5_4 rb_4 ra_4 t5_4
  have L5 := Lib.hid l5
  have L6 := Lib.hid l6
  clear l5 l6
  go_wp2_with fail
  have hb6 : Below (w4.alloc (.cells #[.int .i64 z2, .slice M2 k2 d2] 50)).heap.size (w4.alloc (.cells #[.int .i64 z2, .slice M2 k2 d2] 50)) (w4.alloc (.cells #[.int .i64 z2, .slice M2 k2 d2] 50)).drew := (Below.refl _ _).drew
  have t5_6 := t5_5.below hb6 t5_5.lt
  have t6_6 := t6.below hb6 t6.lt
  have ra_6 := ra_5.lift hb6
  have rb_6 := rb_5.lift hb6
  have r5_6 := r5_5.lift hb6
  have r6_6 := r6_5.lift hb6
  have hB6 := hB5.trans (hb6.mono hB5.size)
  clear hb6 hB5 r6_5 r5_5 rb_5 ra_5 t6 t5_5
  have F0 := fldM0
  have F1 := fldM1
  refine wp_region_mix [(0, false), (1, false), (2, false), (3, false), (4, true), (5, false), (6, false), (7, false), (8, false), (9, false), (10, false), (11, false), (12, false), (13, true), (14, false), (15, false), (16, false), (17, false)] (fun u => At u (w2.heap.size) 50 #[.int .i64 z1, .slice M1 k1 d1]) (by kernel_rfl) (by kernel_rfl) (fun _ _ _ _ _ h => h) t5_6 ?_
  simp only [mixOps, List.map_cons, List.map_nil, List.getElem?_cons_succ, List.getElem?_cons_zero, Option.getD_some]
  repeat (first
    | (refine mix_skip (by rfl) ?_
       (try simp only [Act.put, List.setIfInBounds_toArray, List.set_cons_zero, List.set_cons_succ]))
    | (refine mix_pure (v := ?_) (by rfl) (fun u hu => ?_) ?_
       rotate_left
       · have y0 := hu
         obtain ⟨_, _, _, _⟩ := y0.two
         go_simp
         (with_reducible rfl)
       (try simp only [Act.put, List.setIfInBounds_toArray, List.set_cons_zero, List.set_cons_succ])))
  refine mix_call (by rfl) (fun K hK => ?_)
  go_simp
  refine (S1.out _ ra_6 rb_6).mono ?_
  rintro e w7 ⟨As, ks, cs, rfl, -, hb7⟩
  have t5_7 := t5_6.below hb7 t5_6.lt
  have t6_7 := t6_6.below hb7 t6_6.lt
  have ra_7 := ra_6.lift hb7
  have rb_7 := rb_6.lift hb7
  have r5_7 := r5_6.lift hb7
  have r6_7 := r6_6.lift hb7
  have hB7 := hB6.trans (hb7.mono hB6.size)
  clear hb7 hB6 r6_6 r5_6 rb_6 ra_6 t6_6 t5_6
  refine hK _ _ (fun u => At u (w2.heap.size) 50 #[.int .i64 z1, .slice M1 k1 d1]) (fun _ h => h) t5_7 ?_
  clear hK K
  (try simp only [Act.put, List.setIfInBounds_toArray, List.set_cons_zero, List.set_cons_succ])
  repeat (first
    | (refine mix_skip (by rfl) ?_
       (try simp only [Act.put, List.setIfInBounds_toArray, List.set_cons_zero, List.set_cons_succ]))
    | (refine mix_pure (v := ?_) (by rfl) (fun u hu => ?_) ?_
       rotate_left
       · have y0 := hu
         obtain ⟨_, _, _, _⟩ := y0.two
         go_simp
         (with_reducible rfl)
       (try simp only [Act.put, List.setIfInBounds_toArray, List.set_cons_zero, List.set_cons_succ])))
  refine mix_call (by rfl) (fun K hK => ?_)
  go_simp
  refine (S1.out _ ra_7 rb_7).mono ?_
  rintro e w8 ⟨As', ks', cs', rfl, os, hb8⟩
  obtain rfl : k1 = ks' := by have := os.len okMk; rw [← L5.out, ← this]
  clear os
  have t5_8 := t5_7.below hb8 t5_7.lt
  have t6_8 := t6_7.below hb8 t6_7.lt
  have ra_8 := ra_7.lift hb8
  have rb_8 := rb_7.lift hb8
  have r5_8 := r5_7.lift hb8
  have r6_8 := r6_7.lift hb8
  have hB8 := hB7.trans (hb8.mono hB7.size)
  clear hb8 hB7 r6_7 r5_7 rb_7 ra_7 t6_7 t5_7
  refine hK _ _ (fun u => At u (w2.heap.size) 50 #[.int .i64 z1, .slice M1 k1 d1]) (fun _ h => h) t5_8 ?_
  clear hK K
  (try simp only [Act.put, List.setIfInBounds_toArray, List.set_cons_zero, List.set_cons_succ])
  repeat (first
    | (refine mix_skip (by rfl) ?_
       (try simp only [Act.put, List.setIfInBounds_toArray, List.set_cons_zero, List.set_cons_succ]))
    | (refine mix_pure (v := ?_) (by rfl) (fun u hu => ?_) ?_
       rotate_left
       · have y0 := hu
         obtain ⟨_, _, _, _⟩ := y0.two
         go_simp
         (with_reducible rfl)
       (try simp only [Act.put, List.setIfInBounds_toArray, List.set_cons_zero, List.set_cons_succ])))
  refine mix_nil ?_
  clear F0 F1
  by_cases hz : z1 = 0
  · subst hz
    obtain ⟨e1, e2, e3⟩ := marks_said H1.out
    obtain ⟨rfl, rfl⟩ : 0 = z2 ∧ m1 = m2 := by have := e1.symm.trans H2.out; exact ⟨(Prod.mk.inj this).1, (Prod.mk.inj this).2⟩
    obtain rfl : k1 = n1 := by rw [← L5.out, ← La.out]; exact e3
    obtain rfl : k1 = k2 := by rw [← L5.out]; exact L6.out
    have I3 := fun W h h' => implMergeMarks M1 A1 k1 k1 d1 c1 m1 xa W h h' L5.out La.out
    rw [e2] at I3
    simp only [RetMk] at I3
    have I3 := Lib.hid I3
    clear e1 e2 e3 H1 H2
    obtain ⟨t50, t51, _, _⟩ := t5_8.two
    go_wp2_with fail
    refine (I3.out _ r5_8 ra_8).mono ?_
    rintro e w9 ⟨M3, k3, d3, rfl, o7, hb9⟩
    have t5_9 := t5_8.below hb9 t5_8.lt
    have t6_9 := t6_8.below hb9 t6_8.lt
    have ra_9 := ra_8.lift hb9
    have rb_9 := rb_8.lift hb9
    have r5_9 := r5_8.lift hb9
    have r6_9 := r6_8.lift hb9
    have hB9 := hB8.trans (hb9.mono hB8.size)
    clear hb9 t50 t51 hB8 r6_8 r5_8 rb_8 ra_8 t6_8 t5_8
    have r7 := o7.rd okMk
    obtain rfl : k1 = k3 := by have := o7.len okMk; rw [← L5.out, ← this]
    clear o7 I3
    have hb10 : Below w9.heap.size w9 (w9.alloc (.cells #[.int .i64 0, .slice M3 k1 d3] 50)) := (Below.refl _ _).alloc (Nat.le_refl _) _
    have t7 := At.new w9 50 #[.int .i64 0, .slice M3 k1 d3]
    have t5_10 := t5_9.below hb10 t5_9.lt
    have t6_10 := t6_9.below hb10 t6_9.lt
    have ra_10 := ra_9.lift hb10
    have rb_10 := rb_9.lift hb10
    have r5_10 := r5_9.lift hb10
    have r6_10 := r6_9.lift hb10
    have r7_10 := r7.lift hb10
    have hB10 := hB9.trans (hb10.mono hB9.size)
    clear hb10 hB9 r7 r6_9 r5_9 rb_9 ra_9 t6_9 t5_9
    obtain ⟨t50, t51, _, _⟩ := t5_10.two
    obtain ⟨t60, t61, _, _⟩ := t6_10.two
    obtain ⟨t70, t71, _, _⟩ := t7.two
    go_wp2_with fail
    generalize (w9.alloc (.cells #[.int .i64 0, .slice M3 k1 d3] 50)) = wL at *
    go_loopw [8] (fun i wr => ∃ k : Nat, k ≤ k1 ∧ i = .int .i64 k ∧ Below wL.heap.size wL wr) (fun i _ => k1 - (intOf i).toNat)
    case atStart => exact ⟨0, Nat.zero_le _, rfl, Below.refl _ _⟩
    case round =>
      obtain ⟨k, hk, rfl, hbel⟩ := hrel
      have HBel := Lib.hid hbel
      have hb11 := hbel
      have t5_11 := t5_10.below hb11 t5_10.lt
      have t6_11 := t6_10.below hb11 t6_10.lt
      have t7_11 := t7.below hb11 t7.lt
      have ra_11 := ra_10.lift hb11
      have rb_11 := rb_10.lift hb11
      have r5_11 := r5_10.lift hb11
      have r6_11 := r6_10.lift hb11
      have r7_11 := r7_10.lift hb11
      have hB11 := hB10.trans (hb11.mono hB10.size)
      clear hb11 t50 t51 t60 t61 t70 t71 hB10 r7_10 r6_10 r5_10 rb_10 ra_10 t7 t6_10 t5_10
      by_cases hlt : k < k1
      · have i5 : (k : Int) < (k1 : Int) := by omega
        obtain ⟨g5, o5, x0, x1, rfl, -, hx, -⟩ := r5_11.mrk (k := k) (by rw [L5.out]; exact hlt)
        obtain ⟨g6, o6, y0, y1, rfl, -, hy6, -⟩ := r6_11.mrk (k := k) (by rw [L5.out]; exact hlt)
        obtain ⟨rfl, rfl⟩ : x0 = y0 ∧ x1 = y1 := by simpa using Option.some.inj (hx.symm.trans hy6)
        obtain ⟨g7, o7, y0, y1, rfl, -, hy7, -⟩ := r7_11.mrk (k := k) (by rw [L5.out]; exact hlt)
        obtain ⟨rfl, rfl⟩ : x0 = y0 ∧ x1 = y1 := by simpa using Option.some.inj (hx.symm.trans hy7)
        try simp only [] at hx
        obtain ⟨t50, t51, _, _⟩ := t5_11.two
        obtain ⟨t60, t61, _, _⟩ := t6_11.two
        obtain ⟨t70, t71, _, _⟩ := t7_11.two
        go_wp2_with fail
        have hb12 : Below wr.heap.size wr wr.drew := (Below.refl _ _).drew
        have t5_12 := t5_11.below hb12 t5_11.lt
        have t6_12 := t6_11.below hb12 t6_11.lt
        have t7_12 := t7_11.below hb12 t7_11.lt
        have ra_12 := ra_11.lift hb12
        have rb_12 := rb_11.lift hb12
        have r5_12 := r5_11.lift hb12
        have r6_12 := r6_11.lift hb12
        have r7_12 := r7_11.lift hb12
        have hB12 := hB11.trans (hb12.mono hB11.size)
        clear hb12 t50 t51 t60 t61 t70 t71 hB11 r7_11 r6_11 r5_11 rb_11 ra_11 t7_11 t6_11 t5_11
        have F1 := fldM1
        have F2 := neqMkT
        refine wp_region_mix [(0, false), (1, false), (2, false), (3, false), (4, false), (5, false), (6, false), (9, false), (7, true), (8, false), (10, false), (11, false), (12, false), (13, false), (14, false), (15, false), (16, false), (17, false), (18, false), (19, false), (20, false), (21, false), (22, false), (23, false), (24, false), (25, false), (26, false), (27, false), (28, false), (29, false), (30, false), (31, false), (32, false), (33, false), (34, false), (35, false), (36, false), (37, false), (38, false)] (fun u => At u (w2.heap.size) 50 #[.int .i64 0, .slice (some ⟨g5, o5, none⟩) k1 d1] ∧ At u (w4.heap.size) 50 #[.int .i64 0, .slice (some ⟨g6, o6, none⟩) k1 d2] ∧ At u (w9.heap.size) 50 #[.int .i64 0, .slice (some ⟨g7, o7, none⟩) k1 d3] ∧ S2Mk u g5 (o5 + k * 2) x0 x1 ∧ S2Mk u g6 (o6 + k * 2) x0 x1 ∧ S2Mk u g7 (o7 + k * 2) x0 x1) (by kernel_rfl) (by kernel_rfl) (fun _ _ _ _ _ h => h) ⟨t5_12, t6_12, t7_12, (r5_12.mrk_is hx), (r6_12.mrk_is hx), (r7_12.mrk_is hx)⟩ ?_
        simp only [mixOps, List.map_cons, List.map_nil, List.getElem?_cons_succ, List.getElem?_cons_zero, Option.getD_some]
        repeat (first
          | (refine mix_skip (by rfl) ?_
             (try simp only [Act.put, List.setIfInBounds_toArray, List.set_cons_zero, List.set_cons_succ]))
          | (refine mix_pure (v := ?_) (by rfl) (fun u hu => ?_) ?_
             rotate_left
             · obtain ⟨y0, y1, y2, y3, y4, y5⟩ := hu
               obtain ⟨_, _, _, _⟩ := y0.two
               obtain ⟨_, _, _, _⟩ := y1.two
               obtain ⟨_, _, _, _⟩ := y2.two
               obtain ⟨_, _⟩ := y3
               obtain ⟨_, _⟩ := y4
               obtain ⟨_, _⟩ := y5
               go_simp
               (with_reducible rfl)
             (try simp only [Act.put, List.setIfInBounds_toArray, List.set_cons_zero, List.set_cons_succ])))
        refine mix_call (by rfl) (fun K hK => ?_)
        go_simp
        refine (S1.out _ ra_12 rb_12).mono ?_
        rintro e w13 ⟨As, ks, cs, rfl, os, hb13⟩
        obtain rfl : k1 = ks := by have := os.len okMk; rw [← L5.out, ← this]
        have rs := os.rd okMk
        clear os
        have HB9 := HBel.out.trans ((show Below wr.heap.size wr w13 from ⟨hb13.os, hb13.tape, hb13.output, hb13.size, hb13.block⟩).mono HBel.out.size)
        have t5_13 := t5_12.below hb13 t5_12.lt
        have t6_13 := t6_12.below hb13 t6_12.lt
        have t7_13 := t7_12.below hb13 t7_12.lt
        have ra_13 := ra_12.lift hb13
        have rb_13 := rb_12.lift hb13
        have r5_13 := r5_12.lift hb13
        have r6_13 := r6_12.lift hb13
        have r7_13 := r7_12.lift hb13
        have hB13 := hB12.trans (hb13.mono hB12.size)
        clear hb13 hB12 r7_12 r6_12 r5_12 rb_12 ra_12 t7_12 t6_12 t5_12
        obtain ⟨gs, oS, v0, v1, rfl, -, hv, -⟩ := rs.mrk (k := k) (by rw [L5.out]; exact hlt)
        obtain ⟨rfl, rfl⟩ : x0 = v0 ∧ x1 = v1 := by simpa using Option.some.inj (hx.symm.trans hv)
        refine hK _ _ (fun u => At u (w2.heap.size) 50 #[.int .i64 0, .slice (some ⟨g5, o5, none⟩) k1 d1] ∧ At u (w4.heap.size) 50 #[.int .i64 0, .slice (some ⟨g6, o6, none⟩) k1 d2] ∧ At u (w9.heap.size) 50 #[.int .i64 0, .slice (some ⟨g7, o7, none⟩) k1 d3] ∧ S2Mk u g5 (o5 + k * 2) x0 x1 ∧ S2Mk u g6 (o6 + k * 2) x0 x1 ∧ S2Mk u g7 (o7 + k * 2) x0 x1 ∧ S2Mk u gs (oS + k * 2) x0 x1) (fun _ h => ⟨h.1, h.2.1, h.2.2.1, h.2.2.2.1, h.2.2.2.2.1, h.2.2.2.2.2.1⟩) ⟨t5_13, t6_13, t7_13, (r5_13.mrk_is hx), (r6_13.mrk_is hx), (r7_13.mrk_is hx), (rs.mrk_is hx)⟩ ?_
        clear hK K
        (try simp only [Act.put, List.setIfInBounds_toArray, List.set_cons_zero, List.set_cons_succ])
        repeat (first
          | (refine mix_skip (by rfl) ?_
             (try simp only [Act.put, List.setIfInBounds_toArray, List.set_cons_zero, List.set_cons_succ]))
          | (refine mix_pure (v := ?_) (by rfl) (fun u hu => ?_) ?_
             rotate_left
             · obtain ⟨y0, y1, y2, y3, y4, y5, y6⟩ := hu
               obtain ⟨_, _, _, _⟩ := y0.two
               obtain ⟨_, _, _, _⟩ := y1.two
               obtain ⟨_, _, _, _⟩ := y2.two
               obtain ⟨_, _⟩ := y3
               obtain ⟨_, _⟩ := y4
               obtain ⟨_, _⟩ := y5
               obtain ⟨_, _⟩ := y6
               go_simp
               (with_reducible rfl)
             (try simp only [Act.put, List.setIfInBounds_toArray, List.set_cons_zero, List.set_cons_succ])))
        refine mix_nil ?_
        go_wp2_with fail
        refine ⟨⟨k + 1, by omega, by go_num, ?_⟩, by simp [intOf]; omega⟩
        exact HB9
      · obtain rfl : k = k1 := by omega
        obtain ⟨t50, t51, _, _⟩ := t5_11.two
        go_wp2
        go_ret
        exact ⟨rfl, hB11⟩
  · have hne : (z1 != 0) = true := by rw [bne_iff_ne]; exact hz
    have hk : k1 = 0 := by rw [← L5.out, mergeMk_code H1.out hz]; rfl
    clear L5 hz
    subst hk
    obtain ⟨t50, t51, _, _⟩ := t5_8.two
    go_wp2
    go_ret
    exact ⟨by simp, hB8⟩
end Go.Proofs.Ytbfjfjocangjeaa
