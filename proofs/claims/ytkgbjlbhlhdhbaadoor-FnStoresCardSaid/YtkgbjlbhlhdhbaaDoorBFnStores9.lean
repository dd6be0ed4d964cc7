/-
  Texts of one proof, joined: each has its own namespace.
-/
import Derived.Test.YtkgbjlbhlhdhbaaDoorBFnStores4
import Derived.Test.YtkgbjlbhlhdhbaaDoorBFnStores5
import Derived.Test.YtkgbjlbhlhdhbaaDoorBFnStores8
/-
  The law of what is merged: the walk.
-/
namespace Go.Proofs.YtkgbjlbhlhdhbaaDoor
set_option maxRecDepth 20000
open Go.RowKit
set_option linter.unusedSimpArgs false
set_option linter.unusedVariables false

theorem lwBig_no (A : Option Addr) (n c : Nat) (w : World) (h : ¬ 1048576 < n) :
    Calls Tryd.prog 10 #[.slice A n c] w fun e w' => e = .returned (.bool false) ∧ w = w' := by
  have hd : decide ((1048576 : Int) < (n : Int)) = false := decide_eq_false (by omega)
  go_enter Tryd.func10, Tryd.ntmps10
  go_wp2
  go_ret
  exact ⟨rfl, rfl⟩
theorem undrew {w w' : World} {k : Nat} (h : Below (w.drewN k).heap.size (w.drewN k) w') : Below w.heap.size w w' := ⟨h.os, h.tape, h.output, h.size, h.block⟩
theorem fldS0 (z : Int) (A : Option Addr) (k c : Nat) (u : World) : (Instr.field 35 (.agg #[.int .i64 z, .slice A k c]) 0).run Tryd.prog u = .ok (.int .i64 z) u := by kernel_rfl
theorem fldS1 (z : Int) (A : Option Addr) (k c : Nat) (u : World) : (Instr.field 35 (.agg #[.int .i64 z, .slice A k c]) 1).run Tryd.prog u = .ok (.slice A k c) u := by kernel_rfl
theorem fldF0 (z a b c d : Int) (u : World) : (Instr.field 38 (.agg #[.int .i64 z, .int .i64 a, .int .i64 b, .int .i64 c, .int .i64 d]) 0).run Tryd.prog u = .ok (.int .i64 z) u := by kernel_rfl
theorem merge_fault_nil {a b ml : List Smp} {mc : Int} (h : mergeListsM a b = (mc, ml)) (hc : mc ≠ 0) : ml = [] := by
  unfold mergeListsM at h
  split at h
  · exact (Prod.mk.inj h).2.symm
  · split at h
    · exact (Prod.mk.inj h).2.symm
    · split at h
      · exact (Prod.mk.inj h).2.symm
      · exact absurd (Prod.mk.inj h).1.symm hc
theorem merge_small {a b ml : List Smp} {mc : Int} (h : mergeListsM a b = (mc, ml)) : ml.length ≤ 160 := by
  have := mergeLists_le a b
  rw [h] at this
  exact this
theorem lookM_code {m : List Smp} {x : Smp} {z a b c d : Int} (h : lookM m x = (z, a, b, c, d)) (k : (lookM m x).1 = 0) : z = 0 := by
  rw [h] at k
  exact k

set_option maxRecDepth 100000 in
set_option maxHeartbeats 16000000 in
theorem fnMerges_walk (X : Option Addr) (n c : Nat) (l : List UInt8) (w : World) (ha : Rd eB w w.heap.size X l) (hn : l.length = n) (hF : Flds w) :
    Calls Tryd.prog 4 #[.slice X n c] w fun e w' => e = .returned (.bool true) ∧ Below w.heap.size w w' := by
  have Hn := Lib.hid hn
  clear hn
  by_cases hbig : 1048576 < n
  · go_enter Tryd.func4, Tryd.ntmps4
    go_wp2
    go_ret
    exact ⟨rfl, Below.refl _ _⟩
  have hm : n ≤ 1048576 := by omega
  go_enter Tryd.func4, Tryd.ntmps4
  go_wp2_with fail
  refine (lwBig_no X n c w hbig).mono ?_
  rintro e w0 ⟨rfl, rfl⟩
  clear hbig
  go_wp2_with fail
  refine (drawMergeLists X n c l _ ha Hn.out hm).mono ?_
  rintro e w1 ⟨A, B, na, nb, ca, cb, a, b, rfl, hna, hnb, oa, ob, hB1⟩
  have hF1 := hF.below hB1
  have Ha := Lib.hid (oa.len okS)
  have Hb := Lib.hid (ob.len okS)
  have ra := oa.rd okS
  have rb := ob.rd okS
  clear oa ob ha hF
  go_wp2_with fail
  refine (implMergeLists A B na nb ca cb a b _ ra rb Ha.out Hb.out hF1).mono ?_
  rintro e w2 ⟨Am, nm, cm, rfl, om, hb2⟩
  obtain ⟨⟨mc, ml⟩, hM⟩ : ∃ r, mergeListsM a b = r := ⟨_, rfl⟩
  rw [hM] at om
  simp only [hM]
  have HM := Lib.hid hM
  have Hm := Lib.hid (om.len okS)
  have rm := om.rd okS
  have hm160 := merge_small hM
  rw [Hm.out] at hm160
  have hl3 : Below w2.heap.size w2 (w2.alloc (.cells #[.int .i64 mc, .slice Am nm cm] 35)) := (Below.refl _ _).alloc (Nat.le_refl _) _
  have am := At.new w2 35 #[.int .i64 mc, .slice Am nm cm]
  have hB2 := hB1.trans (hb2.mono hB1.size)
  have hB3 := hB2.trans (hl3.mono hB2.size)
  have ra3 := (ra.lift hb2).lift hl3
  have rb3 := (rb.lift hb2).lift hl3
  have rm3 := rm.lift hl3
  have hF3 := (hF1.below hb2).below hl3
  have SM := fun W h1 h2 => specMergeLists A B na nb ca cb a b W h1 h2 Ha.out Hb.out
  rw [hM] at SM
  have SM := Lib.hid SM
  clear hM om hb2 hl3 ra rb rm hF1 hB1 hB2
  skip
  go_wp2_with fail
  have F0 := fldS0
  have F1 := fldS1
  refine wp_region_mix [(0, false), (1, false), (2, false), (3, false), (4, true), (5, false), (6, false), (7, false), (8, false), (9, false), (10, false), (11, false), (12, true), (13, false), (14, true), (15, false), (16, false)] (fun u => At u (w2.heap.size) 35 #[.int .i64 mc, .slice Am nm cm]) (by kernel_rfl) (by kernel_rfl) (fun _ _ _ _ _ h => h) am.drew ?_
  simp only [mixOps, List.map_cons, List.map_nil, List.getElem?_cons_succ, List.getElem?_cons_zero, Option.getD_some]
  repeat (first
    | (refine mix_skip (by rfl) ?_
       (try simp only [Act.put, List.setIfInBounds_toArray, List.set_cons_zero, List.set_cons_succ]))
    | (refine mix_pure (v := ?_) (by rfl) (fun u hu => ?_) ?_
       rotate_left
       · obtain ⟨_, _, _, _⟩ := At.two hu
         go_simp
         (with_reducible rfl)
       (try simp only [Act.put, List.setIfInBounds_toArray, List.set_cons_zero, List.set_cons_succ])))
  refine mix_call (by rfl) (fun K hK => ?_)
  go_simp
  refine (SM.out _ (ra3.drewN 1) (rb3.drewN 1)).mono ?_
  rintro e w4 ⟨As, ns, cs, rfl, -, hb4⟩
  have hb4 := undrew hb4
  have hB4 := hB3.trans (hb4.mono hB3.size)
  have am4 := am.below hb4 am.lt
  have ra4 := ra3.lift hb4
  have rb4 := rb3.lift hb4
  have rm4 := rm3.lift hb4
  have hF4 := hF3.below hb4
  clear hb4 am ra3 rb3 rm3 hF3 hB3
  refine hK _ _ (fun u => At u (w2.heap.size) 35 #[.int .i64 mc, .slice Am nm cm]) (fun _ h => h) am4 ?_
  clear hK K
  (try simp only [Act.put, List.setIfInBounds_toArray, List.set_cons_zero, List.set_cons_succ])
  repeat (first
    | (refine mix_skip (by rfl) ?_
       (try simp only [Act.put, List.setIfInBounds_toArray, List.set_cons_zero, List.set_cons_succ]))
    | (refine mix_pure (v := ?_) (by rfl) (fun u hu => ?_) ?_
       rotate_left
       · obtain ⟨_, _, _, _⟩ := At.two hu
         go_simp
         (with_reducible rfl)
       (try simp only [Act.put, List.setIfInBounds_toArray, List.set_cons_zero, List.set_cons_succ])))
  refine mix_call (by rfl) (fun K hK => ?_)
  go_simp
  refine (SM.out _ ra4 rb4).mono ?_
  rintro e w5 ⟨As', ns', cs', rfl, os, hb5⟩
  have hB5 := hB4.trans (hb5.mono hB4.size)
  have am5 := am4.below hb5 am4.lt
  have ra5 := ra4.lift hb5
  have rb5 := rb4.lift hb5
  have rm5 := rm4.lift hb5
  have hF5 := hF4.below hb5
  have rs5 := os.rd okS
  have hns := os.len okS
  clear hb5 am4 ra4 rb4 rm4 hF4 hB4 os SM
  refine hK _ _ (fun u => At u (w2.heap.size) 35 #[.int .i64 mc, .slice Am nm cm]) (fun _ h => h) am5 ?_
  clear hK K
  (try simp only [Act.put, List.setIfInBounds_toArray, List.set_cons_zero, List.set_cons_succ])
  repeat (first
    | (refine mix_skip (by rfl) ?_
       (try simp only [Act.put, List.setIfInBounds_toArray, List.set_cons_zero, List.set_cons_succ]))
    | (refine mix_pure (v := ?_) (by rfl) (fun u hu => ?_) ?_
       rotate_left
       · obtain ⟨_, _, _, _⟩ := At.two hu
         go_simp
         (with_reducible rfl)
       (try simp only [Act.put, List.setIfInBounds_toArray, List.set_cons_zero, List.set_cons_succ])))
  refine mix_call (by rfl) (fun K hK => ?_)
  go_simp
  refine (implSameSamples Am As' nm ns' cm cs' ml ml _ rm5 rs5 Hm.out hns (by unfold maxLen; omega)).mono ?_
  rintro e w6 ⟨rfl, hb6⟩
  have hB6 := hB5.trans (hb6.mono hB5.size)
  have am6 := am5.below hb6 am5.lt
  have ra6 := ra5.lift hb6
  have rb6 := rb5.lift hb6
  have rm6 := rm5.lift hb6
  have hF6 := hF5.below hb6
  clear hb6 am5 ra5 rb5 rm5 hF5 hB5 rs5 hns
  rw [show decide (ml = ml) = true from decide_eq_true rfl]
  refine hK _ _ (fun u => At u (w2.heap.size) 35 #[.int .i64 mc, .slice Am nm cm]) (fun _ h => h) am6 ?_
  clear hK K
  (try simp only [Act.put, List.setIfInBounds_toArray, List.set_cons_zero, List.set_cons_succ])
  repeat (first
    | (refine mix_skip (by rfl) ?_
       (try simp only [Act.put, List.setIfInBounds_toArray, List.set_cons_zero, List.set_cons_succ]))
    | (refine mix_pure (v := ?_) (by rfl) (fun u hu => ?_) ?_
       rotate_left
       · obtain ⟨_, _, _, _⟩ := At.two hu
         go_simp
         (with_reducible rfl)
       (try simp only [Act.put, List.setIfInBounds_toArray, List.set_cons_zero, List.set_cons_succ])))
  refine mix_nil ?_
  clear F0 F1
  obtain ⟨m0, m1, _, _⟩ := am6.two
  by_cases hc : mc = 0
  rotate_left
  · have hne : (mc != 0) = true := by rw [bne_iff_ne]; exact hc
    have hnil := merge_fault_nil HM.out hc
    obtain rfl : nm = 0 := by rw [← Hm.out, hnil]; rfl
    clear hc hnil
    go_wp2
    go_ret
    exact ⟨rfl, hB6⟩
  subst hc
  obtain ⟨hsf, hin, hfi, hmb, hma⟩ := merge_said HM.out
  have Hsf := Lib.hid hsf
  have Hin := Lib.hid hin
  have Hfi := Lib.hid hfi
  have Hmb := Lib.hid hmb
  have Hma := Lib.hid hma
  clear hsf hin hfi hmb hma
  go_wp2
  go_loopw [6] (fun i wr => ∃ k : Nat, k ≤ na ∧ i = .int .i64 k ∧ Below w6.heap.size w6 wr) (fun i _ => na - (intOf i).toNat)
  case atStart => exact ⟨0, Nat.zero_le _, rfl, Below.refl _ _⟩
  case round =>
    obtain ⟨k, hk, rfl, hbel⟩ := hrel
    have amr := am6.below hbel am6.lt
    have rmr := rm6.lift hbel
    obtain ⟨p0, p1, _, _⟩ := amr.two
    by_cases hlt : k < na
    · obtain ⟨g, o, a0, a1, a2, a3, rfl, hg, hx, cx⟩ := (ra6.below hbel (Nat.le_refl _)).smp (k := k) (by rw [Ha.out]; exact hlt)
      have hmem := Hin.out _ (List.mem_of_getElem? hx)
      have hd : decide ((a0, a1, a2, a3) ∈ ml) = true := decide_eq_true hmem
      have HL := fun W h => lwHas Am nm cm ml a0 a1 a2 a3 W h Hm.out (by unfold maxLen; omega)
      rw [hd] at HL
      clear hmem hd hx
      go_wp2_with fail
      refine wp_region_mix [(0, false), (1, false), (2, false), (3, false), (4, false), (5, false), (6, true), (7, false)] (fun u => (At u (w2.heap.size) 35 #[.int .i64 0, .slice Am nm cm]) ∧ S4 u g (o + k * 4) a0 a1 a2 a3) (by kernel_rfl) (by kernel_rfl) (fun _ _ _ _ _ h => h) ⟨amr.drew, cx.drew⟩ ?_
      simp only [mixOps, List.map_cons, List.map_nil, List.getElem?_cons_succ, List.getElem?_cons_zero, Option.getD_some]
      repeat (first
        | (refine mix_skip (by rfl) ?_
           (try simp only [Act.put, List.setIfInBounds_toArray, List.set_cons_zero, List.set_cons_succ]))
        | (refine mix_pure (v := ?_) (by rfl) (fun u hu => ?_) ?_
           rotate_left
           · obtain ⟨y0, _, _, _, _⟩ := hu
             obtain ⟨_, _, _, _⟩ := y0.two
             go_simp
             (with_reducible rfl)
           (try simp only [Act.put, List.setIfInBounds_toArray, List.set_cons_zero, List.set_cons_succ])))
      refine mix_call (by rfl) (fun K hK => ?_)
      go_simp
      refine (HL _ (rmr.drewN 1)).mono ?_
      rintro e w7 ⟨rfl, hb7⟩
      have hb7 := undrew hb7
      have hB7 := hbel.trans (hb7.mono hbel.size)
      have am7 := amr.below hb7 amr.lt
      have cx7 := cx.below hb7 (Nat.lt_of_lt_of_le hg hbel.size)
      refine hK _ _ (fun u => (At u (w2.heap.size) 35 #[.int .i64 0, .slice Am nm cm]) ∧ S4 u g (o + k * 4) a0 a1 a2 a3) (fun _ h => h) ⟨am7, cx7⟩ ?_
      clear hK K
      (try simp only [Act.put, List.setIfInBounds_toArray, List.set_cons_zero, List.set_cons_succ])
      repeat (first
        | (refine mix_skip (by rfl) ?_
           (try simp only [Act.put, List.setIfInBounds_toArray, List.set_cons_zero, List.set_cons_succ]))
        | (refine mix_pure (v := ?_) (by rfl) (fun u hu => ?_) ?_
           rotate_left
           · obtain ⟨y0, _, _, _, _⟩ := hu
             obtain ⟨_, _, _, _⟩ := y0.two
             go_simp
             (with_reducible rfl)
           (try simp only [Act.put, List.setIfInBounds_toArray, List.set_cons_zero, List.set_cons_succ])))
      refine mix_nil ?_
      go_wp2
      exact ⟨⟨k + 1, by omega, by go_num, hB7⟩, by simp [intOf]; omega⟩
    · obtain rfl : k = na := by omega
      have hB7 := hB6.trans (hbel.mono hB6.size)
      have ra7 := ra6.lift hbel
      have rb7 := rb6.lift hbel
      have hF7 := hF6.below hbel
      clear hbel am6 ra6 rb6 rm6 hF6 hB6 hk hlt m0 m1
      skip
      go_wp2
      skip
      go_loopw [7] (fun i wz => ∃ j : Nat, j ≤ nb ∧ i = .int .i64 j ∧ Below wr.heap.size wr wz) (fun i _ => nb - (intOf i).toNat)
      case atStart => exact ⟨0, Nat.zero_le _, rfl, Below.refl _ _⟩
      case round =>
        obtain ⟨j, hj, rfl, hbel⟩ := hrel
        have ams := amr.below hbel amr.lt
        have rms := rmr.lift hbel
        have hF8 := hF7.below hbel
        obtain ⟨p0, p1, _, _⟩ := ams.two
        by_cases hlt : j < nb
        · obtain ⟨g, o, b0, b1, b2, b3, rfl, hg, hx, cx⟩ := (rb7.below hbel (Nat.le_refl _)).smp (k := j) (by rw [Hb.out]; exact hlt)
          have hc0 := find_said (x := (b0, b1, b2, b3)) Hsf.out (by have := Hfi.out _ (List.mem_of_getElem? hx); omega)
          obtain ⟨z, f0, f1, f2, f3, hlk⟩ : ∃ z f0 f1 f2 f3, lookM ml (b0, b1, b2, b3) = (z, f0, f1, f2, f3) := ⟨_, _, _, _, _, rfl⟩
          obtain rfl := lookM_code hlk hc0
          have FS := fun W h1 h2 => implFindSample Am nm cm ml b0 b1 b2 b3 W h1 Hm.out h2
          rw [hlk] at FS
          have F0 := fldF0
          clear hc0 hlk hx
          go_wp2_with fail
          refine wp_region_mix [(0, false), (1, false), (2, false), (3, false), (4, false), (5, false), (6, true), (7, false), (8, false)] (fun u => (At u (w2.heap.size) 35 #[.int .i64 0, .slice Am nm cm]) ∧ S4 u g (o + j * 4) b0 b1 b2 b3) (by kernel_rfl) (by kernel_rfl) (fun _ _ _ _ _ h => h) ⟨ams.drew, cx.drew⟩ ?_
          simp only [mixOps, List.map_cons, List.map_nil, List.getElem?_cons_succ, List.getElem?_cons_zero, Option.getD_some]
          repeat (first
            | (refine mix_skip (by rfl) ?_
               (try simp only [Act.put, List.setIfInBounds_toArray, List.set_cons_zero, List.set_cons_succ]))
            | (refine mix_pure (v := ?_) (by rfl) (fun u hu => ?_) ?_
               rotate_left
               · obtain ⟨y0, _, _, _, _⟩ := hu
                 obtain ⟨_, _, _, _⟩ := y0.two
                 go_simp
                 (with_reducible rfl)
               (try simp only [Act.put, List.setIfInBounds_toArray, List.set_cons_zero, List.set_cons_succ])))
          refine mix_call (by rfl) (fun K hK => ?_)
          go_simp
          refine (FS _ (rms.drewN 1) hF8).mono ?_
          rintro e w9 ⟨rfl, hb9⟩
          have hb9 := undrew hb9
          have hB9 := hbel.trans (hb9.mono hbel.size)
          have am9 := ams.below hb9 ams.lt
          have cx9 := cx.below hb9 (Nat.lt_of_lt_of_le hg hbel.size)
          refine hK _ _ (fun u => (At u (w2.heap.size) 35 #[.int .i64 0, .slice Am nm cm]) ∧ S4 u g (o + j * 4) b0 b1 b2 b3) (fun _ h => h) ⟨am9, cx9⟩ ?_
          clear hK K
          (try simp only [Act.put, List.setIfInBounds_toArray, List.set_cons_zero, List.set_cons_succ])
          repeat (first
            | (refine mix_skip (by rfl) ?_
               (try simp only [Act.put, List.setIfInBounds_toArray, List.set_cons_zero, List.set_cons_succ]))
            | (refine mix_pure (v := ?_) (by rfl) (fun u hu => ?_) ?_
               rotate_left
               · obtain ⟨y0, _, _, _, _⟩ := hu
                 obtain ⟨_, _, _, _⟩ := y0.two
                 go_simp
                 (with_reducible rfl)
               (try simp only [Act.put, List.setIfInBounds_toArray, List.set_cons_zero, List.set_cons_succ])))
          refine mix_nil ?_
          go_wp2
          exact ⟨⟨j + 1, by omega, by go_num, hB9⟩, by simp [intOf]; omega⟩
        · obtain rfl : j = nb := by omega
          have hB8 := hB7.trans (hbel.mono hB7.size)
          have ra8 := ra7.lift hbel
          have rb8 := rb7.lift hbel
          clear hbel amr ra7 rb7 rmr hF7 hB7 hj hlt
          have HSF := fun W h1 h2 => implStoreFault Am nm cm ml W h1 Hm.out h2
          rw [Hsf.out] at HSF
          have HMB := fun W h1 h2 h3 => implMergeLists Am B nm j cm cb ml b W h1 h2 Hm.out Hb.out h3
          rw [Hmb.out] at HMB
          have HMA := fun W h1 h2 h3 => implMergeLists Am A nm k cm ca ml a W h1 h2 Hm.out Ha.out h3
          rw [Hma.out] at HMA
          have F1 := fldS1
          go_wp2_with fail
          refine wp_region_mix [(0, false), (1, false), (2, true), (3, false), (4, false), (5, false), (6, false), (7, false), (10, false), (11, false), (8, true), (9, false), (12, true), (13, false), (14, false), (15, false), (16, false), (17, false), (20, false), (21, false), (18, true), (19, false), (22, true), (23, false), (24, false)] (fun u => At u (w2.heap.size) 35 #[.int .i64 0, .slice Am nm cm]) (by kernel_rfl) (by kernel_rfl) (fun _ _ _ _ _ h => h) ams.drew ?_
          simp only [mixOps, List.map_cons, List.map_nil, List.getElem?_cons_succ, List.getElem?_cons_zero, Option.getD_some]
          repeat (first
            | (refine mix_skip (by rfl) ?_
               (try simp only [Act.put, List.setIfInBounds_toArray, List.set_cons_zero, List.set_cons_succ]))
            | (refine mix_pure (v := ?_) (by rfl) (fun u hu => ?_) ?_
               rotate_left
               · obtain ⟨_, _, _, _⟩ := At.two hu
                 go_simp
                 (with_reducible rfl)
               (try simp only [Act.put, List.setIfInBounds_toArray, List.set_cons_zero, List.set_cons_succ])))
          refine mix_call (by rfl) (fun K hK => ?_)
          go_simp
          refine (HSF _ (rms.drewN 1) hF8).mono ?_
          rintro e w9 ⟨rfl, hb9⟩
          have hb9 := undrew hb9
          have hB9 := hB8.trans (hb9.mono hB8.size)
          have am9 := ams.below hb9 ams.lt
          have ra9 := ra8.lift hb9
          have rb9 := rb8.lift hb9
          have rm9 := rms.lift hb9
          have hF9 := hF8.below hb9
          refine hK _ _ (fun u => At u (w2.heap.size) 35 #[.int .i64 0, .slice Am nm cm]) (fun _ h => h) am9 ?_
          clear hK K
          (try simp only [Act.put, List.setIfInBounds_toArray, List.set_cons_zero, List.set_cons_succ])
          repeat (first
            | (refine mix_skip (by rfl) ?_
               (try simp only [Act.put, List.setIfInBounds_toArray, List.set_cons_zero, List.set_cons_succ]))
            | (refine mix_pure (v := ?_) (by rfl) (fun u hu => ?_) ?_
               rotate_left
               · obtain ⟨_, _, _, _⟩ := At.two hu
                 go_simp
                 (with_reducible rfl)
               (try simp only [Act.put, List.setIfInBounds_toArray, List.set_cons_zero, List.set_cons_succ])))
          refine mix_call (by rfl) (fun K hK => ?_)
          go_simp
          refine (HMB _ rm9 rb9 hF9).mono ?_
          rintro e w10 ⟨Ap, np, cp, rfl, op, hb10⟩
          have hB10 := hB9.trans (hb10.mono hB9.size)
          have am10 := am9.below hb10 am9.lt
          have ra10 := ra9.lift hb10
          have rb10 := rb9.lift hb10
          have rm10 := rm9.lift hb10
          have hF10 := hF9.below hb10
          have rp := op.rd okS
          have lp := op.len okS
          refine hK _ _ (fun u => At u (w2.heap.size) 35 #[.int .i64 0, .slice Am nm cm]) (fun _ h => h) am10 ?_
          clear hK K
          (try simp only [Act.put, List.setIfInBounds_toArray, List.set_cons_zero, List.set_cons_succ])
          repeat (first
            | (refine mix_skip (by rfl) ?_
               (try simp only [Act.put, List.setIfInBounds_toArray, List.set_cons_zero, List.set_cons_succ]))
            | (refine mix_pure (v := ?_) (by rfl) (fun u hu => ?_) ?_
               rotate_left
               · obtain ⟨_, _, _, _⟩ := At.two hu
                 go_simp
                 (with_reducible rfl)
               (try simp only [Act.put, List.setIfInBounds_toArray, List.set_cons_zero, List.set_cons_succ])))
          refine mix_call (by rfl) (fun K hK => ?_)
          go_simp
          refine (implSameSamples Ap Am np nm cp cm ml ml _ rp rm10 lp Hm.out (by have := Hm.out; unfold maxLen; dsimp only at lp; omega)).mono ?_
          rintro e w11 ⟨rfl, hb11⟩
          have hB11 := hB10.trans (hb11.mono hB10.size)
          have am11 := am10.below hb11 am10.lt
          have ra11 := ra10.lift hb11
          have rb11 := rb10.lift hb11
          have rm11 := rm10.lift hb11
          have hF11 := hF10.below hb11
          rw [show decide (ml = ml) = true from decide_eq_true rfl]
          refine hK _ _ (fun u => At u (w2.heap.size) 35 #[.int .i64 0, .slice Am nm cm]) (fun _ h => h) am11 ?_
          clear hK K
          (try simp only [Act.put, List.setIfInBounds_toArray, List.set_cons_zero, List.set_cons_succ])
          repeat (first
            | (refine mix_skip (by rfl) ?_
               (try simp only [Act.put, List.setIfInBounds_toArray, List.set_cons_zero, List.set_cons_succ]))
            | (refine mix_pure (v := ?_) (by rfl) (fun u hu => ?_) ?_
               rotate_left
               · obtain ⟨_, _, _, _⟩ := At.two hu
                 go_simp
                 (with_reducible rfl)
               (try simp only [Act.put, List.setIfInBounds_toArray, List.set_cons_zero, List.set_cons_succ])))
          refine mix_call (by rfl) (fun K hK => ?_)
          go_simp
          refine (HMA _ rm11 ra11 hF11).mono ?_
          rintro e w12 ⟨Aq, nq, cq, rfl, oq, hb12⟩
          have hB12 := hB11.trans (hb12.mono hB11.size)
          have am12 := am11.below hb12 am11.lt
          have ra12 := ra11.lift hb12
          have rb12 := rb11.lift hb12
          have rm12 := rm11.lift hb12
          have hF12 := hF11.below hb12
          have rq := oq.rd okS
          have lq := oq.len okS
          refine hK _ _ (fun u => At u (w2.heap.size) 35 #[.int .i64 0, .slice Am nm cm]) (fun _ h => h) am12 ?_
          clear hK K
          (try simp only [Act.put, List.setIfInBounds_toArray, List.set_cons_zero, List.set_cons_succ])
          repeat (first
            | (refine mix_skip (by rfl) ?_
               (try simp only [Act.put, List.setIfInBounds_toArray, List.set_cons_zero, List.set_cons_succ]))
            | (refine mix_pure (v := ?_) (by rfl) (fun u hu => ?_) ?_
               rotate_left
               · obtain ⟨_, _, _, _⟩ := At.two hu
                 go_simp
                 (with_reducible rfl)
               (try simp only [Act.put, List.setIfInBounds_toArray, List.set_cons_zero, List.set_cons_succ])))
          refine mix_call (by rfl) (fun K hK => ?_)
          go_simp
          refine (implSameSamples Aq Am nq nm cq cm ml ml _ rq rm12 lq Hm.out (by have := Hm.out; unfold maxLen; dsimp only at lq; omega)).mono ?_
          rintro e w13 ⟨rfl, hb13⟩
          have hB13 := hB12.trans (hb13.mono hB12.size)
          have am13 := am12.below hb13 am12.lt
          have ra13 := ra12.lift hb13
          have rb13 := rb12.lift hb13
          have rm13 := rm12.lift hb13
          have hF13 := hF12.below hb13
          rw [show decide (ml = ml) = true from decide_eq_true rfl]
          refine hK _ _ (fun u => At u (w2.heap.size) 35 #[.int .i64 0, .slice Am nm cm]) (fun _ h => h) am13 ?_
          clear hK K
          (try simp only [Act.put, List.setIfInBounds_toArray, List.set_cons_zero, List.set_cons_succ])
          repeat (first
            | (refine mix_skip (by rfl) ?_
               (try simp only [Act.put, List.setIfInBounds_toArray, List.set_cons_zero, List.set_cons_succ]))
            | (refine mix_pure (v := ?_) (by rfl) (fun u hu => ?_) ?_
               rotate_left
               · obtain ⟨_, _, _, _⟩ := At.two hu
                 go_simp
                 (with_reducible rfl)
               (try simp only [Act.put, List.setIfInBounds_toArray, List.set_cons_zero, List.set_cons_succ])))
          refine mix_nil ?_
          go_wp2
          go_ret
          exact ⟨rfl, hB13⟩
end Go.Proofs.YtkgbjlbhlhdhbaaDoor
/-
  The program's InsertSample: both merged.
-/
namespace Go.Proofs.YtkgbjlbhlhdhbaaDoor
set_option maxRecDepth 20000
open Go.RowKit Go.Shelf
set_option linter.unusedSimpArgs false
set_option linter.unusedVariables false

theorem fault_one (x : Smp) : storeFaultM [x] = faultM x := by
  have hr : risesM [x] = true := risesM_yes (n := 1) rfl (fun j hj => absurd hj (by omega))
  rcases faultM_or x with h | h
  · rw [h]
    unfold storeFaultM
    rw [if_neg (by simp), if_neg (by simp [rightM, h]), if_neg (by simp [hr])]
  · rw [h]
    unfold storeFaultM
    rw [if_neg (by simp), if_pos (by simp [rightM, h])]
theorem insert_is (l : List Smp) (x : Smp) : insertM l x = if (mergeListsM l [x]).1 ≠ 0 then ((mergeListsM l [x]).1, false, []) else (0, decide (l.length < (mergeListsM l [x]).2.length), (mergeListsM l [x]).2) := by
  unfold insertM
  by_cases h0 : storeFaultM l = 0
  · rw [if_neg (by simp [h0])]
    by_cases h1 : faultM x = 0
    · rw [if_neg (by simp [h1])]
      have hl := storeFault_small h0
      by_cases h2 : findI l x < 0
      · have hm : mergeM l [x] = insM l x := by simp [mergeM, mergeStep, h2]
        rw [if_neg (by omega)]
        by_cases h3 : 160 ≤ l.length
        · have e : mergeListsM l [x] = (7, []) := by
            unfold mergeListsM
            rw [if_neg (by simp [h0]), if_neg (by rw [fault_one]; simp [h1]), hm, insM_len, if_pos (by omega)]
          rw [e, if_pos h3, if_pos (by simp)]
        · have e : mergeListsM l [x] = (0, insM l x) := by
            unfold mergeListsM
            rw [if_neg (by simp [h0]), if_neg (by rw [fault_one]; simp [h1]), hm, insM_len, if_neg (by omega)]
          rw [e, if_neg h3, if_neg (by simp)]
          simp [insM_len]
      · have hm : mergeM l [x] = l := by simp [mergeM, mergeStep, h2]
        have e : mergeListsM l [x] = (0, l) := by
          unfold mergeListsM
          rw [if_neg (by simp [h0]), if_neg (by rw [fault_one]; simp [h1]), hm, if_neg (by omega)]
        rw [if_pos (by omega), e, if_neg (by simp)]
        simp
    · have e : mergeListsM l [x] = (faultM x, []) := by
        unfold mergeListsM
        rw [if_neg (by simp [h0]), fault_one, if_pos h1]
      rw [if_pos h1, e, if_pos h1]
  · have e : mergeListsM l [x] = (storeFaultM l, []) := by
      unfold mergeListsM
      rw [if_pos h0]
    rw [if_pos h0, e, if_pos h0]

set_option maxRecDepth 100000 in
set_option maxHeartbeats 4000000 in
theorem implInsertSample (A : Option Addr) (n c : Nat) (l : List Smp) (x0 x1 x2 x3 : Int) (w : World) (ha : Rd eS w w.heap.size A l) (hn : l.length = n) (hnm : n ≤ 1048576) (hF : Flds w) :
    Calls Tryd.prog 12 #[.slice A n c, .agg #[.int .i64 x0, .int .i64 x1, .int .i64 x2, .int .i64 x3]] w (RetSt (insertM l (x0, x1, x2, x3)) w) := by
  have hB0a := (Below.refl w.heap.size w).alloc (Nat.le_refl _) (.cells #[.int .i64 x0, .int .i64 x1, .int .i64 x2, .int .i64 x3] 26)
  have hB0 := hB0a.alloc hB0a.size (.cells #[.int .i64 0, .bool false, .slice none 0 0] 30)
  have r0 := At.newAt' (t := 30) (cs := #[.int .i64 0, .bool false, .slice none 0 0]) (show (w.alloc (.cells #[.int .i64 x0, .int .i64 x1, .int .i64 x2, .int .i64 x3] 26)).heap.size = w.heap.size + 1 by simp)
  obtain ⟨w0, hw0⟩ : ∃ w0, (w.alloc (.cells #[.int .i64 x0, .int .i64 x1, .int .i64 x2, .int .i64 x3] 26)).alloc (.cells #[.int .i64 0, .bool false, .slice none 0 0] 30) = w0 := ⟨_, rfl⟩
  have hl1 := (Below.refl w0.heap.size w0).alloc (Nat.le_refl _) (.cells #[.int .i64 x0, .int .i64 x1, .int .i64 x2, .int .i64 x3] 26)
  have hs0 : w0.heap.size = w.heap.size + 1 + 1 := by rw [← hw0]; simp
  rw [hw0] at hB0 r0
  have hB1 := hB0.trans (hl1.mono hB0.size)
  have r1 := r0.below hl1 r0.lt
  have hM := implMergeLists A (some ⟨w0.heap.size, 0, none⟩) n 1 c 1 l [(x0, x1, x2, x3)] _ ((ha.lift hB0).lift hl1) ((rd_lit okS w0 26 [(x0, x1, x2, x3)] #[.int .i64 x0, .int .i64 x1, .int .i64 x2, .int .i64 x3] rfl).more (by simp)) hn rfl (hF.below hB1)
  have Hins := Lib.hid (insert_is l (x0, x1, x2, x3))
  obtain ⟨⟨mc, ml⟩, hmr⟩ : ∃ r, mergeListsM l [(x0, x1, x2, x3)] = r := ⟨_, rfl⟩
  have hml := mergeLists_le l [(x0, x1, x2, x3)]
  rw [hmr] at hM Hins hml
  simp only at hml
  have Hn := Lib.hid hn
  rw [hs0] at hM
  rw [← hw0] at hM
  rw [← hw0] at hl1 hB0 hB1 r1
  clear hmr hn hw0 r0 hs0 ha hF hB0a
  go_enter Tryd.func12, Tryd.ntmps12
  go_wp2_with fail
  refine (hM).mono ?_
  rintro e w2 ⟨A2, n2, c2, rfl, ow2, hb2⟩
  have hB2 := hB1.trans (hb2.mono hB1.size)
  have r2 := r1.below hb2 r1.lt
  have hl2 := Ow.len okS ow2
  have hB3 := hB2.alloc hB2.size (.cells #[.int .i64 mc, .slice A2 n2 c2] 35)
  have r3 := r2.alloc (.cells #[.int .i64 mc, .slice A2 n2 c2] 35)
  have ow3 := ow2.alloc (.cells #[.int .i64 mc, .slice A2 n2 c2] 35)
  have m3 := At.new w2 35 #[.int .i64 mc, .slice A2 n2 c2]
  obtain ⟨c0, c1, cc2, _⟩ := r3.three
  obtain ⟨d0, d1, _, _⟩ := m3.two
  have hlt := r1.lt
  have Hl2 := Lib.hid hl2
  clear hM hl2
  by_cases h0 : mc = 0
  · subst h0
    have h00 : ((0 : Int) != 0) = false := rfl
    by_cases hgt : n < n2
    · have hi : (n : Int) < (n2 : Int) := by omega
      have Hg := Lib.hid (show insertM l (x0, x1, x2, x3) = (0, true, ml) by rw [Hins.out, if_neg (by simp)]; simp only [Hl2.out, Hn.out, hgt, decide_true])
      clear hgt
      go_wp2_with fail
      refine bodyPost_ret (v := .agg #[.int .i64 0, .bool true, .slice A2 n2 c2]) (by simp [results, Tryd.results12, go_sem, c0, c1, cc2]) rfl ?_
      rw [Hg.out]
      exact ⟨_, _, _, rfl, ((((ow3.under (p := ⟨w.heap.size + 1, 0, none⟩) hlt _).under (p := ⟨w.heap.size + 1, 1, none⟩) hlt _).under (p := ⟨w.heap.size + 1, 2, none⟩) hlt _).from_ hB1.size), ((hB3.setCell (p := ⟨w.heap.size + 1, 0, none⟩) (Nat.le_succ _) _).setCell (p := ⟨w.heap.size + 1, 1, none⟩) (Nat.le_succ _) _).setCell (p := ⟨w.heap.size + 1, 2, none⟩) (Nat.le_succ _) _⟩
    · have hi : (n2 : Int) ≤ (n : Int) := by omega
      have hle : n2 ≤ n := by omega
      have Hg := Lib.hid (show insertM l (x0, x1, x2, x3) = (0, false, ml) by rw [Hins.out, if_neg (by simp)]; rw [show decide (l.length < ml.length) = false from decide_eq_false (by rw [Hl2.out, Hn.out]; exact hgt)])
      clear hgt
      go_wp2_with fail
      refine bodyPost_ret (v := .agg #[.int .i64 0, .bool false, .slice A2 n2 c2]) (by simp [results, Tryd.results12, go_sem, c0, c1, cc2, hle]) rfl ?_
      rw [Hg.out]
      exact ⟨_, _, _, rfl, ((((ow3.under (p := ⟨w.heap.size + 1, 0, none⟩) hlt _).under (p := ⟨w.heap.size + 1, 1, none⟩) hlt _).under (p := ⟨w.heap.size + 1, 2, none⟩) hlt _).from_ hB1.size), ((hB3.setCell (p := ⟨w.heap.size + 1, 0, none⟩) (Nat.le_succ _) _).setCell (p := ⟨w.heap.size + 1, 1, none⟩) (Nat.le_succ _) _).setCell (p := ⟨w.heap.size + 1, 2, none⟩) (Nat.le_succ _) _⟩
  · have hne : (mc != 0) = true := by rw [bne_iff_ne]; exact h0
    have Hg := Lib.hid (show insertM l (x0, x1, x2, x3) = (mc, false, []) by rw [Hins.out, if_pos h0])
    clear h0
    go_wp2_with fail
    refine bodyPost_ret (v := .agg #[.int .i64 mc, .bool false, .slice none 0 0]) (by simp [results, Tryd.results12, go_sem, c0, c1, cc2]) rfl ?_
    rw [Hg.out]
    exact ⟨_, _, _, rfl, Ow.nil, ((hB3.setCell (p := ⟨w.heap.size + 1, 0, none⟩) (Nat.le_succ _) _).setCell (p := ⟨w.heap.size + 1, 1, none⟩) (Nat.le_succ _) _).setCell (p := ⟨w.heap.size + 1, 2, none⟩) (Nat.le_succ _) _⟩

theorem hiInsertSample : ∀ (A : Option Addr) (n c : Nat) (l : List Smp) (x0 x1 x2 x3 : Int) (W : World), Rd eS W W.heap.size A l → l.length = n → n ≤ 1048576 → Flds W → Calls Tryd.prog 12 #[.slice A n c, .agg #[.int .i64 x0, .int .i64 x1, .int .i64 x2, .int .i64 x3]] W (RetSt (insertM l (x0, x1, x2, x3)) W) :=
  fun A n c l x0 x1 x2 x3 W ha hn hm hF => implInsertSample A n c l x0 x1 x2 x3 W ha hn hm hF
end Go.Proofs.YtkgbjlbhlhdhbaaDoor
