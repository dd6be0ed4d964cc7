/-
  The law FnExactSameStates, walked.
-/
import Derived.Test.YteiclanlhnccnaaSameSta
namespace Go.Proofs.Yteiclanlhnccnaa
set_option maxRecDepth 20000
open Go.RowKit
set_option linter.unusedSimpArgs false
set_option linter.unusedVariables false
attribute [local irreducible] mixW

theorem undrewX {w w' : World} {k : Nat} (h : Below (w.drewN k).heap.size (w.drewN k) w') : Below w.heap.size w w' := ⟨h.os, h.tape, h.output, h.size, h.block⟩
set_option maxRecDepth 100000 in
set_option maxHeartbeats 8000000 in
theorem fnExactSameStates_all (X Y X' Y' : Option Addr) (n c m d n' c' m' d' : Nat) (l l' : List Smp) (h h' : List Hnt) (x x' : Int) (w : World) (ha : Rd eL w w.heap.size X l) (hb : Rd eM w w.heap.size Y h) (hn : l.length = n) (hm : h.length = m) (hM1 : n ≤ maxLen) (hM2 : m ≤ maxLen)
    (ha' : Rd eL w w.heap.size X' l') (hb' : Rd eM w w.heap.size Y' h') (hn' : l'.length = n') (hm' : h'.length = m') (hM3 : n' ≤ maxLen) (hM4 : m' ≤ maxLen) :
    Calls Try.prog 3 #[.agg #[.slice X n c, .slice Y m d, .int .i64 x], .agg #[.slice X' n' c', .slice Y' m' d', .int .i64 x']] w fun e w' => e = .returned (.bool true) ∧ Below w.heap.size w w' := by
  have Hn := Lib.hid hn
  have Hm := Lib.hid hm
  have Hn' := Lib.hid hn'
  have Hm' := Lib.hid hm'
  clear hn hm hn' hm'
  by_cases hbig : (1048576 : Int) < (n : Int) + m
  · have hneg : (-1 : Int) < 0 := by omega
    go_enter Try.func3, Try.ntmps3
    have hb1 : Below w.heap.size w (w.alloc (.cells #[.slice X n c, .slice Y m d, .int .i64 x] 25)) := (Below.refl _ _).alloc (Nat.le_refl _) _
    have bl := At.new w 25 #[.slice X n c, .slice Y m d, .int .i64 x]
    have ha_1 := ha.lift hb1
    have hb_1 := hb.lift hb1
    have ga_1 := ha'.lift hb1
    have gb_1 := hb'.lift hb1
    have hB_1 := hb1
    clear hb1 hb' ha' hb ha
    have hb2 : Below (w.alloc (.cells #[.slice X n c, .slice Y m d, .int .i64 x] 25)).heap.size (w.alloc (.cells #[.slice X n c, .slice Y m d, .int .i64 x] 25)) ((w.alloc (.cells #[.slice X n c, .slice Y m d, .int .i64 x] 25)).alloc (.cells #[.slice X' n' c', .slice Y' m' d', .int .i64 x'] 25)) := (Below.refl _ _).alloc (Nat.le_refl _) _
    have bm : At ((w.alloc (.cells #[.slice X n c, .slice Y m d, .int .i64 x] 25)).alloc (.cells #[.slice X' n' c', .slice Y' m' d', .int .i64 x'] 25)) (w.heap.size + 1) 25 #[.slice X' n' c', .slice Y' m' d', .int .i64 x'] := by
      have := At.new (w.alloc (.cells #[.slice X n c, .slice Y m d, .int .i64 x] 25)) 25 #[.slice X' n' c', .slice Y' m' d', .int .i64 x']
      simpa using this
    have bl_2 := bl.below hb2 bl.lt
    have ha_2 := ha_1.lift hb2
    have hb_2 := hb_1.lift hb2
    have ga_2 := ga_1.lift hb2
    have gb_2 := gb_1.lift hb2
    have hB_2 := hB_1.trans (hb2.mono hB_1.size)
    clear hb2 hB_1 gb_1 ga_1 hb_1 ha_1 bl
    obtain ⟨blc0, blc1, blc2, _, _, _⟩ := bl_2.three
    obtain ⟨bmc0, bmc1, bmc2, _, _, _⟩ := bm.three
    go_wp2_with fail
    refine (szState_gen X Y n c m d x 1048576 _ (by omega) (by omega) hM1 hM2).mono ?_
    rintro e w3 ⟨rfl, hb3⟩
    have bl_3 := bl_2.below hb3 bl_2.lt
    have bm_3 := bm.below hb3 bm.lt
    have ha_3 := ha_2.lift hb3
    have hb_3 := hb_2.lift hb3
    have ga_3 := ga_2.lift hb3
    have gb_3 := gb_2.lift hb3
    have hB_3 := hB_2.trans (hb3.mono hB_2.size)
    clear hb3 blc0 blc1 blc2 bmc0 bmc1 bmc2 hB_2 gb_2 ga_2 hb_2 ha_2 bm bl_2
    rw [if_pos (by omega)]
    go_wp2
    go_ret
    exact ⟨rfl, hB_3⟩
  have hl : ¬ (1048576 : Int) - (n : Int) - (m : Int) < 0 := by omega
  by_cases hbig2 : (1048576 : Int) - (n : Int) - (m : Int) < (n' : Int) + m'
  · have hneg : (-1 : Int) < 0 := by omega
    go_enter Try.func3, Try.ntmps3
    have hb1 : Below w.heap.size w (w.alloc (.cells #[.slice X n c, .slice Y m d, .int .i64 x] 25)) := (Below.refl _ _).alloc (Nat.le_refl _) _
    have bl := At.new w 25 #[.slice X n c, .slice Y m d, .int .i64 x]
    have ha_1 := ha.lift hb1
    have hb_1 := hb.lift hb1
    have ga_1 := ha'.lift hb1
    have gb_1 := hb'.lift hb1
    have hB_1 := hb1
    clear hb1 hb' ha' hb ha
    have hb2 : Below (w.alloc (.cells #[.slice X n c, .slice Y m d, .int .i64 x] 25)).heap.size (w.alloc (.cells #[.slice X n c, .slice Y m d, .int .i64 x] 25)) ((w.alloc (.cells #[.slice X n c, .slice Y m d, .int .i64 x] 25)).alloc (.cells #[.slice X' n' c', .slice Y' m' d', .int .i64 x'] 25)) := (Below.refl _ _).alloc (Nat.le_refl _) _
    have bm : At ((w.alloc (.cells #[.slice X n c, .slice Y m d, .int .i64 x] 25)).alloc (.cells #[.slice X' n' c', .slice Y' m' d', .int .i64 x'] 25)) (w.heap.size + 1) 25 #[.slice X' n' c', .slice Y' m' d', .int .i64 x'] := by
      have := At.new (w.alloc (.cells #[.slice X n c, .slice Y m d, .int .i64 x] 25)) 25 #[.slice X' n' c', .slice Y' m' d', .int .i64 x']
      simpa using this
    have bl_2 := bl.below hb2 bl.lt
    have ha_2 := ha_1.lift hb2
    have hb_2 := hb_1.lift hb2
    have ga_2 := ga_1.lift hb2
    have gb_2 := gb_1.lift hb2
    have hB_2 := hB_1.trans (hb2.mono hB_1.size)
    clear hb2 hB_1 gb_1 ga_1 hb_1 ha_1 bl
    obtain ⟨blc0, blc1, blc2, _, _, _⟩ := bl_2.three
    obtain ⟨bmc0, bmc1, bmc2, _, _, _⟩ := bm.three
    go_wp2_with fail
    refine (szState_gen X Y n c m d x 1048576 _ (by omega) (by omega) hM1 hM2).mono ?_
    rintro e w3 ⟨rfl, hb3⟩
    have bl_3 := bl_2.below hb3 bl_2.lt
    have bm_3 := bm.below hb3 bm.lt
    have ha_3 := ha_2.lift hb3
    have hb_3 := hb_2.lift hb3
    have ga_3 := ga_2.lift hb3
    have gb_3 := gb_2.lift hb3
    have hB_3 := hB_2.trans (hb3.mono hB_2.size)
    clear hb3 blc0 blc1 blc2 bmc0 bmc1 bmc2 hB_2 gb_2 ga_2 hb_2 ha_2 bm bl_2
    rw [if_neg (by omega)]
    obtain ⟨blc0, blc1, blc2, _, _, _⟩ := bl_3.three
    obtain ⟨bmc0, bmc1, bmc2, _, _, _⟩ := bm_3.three
    go_wp2_with fail
    refine (szState_gen X' Y' n' c' m' d' x' (1048576 - (n : Int) - (m : Int)) _ (by omega) (by omega) hM3 hM4).mono ?_
    rintro e w4 ⟨rfl, hb4⟩
    have bl_4 := bl_3.below hb4 bl_3.lt
    have bm_4 := bm_3.below hb4 bm_3.lt
    have ha_4 := ha_3.lift hb4
    have hb_4 := hb_3.lift hb4
    have ga_4 := ga_3.lift hb4
    have gb_4 := gb_3.lift hb4
    have hB_4 := hB_3.trans (hb4.mono hB_3.size)
    clear hb4 blc0 blc1 blc2 bmc0 bmc1 bmc2 hB_3 gb_3 ga_3 hb_3 ha_3 bm_3 bl_3
    rw [if_pos (by omega)]
    go_wp2
    go_ret
    exact ⟨rfl, hB_4⟩
  have hl2 : ¬ (1048576 : Int) - (n : Int) - (m : Int) - (n' : Int) - (m' : Int) < 0 := by omega
  have hn1 : n ≤ 1048576 := by omega
  have hm1 : m ≤ 1048576 := by omega
  have hn2 : n' ≤ 1048576 := by omega
  have hm2 : m' ≤ 1048576 := by omega
  go_enter Try.func3, Try.ntmps3
  have hb1 : Below w.heap.size w (w.alloc (.cells #[.slice X n c, .slice Y m d, .int .i64 x] 25)) := (Below.refl _ _).alloc (Nat.le_refl _) _
  have bl := At.new w 25 #[.slice X n c, .slice Y m d, .int .i64 x]
  have ha_1 := ha.lift hb1
  have hb_1 := hb.lift hb1
  have ga_1 := ha'.lift hb1
  have gb_1 := hb'.lift hb1
  have hB_1 := hb1
  clear hb1 hb' ha' hb ha
  have hb2 : Below (w.alloc (.cells #[.slice X n c, .slice Y m d, .int .i64 x] 25)).heap.size (w.alloc (.cells #[.slice X n c, .slice Y m d, .int .i64 x] 25)) ((w.alloc (.cells #[.slice X n c, .slice Y m d, .int .i64 x] 25)).alloc (.cells #[.slice X' n' c', .slice Y' m' d', .int .i64 x'] 25)) := (Below.refl _ _).alloc (Nat.le_refl _) _
  have bm : At ((w.alloc (.cells #[.slice X n c, .slice Y m d, .int .i64 x] 25)).alloc (.cells #[.slice X' n' c', .slice Y' m' d', .int .i64 x'] 25)) (w.heap.size + 1) 25 #[.slice X' n' c', .slice Y' m' d', .int .i64 x'] := by
    have := At.new (w.alloc (.cells #[.slice X n c, .slice Y m d, .int .i64 x] 25)) 25 #[.slice X' n' c', .slice Y' m' d', .int .i64 x']
    simpa using this
  have bl_2 := bl.below hb2 bl.lt
  have ha_2 := ha_1.lift hb2
  have hb_2 := hb_1.lift hb2
  have ga_2 := ga_1.lift hb2
  have gb_2 := gb_1.lift hb2
  have hB_2 := hB_1.trans (hb2.mono hB_1.size)
  clear hb2 hB_1 gb_1 ga_1 hb_1 ha_1 bl
  obtain ⟨blc0, blc1, blc2, _, _, _⟩ := bl_2.three
  obtain ⟨bmc0, bmc1, bmc2, _, _, _⟩ := bm.three
  go_wp2_with fail
  refine (szState_gen X Y n c m d x 1048576 _ (by omega) (by omega) hM1 hM2).mono ?_
  rintro e w3 ⟨rfl, hb3⟩
  have bl_3 := bl_2.below hb3 bl_2.lt
  have bm_3 := bm.below hb3 bm.lt
  have ha_3 := ha_2.lift hb3
  have hb_3 := hb_2.lift hb3
  have ga_3 := ga_2.lift hb3
  have gb_3 := gb_2.lift hb3
  have hB_3 := hB_2.trans (hb3.mono hB_2.size)
  clear hb3 blc0 blc1 blc2 bmc0 bmc1 bmc2 hB_2 gb_2 ga_2 hb_2 ha_2 bm bl_2
  rw [if_neg (by omega)]
  obtain ⟨blc0, blc1, blc2, _, _, _⟩ := bl_3.three
  obtain ⟨bmc0, bmc1, bmc2, _, _, _⟩ := bm_3.three
  go_wp2_with fail
  refine (szState_gen X' Y' n' c' m' d' x' (1048576 - (n : Int) - (m : Int)) _ (by omega) (by omega) hM3 hM4).mono ?_
  rintro e w4 ⟨rfl, hb4⟩
  have bl_4 := bl_3.below hb4 bl_3.lt
  have bm_4 := bm_3.below hb4 bm_3.lt
  have ha_4 := ha_3.lift hb4
  have hb_4 := hb_3.lift hb4
  have ga_4 := ga_3.lift hb4
  have gb_4 := gb_3.lift hb4
  have hB_4 := hB_3.trans (hb4.mono hB_3.size)
  clear hb4 blc0 blc1 blc2 bmc0 bmc1 bmc2 hB_3 gb_3 ga_3 hb_3 ha_3 bm_3 bl_3
  rw [if_neg (by omega)]
  clear hbig hbig2
  obtain ⟨blc0, blc1, blc2, _, _, _⟩ := bl_4.three
  obtain ⟨bmc0, bmc1, bmc2, _, _, _⟩ := bm_4.three
  go_wp2_with fail
  (try simp only [List.append_eq, List.cons_append, List.nil_append])
  refine wp_region_mix [(0, false), (2, false), (1, true), (3, true), (4, true), (5, false)] (fun u => (At u (w.heap.size) 25 #[.slice X n c, .slice Y m d, .int .i64 x]) ∧ (At u (w.heap.size + 1) 25 #[.slice X' n' c', .slice Y' m' d', .int .i64 x'])) (by kernel_rfl) (by kernel_rfl) (fun _ _ _ _ _ h => h) ⟨bl_4.drew, bm_4.drew⟩ ?_
  simp only [mixOps, List.map_cons, List.map_nil, List.getElem?_cons_succ, List.getElem?_cons_zero, Option.getD_some]
  repeat (first
    | (refine mix_skip (by rfl) ?_
       (try simp only [Act.put, List.setIfInBounds_toArray, List.set_cons_zero, List.set_cons_succ]))
    | (refine mix_pure (v := ?_) (by rfl) (fun u hu => ?_) ?_
       rotate_left
       · obtain ⟨y0, y1⟩ := hu
         obtain ⟨_, _, _, _, _, _⟩ := y0.three
         obtain ⟨_, _, _, _, _, _⟩ := y1.three
         go_simp
         (with_reducible rfl)
       (try simp only [Act.put, List.setIfInBounds_toArray, List.set_cons_zero, List.set_cons_succ])))
  refine mix_call (by rfl) (fun K hK => ?_)
  go_simp
  refine (toState X Y n c m d l h x _ (ha_4.drewN 1) (hb_4.drewN 1) Hn.out Hm.out hn1 hm1).mono ?_
  rintro e w5 ⟨A1, c1, B1, d1, rfl, oa, ob, hb5⟩
  have hb5 := undrewX hb5
  have bl_5 := bl_4.below hb5 bl_4.lt
  have bm_5 := bm_4.below hb5 bm_4.lt
  have ha_5 := ha_4.lift hb5
  have hb_5 := hb_4.lift hb5
  have ga_5 := ga_4.lift hb5
  have gb_5 := gb_4.lift hb5
  have hB_5 := hB_4.trans (hb5.mono hB_4.size)
  clear hb5 blc0 blc1 blc2 bmc0 bmc1 bmc2 hB_4 gb_4 ga_4 hb_4 ha_4 bm_4 bl_4
  have ra := oa.rd okS
  have rb := ob.rd okH
  clear oa ob
  refine hK _ _ (fun u => (At u (w.heap.size) 25 #[.slice X n c, .slice Y m d, .int .i64 x]) ∧ (At u (w.heap.size + 1) 25 #[.slice X' n' c', .slice Y' m' d', .int .i64 x'])) (fun _ h => h) ⟨bl_5, bm_5⟩ ?_
  clear hK K
  (try simp only [Act.put, List.setIfInBounds_toArray, List.set_cons_zero, List.set_cons_succ])
  repeat (first
    | (refine mix_skip (by rfl) ?_
       (try simp only [Act.put, List.setIfInBounds_toArray, List.set_cons_zero, List.set_cons_succ]))
    | (refine mix_pure (v := ?_) (by rfl) (fun u hu => ?_) ?_
       rotate_left
       · obtain ⟨y0, y1⟩ := hu
         obtain ⟨_, _, _, _, _, _⟩ := y0.three
         obtain ⟨_, _, _, _, _, _⟩ := y1.three
         go_simp
         (with_reducible rfl)
       (try simp only [Act.put, List.setIfInBounds_toArray, List.set_cons_zero, List.set_cons_succ])))
  refine mix_call (by rfl) (fun K hK => ?_)
  go_simp
  refine (toState X' Y' n' c' m' d' l' h' x' _ ga_5 gb_5 Hn'.out Hm'.out hn2 hm2).mono ?_
  rintro e w6 ⟨A2, c2, B2, d2, rfl, oa, ob, hb6⟩
  have bl_6 := bl_5.below hb6 bl_5.lt
  have bm_6 := bm_5.below hb6 bm_5.lt
  have ha_6 := ha_5.lift hb6
  have hb_6 := hb_5.lift hb6
  have ga_6 := ga_5.lift hb6
  have gb_6 := gb_5.lift hb6
  have ra_6 := ra.lift hb6
  have rb_6 := rb.lift hb6
  have hB_6 := hB_5.trans (hb6.mono hB_5.size)
  clear hb6 hB_5 rb ra gb_5 ga_5 hb_5 ha_5 bm_5 bl_5
  have rc := oa.rd okS
  have re := ob.rd okH
  clear oa ob
  refine hK _ _ (fun u => (At u (w.heap.size) 25 #[.slice X n c, .slice Y m d, .int .i64 x]) ∧ (At u (w.heap.size + 1) 25 #[.slice X' n' c', .slice Y' m' d', .int .i64 x'])) (fun _ h => h) ⟨bl_6, bm_6⟩ ?_
  clear hK K
  (try simp only [Act.put, List.setIfInBounds_toArray, List.set_cons_zero, List.set_cons_succ])
  repeat (first
    | (refine mix_skip (by rfl) ?_
       (try simp only [Act.put, List.setIfInBounds_toArray, List.set_cons_zero, List.set_cons_succ]))
    | (refine mix_pure (v := ?_) (by rfl) (fun u hu => ?_) ?_
       rotate_left
       · obtain ⟨y0, y1⟩ := hu
         obtain ⟨_, _, _, _, _, _⟩ := y0.three
         obtain ⟨_, _, _, _, _, _⟩ := y1.three
         go_simp
         (with_reducible rfl)
       (try simp only [Act.put, List.setIfInBounds_toArray, List.set_cons_zero, List.set_cons_succ])))
  refine mix_call (by rfl) (fun K hK => ?_)
  go_simp
  refine (specSameStates A1 B1 A2 B2 n c1 m d1 n' c2 m' d2 l l' h h' x x' _ ra_6 rb_6 rc re Hn.out Hm.out Hn'.out Hm'.out hM1 hM2).mono ?_
  rintro e w7 ⟨rfl, hb7⟩
  have bl_7 := bl_6.below hb7 bl_6.lt
  have bm_7 := bm_6.below hb7 bm_6.lt
  have ha_7 := ha_6.lift hb7
  have hb_7 := hb_6.lift hb7
  have ga_7 := ga_6.lift hb7
  have gb_7 := gb_6.lift hb7
  have ra_7 := ra_6.lift hb7
  have rb_7 := rb_6.lift hb7
  have rc_7 := rc.lift hb7
  have re_7 := re.lift hb7
  have hB_7 := hB_6.trans (hb7.mono hB_6.size)
  clear hb7 hB_6 re rc rb_6 ra_6 gb_6 ga_6 hb_6 ha_6 bm_6 bl_6
  refine hK _ _ (fun u => (At u (w.heap.size) 25 #[.slice X n c, .slice Y m d, .int .i64 x]) ∧ (At u (w.heap.size + 1) 25 #[.slice X' n' c', .slice Y' m' d', .int .i64 x'])) (fun _ h => h) ⟨bl_7, bm_7⟩ ?_
  clear hK K
  (try simp only [Act.put, List.setIfInBounds_toArray, List.set_cons_zero, List.set_cons_succ])
  repeat (first
    | (refine mix_skip (by rfl) ?_
       (try simp only [Act.put, List.setIfInBounds_toArray, List.set_cons_zero, List.set_cons_succ]))
    | (refine mix_pure (v := ?_) (by rfl) (fun u hu => ?_) ?_
       rotate_left
       · obtain ⟨y0, y1⟩ := hu
         obtain ⟨_, _, _, _, _, _⟩ := y0.three
         obtain ⟨_, _, _, _, _, _⟩ := y1.three
         go_simp
         (with_reducible rfl)
       (try simp only [Act.put, List.setIfInBounds_toArray, List.set_cons_zero, List.set_cons_succ])))
  refine mix_nil ?_
  obtain ⟨blc0, blc1, blc2, _, _, _⟩ := bl_7.three
  obtain ⟨bmc0, bmc1, bmc2, _, _, _⟩ := bm_7.three
  go_wp2_with fail
  refine (toState X Y n c m d l h x _ ha_7 hb_7 Hn.out Hm.out hn1 hm1).mono ?_
  rintro e w8 ⟨A3, c3, B3, d3, rfl, oa, ob, hb8⟩
  have bl_8 := bl_7.below hb8 bl_7.lt
  have bm_8 := bm_7.below hb8 bm_7.lt
  have ha_8 := ha_7.lift hb8
  have hb_8 := hb_7.lift hb8
  have ga_8 := ga_7.lift hb8
  have gb_8 := gb_7.lift hb8
  have hB_8 := hB_7.trans (hb8.mono hB_7.size)
  clear hb8 blc0 blc1 blc2 bmc0 bmc1 bmc2 hB_7 gb_7 ga_7 hb_7 ha_7 bm_7 bl_7
  have ra := oa.rd okS
  have rb := ob.rd okH
  clear oa ob
  have hb9 : Below w8.heap.size w8 (w8.alloc (.cells #[.slice A3 n c3, .slice B3 m d3, .int .i64 x] 31)) := (Below.refl _ _).alloc (Nat.le_refl _) _
  have b5 := At.new w8 31 #[.slice A3 n c3, .slice B3 m d3, .int .i64 x]
  have bl_9 := bl_8.below hb9 bl_8.lt
  have bm_9 := bm_8.below hb9 bm_8.lt
  have ha_9 := ha_8.lift hb9
  have hb_9 := hb_8.lift hb9
  have ga_9 := ga_8.lift hb9
  have gb_9 := gb_8.lift hb9
  have ra_9 := ra.lift hb9
  have rb_9 := rb.lift hb9
  have hB_9 := hB_8.trans (hb9.mono hB_8.size)
  clear hb9 hB_8 rb ra gb_8 ga_8 hb_8 ha_8 bm_8 bl_8
  obtain ⟨blc0, blc1, blc2, _, _, _⟩ := bl_9.three
  obtain ⟨bmc0, bmc1, bmc2, _, _, _⟩ := bm_9.three
  obtain ⟨b5c0, b5c1, b5c2, _, _, _⟩ := b5.three
  go_wp2_with fail
  refine (toState X' Y' n' c' m' d' l' h' x' _ ga_9 gb_9 Hn'.out Hm'.out hn2 hm2).mono ?_
  rintro e w10 ⟨A4, c4, B4, d4, rfl, oa, ob, hb10⟩
  have bl_10 := bl_9.below hb10 bl_9.lt
  have bm_10 := bm_9.below hb10 bm_9.lt
  have b5_10 := b5.below hb10 b5.lt
  have ha_10 := ha_9.lift hb10
  have hb_10 := hb_9.lift hb10
  have ga_10 := ga_9.lift hb10
  have gb_10 := gb_9.lift hb10
  have ra_10 := ra_9.lift hb10
  have rb_10 := rb_9.lift hb10
  have hB_10 := hB_9.trans (hb10.mono hB_9.size)
  clear hb10 blc0 blc1 blc2 bmc0 bmc1 bmc2 b5c0 b5c1 b5c2 hB_9 rb_9 ra_9 gb_9 ga_9 hb_9 ha_9 b5 bm_9 bl_9
  have rc := oa.rd okS
  have re := ob.rd okH
  clear oa ob
  have hb11 : Below w10.heap.size w10 (w10.alloc (.cells #[.slice A4 n' c4, .slice B4 m' d4, .int .i64 x'] 31)) := (Below.refl _ _).alloc (Nat.le_refl _) _
  have b6 := At.new w10 31 #[.slice A4 n' c4, .slice B4 m' d4, .int .i64 x']
  have bl_11 := bl_10.below hb11 bl_10.lt
  have bm_11 := bm_10.below hb11 bm_10.lt
  have b5_11 := b5_10.below hb11 b5_10.lt
  have ha_11 := ha_10.lift hb11
  have hb_11 := hb_10.lift hb11
  have ga_11 := ga_10.lift hb11
  have gb_11 := gb_10.lift hb11
  have ra_11 := ra_10.lift hb11
  have rb_11 := rb_10.lift hb11
  have rc_11 := rc.lift hb11
  have re_11 := re.lift hb11
  have hB_11 := hB_10.trans (hb11.mono hB_10.size)
  clear hb11 hB_10 re rc rb_10 ra_10 gb_10 ga_10 hb_10 ha_10 b5_10 bm_10 bl_10
  obtain ⟨b5c0, b5c1, b5c2, _, _, _⟩ := b5_11.three
  obtain ⟨b6c0, b6c1, b6c2, _, _, _⟩ := b6.three
  go_wp2_with fail
  refine (implSameStates A3 B3 A4 B4 n c3 m d3 n' c4 m' d4 l l' h h' x x' _ ra_11 rb_11 rc_11 re_11 Hn.out Hm.out Hn'.out Hm'.out hM1 hM2).mono ?_
  rintro e w12 ⟨rfl, hb12⟩
  have bl_12 := bl_11.below hb12 bl_11.lt
  have bm_12 := bm_11.below hb12 bm_11.lt
  have b5_12 := b5_11.below hb12 b5_11.lt
  have b6_12 := b6.below hb12 b6.lt
  have ha_12 := ha_11.lift hb12
  have hb_12 := hb_11.lift hb12
  have ga_12 := ga_11.lift hb12
  have gb_12 := gb_11.lift hb12
  have ra_12 := ra_11.lift hb12
  have rb_12 := rb_11.lift hb12
  have rc_12 := rc_11.lift hb12
  have re_12 := re_11.lift hb12
  have hB_12 := hB_11.trans (hb12.mono hB_11.size)
  clear hb12 b5c0 b5c1 b5c2 b6c0 b6c1 b6c2 hB_11 re_11 rc_11 rb_11 ra_11 gb_11 ga_11 hb_11 ha_11 b6 b5_11 bm_11 bl_11
  have hss : (staSame (l, h, x) (l', h', x') != staSame (l, h, x) (l', h', x')) = false := by simp
  go_wp2_with fail
  (try simp only [List.append_eq, List.cons_append, List.nil_append])
  refine wp_region_mix [(0, false), (1, false), (2, true), (3, true), (4, false)] (fun u => (At u (w.heap.size) 25 #[.slice X n c, .slice Y m d, .int .i64 x]) ∧ (At u (w8.heap.size) 31 #[.slice A3 n c3, .slice B3 m d3, .int .i64 x])) (by kernel_rfl) (by kernel_rfl) (fun _ _ _ _ _ h => h) ⟨bl_12.drew, b5_12.drew⟩ ?_
  simp only [mixOps, List.map_cons, List.map_nil, List.getElem?_cons_succ, List.getElem?_cons_zero, Option.getD_some]
  repeat (first
    | (refine mix_skip (by rfl) ?_
       (try simp only [Act.put, List.setIfInBounds_toArray, List.set_cons_zero, List.set_cons_succ]))
    | (refine mix_pure (v := ?_) (by rfl) (fun u hu => ?_) ?_
       rotate_left
       · obtain ⟨y0, y1⟩ := hu
         obtain ⟨_, _, _, _, _, _⟩ := y0.three
         obtain ⟨_, _, _, _, _, _⟩ := y1.three
         go_simp
         (with_reducible rfl)
       (try simp only [Act.put, List.setIfInBounds_toArray, List.set_cons_zero, List.set_cons_succ])))
  refine mix_call (by rfl) (fun K hK => ?_)
  go_simp
  refine (toState X Y n c m d l h x _ (ha_12.drewN 1) (hb_12.drewN 1) Hn.out Hm.out hn1 hm1).mono ?_
  rintro e w13 ⟨A5, c5, B5, d5, rfl, oa, ob, hb13⟩
  have hb13 := undrewX hb13
  have bl_13 := bl_12.below hb13 bl_12.lt
  have bm_13 := bm_12.below hb13 bm_12.lt
  have b5_13 := b5_12.below hb13 b5_12.lt
  have b6_13 := b6_12.below hb13 b6_12.lt
  have ha_13 := ha_12.lift hb13
  have hb_13 := hb_12.lift hb13
  have ga_13 := ga_12.lift hb13
  have gb_13 := gb_12.lift hb13
  have ra_13 := ra_12.lift hb13
  have rb_13 := rb_12.lift hb13
  have rc_13 := rc_12.lift hb13
  have re_13 := re_12.lift hb13
  have hB_13 := hB_12.trans (hb13.mono hB_12.size)
  clear hb13 hB_12 re_12 rc_12 rb_12 ra_12 gb_12 ga_12 hb_12 ha_12 b6_12 b5_12 bm_12 bl_12
  have rf := oa.rd okS
  have rg := ob.rd okH
  clear oa ob
  refine hK _ _ (fun u => (At u (w.heap.size) 25 #[.slice X n c, .slice Y m d, .int .i64 x]) ∧ (At u (w8.heap.size) 31 #[.slice A3 n c3, .slice B3 m d3, .int .i64 x])) (fun _ h => h) ⟨bl_13, b5_13⟩ ?_
  clear hK K
  (try simp only [Act.put, List.setIfInBounds_toArray, List.set_cons_zero, List.set_cons_succ])
  repeat (first
    | (refine mix_skip (by rfl) ?_
       (try simp only [Act.put, List.setIfInBounds_toArray, List.set_cons_zero, List.set_cons_succ]))
    | (refine mix_pure (v := ?_) (by rfl) (fun u hu => ?_) ?_
       rotate_left
       · obtain ⟨y0, y1⟩ := hu
         obtain ⟨_, _, _, _, _, _⟩ := y0.three
         obtain ⟨_, _, _, _, _, _⟩ := y1.three
         go_simp
         (with_reducible rfl)
       (try simp only [Act.put, List.setIfInBounds_toArray, List.set_cons_zero, List.set_cons_succ])))
  refine mix_call (by rfl) (fun K hK => ?_)
  go_simp
  refine (eqState A3 B3 A5 B5 n c3 m d3 n c5 m d5 l l h h x x _ ra_13 rb_13 rf rg Hn.out Hm.out Hn.out Hm.out hM1 hM2).mono ?_
  rintro e w14 ⟨rfl, hb14⟩
  have bl_14 := bl_13.below hb14 bl_13.lt
  have bm_14 := bm_13.below hb14 bm_13.lt
  have b5_14 := b5_13.below hb14 b5_13.lt
  have b6_14 := b6_13.below hb14 b6_13.lt
  have ha_14 := ha_13.lift hb14
  have hb_14 := hb_13.lift hb14
  have ga_14 := ga_13.lift hb14
  have gb_14 := gb_13.lift hb14
  have ra_14 := ra_13.lift hb14
  have rb_14 := rb_13.lift hb14
  have rc_14 := rc_13.lift hb14
  have re_14 := re_13.lift hb14
  have rf_14 := rf.lift hb14
  have rg_14 := rg.lift hb14
  have hB_14 := hB_13.trans (hb14.mono hB_13.size)
  clear hb14 hB_13 rg rf re_13 rc_13 rb_13 ra_13 gb_13 ga_13 hb_13 ha_13 b6_13 b5_13 bm_13 bl_13
  rw [sta_yes]
  refine hK _ _ (fun u => (At u (w.heap.size) 25 #[.slice X n c, .slice Y m d, .int .i64 x]) ∧ (At u (w8.heap.size) 31 #[.slice A3 n c3, .slice B3 m d3, .int .i64 x])) (fun _ h => h) ⟨bl_14, b5_14⟩ ?_
  clear hK K
  (try simp only [Act.put, List.setIfInBounds_toArray, List.set_cons_zero, List.set_cons_succ])
  repeat (first
    | (refine mix_skip (by rfl) ?_
       (try simp only [Act.put, List.setIfInBounds_toArray, List.set_cons_zero, List.set_cons_succ]))
    | (refine mix_pure (v := ?_) (by rfl) (fun u hu => ?_) ?_
       rotate_left
       · obtain ⟨y0, y1⟩ := hu
         obtain ⟨_, _, _, _, _, _⟩ := y0.three
         obtain ⟨_, _, _, _, _, _⟩ := y1.three
         go_simp
         (with_reducible rfl)
       (try simp only [Act.put, List.setIfInBounds_toArray, List.set_cons_zero, List.set_cons_succ])))
  refine mix_nil ?_
  go_wp2_with fail
  (try simp only [List.append_eq, List.cons_append, List.nil_append])
  refine wp_region_mix [(0, false), (1, false), (2, true), (3, true), (4, false)] (fun u => (At u (w.heap.size + 1) 25 #[.slice X' n' c', .slice Y' m' d', .int .i64 x']) ∧ (At u (w10.heap.size) 31 #[.slice A4 n' c4, .slice B4 m' d4, .int .i64 x'])) (by kernel_rfl) (by kernel_rfl) (fun _ _ _ _ _ h => h) ⟨bm_14.drew, b6_14.drew⟩ ?_
  simp only [mixOps, List.map_cons, List.map_nil, List.getElem?_cons_succ, List.getElem?_cons_zero, Option.getD_some]
  repeat (first
    | (refine mix_skip (by rfl) ?_
       (try simp only [Act.put, List.setIfInBounds_toArray, List.set_cons_zero, List.set_cons_succ]))
    | (refine mix_pure (v := ?_) (by rfl) (fun u hu => ?_) ?_
       rotate_left
       · obtain ⟨y0, y1⟩ := hu
         obtain ⟨_, _, _, _, _, _⟩ := y0.three
         obtain ⟨_, _, _, _, _, _⟩ := y1.three
         go_simp
         (with_reducible rfl)
       (try simp only [Act.put, List.setIfInBounds_toArray, List.set_cons_zero, List.set_cons_succ])))
  refine mix_call (by rfl) (fun K hK => ?_)
  go_simp
  refine (toState X' Y' n' c' m' d' l' h' x' _ (ga_14.drewN 1) (gb_14.drewN 1) Hn'.out Hm'.out hn2 hm2).mono ?_
  rintro e w15 ⟨A6, c6, B6, d6, rfl, oa, ob, hb15⟩
  have hb15 := undrewX hb15
  have bl_15 := bl_14.below hb15 bl_14.lt
  have bm_15 := bm_14.below hb15 bm_14.lt
  have b5_15 := b5_14.below hb15 b5_14.lt
  have b6_15 := b6_14.below hb15 b6_14.lt
  have ha_15 := ha_14.lift hb15
  have hb_15 := hb_14.lift hb15
  have ga_15 := ga_14.lift hb15
  have gb_15 := gb_14.lift hb15
  have rc_15 := rc_14.lift hb15
  have re_15 := re_14.lift hb15
  have hB_15 := hB_14.trans (hb15.mono hB_14.size)
  clear hb15 hB_14 re_14 rc_14 gb_14 ga_14 hb_14 ha_14 b6_14 b5_14 bm_14 bl_14
  have rf := oa.rd okS
  have rg := ob.rd okH
  clear oa ob
  refine hK _ _ (fun u => (At u (w.heap.size + 1) 25 #[.slice X' n' c', .slice Y' m' d', .int .i64 x']) ∧ (At u (w10.heap.size) 31 #[.slice A4 n' c4, .slice B4 m' d4, .int .i64 x'])) (fun _ h => h) ⟨bm_15, b6_15⟩ ?_
  clear hK K
  (try simp only [Act.put, List.setIfInBounds_toArray, List.set_cons_zero, List.set_cons_succ])
  repeat (first
    | (refine mix_skip (by rfl) ?_
       (try simp only [Act.put, List.setIfInBounds_toArray, List.set_cons_zero, List.set_cons_succ]))
    | (refine mix_pure (v := ?_) (by rfl) (fun u hu => ?_) ?_
       rotate_left
       · obtain ⟨y0, y1⟩ := hu
         obtain ⟨_, _, _, _, _, _⟩ := y0.three
         obtain ⟨_, _, _, _, _, _⟩ := y1.three
         go_simp
         (with_reducible rfl)
       (try simp only [Act.put, List.setIfInBounds_toArray, List.set_cons_zero, List.set_cons_succ])))
  refine mix_call (by rfl) (fun K hK => ?_)
  go_simp
  refine (eqState A4 B4 A6 B6 n' c4 m' d4 n' c6 m' d6 l' l' h' h' x' x' _ rc_15 re_15 rf rg Hn'.out Hm'.out Hn'.out Hm'.out hM3 hM4).mono ?_
  rintro e w16 ⟨rfl, hb16⟩
  have bl_16 := bl_15.below hb16 bl_15.lt
  have bm_16 := bm_15.below hb16 bm_15.lt
  have b5_16 := b5_15.below hb16 b5_15.lt
  have b6_16 := b6_15.below hb16 b6_15.lt
  have ha_16 := ha_15.lift hb16
  have hb_16 := hb_15.lift hb16
  have ga_16 := ga_15.lift hb16
  have gb_16 := gb_15.lift hb16
  have rc_16 := rc_15.lift hb16
  have re_16 := re_15.lift hb16
  have rf_16 := rf.lift hb16
  have rg_16 := rg.lift hb16
  have hB_16 := hB_15.trans (hb16.mono hB_15.size)
  clear hb16 hB_15 rg rf re_15 rc_15 gb_15 ga_15 hb_15 ha_15 b6_15 b5_15 bm_15 bl_15
  rw [sta_yes]
  refine hK _ _ (fun u => (At u (w.heap.size + 1) 25 #[.slice X' n' c', .slice Y' m' d', .int .i64 x']) ∧ (At u (w10.heap.size) 31 #[.slice A4 n' c4, .slice B4 m' d4, .int .i64 x'])) (fun _ h => h) ⟨bm_16, b6_16⟩ ?_
  clear hK K
  (try simp only [Act.put, List.setIfInBounds_toArray, List.set_cons_zero, List.set_cons_succ])
  repeat (first
    | (refine mix_skip (by rfl) ?_
       (try simp only [Act.put, List.setIfInBounds_toArray, List.set_cons_zero, List.set_cons_succ]))
    | (refine mix_pure (v := ?_) (by rfl) (fun u hu => ?_) ?_
       rotate_left
       · obtain ⟨y0, y1⟩ := hu
         obtain ⟨_, _, _, _, _, _⟩ := y0.three
         obtain ⟨_, _, _, _, _, _⟩ := y1.three
         go_simp
         (with_reducible rfl)
       (try simp only [Act.put, List.setIfInBounds_toArray, List.set_cons_zero, List.set_cons_succ])))
  refine mix_nil ?_
  go_wp2
  go_ret
  exact ⟨rfl, hB_16⟩
theorem fnExactSameStates_walk (X : Option Addr) (n c : Nat) (l : List Smp) (Y : Option Addr) (m d : Nat) (h : List Hnt) (x : Int) (X' : Option Addr) (n' c' : Nat) (l' : List Smp) (Y' : Option Addr) (m' d' : Nat) (h' : List Hnt) (x' : Int) (w : World)
    (ha : Rd eL w w.heap.size X l) (hn : l.length = n) (hM1 : n ≤ maxLen) (hb : Rd eM w w.heap.size Y h) (hm : h.length = m) (hM2 : m ≤ maxLen) (ha' : Rd eL w w.heap.size X' l') (hn' : l'.length = n') (hM3 : n' ≤ maxLen) (hb' : Rd eM w w.heap.size Y' h') (hm' : h'.length = m') (hM4 : m' ≤ maxLen) :
    Calls Try.prog 3 #[.agg #[.slice X n c, .slice Y m d, .int .i64 x], .agg #[.slice X' n' c', .slice Y' m' d', .int .i64 x']] w fun e w' => e = .returned (.bool true) ∧ Below w.heap.size w w' :=
  fnExactSameStates_all X Y X' Y' n c m d n' c' m' d' l l' h h' x x' w ha hb hn hm hM1 hM2 ha' hb' hn' hm' hM3 hM4
end Go.Proofs.Yteiclanlhnccnaa
