/-
  The law FnExactStateFault, walked over a contract of the program's function.
-/
import Derived.Test.YteiclanlhnccnaaDoorStas
import Derived.Test.YteiclanlhnccnaaDoorStaS
import Derived.Test.YteiclanlhnccnaaDoorMix
namespace Go.Proofs.YteiclanlhnccnaaDoor
set_option maxRecDepth 20000
open Go.RowKit
set_option linter.unusedSimpArgs false
set_option linter.unusedVariables false
attribute [local irreducible] mixW

theorem undrewH {w w' : World} {k : Nat} (h : Below (w.drewN k).heap.size (w.drewN k) w') : Below w.heap.size w w' := ⟨h.os, h.tape, h.output, h.size, h.block⟩
set_option maxHeartbeats 4000000 in
theorem fnExactStateFault_all (HI : ∀ (A B : Option Addr) (n c m d : Nat) (l : List Smp) (h : List Hnt) (x : Int) (W : World), Rd eS W W.heap.size A l → Rd eH W W.heap.size B h → l.length = n → h.length = m → n ≤ 1048576 → m ≤ 1048576 → Flds W → Calls Tryd.prog 23 #[.agg #[.slice A n c, .slice B m d, .int .i64 x]] W fun e W' => e = .returned (.int .i64 (stateFaultM (l, h, x))) ∧ Below W.heap.size W W')
    (X Y : Option Addr) (n c m d : Nat) (l : List Smp) (h : List Hnt) (x : Int) (w : World) (ha : Rd eL w w.heap.size X l) (hb : Rd eM w w.heap.size Y h) (hn : l.length = n) (hm : h.length = m) (hM1 : n ≤ maxLen) (hM2 : m ≤ maxLen) (hF : Flds w) :
    Calls Tryd.prog 6 #[.agg #[.slice X n c, .slice Y m d, .int .i64 x]] w fun e w' => e = .returned (.bool true) ∧ Below w.heap.size w w' := by
  have Hn := Lib.hid hn
  have Hm := Lib.hid hm
  clear hn hm
  by_cases hbig : 1048576 < n + m
  · have hB0 : Below w.heap.size w (w.alloc (.cells #[.slice X n c, .slice Y m d, .int .i64 x] 48)) := (Below.refl _ _).alloc (Nat.le_refl _) _
    have x0 := At.new w 48 #[.slice X n c, .slice Y m d, .int .i64 x]
    obtain ⟨c0, c1, c2, _, _, _⟩ := x0.three
    have S := szState_no X Y n c m d x (w.alloc (.cells #[.slice X n c, .slice Y m d, .int .i64 x] 48)) hM1 hM2 hbig
    clear hbig
    go_enter Tryd.func6, Tryd.ntmps6
    go_wp2_with fail
    refine S.mono ?_
    rintro e w1 ⟨rfl, hb1⟩
    go_wp2
    go_ret
    exact ⟨rfl, hB0.trans (hb1.mono hB0.size)⟩
  have hle : n + m ≤ 1048576 := by omega
  have hn1 : n ≤ 1048576 := by omega
  have hm1 : m ≤ 1048576 := by omega
  have hl : ¬ (1048576 : Int) - (n : Int) - (m : Int) < 0 := by omega
  clear hbig
  go_enter Tryd.func6, Tryd.ntmps6
  have hb1 : Below w.heap.size w (w.alloc (.cells #[.slice X n c, .slice Y m d, .int .i64 x] 48)) := (Below.refl _ _).alloc (Nat.le_refl _) _
  have bl := At.new w 48 #[.slice X n c, .slice Y m d, .int .i64 x]
  have ha_1 := ha.lift hb1
  have hb_1 := hb.lift hb1
  have hF_1 := hF.below hb1
  have hB_1 := hb1
  clear hb1 hF hb ha
  obtain ⟨blc0, blc1, blc2, _, _, _⟩ := bl.three
  go_wp2_with fail
  refine (szState_ok X Y n c m d x _ hM1 hM2 hle).mono ?_
  rintro e w2 ⟨rfl, hb2⟩
  have bl_2 := bl.below hb2 bl.lt
  have ha_2 := ha_1.lift hb2
  have hb_2 := hb_1.lift hb2
  have hF_2 := hF_1.below hb2
  have hB_2 := hB_1.trans (hb2.mono hB_1.size)
  clear hb2 blc0 blc1 blc2 hB_1 hF_1 hb_1 ha_1 bl
  obtain ⟨blc0, blc1, blc2, _, _, _⟩ := bl_2.three
  go_wp2_with fail
  refine (toState X Y n c m d l h x _ ha_2 hb_2 Hn.out Hm.out hn1 hm1).mono ?_
  rintro e w3 ⟨A1, c1, B1, d1, rfl, oa, ob, hb3⟩
  have bl_3 := bl_2.below hb3 bl_2.lt
  have ha_3 := ha_2.lift hb3
  have hb_3 := hb_2.lift hb3
  have hF_3 := hF_2.below hb3
  have hB_3 := hB_2.trans (hb3.mono hB_2.size)
  clear hb3 blc0 blc1 blc2 hB_2 hF_2 hb_2 ha_2 bl_2
  have ra := oa.rd okS
  have rb := ob.rd okH
  clear oa ob
  obtain ⟨blc0, blc1, blc2, _, _, _⟩ := bl_3.three
  go_wp2_with fail
  refine (specStateFault A1 B1 n c1 m d1 l h x _ ra rb Hn.out Hm.out).mono ?_
  rintro e w4 ⟨rfl, hb4⟩
  have bl_4 := bl_3.below hb4 bl_3.lt
  have ha_4 := ha_3.lift hb4
  have hb_4 := hb_3.lift hb4
  have ra_4 := ra.lift hb4
  have rb_4 := rb.lift hb4
  have hF_4 := hF_3.below hb4
  have hB_4 := hB_3.trans (hb4.mono hB_3.size)
  clear hb4 blc0 blc1 blc2 hB_3 hF_3 rb ra hb_3 ha_3 bl_3
  obtain ⟨blc0, blc1, blc2, _, _, _⟩ := bl_4.three
  go_wp2_with fail
  refine (toState X Y n c m d l h x _ ha_4 hb_4 Hn.out Hm.out hn1 hm1).mono ?_
  rintro e w5 ⟨A2, c2, B2, d2, rfl, oa, ob, hb5⟩
  have bl_5 := bl_4.below hb5 bl_4.lt
  have ha_5 := ha_4.lift hb5
  have hb_5 := hb_4.lift hb5
  have hF_5 := hF_4.below hb5
  have hB_5 := hB_4.trans (hb5.mono hB_4.size)
  clear hb5 blc0 blc1 blc2 hB_4 hF_4 hb_4 ha_4 bl_4
  have rc := oa.rd okS
  have re := ob.rd okH
  clear oa ob
  have hb6 : Below w5.heap.size w5 (w5.alloc (.cells #[.slice A2 n c2, .slice B2 m d2, .int .i64 x] 54)) := (Below.refl _ _).alloc (Nat.le_refl _) _
  have b5 := At.new w5 54 #[.slice A2 n c2, .slice B2 m d2, .int .i64 x]
  have bl_6 := bl_5.below hb6 bl_5.lt
  have ha_6 := ha_5.lift hb6
  have hb_6 := hb_5.lift hb6
  have rc_6 := rc.lift hb6
  have re_6 := re.lift hb6
  have hF_6 := hF_5.below hb6
  have hB_6 := hB_5.trans (hb6.mono hB_5.size)
  clear hb6 hB_5 hF_5 re rc hb_5 ha_5 bl_5
  obtain ⟨b5c0, b5c1, b5c2, _, _, _⟩ := b5.three
  go_wp2_with fail
  refine (HI A2 B2 n c2 m d2 l h x _ rc_6 re_6 Hn.out Hm.out hn1 hm1 hF_6).mono ?_
  rintro e w7 ⟨rfl, hb7⟩
  have bl_7 := bl_6.below hb7 bl_6.lt
  have b5_7 := b5.below hb7 b5.lt
  have ha_7 := ha_6.lift hb7
  have hb_7 := hb_6.lift hb7
  have rc_7 := rc_6.lift hb7
  have re_7 := re_6.lift hb7
  have hF_7 := hF_6.below hb7
  have hB_7 := hB_6.trans (hb7.mono hB_6.size)
  clear hb7 b5c0 b5c1 b5c2 hB_6 hF_6 re_6 rc_6 hb_6 ha_6 b5 bl_6
  go_wp2_with fail
  (try simp only [List.append_eq, List.cons_append, List.nil_append])
  refine wp_region_mix [(0, false), (1, false), (2, true), (3, true), (4, false)] (fun u => (At u (w.heap.size) 48 #[.slice X n c, .slice Y m d, .int .i64 x]) ∧ (At u (w5.heap.size) 54 #[.slice A2 n c2, .slice B2 m d2, .int .i64 x])) (by kernel_rfl) (by kernel_rfl) (fun _ _ _ _ _ h => h) ⟨bl_7.drew, b5_7.drew⟩ ?_
  simp only [mixOps, List.map_cons, List.map_nil, List.getElem?_cons_succ, List.getElem?_cons_zero, Option.getD_some]
  repeat (first
    | (refine mix_skip (by rfl) ?_
       (try simp only [Act.put, List.setIfInBounds_toArray, List.set_cons_zero, List.set_cons_succ]))
    | (refine mix_pure (v := ?_) (by rfl) (fun u hu => ?_) ?_
       rotate_left
       · obtain ⟨y0, y1⟩ := hu
         obtain ⟨_, _, _, _, _, _⟩ := y0.three
         obtain ⟨_, _, _, _, _, _⟩ := y1.three
         go_simp
         (with_reducible rfl)
       (try simp only [Act.put, List.setIfInBounds_toArray, List.set_cons_zero, List.set_cons_succ])))
  refine mix_call (by rfl) (fun K hK => ?_)
  go_simp
  refine (toState X Y n c m d l h x _ (ha_7.drewN 1) (hb_7.drewN 1) Hn.out Hm.out hn1 hm1).mono ?_
  rintro e w8 ⟨A3, c3, B3, d3, rfl, oa, ob, hb8⟩
  have hb8 := undrewH hb8
  have bl_8 := bl_7.below hb8 bl_7.lt
  have b5_8 := b5_7.below hb8 b5_7.lt
  have ha_8 := ha_7.lift hb8
  have hb_8 := hb_7.lift hb8
  have rc_8 := rc_7.lift hb8
  have re_8 := re_7.lift hb8
  have hF_8 := hF_7.below hb8
  have hB_8 := hB_7.trans (hb8.mono hB_7.size)
  clear hb8 hB_7 hF_7 re_7 rc_7 hb_7 ha_7 b5_7 bl_7
  have rf := oa.rd okS
  have rg := ob.rd okH
  clear oa ob
  refine hK _ _ (fun u => (At u (w.heap.size) 48 #[.slice X n c, .slice Y m d, .int .i64 x]) ∧ (At u (w5.heap.size) 54 #[.slice A2 n c2, .slice B2 m d2, .int .i64 x])) (fun _ h => h) ⟨bl_8, b5_8⟩ ?_
  clear hK K
  (try simp only [Act.put, List.setIfInBounds_toArray, List.set_cons_zero, List.set_cons_succ])
  repeat (first
    | (refine mix_skip (by rfl) ?_
       (try simp only [Act.put, List.setIfInBounds_toArray, List.set_cons_zero, List.set_cons_succ]))
    | (refine mix_pure (v := ?_) (by rfl) (fun u hu => ?_) ?_
       rotate_left
       · obtain ⟨y0, y1⟩ := hu
         obtain ⟨_, _, _, _, _, _⟩ := y0.three
         obtain ⟨_, _, _, _, _, _⟩ := y1.three
         go_simp
         (with_reducible rfl)
       (try simp only [Act.put, List.setIfInBounds_toArray, List.set_cons_zero, List.set_cons_succ])))
  refine mix_call (by rfl) (fun K hK => ?_)
  go_simp
  refine (eqState A2 B2 A3 B3 n c2 m d2 n c3 m d3 l l h h x x _ rc_8 re_8 rf rg Hn.out Hm.out Hn.out Hm.out hM1 hM2).mono ?_
  rintro e w9 ⟨rfl, hb9⟩
  have bl_9 := bl_8.below hb9 bl_8.lt
  have b5_9 := b5_8.below hb9 b5_8.lt
  have ha_9 := ha_8.lift hb9
  have hb_9 := hb_8.lift hb9
  have rc_9 := rc_8.lift hb9
  have re_9 := re_8.lift hb9
  have rf_9 := rf.lift hb9
  have rg_9 := rg.lift hb9
  have hF_9 := hF_8.below hb9
  have hB_9 := hB_8.trans (hb9.mono hB_8.size)
  clear hb9 hB_8 hF_8 rg rf re_8 rc_8 hb_8 ha_8 b5_8 bl_8
  rw [sta_yes]
  refine hK _ _ (fun u => (At u (w.heap.size) 48 #[.slice X n c, .slice Y m d, .int .i64 x]) ∧ (At u (w5.heap.size) 54 #[.slice A2 n c2, .slice B2 m d2, .int .i64 x])) (fun _ h => h) ⟨bl_9, b5_9⟩ ?_
  clear hK K
  (try simp only [Act.put, List.setIfInBounds_toArray, List.set_cons_zero, List.set_cons_succ])
  repeat (first
    | (refine mix_skip (by rfl) ?_
       (try simp only [Act.put, List.setIfInBounds_toArray, List.set_cons_zero, List.set_cons_succ]))
    | (refine mix_pure (v := ?_) (by rfl) (fun u hu => ?_) ?_
       rotate_left
       · obtain ⟨y0, y1⟩ := hu
         obtain ⟨_, _, _, _, _, _⟩ := y0.three
         obtain ⟨_, _, _, _, _, _⟩ := y1.three
         go_simp
         (with_reducible rfl)
       (try simp only [Act.put, List.setIfInBounds_toArray, List.set_cons_zero, List.set_cons_succ])))
  refine mix_nil ?_
  go_wp2
  go_ret
  exact ⟨rfl, hB_9⟩
theorem fnExactStateFault_walk (HI : ∀ (A B : Option Addr) (n c m d : Nat) (l : List Smp) (h : List Hnt) (x : Int) (W : World), Rd eS W W.heap.size A l → Rd eH W W.heap.size B h → l.length = n → h.length = m → n ≤ 1048576 → m ≤ 1048576 → Flds W → Calls Tryd.prog 23 #[.agg #[.slice A n c, .slice B m d, .int .i64 x]] W fun e W' => e = .returned (.int .i64 (stateFaultM (l, h, x))) ∧ Below W.heap.size W W')
    (X : Option Addr) (n c : Nat) (l : List Smp) (Y : Option Addr) (m d : Nat) (h : List Hnt) (x : Int) (w : World) (ha : Rd eL w w.heap.size X l) (hn : l.length = n) (hM1 : n ≤ maxLen) (hb : Rd eM w w.heap.size Y h) (hm : h.length = m) (hM2 : m ≤ maxLen) (hF : Flds w) :
    Calls Tryd.prog 6 #[.agg #[.slice X n c, .slice Y m d, .int .i64 x]] w fun e w' => e = .returned (.bool true) ∧ Below w.heap.size w w' :=
  fnExactStateFault_all HI X Y n c m d l h x w ha hb hn hm hM1 hM2 hF
end Go.Proofs.YteiclanlhnccnaaDoor
