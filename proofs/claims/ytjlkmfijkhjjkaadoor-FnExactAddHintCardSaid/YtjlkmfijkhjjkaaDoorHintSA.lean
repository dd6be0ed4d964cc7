/-
  The model's AddHint.
-/
import Derived.Test.YtjlkmfijkhjjkaaDoorHintS
namespace Go.Proofs.YtjlkmfijkhjjkaaDoor
set_option maxRecDepth 20000
open Go.RowKit
set_option linter.unusedSimpArgs false
set_option linter.unusedVariables false

set_option maxRecDepth 100000 in
set_option maxHeartbeats 4000000 in
theorem specAddHint (A : Option Addr) (n c : Nat) (l : List Hnt) (p x0 x1 x2 x3 : Int) (w : World) (ha : Rd eH w w.heap.size A l) (hn : l.length = n) :
    Calls Tryd.prog 20 #[.slice A n c, .int .i64 p, .agg #[.int .i64 x0, .int .i64 x1, .int .i64 x2, .int .i64 x3]] w (RetHs (addM l p (x0, x1, x2, x3)) w) := by
  have hB0 : Below w.heap.size w ((w.alloc (.cells #[.int .i64 x0, .int .i64 x1, .int .i64 x2, .int .i64 x3] 26)).alloc (.cells #[.int .i64 0, .slice none 0 0] 30)) := ((Below.refl _ _).alloc (Nat.le_refl _) _).alloc (by simp) _
  have bx0 := (At.new w 26 #[.int .i64 x0, .int .i64 x1, .int .i64 x2, .int .i64 x3]).alloc (.cells #[.int .i64 0, .slice none 0 0] 30)
  have e1 : (w.alloc (.cells #[.int .i64 x0, .int .i64 x1, .int .i64 x2, .int .i64 x3] 26)).heap.size = w.heap.size + 1 := by simp
  have r0 := At.new (w.alloc (.cells #[.int .i64 x0, .int .i64 x1, .int .i64 x2, .int .i64 x3] 26)) 30 #[.int .i64 0, .slice none 0 0]
  rw [e1] at r0
  have ha0 := ha.lift hB0
  have HF := specHintsFault A n c l _ ha0 hn
  by_cases h0 : hintsFaultM l = 0
  rotate_left
  · rw [show (addM l p (x0, x1, x2, x3)) = (hintsFaultM l, []) from if_pos h0]
    have hne : (hintsFaultM l != 0) = true := by rw [bne_iff_ne]; exact h0
    generalize hintsFaultM l = sf at *
    clear h0
    go_enter Tryd.func20, Tryd.ntmps20
    go_wp2_with fail
    refine (HF).mono ?_
    rintro e w1 ⟨rfl, hb1⟩
    have hB1 := hB0.trans (hb1.mono hB0.size)
    have r1 := r0.below hb1 r0.lt
    have ha1 := ha0.lift hb1
    have bx1 := bx0.below hb1 bx0.lt
    obtain ⟨b1_0, b1_1, b1_2, b1_3, _, _, _, _⟩ := bx1.four
    obtain ⟨c0, c1, _, _⟩ := r1.two
    go_wp2_with fail
    refine bodyPost_ret (v := .agg #[.int .i64 sf, .slice none 0 0]) (by simp [results, Tryd.results20, go_sem, c0, c1]) rfl ?_
    exact ⟨_, _, _, rfl, Ow.nil, (hB1.setCell (by simp) _).setCell (by simp) _⟩
  obtain ⟨h8, hall, hdis⟩ := (hintsFault_iff l).1 h0
  rw [h0] at HF
  rcases faultM_or (x0, x1, x2, x3) with hf | hf
  rotate_left
  · rw [show (addM l p (x0, x1, x2, x3)) = (3, []) by unfold addM; rw [if_neg (by simp [h0]), if_pos (by simp [hf])]]
    have XF := specSampleFault x0 x1 x2 x3
    rw [hf] at XF
    clear hf h0
    go_enter Tryd.func20, Tryd.ntmps20
    go_wp2_with fail
    refine (HF).mono ?_
    rintro e w1 ⟨rfl, hb1⟩
    have hB1 := hB0.trans (hb1.mono hB0.size)
    have r1 := r0.below hb1 r0.lt
    have ha1 := ha0.lift hb1
    have bx1 := bx0.below hb1 bx0.lt
    obtain ⟨b1_0, b1_1, b1_2, b1_3, _, _, _, _⟩ := bx1.four
    go_wp2_with fail
    refine (XF _).mono ?_
    rintro e w2 ⟨rfl, hb2⟩
    have hB2 := hB1.trans (hb2.mono hB1.size)
    have r2 := r1.below hb2 r1.lt
    have ha2 := ha1.lift hb2
    have bx2 := bx1.below hb2 bx1.lt
    obtain ⟨b2_0, b2_1, b2_2, b2_3, _, _, _, _⟩ := bx2.four
    obtain ⟨c0, c1, _, _⟩ := r2.two
    go_wp2_with fail
    refine bodyPost_ret (v := .agg #[.int .i64 3, .slice none 0 0]) (by simp [results, Tryd.results20, go_sem, c0, c1]) rfl ?_
    exact ⟨_, _, _, rfl, Ow.nil, (hB2.setCell (by simp) _).setCell (by simp) _⟩
  have XF := specSampleFault x0 x1 x2 x3
  rw [hf] at XF
  rcases hp : inB (p, 0, 3)
  · rw [show (addM l p (x0, x1, x2, x3)) = (3, []) by unfold addM; rw [if_neg (by simp [h0]), if_neg (by simp [hf]), if_pos hp]]
    clear hf h0
    go_enter Tryd.func20, Tryd.ntmps20
    go_wp2_with fail
    refine (HF).mono ?_
    rintro e w1 ⟨rfl, hb1⟩
    have hB1 := hB0.trans (hb1.mono hB0.size)
    have r1 := r0.below hb1 r0.lt
    have ha1 := ha0.lift hb1
    have bx1 := bx0.below hb1 bx0.lt
    obtain ⟨b1_0, b1_1, b1_2, b1_3, _, _, _, _⟩ := bx1.four
    go_wp2_with fail
    refine (XF _).mono ?_
    rintro e w2 ⟨rfl, hb2⟩
    have hB2 := hB1.trans (hb2.mono hB1.size)
    have r2 := r1.below hb2 r1.lt
    have ha2 := ha1.lift hb2
    have bx2 := bx1.below hb2 bx1.lt
    obtain ⟨b2_0, b2_1, b2_2, b2_3, _, _, _, _⟩ := bx2.four
    go_wp2_with fail
    refine (l4Node p _).mono ?_
    rintro e w99 ⟨rfl, rfl⟩
    obtain ⟨c0, c1, _, _⟩ := r2.two
    go_wp2_with fail
    refine bodyPost_ret (v := .agg #[.int .i64 3, .slice none 0 0]) (by simp [results, Tryd.results20, go_sem, c0, c1]) rfl ?_
    exact ⟨_, _, _, rfl, Ow.nil, (hB2.setCell (by simp) _).setCell (by simp) _⟩
  have HL := fun W (h1 : Rd eH W W.heap.size A l) => l4Find A n c l p x2 W h1 hn (by unfold maxLen; omega)
  rcases findHI_or l p x2 with ⟨hi, -⟩ | ⟨k, hi, -, hk⟩
  rotate_left
  · rw [hi] at HL
    rw [show (addM l p (x0, x1, x2, x3)) = (6, []) by unfold addM; rw [if_neg (by simp [h0]), if_neg (by simp [hf]), if_neg (by simp [hp]), if_pos (by rw [hi]; omega)]]
    have hk0 : (0 : Int) ≤ (k : Int) := by omega
    clear hf h0 hi
    go_enter Tryd.func20, Tryd.ntmps20
    go_wp2_with fail
    refine (HF).mono ?_
    rintro e w1 ⟨rfl, hb1⟩
    have hB1 := hB0.trans (hb1.mono hB0.size)
    have r1 := r0.below hb1 r0.lt
    have ha1 := ha0.lift hb1
    have bx1 := bx0.below hb1 bx0.lt
    obtain ⟨b1_0, b1_1, b1_2, b1_3, _, _, _, _⟩ := bx1.four
    go_wp2_with fail
    refine (XF _).mono ?_
    rintro e w2 ⟨rfl, hb2⟩
    have hB2 := hB1.trans (hb2.mono hB1.size)
    have r2 := r1.below hb2 r1.lt
    have ha2 := ha1.lift hb2
    have bx2 := bx1.below hb2 bx1.lt
    obtain ⟨b2_0, b2_1, b2_2, b2_3, _, _, _, _⟩ := bx2.four
    go_wp2_with fail
    refine (l4Node p _).mono ?_
    rintro e w99 ⟨rfl, rfl⟩
    go_wp2_with fail
    refine (HL _ ha2).mono ?_
    rintro e w99 ⟨rfl, rfl⟩
    obtain ⟨c0, c1, _, _⟩ := r2.two
    go_wp2_with fail
    refine bodyPost_ret (v := .agg #[.int .i64 6, .slice none 0 0]) (by simp [results, Tryd.results20, go_sem, c0, c1]) rfl ?_
    exact ⟨_, _, _, rfl, Ow.nil, (hB2.setCell (by simp) _).setCell (by simp) _⟩
  rw [hi] at HL
  by_cases hfull : 8 ≤ n
  · rw [show (addM l p (x0, x1, x2, x3)) = (7, []) by unfold addM; rw [if_neg (by simp [h0]), if_neg (by simp [hf]), if_neg (by simp [hp]), if_neg (by rw [hi]; omega), if_pos (by omega)]]
    have hfi : (8 : Int) ≤ (n : Int) := by omega
    clear hf h0 hi
    go_enter Tryd.func20, Tryd.ntmps20
    go_wp2_with fail
    refine (HF).mono ?_
    rintro e w1 ⟨rfl, hb1⟩
    have hB1 := hB0.trans (hb1.mono hB0.size)
    have r1 := r0.below hb1 r0.lt
    have ha1 := ha0.lift hb1
    have bx1 := bx0.below hb1 bx0.lt
    obtain ⟨b1_0, b1_1, b1_2, b1_3, _, _, _, _⟩ := bx1.four
    go_wp2_with fail
    refine (XF _).mono ?_
    rintro e w2 ⟨rfl, hb2⟩
    have hB2 := hB1.trans (hb2.mono hB1.size)
    have r2 := r1.below hb2 r1.lt
    have ha2 := ha1.lift hb2
    have bx2 := bx1.below hb2 bx1.lt
    obtain ⟨b2_0, b2_1, b2_2, b2_3, _, _, _, _⟩ := bx2.four
    go_wp2_with fail
    refine (l4Node p _).mono ?_
    rintro e w99 ⟨rfl, rfl⟩
    go_wp2_with fail
    refine (HL _ ha2).mono ?_
    rintro e w99 ⟨rfl, rfl⟩
    obtain ⟨c0, c1, _, _⟩ := r2.two
    go_wp2_with fail
    refine bodyPost_ret (v := .agg #[.int .i64 7, .slice none 0 0]) (by simp [results, Tryd.results20, go_sem, c0, c1]) rfl ?_
    exact ⟨_, _, _, rfl, Ow.nil, (hB2.setCell (by simp) _).setCell (by simp) _⟩
  · rw [show (addM l p (x0, x1, x2, x3)) = (0, l ++ [(p, (x0, x1, x2, x3), 0, 0)]) by unfold addM; rw [if_neg (by simp [h0]), if_neg (by simp [hf]), if_neg (by simp [hp]), if_neg (by rw [hi]; omega), if_neg (by omega)]]
    have hfi : ¬ (8 : Int) ≤ (n : Int) := by omega
    clear hf h0 hi
    go_enter Tryd.func20, Tryd.ntmps20
    go_wp2_with fail
    refine (HF).mono ?_
    rintro e w1 ⟨rfl, hb1⟩
    have hB1 := hB0.trans (hb1.mono hB0.size)
    have r1 := r0.below hb1 r0.lt
    have ha1 := ha0.lift hb1
    have bx1 := bx0.below hb1 bx0.lt
    obtain ⟨b1_0, b1_1, b1_2, b1_3, _, _, _, _⟩ := bx1.four
    go_wp2_with fail
    refine (XF _).mono ?_
    rintro e w2 ⟨rfl, hb2⟩
    have hB2 := hB1.trans (hb2.mono hB1.size)
    have r2 := r1.below hb2 r1.lt
    have ha2 := ha1.lift hb2
    have bx2 := bx1.below hb2 bx1.lt
    obtain ⟨b2_0, b2_1, b2_2, b2_3, _, _, _, _⟩ := bx2.four
    go_wp2_with fail
    refine (l4Node p _).mono ?_
    rintro e w99 ⟨rfl, rfl⟩
    go_wp2_with fail
    refine (HL _ ha2).mono ?_
    rintro e w99 ⟨rfl, rfl⟩
    go_wp2
    have hbd := hB2.drew
    have bxd := bx2.drew
    have rd := r2.drew
    have had := ha2.drewN 1
    clear b1_0 b1_1 b1_2 b1_3 b2_0 b2_1 b2_2 b2_3
    refine wp_region_fork2 [(0, false), (2, false), (3, false), (4, false)] [(5, true), (6, true), (7, false), (8, true)] [(1, true), (6, true), (7, false), (8, true)] 1 5 (fun u => At u w.heap.size 26 #[.int .i64 x0, .int .i64 x1, .int .i64 x2, .int .i64 x3]) (by kernel_rfl) (by kernel_rfl) (fun _ _ _ _ _ h => h) bxd ?_
    simp only [mixOps, List.map_cons, List.map_nil, List.getElem?_cons_succ, List.getElem?_cons_zero, Option.getD_some]
    iterate 4 (
      refine mixR_pure (v := ?_) (by rfl) (fun u hu => ?_) ?_
      rotate_left
      · obtain ⟨_, _, _, _, _, _, _, _⟩ := hu.four
        go_simp
        (with_reducible rfl)
      (try simp only [Act.put, List.setIfInBounds_toArray, List.set_cons_zero, List.set_cons_succ]))
    refine mixR_nil ⟨?_, ?_⟩
    · refine mixR_call (by rfl) (fun K hK => ?_)
      go_simp
      refine (l4Copy A n c l _ had hn (by omega)).mono ?_
      rintro e w3 ⟨A3, c3, rfl, o3, hb3⟩
      have o3 : Ow eH w3 w2.heap.size A3 n c3 l := o3
      have hB3 := hbd.trans (hb3.mono hbd.size)
      have bx3 := bxd.below hb3 bxd.lt
      have r3 := rd.below hb3 rd.lt
      refine hK _ _ _ (fun _ h => h) bx3 ?_
      (try simp only [Act.put, List.setIfInBounds_toArray, List.set_cons_zero, List.set_cons_succ])
      refine mixR_call (by rfl) (fun K hK => ?_)
      go_simp
      have hB4 := hB3.alloc hB3.size (.cells #[.int .i64 p, .int .i64 x0, .int .i64 x1, .int .i64 x2, .int .i64 x3, .int .i64 0, .int .i64 0] 50)
      have bx4 := bx3.alloc (.cells #[.int .i64 p, .int .i64 x0, .int .i64 x1, .int .i64 x2, .int .i64 x3, .int .i64 0, .int .i64 0] 50)
      have r4 := r3.alloc (.cells #[.int .i64 p, .int .i64 x0, .int .i64 x1, .int .i64 x2, .int .i64 x3, .int .i64 0, .int .i64 0] 50)
      have o4 := o3.alloc (.cells #[.int .i64 p, .int .i64 x0, .int .i64 x1, .int .i64 x2, .int .i64 x3, .int .i64 0, .int .i64 0] 50)
      have ob4 := rd_lit okH w3 50 [(p, (x0, x1, x2, x3), 0, 0)] #[.int .i64 p, .int .i64 x0, .int .i64 x1, .int .i64 x2, .int .i64 x3, .int .i64 0, .int .i64 0] rfl
      have hs4 : w2.heap.size ≤ (w3.alloc (.cells #[.int .i64 p, .int .i64 x0, .int .i64 x1, .int .i64 x2, .int .i64 x3, .int .i64 0, .int .i64 0] 50)).heap.size := by have := hb3.size; simp at this ⊢; omega
      refine hK _ _ _ (fun _ h => h) bx4 ?_
      (try simp only [Act.put, List.setIfInBounds_toArray, List.set_cons_zero, List.set_cons_succ])
      refine mixR_call (by rfl) (fun K hK => ?_)
      refine wp_append_ow okH _ (.tmp 37) (.tmp 41) _ rfl w2.heap.size info_hnt Tryd.underlying24 rfl A3 n c3 l rfl o4 _ 1 1 _ [(p, (x0, x1, x2, x3), 0, 0)] rfl ob4 rfl (by unfold maxLen; omega) (by omega) hs4 ?_
      intro A5 c5 w5 ow5 hg5 _
      have hB5 := hB4.grown hg5 hB4.size (fun g hg => by have := (o4.lt g hg).1; have := hB2.size; omega)
      have bx5 := bx4.grown hg5 (fun e => by have := (o4.lt _ e).1; have := bx2.lt; omega)
      have r5 := r4.grown hg5 (fun e => by have := (o4.lt _ e).1; have := r2.lt; omega)
      refine hK _ _ _ (fun _ h => h) bx5 ?_
      (try simp only [Act.put, List.setIfInBounds_toArray, List.set_cons_zero, List.set_cons_succ])
      refine mixR_pure (v := ?_) (by rfl) (fun u hu => ?_) ?_
      rotate_left
      · go_simp
        (with_reducible rfl)
      (try simp only [Act.put, List.setIfInBounds_toArray, List.set_cons_zero, List.set_cons_succ])
      obtain ⟨c0, c1, f0, f1⟩ := r5.two
      refine mixR_call (by rfl) (fun K hK => ?_)
      go_simp
      have r6 := r5.set 0 (.int .i64 0)
      have r7 := r6.set 1 (.slice A5 (n + 1) c5)
      refine hK _ _ _ (fun _ h => h) ((bx5.far (p := ⟨w.heap.size + 1, 0, none⟩) (by simp) _).far (p := ⟨w.heap.size + 1, 1, none⟩) (by simp) _) ?_
      (try simp only [Act.put, List.setIfInBounds_toArray, List.set_cons_zero, List.set_cons_succ])
      refine mixR_nil ?_
      go_wp2
      refine bodyPost_ret (v := .agg #[.int .i64 0, .slice A5 (n + 1) c5]) (by simp [results, Tryd.results20, go_sem, c0, c1]) rfl ?_
      exact ⟨_, _, _, rfl, (((ow5.under (p := ⟨w.heap.size + 1, 0, none⟩) r2.lt _).under (p := ⟨w.heap.size + 1, 1, none⟩) r2.lt _).from_ hB2.size), (hB5.setCell (by simp) _).setCell (by simp) _⟩
    · refine mixR_call (by rfl) (fun K hK => ?_)
      go_simp
      have hB3 := hB2.alloc hB2.size (.cells #[.int .i64 p, .int .i64 x0, .int .i64 x1, .int .i64 x2, .int .i64 x3, .int .i64 0, .int .i64 0] 50)
      have bx3 := (bx2.alloc (.cells #[.int .i64 p, .int .i64 x0, .int .i64 x1, .int .i64 x2, .int .i64 x3, .int .i64 0, .int .i64 0] 50)).drew
      have r3 := (r2.alloc (.cells #[.int .i64 p, .int .i64 x0, .int .i64 x1, .int .i64 x2, .int .i64 x3, .int .i64 0, .int .i64 0] 50)).drew
      have ha3 := ha2.lift ((Below.refl w2.heap.size w2).alloc (Nat.le_refl _) (.cells #[.int .i64 p, .int .i64 x0, .int .i64 x1, .int .i64 x2, .int .i64 x3, .int .i64 0, .int .i64 0] 50))
      have ob3 := rd_lit okH w2 50 [(p, (x0, x1, x2, x3), 0, 0)] #[.int .i64 p, .int .i64 x0, .int .i64 x1, .int .i64 x2, .int .i64 x3, .int .i64 0, .int .i64 0] rfl
      refine hK _ _ _ (fun _ h => h) bx3 ?_
      (try simp only [Act.put, List.setIfInBounds_toArray, List.set_cons_zero, List.set_cons_succ])
      refine mixR_call (by rfl) (fun K hK => ?_)
      go_simp
      refine (l4Copy A n c l _ (ha3.drewN 1) hn (by omega)).mono ?_
      rintro e w4 ⟨A3, c3, rfl, o3, hb4⟩
      have hB4 := hB3.drew.trans (hb4.mono hB3.size)
      have bx4 := bx3.below hb4 bx3.lt
      have r4 := r3.below hb4 r3.lt
      have o4 : Ow eH w4 w2.heap.size A3 n c3 l := o3.from_ (by simp)
      have ob4 := (ob3.drewN 1).below hb4 (by simp)
      have hs4 : w2.heap.size ≤ w4.heap.size := by have := hb4.size; simp at this; omega
      refine hK _ _ _ (fun _ h => h) bx4 ?_
      (try simp only [Act.put, List.setIfInBounds_toArray, List.set_cons_zero, List.set_cons_succ])
      refine mixR_call (by rfl) (fun K hK => ?_)
      refine wp_append_ow okH _ (.tmp 37) (.tmp 41) _ rfl w2.heap.size info_hnt Tryd.underlying24 rfl A3 n c3 l rfl o4 _ 1 1 _ [(p, (x0, x1, x2, x3), 0, 0)] rfl ob4 rfl (by unfold maxLen; omega) (by omega) hs4 ?_
      intro A5 c5 w5 ow5 hg5 _
      have hB5 := hB4.grown hg5 hB4.size (fun g hg => by have := (o4.lt g hg).1; have := hB2.size; omega)
      have bx5 := bx4.grown hg5 (fun e => by have := (o4.lt _ e).1; have := bx2.lt; omega)
      have r5 := r4.grown hg5 (fun e => by have := (o4.lt _ e).1; have := r2.lt; omega)
      refine hK _ _ _ (fun _ h => h) bx5 ?_
      (try simp only [Act.put, List.setIfInBounds_toArray, List.set_cons_zero, List.set_cons_succ])
      refine mixR_pure (v := ?_) (by rfl) (fun u hu => ?_) ?_
      rotate_left
      · go_simp
        (with_reducible rfl)
      (try simp only [Act.put, List.setIfInBounds_toArray, List.set_cons_zero, List.set_cons_succ])
      obtain ⟨c0, c1, f0, f1⟩ := r5.two
      refine mixR_call (by rfl) (fun K hK => ?_)
      go_simp
      have r6 := r5.set 0 (.int .i64 0)
      have r7 := r6.set 1 (.slice A5 (n + 1) c5)
      refine hK _ _ _ (fun _ h => h) ((bx5.far (p := ⟨w.heap.size + 1, 0, none⟩) (by simp) _).far (p := ⟨w.heap.size + 1, 1, none⟩) (by simp) _) ?_
      (try simp only [Act.put, List.setIfInBounds_toArray, List.set_cons_zero, List.set_cons_succ])
      refine mixR_nil ?_
      go_wp2
      refine bodyPost_ret (v := .agg #[.int .i64 0, .slice A5 (n + 1) c5]) (by simp [results, Tryd.results20, go_sem, c0, c1]) rfl ?_
      exact ⟨_, _, _, rfl, (((ow5.under (p := ⟨w.heap.size + 1, 0, none⟩) r2.lt _).under (p := ⟨w.heap.size + 1, 1, none⟩) r2.lt _).from_ hB2.size), (hB5.setCell (by simp) _).setCell (by simp) _⟩
end Go.Proofs.YtjlkmfijkhjjkaaDoor
