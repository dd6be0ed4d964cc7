/-
  Texts of one proof, joined: each has its own namespace.
-/
import Derived.Test.YtjlkmfijkhjjkaaDoorBFnHints4
import Derived.Test.YtjlkmfijkhjjkaaDoorBFnHints0
/-
  The model's AddHint.
-/
namespace Go.Proofs.YtjlkmfijkhjjkaaDoor
set_option maxRecDepth 20000
open Go.RowKit
set_option linter.unusedSimpArgs false
set_option linter.unusedVariables false

set_option maxRecDepth 100000 in
set_option maxHeartbeats 4000000 in
theorem specAddHint (A : Option Addr) (n c : Nat) (l : List Hnt) (p x0 x1 x2 x3 : Int) (w : World) (ha : Rd eH w w.heap.size A l) (hn : l.length = n) :
    Calls Tryd.prog 20 #[.slice A n c, .int .i64 p, .agg #[.int .i64 x0, .int .i64 x1, .int .i64 x2, .int .i64 x3]] w (RetHs (addM l p (x0, x1, x2, x3)) w) := by
  have hB0 : Below w.heap.size w ((w.alloc (.cells #[.int .i64 x0, .int .i64 x1, .int .i64 x2, .int .i64 x3] 26)).alloc (.cells #[.int .i64 0, .slice none 0 0] 30)) := ((Below.refl _ _).alloc (Nat.le_refl _) _).alloc (by simp) _
  have bx0 := (At.new w 26 #[.int .i64 x0, .int .i64 x1, .int .i64 x2, .int .i64 x3]).alloc (.cells #[.int .i64 0, .slice none 0 0] 30)
  have e1 : (w.alloc (.cells #[.int .i64 x0, .int .i64 x1, .int .i64 x2, .int .i64 x3] 26)).heap.size = w.heap.size + 1 := by simp
  have r0 := At.new (w.alloc (.cells #[.int .i64 x0, .int .i64 x1, .int .i64 x2, .int .i64 x3] 26)) 30 #[.int .i64 0, .slice none 0 0]
  rw [e1] at r0
  have ha0 := ha.lift hB0
  have HF := specHintsFault A n c l _ ha0 hn
  by_cases h0 : hintsFaultM l = 0
  rotate_left
  · rw [show (addM l p (x0, x1, x2, x3)) = (hintsFaultM l, []) from if_pos h0]
    have hne : (hintsFaultM l != 0) = true := by rw [bne_iff_ne]; exact h0
    generalize hintsFaultM l = sf at *
    clear h0
    go_enter Tryd.func20, Tryd.ntmps20
    go_wp2_with fail
    refine (HF).mono ?_
    rintro e w1 ⟨rfl, hb1⟩
    have hB1 := hB0.trans (hb1.mono hB0.size)
    have r1 := r0.below hb1 r0.lt
    have ha1 := ha0.lift hb1
    have bx1 := bx0.below hb1 bx0.lt
    obtain ⟨b1_0, b1_1, b1_2, b1_3, _, _, _, _⟩ := bx1.four
    obtain ⟨c0, c1, _, _⟩ := r1.two
    go_wp2_with fail
    refine bodyPost_ret (v := .agg #[.int .i64 sf, .slice none 0 0]) (by simp [results, Tryd.results20, go_sem, c0, c1]) rfl ?_
    exact ⟨_, _, _, rfl, Ow.nil, (hB1.setCell (by simp) _).setCell (by simp) _⟩
  obtain ⟨h8, hall, hdis⟩ := (hintsFault_iff l).1 h0
  rw [h0] at HF
  rcases faultM_or (x0, x1, x2, x3) with hf | hf
  rotate_left
  · rw [show (addM l p (x0, x1, x2, x3)) = (3, []) by unfold addM; rw [if_neg (by simp [h0]), if_pos (by simp [hf])]]
    have XF := specSampleFault x0 x1 x2 x3
    rw [hf] at XF
    clear hf h0
    go_enter Tryd.func20, Tryd.ntmps20
    go_wp2_with fail
    refine (HF).mono ?_
    rintro e w1 ⟨rfl, hb1⟩
    have hB1 := hB0.trans (hb1.mono hB0.size)
    have r1 := r0.below hb1 r0.lt
    have ha1 := ha0.lift hb1
    have bx1 := bx0.below hb1 bx0.lt
    obtain ⟨b1_0, b1_1, b1_2, b1_3, _, _, _, _⟩ := bx1.four
    go_wp2_with fail
    refine (XF _).mono ?_
    rintro e w2 ⟨rfl, hb2⟩
    have hB2 := hB1.trans (hb2.mono hB1.size)
    have r2 := r1.below hb2 r1.lt
    have ha2 := ha1.lift hb2
    have bx2 := bx1.below hb2 bx1.lt
    obtain ⟨b2_0, b2_1, b2_2, b2_3, _, _, _, _⟩ := bx2.four
    obtain ⟨c0, c1, _, _⟩ := r2.two
    go_wp2_with fail
    refine bodyPost_ret (v := .agg #[.int .i64 3, .slice none 0 0]) (by simp [results, Tryd.results20, go_sem, c0, c1]) rfl ?_
    exact ⟨_, _, _, rfl, Ow.nil, (hB2.setCell (by simp) _).setCell (by simp) _⟩
  have XF := specSampleFault x0 x1 x2 x3
  rw [hf] at XF
  rcases hp : inB (p, 0, 3)
  · rw [show (addM l p (x0, x1, x2, x3)) = (3, []) by unfold addM; rw [if_neg (by simp [h0]), if_neg (by simp [hf]), if_pos hp]]
    clear hf h0
    go_enter Tryd.func20, Tryd.ntmps20
    go_wp2_with fail
    refine (HF).mono ?_
    rintro e w1 ⟨rfl, hb1⟩
    have hB1 := hB0.trans (hb1.mono hB0.size)
    have r1 := r0.below hb1 r0.lt
    have ha1 := ha0.lift hb1
    have bx1 := bx0.below hb1 bx0.lt
    obtain ⟨b1_0, b1_1, b1_2, b1_3, _, _, _, _⟩ := bx1.four
    go_wp2_with fail
    refine (XF _).mono ?_
    rintro e w2 ⟨rfl, hb2⟩
    have hB2 := hB1.trans (hb2.mono hB1.size)
    have r2 := r1.below hb2 r1.lt
    have ha2 := ha1.lift hb2
    have bx2 := bx1.below hb2 bx1.lt
    obtain ⟨b2_0, b2_1, b2_2, b2_3, _, _, _, _⟩ := bx2.four
    go_wp2_with fail
    refine (l4Node p _).mono ?_
    rintro e w99 ⟨rfl, rfl⟩
    obtain ⟨c0, c1, _, _⟩ := r2.two
    go_wp2_with fail
    refine bodyPost_ret (v := .agg #[.int .i64 3, .slice none 0 0]) (by simp [results, Tryd.results20, go_sem, c0, c1]) rfl ?_
    exact ⟨_, _, _, rfl, Ow.nil, (hB2.setCell (by simp) _).setCell (by simp) _⟩
  have HL := fun W (h1 : Rd eH W W.heap.size A l) => l4Find A n c l p x2 W h1 hn (by unfold maxLen; omega)
  rcases findHI_or l p x2 with ⟨hi, -⟩ | ⟨k, hi, -, hk⟩
  rotate_left
  · rw [hi] at HL
    rw [show (addM l p (x0, x1, x2, x3)) = (6, []) by unfold addM; rw [if_neg (by simp [h0]), if_neg (by simp [hf]), if_neg (by simp [hp]), if_pos (by rw [hi]; omega)]]
    have hk0 : (0 : Int) ≤ (k : Int) := by omega
    clear hf h0 hi
    go_enter Tryd.func20, Tryd.ntmps20
    go_wp2_with fail
    refine (HF).mono ?_
    rintro e w1 ⟨rfl, hb1⟩
    have hB1 := hB0.trans (hb1.mono hB0.size)
    have r1 := r0.below hb1 r0.lt
    have ha1 := ha0.lift hb1
    have bx1 := bx0.below hb1 bx0.lt
    obtain ⟨b1_0, b1_1, b1_2, b1_3, _, _, _, _⟩ := bx1.four
    go_wp2_with fail
    refine (XF _).mono ?_
    rintro e w2 ⟨rfl, hb2⟩
    have hB2 := hB1.trans (hb2.mono hB1.size)
    have r2 := r1.below hb2 r1.lt
    have ha2 := ha1.lift hb2
    have bx2 := bx1.below hb2 bx1.lt
    obtain ⟨b2_0, b2_1, b2_2, b2_3, _, _, _, _⟩ := bx2.four
    go_wp2_with fail
    refine (l4Node p _).mono ?_
    rintro e w99 ⟨rfl, rfl⟩
    go_wp2_with fail
    refine (HL _ ha2).mono ?_
    rintro e w99 ⟨rfl, rfl⟩
    obtain ⟨c0, c1, _, _⟩ := r2.two
    go_wp2_with fail
    refine bodyPost_ret (v := .agg #[.int .i64 6, .slice none 0 0]) (by simp [results, Tryd.results20, go_sem, c0, c1]) rfl ?_
    exact ⟨_, _, _, rfl, Ow.nil, (hB2.setCell (by simp) _).setCell (by simp) _⟩
  rw [hi] at HL
  by_cases hfull : 8 ≤ n
  · rw [show (addM l p (x0, x1, x2, x3)) = (7, []) by unfold addM; rw [if_neg (by simp [h0]), if_neg (by simp [hf]), if_neg (by simp [hp]), if_neg (by rw [hi]; omega), if_pos (by omega)]]
    have hfi : (8 : Int) ≤ (n : Int) := by omega
    clear hf h0 hi
    go_enter Tryd.func20, Tryd.ntmps20
    go_wp2_with fail
    refine (HF).mono ?_
    rintro e w1 ⟨rfl, hb1⟩
    have hB1 := hB0.trans (hb1.mono hB0.size)
    have r1 := r0.below hb1 r0.lt
    have ha1 := ha0.lift hb1
    have bx1 := bx0.below hb1 bx0.lt
    obtain ⟨b1_0, b1_1, b1_2, b1_3, _, _, _, _⟩ := bx1.four
    go_wp2_with fail
    refine (XF _).mono ?_
    rintro e w2 ⟨rfl, hb2⟩
    have hB2 := hB1.trans (hb2.mono hB1.size)
    have r2 := r1.below hb2 r1.lt
    have ha2 := ha1.lift hb2
    have bx2 := bx1.below hb2 bx1.lt
    obtain ⟨b2_0, b2_1, b2_2, b2_3, _, _, _, _⟩ := bx2.four
    go_wp2_with fail
    refine (l4Node p _).mono ?_
    rintro e w99 ⟨rfl, rfl⟩
    go_wp2_with fail
    refine (HL _ ha2).mono ?_
    rintro e w99 ⟨rfl, rfl⟩
    obtain ⟨c0, c1, _, _⟩ := r2.two
    go_wp2_with fail
    refine bodyPost_ret (v := .agg #[.int .i64 7, .slice none 0 0]) (by simp [results, Tryd.results20, go_sem, c0, c1]) rfl ?_
    exact ⟨_, _, _, rfl, Ow.nil, (hB2.setCell (by simp) _).setCell (by simp) _⟩
  · rw [show (addM l p (x0, x1, x2, x3)) = (0, l ++ [(p, (x0, x1, x2, x3), 0, 0)]) by unfold addM; rw [if_neg (by simp [h0]), if_neg (by simp [hf]), if_neg (by simp [hp]), if_neg (by rw [hi]; omega), if_neg (by omega)]]
    have hfi : ¬ (8 : Int) ≤ (n : Int) := by omega
    clear hf h0 hi
    go_enter Tryd.func20, Tryd.ntmps20
    go_wp2_with fail
    refine (HF).mono ?_
    rintro e w1 ⟨rfl, hb1⟩
    have hB1 := hB0.trans (hb1.mono hB0.size)
    have r1 := r0.below hb1 r0.lt
    have ha1 := ha0.lift hb1
    have bx1 := bx0.below hb1 bx0.lt
    obtain ⟨b1_0, b1_1, b1_2, b1_3, _, _, _, _⟩ := bx1.four
    go_wp2_with fail
    refine (XF _).mono ?_
    rintro e w2 ⟨rfl, hb2⟩
    have hB2 := hB1.trans (hb2.mono hB1.size)
    have r2 := r1.below hb2 r1.lt
    have ha2 := ha1.lift hb2
    have bx2 := bx1.below hb2 bx1.lt
    obtain ⟨b2_0, b2_1, b2_2, b2_3, _, _, _, _⟩ := bx2.four
    go_wp2_with fail
    refine (l4Node p _).mono ?_
    rintro e w99 ⟨rfl, rfl⟩
    go_wp2_with fail
    refine (HL _ ha2).mono ?_
    rintro e w99 ⟨rfl, rfl⟩
    go_wp2
    have hbd := hB2.drew
    have bxd := bx2.drew
    have rd := r2.drew
    have had := ha2.drewN 1
    clear b1_0 b1_1 b1_2 b1_3 b2_0 b2_1 b2_2 b2_3
    refine wp_region_fork2 [(0, false), (2, false), (3, false), (4, false)] [(5, true), (6, true), (7, false), (8, true)] [(1, true), (6, true), (7, false), (8, true)] 1 5 (fun u => At u w.heap.size 26 #[.int .i64 x0, .int .i64 x1, .int .i64 x2, .int .i64 x3]) (by kernel_rfl) (by kernel_rfl) (fun _ _ _ _ _ h => h) bxd ?_
    simp only [mixOps, List.map_cons, List.map_nil, List.getElem?_cons_succ, List.getElem?_cons_zero, Option.getD_some]
    iterate 4 (
      refine mixR_pure (v := ?_) (by rfl) (fun u hu => ?_) ?_
      rotate_left
      · obtain ⟨_, _, _, _, _, _, _, _⟩ := hu.four
        go_simp
        (with_reducible rfl)
      (try simp only [Act.put, List.setIfInBounds_toArray, List.set_cons_zero, List.set_cons_succ]))
    refine mixR_nil ⟨?_, ?_⟩
    · refine mixR_call (by rfl) (fun K hK => ?_)
      go_simp
      refine (l4Copy A n c l _ had hn (by omega)).mono ?_
      rintro e w3 ⟨A3, c3, rfl, o3, hb3⟩
      have o3 : Ow eH w3 w2.heap.size A3 n c3 l := o3
      have hB3 := hbd.trans (hb3.mono hbd.size)
      have bx3 := bxd.below hb3 bxd.lt
      have r3 := rd.below hb3 rd.lt
      refine hK _ _ _ (fun _ h => h) bx3 ?_
      (try simp only [Act.put, List.setIfInBounds_toArray, List.set_cons_zero, List.set_cons_succ])
      refine mixR_call (by rfl) (fun K hK => ?_)
      go_simp
      have hB4 := hB3.alloc hB3.size (.cells #[.int .i64 p, .int .i64 x0, .int .i64 x1, .int .i64 x2, .int .i64 x3, .int .i64 0, .int .i64 0] 50)
      have bx4 := bx3.alloc (.cells #[.int .i64 p, .int .i64 x0, .int .i64 x1, .int .i64 x2, .int .i64 x3, .int .i64 0, .int .i64 0] 50)
      have r4 := r3.alloc (.cells #[.int .i64 p, .int .i64 x0, .int .i64 x1, .int .i64 x2, .int .i64 x3, .int .i64 0, .int .i64 0] 50)
      have o4 := o3.alloc (.cells #[.int .i64 p, .int .i64 x0, .int .i64 x1, .int .i64 x2, .int .i64 x3, .int .i64 0, .int .i64 0] 50)
      have ob4 := rd_lit okH w3 50 [(p, (x0, x1, x2, x3), 0, 0)] #[.int .i64 p, .int .i64 x0, .int .i64 x1, .int .i64 x2, .int .i64 x3, .int .i64 0, .int .i64 0] rfl
      have hs4 : w2.heap.size ≤ (w3.alloc (.cells #[.int .i64 p, .int .i64 x0, .int .i64 x1, .int .i64 x2, .int .i64 x3, .int .i64 0, .int .i64 0] 50)).heap.size := by have := hb3.size; simp at this ⊢; omega
      refine hK _ _ _ (fun _ h => h) bx4 ?_
      (try simp only [Act.put, List.setIfInBounds_toArray, List.set_cons_zero, List.set_cons_succ])
      refine mixR_call (by rfl) (fun K hK => ?_)
      refine wp_append_ow okH _ (.tmp 37) (.tmp 41) _ rfl w2.heap.size info_hnt Tryd.underlying24 rfl A3 n c3 l rfl o4 _ 1 1 _ [(p, (x0, x1, x2, x3), 0, 0)] rfl ob4 rfl (by unfold maxLen; omega) (by omega) hs4 ?_
      intro A5 c5 w5 ow5 hg5 _
      have hB5 := hB4.grown hg5 hB4.size (fun g hg => by have := (o4.lt g hg).1; have := hB2.size; omega)
      have bx5 := bx4.grown hg5 (fun e => by have := (o4.lt _ e).1; have := bx2.lt; omega)
      have r5 := r4.grown hg5 (fun e => by have := (o4.lt _ e).1; have := r2.lt; omega)
      refine hK _ _ _ (fun _ h => h) bx5 ?_
      (try simp only [Act.put, List.setIfInBounds_toArray, List.set_cons_zero, List.set_cons_succ])
      refine mixR_pure (v := ?_) (by rfl) (fun u hu => ?_) ?_
      rotate_left
      · go_simp
        (with_reducible rfl)
      (try simp only [Act.put, List.setIfInBounds_toArray, List.set_cons_zero, List.set_cons_succ])
      obtain ⟨c0, c1, f0, f1⟩ := r5.two
      refine mixR_call (by rfl) (fun K hK => ?_)
      go_simp
      have r6 := r5.set 0 (.int .i64 0)
      have r7 := r6.set 1 (.slice A5 (n + 1) c5)
      refine hK _ _ _ (fun _ h => h) ((bx5.far (p := ⟨w.heap.size + 1, 0, none⟩) (by simp) _).far (p := ⟨w.heap.size + 1, 1, none⟩) (by simp) _) ?_
      (try simp only [Act.put, List.setIfInBounds_toArray, List.set_cons_zero, List.set_cons_succ])
      refine mixR_nil ?_
      go_wp2
      refine bodyPost_ret (v := .agg #[.int .i64 0, .slice A5 (n + 1) c5]) (by simp [results, Tryd.results20, go_sem, c0, c1]) rfl ?_
      exact ⟨_, _, _, rfl, (((ow5.under (p := ⟨w.heap.size + 1, 0, none⟩) r2.lt _).under (p := ⟨w.heap.size + 1, 1, none⟩) r2.lt _).from_ hB2.size), (hB5.setCell (by simp) _).setCell (by simp) _⟩
    · refine mixR_call (by rfl) (fun K hK => ?_)
      go_simp
      have hB3 := hB2.alloc hB2.size (.cells #[.int .i64 p, .int .i64 x0, .int .i64 x1, .int .i64 x2, .int .i64 x3, .int .i64 0, .int .i64 0] 50)
      have bx3 := (bx2.alloc (.cells #[.int .i64 p, .int .i64 x0, .int .i64 x1, .int .i64 x2, .int .i64 x3, .int .i64 0, .int .i64 0] 50)).drew
      have r3 := (r2.alloc (.cells #[.int .i64 p, .int .i64 x0, .int .i64 x1, .int .i64 x2, .int .i64 x3, .int .i64 0, .int .i64 0] 50)).drew
      have ha3 := ha2.lift ((Below.refl w2.heap.size w2).alloc (Nat.le_refl _) (.cells #[.int .i64 p, .int .i64 x0, .int .i64 x1, .int .i64 x2, .int .i64 x3, .int .i64 0, .int .i64 0] 50))
      have ob3 := rd_lit okH w2 50 [(p, (x0, x1, x2, x3), 0, 0)] #[.int .i64 p, .int .i64 x0, .int .i64 x1, .int .i64 x2, .int .i64 x3, .int .i64 0, .int .i64 0] rfl
      refine hK _ _ _ (fun _ h => h) bx3 ?_
      (try simp only [Act.put, List.setIfInBounds_toArray, List.set_cons_zero, List.set_cons_succ])
      refine mixR_call (by rfl) (fun K hK => ?_)
      go_simp
      refine (l4Copy A n c l _ (ha3.drewN 1) hn (by omega)).mono ?_
      rintro e w4 ⟨A3, c3, rfl, o3, hb4⟩
      have hB4 := hB3.drew.trans (hb4.mono hB3.size)
      have bx4 := bx3.below hb4 bx3.lt
      have r4 := r3.below hb4 r3.lt
      have o4 : Ow eH w4 w2.heap.size A3 n c3 l := o3.from_ (by simp)
      have ob4 := (ob3.drewN 1).below hb4 (by simp)
      have hs4 : w2.heap.size ≤ w4.heap.size := by have := hb4.size; simp at this; omega
      refine hK _ _ _ (fun _ h => h) bx4 ?_
      (try simp only [Act.put, List.setIfInBounds_toArray, List.set_cons_zero, List.set_cons_succ])
      refine mixR_call (by rfl) (fun K hK => ?_)
      refine wp_append_ow okH _ (.tmp 37) (.tmp 41) _ rfl w2.heap.size info_hnt Tryd.underlying24 rfl A3 n c3 l rfl o4 _ 1 1 _ [(p, (x0, x1, x2, x3), 0, 0)] rfl ob4 rfl (by unfold maxLen; omega) (by omega) hs4 ?_
      intro A5 c5 w5 ow5 hg5 _
      have hB5 := hB4.grown hg5 hB4.size (fun g hg => by have := (o4.lt g hg).1; have := hB2.size; omega)
      have bx5 := bx4.grown hg5 (fun e => by have := (o4.lt _ e).1; have := bx2.lt; omega)
      have r5 := r4.grown hg5 (fun e => by have := (o4.lt _ e).1; have := r2.lt; omega)
      refine hK _ _ _ (fun _ h => h) bx5 ?_
      (try simp only [Act.put, List.setIfInBounds_toArray, List.set_cons_zero, List.set_cons_succ])
      refine mixR_pure (v := ?_) (by rfl) (fun u hu => ?_) ?_
      rotate_left
      · go_simp
        (with_reducible rfl)
      (try simp only [Act.put, List.setIfInBounds_toArray, List.set_cons_zero, List.set_cons_succ])
      obtain ⟨c0, c1, f0, f1⟩ := r5.two
      refine mixR_call (by rfl) (fun K hK => ?_)
      go_simp
      have r6 := r5.set 0 (.int .i64 0)
      have r7 := r6.set 1 (.slice A5 (n + 1) c5)
      refine hK _ _ _ (fun _ h => h) ((bx5.far (p := ⟨w.heap.size + 1, 0, none⟩) (by simp) _).far (p := ⟨w.heap.size + 1, 1, none⟩) (by simp) _) ?_
      (try simp only [Act.put, List.setIfInBounds_toArray, List.set_cons_zero, List.set_cons_succ])
      refine mixR_nil ?_
      go_wp2
      refine bodyPost_ret (v := .agg #[.int .i64 0, .slice A5 (n + 1) c5]) (by simp [results, Tryd.results20, go_sem, c0, c1]) rfl ?_
      exact ⟨_, _, _, rfl, (((ow5.under (p := ⟨w.heap.size + 1, 0, none⟩) r2.lt _).under (p := ⟨w.heap.size + 1, 1, none⟩) r2.lt _).from_ hB2.size), (hB5.setCell (by simp) _).setCell (by simp) _⟩
end Go.Proofs.YtjlkmfijkhjjkaaDoor
/-
  The model's DoneHint.
-/
namespace Go.Proofs.YtjlkmfijkhjjkaaDoor
set_option maxRecDepth 20000
open Go.RowKit
set_option linter.unusedSimpArgs false
set_option linter.unusedVariables false

set_option maxRecDepth 100000 in
set_option maxHeartbeats 4000000 in
theorem specDoneHint (A : Option Addr) (n c : Nat) (l : List Hnt) (p i : Int) (w : World) (ha : Rd eH w w.heap.size A l) (hn : l.length = n) (hc : n ≤ c) :
    Calls Tryd.prog 22 #[.slice A n c, .int .i64 p, .int .i64 i] w (RetHs (doneM l p i) w) := by
  have hB0 : Below w.heap.size w (w.alloc (.cells #[.int .i64 0, .slice none 0 0] 30)) := (Below.refl _ _).alloc (Nat.le_refl _) _
  have r0 := At.new w 30 #[.int .i64 0, .slice none 0 0]
  have ha0 := ha.lift hB0
  have HF := specHintsFault A n c l _ ha0 hn
  by_cases h0 : hintsFaultM l = 0
  rotate_left
  · rw [show (doneM l p i) = (hintsFaultM l, []) from if_pos h0]
    have hne : (hintsFaultM l != 0) = true := by rw [bne_iff_ne]; exact h0
    generalize hintsFaultM l = sf at *
    clear h0
    go_enter Tryd.func22, Tryd.ntmps22
    go_wp2_with fail
    refine (HF).mono ?_
    rintro e w1 ⟨rfl, hb1⟩
    have hB1 := hB0.trans (hb1.mono hB0.size)
    have r1 := r0.below hb1 r0.lt
    have ha1 := ha0.lift hb1
    obtain ⟨c0, c1, _, _⟩ := r1.two
    go_wp2_with fail
    refine bodyPost_ret (v := .agg #[.int .i64 sf, .slice none 0 0]) (by simp [results, Tryd.results22, go_sem, c0, c1]) rfl ?_
    exact ⟨_, _, _, rfl, Ow.nil, (hB1.setCell (by simp) _).setCell (by simp) _⟩
  obtain ⟨h8, hall, hdis⟩ := (hintsFault_iff l).1 h0
  rw [h0] at HF
  have HL := fun W (h1 : Rd eH W W.heap.size A l) => l4Find A n c l p i W h1 hn (by unfold maxLen; omega)
  rcases findHI_or l p i with ⟨hi, hj⟩ | ⟨k, hi, hj, hk⟩
  · rw [hi] at HL
    rw [show (doneM l p i) = (4, []) by unfold doneM; rw [if_neg (by simp [h0]), hj]]
    clear h0 hi hj
    go_enter Tryd.func22, Tryd.ntmps22
    go_wp2_with fail
    refine (HF).mono ?_
    rintro e w1 ⟨rfl, hb1⟩
    have hB1 := hB0.trans (hb1.mono hB0.size)
    have r1 := r0.below hb1 r0.lt
    have ha1 := ha0.lift hb1
    go_wp2_with fail
    refine (HL _ ha1).mono ?_
    rintro e w99 ⟨rfl, rfl⟩
    obtain ⟨c0, c1, _, _⟩ := r1.two
    go_wp2_with fail
    refine bodyPost_ret (v := .agg #[.int .i64 4, .slice none 0 0]) (by simp [results, Tryd.results22, go_sem, c0, c1]) rfl ?_
    exact ⟨_, _, _, rfl, Ow.nil, (hB1.setCell (by simp) _).setCell (by simp) _⟩
  rw [hi] at HL
  rw [show (doneM l p i) = (0, l.take k ++ l.drop (k + 1)) by unfold doneM; rw [if_neg (by simp [h0]), hj]]
  obtain ⟨g, o, rfl, -⟩ := ha0.add hk
  by_cases hcc : c = k + 1
  · subst hcc
    have hX : ∀ W : World, Rd eH W W.heap.size (some ⟨g, o, none⟩) l → Rd eH W W.heap.size (some ⟨g, o, none⟩) (l.drop (k + 1)) := fun W h => by
      rw [List.drop_of_length_le (by omega)]
      exact Rd.nil
    have htl : (l.take k).length = k := by rw [List.length_take]; omega
    have hdl : (l.drop (k + 1)).length = 0 := by rw [List.length_drop]; omega
    have HX := Lib.hid hX
    have Htl := Lib.hid htl
    have Hdl := Lib.hid hdl
    have hk0 : ¬ (k : Int) < 0 := by omega
    have hk1 : (0 : Int) ≤ (k : Int) := by omega
    have hkc : k ≤ (k + 1) := by omega
    have hwr : IntKind.i64.wrap ((k : Int) + 1) = (k : Int) + 1 := IntWalk.i64_in _ (by omega)
    have htn : ((k : Int) + 1).toNat = k + 1 := by omega
    have hm : k + 0 ≤ 8 := by omega
    clear h0 hi hj hX htl hdl
    go_enter Tryd.func22, Tryd.ntmps22
    go_wp2_with fail
    refine (HF).mono ?_
    rintro e w1 ⟨rfl, hb1⟩
    have hB1 := hB0.trans (hb1.mono hB0.size)
    have r1 := r0.below hb1 r0.lt
    have ha1 := ha0.lift hb1
    go_wp2_with fail
    refine (HL _ ha1).mono ?_
    rintro e w99 ⟨rfl, rfl⟩
    go_wp2
    have hbd := hB1.drew
    have rd := r1.drew
    have had := ha1.drewN 1
    have i1 : (k : Int) ≤ (k : Int) + 1 := by omega
    have i2 : (k : Int) + 1 ≤ (n : Int) := by omega
    have i3 : (0 : Int) ≤ (k : Int) + 1 := by omega
    refine wp_region_mix [(0, false), (1, false), (2, false), (4, false), (5, false), (6, false), (7, false), (3, true), (8, true), (9, false), (10, true)] (fun _ => True) (by kernel_rfl) (by kernel_rfl) (fun _ _ _ _ _ h => h) trivial ?_
    simp only [mixOps, List.map_cons, List.map_nil, List.getElem?_cons_succ, List.getElem?_cons_zero, Option.getD_some]
    iterate 7 (
      refine mix_pure (v := ?_) (by rfl) (fun u hu => ?_) ?_
      rotate_left
      · skip
        go_simp
        (with_reducible rfl)
      (try simp only [Act.put, List.setIfInBounds_toArray, List.set_cons_zero, List.set_cons_succ]))
    refine mix_call (by rfl) (fun K hK => ?_)
    go_simp
    refine (l4Copy (some ⟨g, o, none⟩) k _ (l.take k) _ (had.take k) Htl.out (by omega)).mono ?_
    rintro e w3 ⟨A3, c3, rfl, o3, hb3⟩
    have o3 : Ow eH w3 w1.heap.size A3 k c3 (l.take k) := o3
    have hB3 := hbd.trans (hb3.mono hbd.size)
    have r3 := rd.below hb3 rd.lt
    have hX3 := HX.out _ (had.lift hb3)
    have hs3 : w1.heap.size ≤ w3.heap.size := hb3.size
    refine hK _ _ _ (fun _ h => h) trivial ?_
    (try simp only [Act.put, List.setIfInBounds_toArray, List.set_cons_zero, List.set_cons_succ])
    refine mix_call (by rfl) (fun K hK => ?_)
    refine wp_append_ow okH _ (.tmp 25) (.tmp 29) _ rfl w1.heap.size info_hnt Tryd.underlying24 rfl A3 k c3 (l.take k) rfl o3 _ 0 _ _ (l.drop (k + 1)) rfl hX3 Hdl.out (by unfold maxLen; omega) (by omega) hs3 ?_
    intro A5 c5 w5 ow5 hg5 _
    have hB5 := hB3.grown hg5 hB3.size (fun g hg => by have := (o3.lt g hg).1; have := hB1.size; omega)
    have r5 := r3.grown hg5 (fun e => by have := (o3.lt _ e).1; have := r1.lt; omega)
    refine hK _ _ _ (fun _ h => h) trivial ?_
    (try simp only [Act.put, List.setIfInBounds_toArray, List.set_cons_zero, List.set_cons_succ])
    iterate 1 (
      refine mix_pure (v := ?_) (by rfl) (fun u hu => ?_) ?_
      rotate_left
      · skip
        go_simp
        (with_reducible rfl)
      (try simp only [Act.put, List.setIfInBounds_toArray, List.set_cons_zero, List.set_cons_succ]))
    obtain ⟨c0, c1, f0, f1⟩ := r5.two
    refine mix_call (by rfl) (fun K hK => ?_)
    go_simp
    refine hK _ _ _ (fun _ h => h) trivial ?_
    (try simp only [Act.put, List.setIfInBounds_toArray, List.set_cons_zero, List.set_cons_succ])
    refine mix_nil ?_
    go_wp2
    refine bodyPost_ret (v := .agg #[.int .i64 0, .slice A5 (k + 0) c5]) (by simp [results, Tryd.results22, go_sem, c0, c1]) rfl ?_
    exact ⟨_, _, _, rfl, (((ow5.under (p := ⟨w.heap.size, 0, none⟩) r1.lt _).under (p := ⟨w.heap.size, 1, none⟩) r1.lt _).from_ hB1.size), (hB5.setCell (Nat.le_refl _) _).setCell (Nat.le_refl _) _⟩
  · have hX : ∀ W : World, Rd eH W W.heap.size (some ⟨g, o, none⟩) l → Rd eH W W.heap.size (some ⟨g, o + (k + 1) * 7, none⟩) (l.drop (k + 1)) := fun W h => by
      rcases Nat.lt_or_ge (k + 1) l.length with hl | hl
      · obtain ⟨g', o', e, hr⟩ := h.add hl
        obtain ⟨rfl, rfl⟩ : g = g' ∧ o = o' := by simpa using Option.some.inj e
        exact hr
      · rw [List.drop_of_length_le hl]
        exact Rd.nil
    have htl : (l.take k).length = k := by rw [List.length_take]; omega
    have hdl : (l.drop (k + 1)).length = (n - (k + 1)) := by rw [List.length_drop]; omega
    have HX := Lib.hid hX
    have Htl := Lib.hid htl
    have Hdl := Lib.hid hdl
    have hk0 : ¬ (k : Int) < 0 := by omega
    have hk1 : (0 : Int) ≤ (k : Int) := by omega
    have hkc : k ≤ c := by omega
    have hwr : IntKind.i64.wrap ((k : Int) + 1) = (k : Int) + 1 := IntWalk.i64_in _ (by omega)
    have htn : ((k : Int) + 1).toNat = k + 1 := by omega
    have hm : k + (n - (k + 1)) ≤ 8 := by omega
    clear h0 hi hj hX htl hdl
    go_enter Tryd.func22, Tryd.ntmps22
    go_wp2_with fail
    refine (HF).mono ?_
    rintro e w1 ⟨rfl, hb1⟩
    have hB1 := hB0.trans (hb1.mono hB0.size)
    have r1 := r0.below hb1 r0.lt
    have ha1 := ha0.lift hb1
    go_wp2_with fail
    refine (HL _ ha1).mono ?_
    rintro e w99 ⟨rfl, rfl⟩
    go_wp2
    have hbd := hB1.drew
    have rd := r1.drew
    have had := ha1.drewN 1
    have i1 : (k : Int) ≤ (c : Int) := by omega
    have i2 : (k : Int) + 1 ≤ (n : Int) := by omega
    have i3 : (0 : Int) ≤ (k : Int) + 1 := by omega
    refine wp_region_mix [(0, false), (1, false), (2, false), (4, false), (5, false), (6, false), (7, false), (3, true), (8, true), (9, false), (10, true)] (fun _ => True) (by kernel_rfl) (by kernel_rfl) (fun _ _ _ _ _ h => h) trivial ?_
    simp only [mixOps, List.map_cons, List.map_nil, List.getElem?_cons_succ, List.getElem?_cons_zero, Option.getD_some]
    iterate 7 (
      refine mix_pure (v := ?_) (by rfl) (fun u hu => ?_) ?_
      rotate_left
      · skip
        go_simp
        (with_reducible rfl)
      (try simp only [Act.put, List.setIfInBounds_toArray, List.set_cons_zero, List.set_cons_succ]))
    refine mix_call (by rfl) (fun K hK => ?_)
    go_simp
    refine (l4Copy (some ⟨g, o, none⟩) k _ (l.take k) _ (had.take k) Htl.out (by omega)).mono ?_
    rintro e w3 ⟨A3, c3, rfl, o3, hb3⟩
    have o3 : Ow eH w3 w1.heap.size A3 k c3 (l.take k) := o3
    have hB3 := hbd.trans (hb3.mono hbd.size)
    have r3 := rd.below hb3 rd.lt
    have hX3 := HX.out _ (had.lift hb3)
    have hs3 : w1.heap.size ≤ w3.heap.size := hb3.size
    refine hK _ _ _ (fun _ h => h) trivial ?_
    (try simp only [Act.put, List.setIfInBounds_toArray, List.set_cons_zero, List.set_cons_succ])
    refine mix_call (by rfl) (fun K hK => ?_)
    refine wp_append_ow okH _ (.tmp 25) (.tmp 29) _ rfl w1.heap.size info_hnt Tryd.underlying24 rfl A3 k c3 (l.take k) rfl o3 _ (n - (k + 1)) _ _ (l.drop (k + 1)) rfl hX3 Hdl.out (by unfold maxLen; omega) (by omega) hs3 ?_
    intro A5 c5 w5 ow5 hg5 _
    have hB5 := hB3.grown hg5 hB3.size (fun g hg => by have := (o3.lt g hg).1; have := hB1.size; omega)
    have r5 := r3.grown hg5 (fun e => by have := (o3.lt _ e).1; have := r1.lt; omega)
    refine hK _ _ _ (fun _ h => h) trivial ?_
    (try simp only [Act.put, List.setIfInBounds_toArray, List.set_cons_zero, List.set_cons_succ])
    iterate 1 (
      refine mix_pure (v := ?_) (by rfl) (fun u hu => ?_) ?_
      rotate_left
      · skip
        go_simp
        (with_reducible rfl)
      (try simp only [Act.put, List.setIfInBounds_toArray, List.set_cons_zero, List.set_cons_succ]))
    obtain ⟨c0, c1, f0, f1⟩ := r5.two
    refine mix_call (by rfl) (fun K hK => ?_)
    go_simp
    refine hK _ _ _ (fun _ h => h) trivial ?_
    (try simp only [Act.put, List.setIfInBounds_toArray, List.set_cons_zero, List.set_cons_succ])
    refine mix_nil ?_
    go_wp2
    refine bodyPost_ret (v := .agg #[.int .i64 0, .slice A5 (k + (n - (k + 1))) c5]) (by simp [results, Tryd.results22, go_sem, c0, c1]) rfl ?_
    exact ⟨_, _, _, rfl, (((ow5.under (p := ⟨w.heap.size, 0, none⟩) r1.lt _).under (p := ⟨w.heap.size, 1, none⟩) r1.lt _).from_ hB1.size), (hB5.setCell (Nat.le_refl _) _).setCell (Nat.le_refl _) _⟩
end Go.Proofs.YtjlkmfijkhjjkaaDoor
/-
  The model's SentHint.
-/
namespace Go.Proofs.YtjlkmfijkhjjkaaDoor
set_option maxRecDepth 20000
open Go.RowKit
set_option linter.unusedSimpArgs false
set_option linter.unusedVariables false

set_option maxRecDepth 100000 in
set_option maxHeartbeats 4000000 in
theorem specSentHint (A : Option Addr) (n c : Nat) (l : List Hnt) (p i now : Int) (w : World) (ha : Rd eH w w.heap.size A l) (hn : l.length = n) :
    Calls Tryd.prog 23 #[.slice A n c, .int .i64 p, .int .i64 i, .int .i64 now] w (RetHs (sentM l p i now) w) := by
  have hB0 : Below w.heap.size w (w.alloc (.cells #[.int .i64 0, .slice none 0 0] 30)) := (Below.refl _ _).alloc (Nat.le_refl _) _
  have r0 := At.new w 30 #[.int .i64 0, .slice none 0 0]
  have ha0 := ha.lift hB0
  have HF := specHintsFault A n c l _ ha0 hn
  by_cases h0 : hintsFaultM l = 0
  rotate_left
  · rw [show (sentM l p i now) = (hintsFaultM l, []) from if_pos h0]
    have hne : (hintsFaultM l != 0) = true := by rw [bne_iff_ne]; exact h0
    generalize hintsFaultM l = sf at *
    clear h0
    go_enter Tryd.func23, Tryd.ntmps23
    go_wp2_with fail
    refine (HF).mono ?_
    rintro e w1 ⟨rfl, hb1⟩
    have hB1 := hB0.trans (hb1.mono hB0.size)
    have r1 := r0.below hb1 r0.lt
    have ha1 := ha0.lift hb1
    obtain ⟨c0, c1, _, _⟩ := r1.two
    go_wp2_with fail
    refine bodyPost_ret (v := .agg #[.int .i64 sf, .slice none 0 0]) (by simp [results, Tryd.results23, go_sem, c0, c1]) rfl ?_
    exact ⟨_, _, _, rfl, Ow.nil, (hB1.setCell (by simp) _).setCell (by simp) _⟩
  obtain ⟨h8, hall, hdis⟩ := (hintsFault_iff l).1 h0
  rw [h0] at HF
  rcases hp : inB (now, 0, 100000)
  · rw [show (sentM l p i now) = (3, []) by unfold sentM; rw [if_neg (by simp [h0]), if_pos hp]]
    clear h0
    go_enter Tryd.func23, Tryd.ntmps23
    go_wp2_with fail
    refine (HF).mono ?_
    rintro e w1 ⟨rfl, hb1⟩
    have hB1 := hB0.trans (hb1.mono hB0.size)
    have r1 := r0.below hb1 r0.lt
    have ha1 := ha0.lift hb1
    go_wp2_with fail
    refine (l1In_any now 0 100000 _).mono ?_
    rintro e w99 ⟨rfl, rfl⟩
    obtain ⟨c0, c1, _, _⟩ := r1.two
    go_wp2_with fail
    refine bodyPost_ret (v := .agg #[.int .i64 3, .slice none 0 0]) (by simp [results, Tryd.results23, go_sem, c0, c1]) rfl ?_
    exact ⟨_, _, _, rfl, Ow.nil, (hB1.setCell (by simp) _).setCell (by simp) _⟩
  have HL := fun W (h1 : Rd eH W W.heap.size A l) => l4Find A n c l p i W h1 hn (by unfold maxLen; omega)
  rcases findHI_or l p i with ⟨hi, hj⟩ | ⟨k, hi, hj, hk⟩
  · rw [hi] at HL
    rw [show (sentM l p i now) = (4, []) by unfold sentM; rw [if_neg (by simp [h0]), if_neg (by simp [hp]), hj]]
    clear h0 hi hj
    go_enter Tryd.func23, Tryd.ntmps23
    go_wp2_with fail
    refine (HF).mono ?_
    rintro e w1 ⟨rfl, hb1⟩
    have hB1 := hB0.trans (hb1.mono hB0.size)
    have r1 := r0.below hb1 r0.lt
    have ha1 := ha0.lift hb1
    go_wp2_with fail
    refine (l1In_any now 0 100000 _).mono ?_
    rintro e w99 ⟨rfl, rfl⟩
    go_wp2_with fail
    refine (HL _ ha1).mono ?_
    rintro e w99 ⟨rfl, rfl⟩
    obtain ⟨c0, c1, _, _⟩ := r1.two
    go_wp2_with fail
    refine bodyPost_ret (v := .agg #[.int .i64 4, .slice none 0 0]) (by simp [results, Tryd.results23, go_sem, c0, c1]) rfl ?_
    exact ⟨_, _, _, rfl, Ow.nil, (hB1.setCell (by simp) _).setCell (by simp) _⟩
  · rw [hi] at HL
    obtain ⟨g, o, a0, a1, a2, a3, a4, a5, a6, rfl, hg, hx, -⟩ := ha0.hnt (k := k) hk
    rw [show (sentM l p i now) = (0, l.set k (a0, (a1, a2, a3, a4), (if a5 + 1 < 4 then a5 + 1 else 4), now + pw a5.toNat)) by unfold sentM; rw [if_neg (by simp [h0]), if_neg (by simp [hp]), hj]; simp only; rw [hx]; rfl]
    obtain ⟨hf0, hr0⟩ := hfault_zero (hall _ (List.mem_of_getElem? hx))
    have h5 : 0 ≤ a5 ∧ a5 ≤ 4 := by unfold rangeH at hr0; simp [inB] at hr0; omega
    have hnow : 0 ≤ now ∧ now ≤ 100000 := by simpa [inB] using hp
    obtain ⟨m, rfl⟩ : ∃ m : Nat, a5 = (m : Int) := ⟨a5.toNat, by omega⟩
    have hm : m ≤ 4 := by omega
    rw [show ((m : Int)).toNat = m by simp]
    obtain ⟨q1, q2⟩ := pw_le hm
    have hP := l4Power m hm
    obtain ⟨b, hb⟩ : ∃ b, pw m = b := ⟨_, rfl⟩
    rw [hb] at hP q1 q2 ⊢
    clear hb
    have Hx := Lib.hid hx
    have hk0 : ¬ (k : Int) < 0 := by omega
    have hk1 : (0 : Int) ≤ (k : Int) := by omega
    have hkn : (k : Int) < (n : Int) := by omega
    have hw1 : IntKind.i64.wrap (now + b) = now + b := IntWalk.i64_in _ (by omega)
    have hw2 : IntKind.i64.wrap ((m : Int) + 1) = (m : Int) + 1 := IntWalk.i64_in _ (by omega)
    have hM := l1Min ((m : Int) + 1) 4
    obtain ⟨d, hd⟩ : ∃ d, (if (m : Int) + 1 < 4 then (m : Int) + 1 else 4) = d := ⟨_, rfl⟩
    rw [hd] at hM ⊢
    clear h0 hi hj hx hf0 hr0 h5 hd
    go_enter Tryd.func23, Tryd.ntmps23
    go_wp2_with fail
    refine (HF).mono ?_
    rintro e w1 ⟨rfl, hb1⟩
    have hB1 := hB0.trans (hb1.mono hB0.size)
    have r1 := r0.below hb1 r0.lt
    have ha1 := ha0.lift hb1
    go_wp2_with fail
    refine (l1In_any now 0 100000 _).mono ?_
    rintro e w99 ⟨rfl, rfl⟩
    go_wp2_with fail
    refine (HL _ ha1).mono ?_
    rintro e w99 ⟨rfl, rfl⟩
    go_wp2_with fail
    refine (l4Copy _ n c l _ ha1 hn (by omega)).mono ?_
    rintro e w2 ⟨A2, c2, rfl, o2, hb2⟩
    have hB2 := hB1.trans (hb2.mono hB1.size)
    have r2 := r1.below hb2 r1.lt
    have ha2 := ha1.lift hb2
    obtain ⟨g2, rfl, hg2, hg2'⟩ := o2.form (by omega)
    obtain ⟨d0, d1, d2, d3, d4, d5, d6⟩ := o2.hntAt Hx.out
    have fz := fun j => o2.frozenAt j
    have f5 := fz (k * 7 + 5)
    have f6 := fz (k * 7 + 6)
    have lk : k < l.length := getElem?_some_lt Hx.out
    have s1 := o2.hntPut (j := 6) (y := (a0, (a1, a2, a3, a4), (m : Int), now + b)) (u := .int .i64 (now + b)) Hx.out (by omega) rfl
    have s2 := s1.1.hntPut (j := 5) (x := (a0, (a1, a2, a3, a4), (m : Int), now + b)) (y := (a0, (a1, a2, a3, a4), d, now + b)) (u := .int .i64 d) (by rw [List.getElem?_set_self lk]) (by omega) rfl
    rw [List.set_set] at s2
    have rs1 := r2.far (p := ⟨g2, k * 7 + 6, none⟩) (by have := r1.lt; simp; omega) (.int .i64 (now + b))
    have rs2 := rs1.far (p := ⟨g2, k * 7 + 5, none⟩) (by have := r1.lt; simp; omega) (.int .i64 d)
    have hs1 := hB2.setCell (p := ⟨g2, k * 7 + 6, none⟩) (by have := hB1.size; simp; omega) (.int .i64 (now + b))
    have hs2 := hs1.setCell (p := ⟨g2, k * 7 + 5, none⟩) (by have := hB1.size; simp; omega) (.int .i64 d)
    have Hs2 := Lib.hid s2.1
    have hr1 := r1.lt
    clear s1 s2 rs1 hs1 fz
    go_wp2_with fail
    refine (hP _).mono ?_
    rintro e w99 ⟨rfl, rfl⟩
    go_wp2_with fail
    refine (hM _).mono ?_
    rintro e w98 ⟨rfl, rfl⟩
    obtain ⟨c0, c1, _, _⟩ := rs2.two
    go_wp2_with fail
    refine bodyPost_ret (v := .agg #[.int .i64 0, .slice (some ⟨g2, 0, none⟩) n c2]) (by simp [results, Tryd.results23, go_sem, c0, c1]) rfl ?_
    exact ⟨_, _, _, rfl, (((Hs2.out.under (p := ⟨w.heap.size, 0, none⟩) hr1 _).under (p := ⟨w.heap.size, 1, none⟩) hr1 _).from_ hB1.size), (hs2.setCell (Nat.le_refl _) _).setCell (Nat.le_refl _) _⟩
end Go.Proofs.YtjlkmfijkhjjkaaDoor
/-
  A region that draws its order, step by step: what may come is asked at each step; two that may come are walked both.
-/
namespace Go.Proofs.YtjlkmfijkhjjkaaDoor
set_option maxRecDepth 20000
open Go.RowKit

section
variable {P : Program} {md : Region.Mode} {Q : Exit → Act → World → Prop} {l : List Oper} {S : World → Prop} {fuel : Nat} {listed : Array Bool} {a : Act} {w : World}

theorem any_start {id : Nat} (S : World → Prop) (hm : P.follows .mixedOrders = true) (hS : S w.drew) (h : S w.drew → wpAnyH P .any l.toArray Q S l.length (Array.replicate l.length false) a w.drew) : (Code.region id l.toArray true).wp P Q a w := by
  refine wp_region_held (S := S) hm ?_
  simpa using h hS
theorem any_pure (k : Nat) {o : Oper} {v : Value} (hoa : l[k]? = some o) (hB : (Region.noSelect l.toArray && ((Region.ready md l.toArray listed).contains k && Region.free md l.toArray listed k)) = true)
    (hQ : ∀ c a (d : Nat) v w, Q (.panic c) (Act.put a (some d) v) w → Q (.panic c) a w) (hw : Region.wanted o (yielded l.toArray a.tmps) = true) (hv : ∀ x, S x → (execOp a.eval o).run P x = .ok (.value v) x) (hS : S w)
    (h : wpAnyH P md l.toArray Q S fuel (listed.setIfInBounds k true) (a.put o.dst v) w) : wpAnyH P md l.toArray Q S (fuel + 1) listed a w := by
  simp only [Bool.and_eq_true] at hB
  obtain ⟨h1, h2, h3⟩ := hB
  refine wpAnyH_take (by simpa using hoa) h1 h3 h2 (fun c a w => ?_) (.inl ⟨hw, hv⟩) hS h
  cases hd : o.dst with
  | none => exact fun h => h
  | some d => exact hQ c a d v w
theorem any_op {k : Nat} {o : Oper} (hoa : l[k]? = some o) (hw : Region.wanted o (yielded l.toArray a.tmps) = true)
    (h : o.wp P a w (fun a' w' => ∃ S' : World → Prop, (∀ x, S' x → S x) ∧ S' w' ∧ wpAnyH P md l.toArray Q S' fuel (listed.setIfInBounds k true) a' w') Q) :
    wpOp P l.toArray Q k (fun a' w' => S w' ∧ wpAnyH P md l.toArray Q S fuel (listed.setIfInBounds k true) a' w') a w := by
  have h1 : wpOp P l.toArray Q k (fun a' w' => ∃ S' : World → Prop, (∀ x, S' x → S x) ∧ S' w' ∧ wpAnyH P md l.toArray Q S' fuel (listed.setIfInBounds k true) a' w') a w := by
    unfold wpOp
    rw [show l.toArray[k]? = some o by simpa using hoa]
    simp only
    rw [if_pos hw]
    exact .inl h
  exact wpOp_mono (fun a' w' ⟨S', h1, h2, h3⟩ => ⟨h1 _ h2, held_mono h1 _ _ _ _ h3⟩) h1
theorem any_one (k : Nat) {o : Oper} (hoa : l[k]? = some o) (hB : (Region.ready md l.toArray listed == [k]) = true) (hw : Region.wanted o (yielded l.toArray a.tmps) = true)
    (h : o.wp P a w (fun a' w' => ∃ S' : World → Prop, (∀ x, S' x → S x) ∧ S' w' ∧ wpAnyH P md l.toArray Q S' fuel (listed.setIfInBounds k true) a' w') Q) : wpAnyH P md l.toArray Q S (fuel + 1) listed a w := by
  refine wpAnyH_all (rs := [k]) (by simpa using hB) (by simp) fun i hi => ?_
  obtain rfl : i = k := by simpa using hi
  exact any_op hoa hw h
theorem any_two (i j : Nat) {o o' : Oper} (hoa : l[i]? = some o) (hob : l[j]? = some o') (hB : (Region.ready md l.toArray listed == [i, j]) = true) (hw : Region.wanted o (yielded l.toArray a.tmps) = true) (hw' : Region.wanted o' (yielded l.toArray a.tmps) = true)
    (h : o.wp P a w (fun a' w' => ∃ S' : World → Prop, (∀ x, S' x → S x) ∧ S' w' ∧ wpAnyH P md l.toArray Q S' fuel (listed.setIfInBounds i true) a' w') Q)
    (h' : o'.wp P a w (fun a' w' => ∃ S' : World → Prop, (∀ x, S' x → S x) ∧ S' w' ∧ wpAnyH P md l.toArray Q S' fuel (listed.setIfInBounds j true) a' w') Q) : wpAnyH P md l.toArray Q S (fuel + 1) listed a w := by
  refine wpAnyH_all (rs := [i, j]) (by simpa using hB) (by simp) fun k hk => ?_
  rcases (show k = i ∨ k = j by simpa using hk) with rfl | rfl
  · exact any_op hoa hw h
  · exact any_op hob hw' h'
theorem any_done (hB : (Region.ready md l.toArray listed).isEmpty = true) (h : Q .normal a w) : wpAnyH P md l.toArray Q S 0 listed a w := wpAnyH_done (by simpa using hB) h 0
theorem At.newAt' {w : World} {g : Nat} {t : TypeId} {cs : Array Value} (h : w.heap.size = g) : At (w.alloc (.cells cs t)) g t cs := by
  subst h
  exact At.new w t cs
/-- Behind a step: what is known from there on. -/
theorem any_next {S' : World → Prop} {Z : (World → Prop) → Prop} (h1 : ∀ x, S' x → S x) (h2 : S' w) (h3 : Z S') : ∃ S' : World → Prop, (∀ x, S' x → S x) ∧ S' w ∧ Z S' := ⟨S', h1, h2, h3⟩
end
end Go.Proofs.YtjlkmfijkhjjkaaDoor
/-
  The model's DueHints.
-/
namespace Go.Proofs.YtjlkmfijkhjjkaaDoor
set_option maxRecDepth 20000
open Go.RowKit
set_option linter.unusedSimpArgs false
set_option linter.unusedVariables false

def DueRel (w : World) (l : List Hnt) (now : Int) (n go : Nat) (i : Value) (wr : World) : Prop :=
  ∃ (k : Nat) (A : Option Addr) (L c : Nat), k ≤ n ∧ i = .int .i64 k ∧ L ≤ k ∧ At wr go 30 #[.int .i64 0, .slice A L c] ∧ Ow eH wr (go + 1) A L c (dueL (l.take k) now) ∧ At wr w.heap.size 30 #[.int .i64 0, .slice none 0 0] ∧ Below w.heap.size w wr

set_option maxRecDepth 100000 in
set_option maxHeartbeats 4000000 in
theorem specDueHints (A : Option Addr) (n c : Nat) (l : List Hnt) (now : Int) (w : World) (ha : Rd eH w w.heap.size A l) (hn : l.length = n) :
    Calls Tryd.prog 24 #[.slice A n c, .int .i64 now] w (RetHs (dueM l now) w) := by
  have hB0 : Below w.heap.size w (w.alloc (.cells #[.int .i64 0, .slice none 0 0] 30)) := (Below.refl _ _).alloc (Nat.le_refl _) _
  have r0 := At.new w 30 #[.int .i64 0, .slice none 0 0]
  have ha0 := ha.lift hB0
  have HF := specHintsFault A n c l _ ha0 hn
  by_cases h0 : hintsFaultM l = 0
  rotate_left
  · rw [show (dueM l now) = (hintsFaultM l, []) from if_pos h0]
    have hne : (hintsFaultM l != 0) = true := by rw [bne_iff_ne]; exact h0
    generalize hintsFaultM l = sf at *
    clear h0
    go_enter Tryd.func24, Tryd.ntmps24
    go_wp2_with fail
    refine (HF).mono ?_
    rintro e w1 ⟨rfl, hb1⟩
    have hB1 := hB0.trans (hb1.mono hB0.size)
    have r1 := r0.below hb1 r0.lt
    have ha1 := ha0.lift hb1
    obtain ⟨c0, c1, _, _⟩ := r1.two
    go_wp2_with fail
    refine bodyPost_ret (v := .agg #[.int .i64 sf, .slice none 0 0]) (by simp [results, Tryd.results24, go_sem, c0, c1]) rfl ?_
    exact ⟨_, _, _, rfl, Ow.nil, (hB1.setCell (by simp) _).setCell (by simp) _⟩
  obtain ⟨h8, hall, hdis⟩ := (hintsFault_iff l).1 h0
  rw [h0] at HF
  rw [show (dueM l now) = (0, dueL l now) by unfold dueM; rw [if_neg (by simp [h0])]]
  have Hn := Lib.hid hn
  have hn8 : n ≤ 8 := by omega
  clear h0 hn h8 hall hdis
  go_enter Tryd.func24, Tryd.ntmps24
  go_wp2_with fail
  refine (HF).mono ?_
  rintro e w1 ⟨rfl, hb1⟩
  have hB1 := hB0.trans (hb1.mono hB0.size)
  have r1 := r0.below hb1 r0.lt
  have ha1 := ha0.lift hb1
  have at1 := At.new w1 30 #[.int .i64 0, .slice none 0 0]
  have r2 := r1.alloc (.cells #[.int .i64 0, .slice none 0 0] 30)
  have hB2 := hB1.alloc hB1.size (.cells #[.int .i64 0, .slice none 0 0] 30)
  have lr : w.heap.size < w1.heap.size := r1.lt
  have ow2 : Ow eH (w1.alloc (.cells #[.int .i64 0, .slice none 0 0] 30)) (w1.heap.size + 1) none 0 0 [] := Ow.nil
  go_wp2
  go_loopw [7] (fun i wr => DueRel w l now n w1.heap.size i wr) (fun i _ => n - (intOf i).toNat)
  case atStart => exact ⟨0, none, 0, 0, Nat.zero_le _, rfl, Nat.le_refl _, at1, by simpa [dueL] using ow2, r2, hB2⟩
  case round =>
    clear at1 ow2 r2 hB2
    obtain ⟨k, A1, L1, c1, hk, rfl, hL, at0, ow0, rr0, hbel⟩ := hrel
    by_cases hlt : k < n
    · obtain ⟨g, o, a0, a1, a2, a3, a4, a5, a6, rfl, hg, hx, ca⟩ := (ha.below hbel (Nat.le_refl _)).hnt (k := k) (by rw [Hn.out]; exact hlt)
      have Hq := Lib.hid (due_next now hx)
      clear hx
      have hlo := ow0.len okH
      have lat := at0.lt
      by_cases hnow : a6 ≤ now
      · have Hnow := Lib.hid hnow
        have hnow' : (a6 ≤ now) = True := by simpa using hnow
        have Ca := Lib.hid ca
        obtain ⟨q0, q1, q2, q3, q4, q5, q6⟩ := ca
        go_wp2
        clear q0 q1 q2 q3 q4 q5 q6
        have ca0 := Ca.out.drew
        have atd := at0.drew
        have rrd := rr0.drew
        have owd := ow0.drewN 1
        have hBd := hbel.drew
        refine any_start (fun u => S7 u g (o + k * 7) a0 a1 a2 a3 a4 a5 a6) (by kernel_rfl) ca0 (fun _ => ?_)
        refine any_pure (v := ?_) 0 rfl (by kernel_rfl) (fun _ _ _ _ _ h => h) (by rfl) (fun u hu => ?_) ca0 ?_
        rotate_left
        · obtain ⟨_, _, _, _, _, _, _⟩ := hu
          go_simp
          (with_reducible rfl)
        (try simp only [Act.put, List.setIfInBounds_toArray, List.set_cons_zero, List.set_cons_succ])
        refine any_pure (v := ?_) 2 rfl (by kernel_rfl) (fun _ _ _ _ _ h => h) (by rfl) (fun u hu => ?_) ca0 ?_
        rotate_left
        · obtain ⟨_, _, _, _, _, _, _⟩ := hu
          go_simp
          (with_reducible rfl)
        (try simp only [Act.put, List.setIfInBounds_toArray, List.set_cons_zero, List.set_cons_succ])
        refine any_pure (v := ?_) 3 rfl (by kernel_rfl) (fun _ _ _ _ _ h => h) (by rfl) (fun u hu => ?_) ca0 ?_
        rotate_left
        · obtain ⟨_, _, _, _, _, _, _⟩ := hu
          go_simp
          (with_reducible rfl)
        (try simp only [Act.put, List.setIfInBounds_toArray, List.set_cons_zero, List.set_cons_succ])
        refine any_pure (v := ?_) 4 rfl (by kernel_rfl) (fun _ _ _ _ _ h => h) (by rfl) (fun u hu => ?_) ca0 ?_
        rotate_left
        · obtain ⟨_, _, _, _, _, _, _⟩ := hu
          go_simp
          (with_reducible rfl)
        (try simp only [Act.put, List.setIfInBounds_toArray, List.set_cons_zero, List.set_cons_succ])
        refine any_pure (v := ?_) 5 rfl (by kernel_rfl) (fun _ _ _ _ _ h => h) (by rfl) (fun u hu => ?_) ca0 ?_
        rotate_left
        · obtain ⟨_, _, _, _, _, _, _⟩ := hu
          go_simp
          (with_reducible rfl)
        (try simp only [Act.put, List.setIfInBounds_toArray, List.set_cons_zero, List.set_cons_succ])
        refine any_two 1 6 rfl rfl (by kernel_rfl) (by rfl) (by rfl) ?_ ?_
        · obtain ⟨k0, k1, m0, m1⟩ := atd.two
          go_simp
          refine ⟨(fun u => S7 u g (o + k * 7) a0 a1 a2 a3 a4 a5 a6), fun _ h => h, ca0, ?_⟩
          (try simp only [Act.put, List.setIfInBounds_toArray, List.set_cons_zero, List.set_cons_succ])
          refine any_one 6 rfl (by kernel_rfl) (by rfl) ?_
          go_simp
          have hB7 := hBd.alloc hBd.size (.cells #[.int .i64 a0, .int .i64 a1, .int .i64 a2, .int .i64 a3, .int .i64 a4, .int .i64 a5, .int .i64 a6] 50)
          have at7 := atd.alloc (.cells #[.int .i64 a0, .int .i64 a1, .int .i64 a2, .int .i64 a3, .int .i64 a4, .int .i64 a5, .int .i64 a6] 50)
          have rr7 := rrd.alloc (.cells #[.int .i64 a0, .int .i64 a1, .int .i64 a2, .int .i64 a3, .int .i64 a4, .int .i64 a5, .int .i64 a6] 50)
          have ow7 := owd.alloc (.cells #[.int .i64 a0, .int .i64 a1, .int .i64 a2, .int .i64 a3, .int .i64 a4, .int .i64 a5, .int .i64 a6] 50)
          have ob7 := rd_lit okH wr.drew 50 [(a0, (a1, a2, a3, a4), a5, a6)] #[.int .i64 a0, .int .i64 a1, .int .i64 a2, .int .i64 a3, .int .i64 a4, .int .i64 a5, .int .i64 a6] rfl
          have ca7 : S7 (wr.drew.alloc (.cells #[.int .i64 a0, .int .i64 a1, .int .i64 a2, .int .i64 a3, .int .i64 a4, .int .i64 a5, .int .i64 a6] 50)) g (o + k * 7) a0 a1 a2 a3 a4 a5 a6 := ca0.grown (World.grownBy_alloc _ _ none) (by simp)
          have hs7 : w1.heap.size + 1 ≤ (wr.drew.alloc (.cells #[.int .i64 a0, .int .i64 a1, .int .i64 a2, .int .i64 a3, .int .i64 a4, .int .i64 a5, .int .i64 a6] 50)).heap.size := by simp; omega
          refine ⟨(fun u => S7 u g (o + k * 7) a0 a1 a2 a3 a4 a5 a6), fun _ h => h, ca7, ?_⟩
          (try simp only [Act.put, List.setIfInBounds_toArray, List.set_cons_zero, List.set_cons_succ])
          refine any_one 7 rfl (by kernel_rfl) (by rfl) ?_
          refine wp_append_ow okH _ (.tmp 29) (.tmp 34) _ rfl (w1.heap.size + 1) info_hnt Tryd.underlying24 rfl A1 L1 c1 _ rfl ow7 _ 1 1 _ [(a0, (a1, a2, a3, a4), a5, a6)] rfl ob7 rfl (by unfold maxLen; omega) (by omega) hs7 ?_
          intro A5 c5 w5 ow5 hg5 _
          have hB5 := hB7.grown hg5 hB7.size (fun g hg => by have := (ow7.lt g hg).1; omega)
          have at5 := at7.grown hg5 (fun e => by have := (ow7.lt _ e).1; omega)
          have r5 := rr7.grown hg5 (fun e => by have := (ow7.lt _ e).1; omega)
          have ca5 := ca7.grown hg5 (fun e => by have := (ow7.lt _ e.symm).1; omega)
          refine ⟨(fun u => S7 u g (o + k * 7) a0 a1 a2 a3 a4 a5 a6), fun _ h => h, ca5, ?_⟩
          (try simp only [Act.put, List.setIfInBounds_toArray, List.set_cons_zero, List.set_cons_succ])
          refine any_pure (v := ?_) 8 rfl (by kernel_rfl) (fun _ _ _ _ _ h => h) (by rfl) (fun u hu => ?_) ca5 ?_
          rotate_left
          · skip
            go_simp
            (with_reducible rfl)
          (try simp only [Act.put, List.setIfInBounds_toArray, List.set_cons_zero, List.set_cons_succ])
          obtain ⟨k0, k1, m0, m1⟩ := at5.two
          refine any_one 9 rfl (by kernel_rfl) (by rfl) ?_
          go_simp
          have at6 := at5.set 1 (.slice A5 (L1 + 1) c5)
          have ow6 := ow5.under (p := ⟨w1.heap.size, 1, none⟩) (by simp) (.slice A5 (L1 + 1) c5)
          have r6 := r5.far (p := ⟨w1.heap.size, 1, none⟩) (by simp; omega) (.slice A5 (L1 + 1) c5)
          have hB6 := hB5.setCell (p := ⟨w1.heap.size, 1, none⟩) (by simp; omega) (.slice A5 (L1 + 1) c5)
          have ca6 : S7 (w5.setCell ⟨w1.heap.size, 1, none⟩ (.slice A5 (L1 + 1) c5)) g (o + k * 7) a0 a1 a2 a3 a4 a5 a6 := ca5.grown (grown_setCell _ _ _) (by simp; omega)
          refine ⟨(fun u => S7 u g (o + k * 7) a0 a1 a2 a3 a4 a5 a6), fun _ h => h, ca6, ?_⟩
          (try simp only [Act.put, List.setIfInBounds_toArray, List.set_cons_zero, List.set_cons_succ])
          refine any_done (by kernel_rfl) ?_
          go_wp2
          refine ⟨⟨k + 1, A5, L1 + 1, c5, by omega, by go_num, by omega, at6, ?_, r6, hB6⟩, by simp [intOf]; omega⟩
          rw [Hq.out, if_pos Hnow.out]
          exact ow6
        · go_simp
          have hB7 := hbel.alloc hbel.size (.cells #[.int .i64 a0, .int .i64 a1, .int .i64 a2, .int .i64 a3, .int .i64 a4, .int .i64 a5, .int .i64 a6] 50)
          have at7 := at0.alloc (.cells #[.int .i64 a0, .int .i64 a1, .int .i64 a2, .int .i64 a3, .int .i64 a4, .int .i64 a5, .int .i64 a6] 50)
          have rr7 := rr0.alloc (.cells #[.int .i64 a0, .int .i64 a1, .int .i64 a2, .int .i64 a3, .int .i64 a4, .int .i64 a5, .int .i64 a6] 50)
          have ow7 := ow0.alloc (.cells #[.int .i64 a0, .int .i64 a1, .int .i64 a2, .int .i64 a3, .int .i64 a4, .int .i64 a5, .int .i64 a6] 50)
          have ob7 := rd_lit okH wr 50 [(a0, (a1, a2, a3, a4), a5, a6)] #[.int .i64 a0, .int .i64 a1, .int .i64 a2, .int .i64 a3, .int .i64 a4, .int .i64 a5, .int .i64 a6] rfl
          have ca7 : S7 (wr.alloc (.cells #[.int .i64 a0, .int .i64 a1, .int .i64 a2, .int .i64 a3, .int .i64 a4, .int .i64 a5, .int .i64 a6] 50)) g (o + k * 7) a0 a1 a2 a3 a4 a5 a6 := Ca.out.grown (World.grownBy_alloc _ _ none) (by simp)
          have hs7 : w1.heap.size + 1 ≤ (wr.alloc (.cells #[.int .i64 a0, .int .i64 a1, .int .i64 a2, .int .i64 a3, .int .i64 a4, .int .i64 a5, .int .i64 a6] 50)).heap.size := by simp; omega
          have hB8 := hB7.drew
          have at8 := at7.drew
          have rr8 := rr7.drew
          have ow8 := ow7.drewN 1
          have ob8 := ob7.drewN 1
          have ca8 := ca7.drew
          have hs8 := hs7
          refine ⟨(fun u => S7 u g (o + k * 7) a0 a1 a2 a3 a4 a5 a6), fun _ h => h, ca8, ?_⟩
          (try simp only [Act.put, List.setIfInBounds_toArray, List.set_cons_zero, List.set_cons_succ])
          obtain ⟨k0, k1, m0, m1⟩ := at8.two
          refine any_one 1 rfl (by kernel_rfl) (by rfl) ?_
          go_simp
          refine ⟨(fun u => S7 u g (o + k * 7) a0 a1 a2 a3 a4 a5 a6), fun _ h => h, ca8, ?_⟩
          (try simp only [Act.put, List.setIfInBounds_toArray, List.set_cons_zero, List.set_cons_succ])
          refine any_one 7 rfl (by kernel_rfl) (by rfl) ?_
          refine wp_append_ow okH _ (.tmp 29) (.tmp 34) _ rfl (w1.heap.size + 1) info_hnt Tryd.underlying24 rfl A1 L1 c1 _ rfl ow8 _ 1 1 _ [(a0, (a1, a2, a3, a4), a5, a6)] rfl ob8 rfl (by unfold maxLen; omega) (by omega) hs8 ?_
          intro A5 c5 w5 ow5 hg5 _
          have hB5 := hB8.grown hg5 hB8.size (fun g hg => by have := (ow8.lt g hg).1; omega)
          have at5 := at8.grown hg5 (fun e => by have := (ow8.lt _ e).1; omega)
          have r5 := rr8.grown hg5 (fun e => by have := (ow8.lt _ e).1; omega)
          have ca5 := ca8.grown hg5 (fun e => by have := (ow8.lt _ e.symm).1; omega)
          refine ⟨(fun u => S7 u g (o + k * 7) a0 a1 a2 a3 a4 a5 a6), fun _ h => h, ca5, ?_⟩
          (try simp only [Act.put, List.setIfInBounds_toArray, List.set_cons_zero, List.set_cons_succ])
          refine any_pure (v := ?_) 8 rfl (by kernel_rfl) (fun _ _ _ _ _ h => h) (by rfl) (fun u hu => ?_) ca5 ?_
          rotate_left
          · skip
            go_simp
            (with_reducible rfl)
          (try simp only [Act.put, List.setIfInBounds_toArray, List.set_cons_zero, List.set_cons_succ])
          obtain ⟨k0, k1, m0, m1⟩ := at5.two
          refine any_one 9 rfl (by kernel_rfl) (by rfl) ?_
          go_simp
          have at6 := at5.set 1 (.slice A5 (L1 + 1) c5)
          have ow6 := ow5.under (p := ⟨w1.heap.size, 1, none⟩) (by simp) (.slice A5 (L1 + 1) c5)
          have r6 := r5.far (p := ⟨w1.heap.size, 1, none⟩) (by simp; omega) (.slice A5 (L1 + 1) c5)
          have hB6 := hB5.setCell (p := ⟨w1.heap.size, 1, none⟩) (by simp; omega) (.slice A5 (L1 + 1) c5)
          have ca6 : S7 (w5.setCell ⟨w1.heap.size, 1, none⟩ (.slice A5 (L1 + 1) c5)) g (o + k * 7) a0 a1 a2 a3 a4 a5 a6 := ca5.grown (grown_setCell _ _ _) (by simp; omega)
          refine ⟨(fun u => S7 u g (o + k * 7) a0 a1 a2 a3 a4 a5 a6), fun _ h => h, ca6, ?_⟩
          (try simp only [Act.put, List.setIfInBounds_toArray, List.set_cons_zero, List.set_cons_succ])
          refine any_done (by kernel_rfl) ?_
          go_wp2
          refine ⟨⟨k + 1, A5, L1 + 1, c5, by omega, by go_num, by omega, at6, ?_, r6, hB6⟩, by simp [intOf]; omega⟩
          rw [Hq.out, if_pos Hnow.out]
          exact ow6
      · obtain ⟨q0, q1, q2, q3, q4, q5, q6⟩ := ca
        have Hnow := Lib.hid hnow
        have hnow' : ¬ a6 ≤ now := hnow
        clear hnow
        go_wp2
        refine ⟨⟨k + 1, A1, L1, c1, by omega, by go_num, by omega, at0, ?_, rr0, hbel⟩, by simp [intOf]; omega⟩
        rw [Hq.out, if_neg Hnow.out, List.append_nil]
        exact ow0
    · obtain rfl : n = k := by omega
      rw [show l.take n = l from List.take_of_length_le (by rw [Hn.out]; exact Nat.le_refl _)] at ow0
      obtain ⟨k0, k1, m0, m1⟩ := at0.two
      obtain ⟨c0, c1', f0, f1⟩ := rr0.two
      go_wp2
      refine bodyPost_ret (v := .agg #[.int .i64 0, .slice A1 L1 c1]) (by simp [results, Tryd.results24, go_sem, c0, c1']) rfl ?_
      exact ⟨_, _, _, rfl, (((ow0.under (p := ⟨w.heap.size, 0, none⟩) (by simp; omega) _).under (p := ⟨w.heap.size, 1, none⟩) (by simp; omega) _).from_ (by omega)), (hbel.setCell (Nat.le_refl _) _).setCell (Nat.le_refl _) _⟩
end Go.Proofs.YtjlkmfijkhjjkaaDoor
