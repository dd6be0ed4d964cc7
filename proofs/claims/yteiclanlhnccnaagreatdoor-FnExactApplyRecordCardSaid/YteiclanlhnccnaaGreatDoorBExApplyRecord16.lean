/-
  Texts of one proof, joined: each has its own namespace.
-/
import Derived.Test.YteiclanlhnccnaaGreatDoorBExApplyRecord15
/-
  The program's AddHint.
-/
namespace Go.Proofs.YteiclanlhnccnaaGreatDoor
set_option maxRecDepth 20000
open Go.RowKit Go.Shelf
set_option linter.unusedSimpArgs false
set_option linter.unusedVariables false

set_option maxHeartbeats 400000 in
theorem cmpOr64H (g n c : Nat) (l : List Int) (w : World) (hl : Ints w g l) (hn : l.length = n) (hm : n ≤ 1000) :
    Calls Tryz.prog 56 #[.slice (some ⟨g, 0, none⟩) n c] w fun e w' => e = .returned (.int .i64 (orM l)) ∧ w' = w := by
  have Hn := Lib.hid hn
  clear hn
  go_enter Tryz.func56, Tryz.ntmps56
  go_wp2
  go_loopw [8] (fun i wr => OrRel w l n i wr) (fun i _ => n - (intOf i).toNat)
  case atStart => exact ⟨0, Nat.zero_le _, rfl, rfl, rfl⟩
  case round =>
    obtain ⟨k, hk, rfl, hd, rfl⟩ := hrel
    have Hd := Lib.hid hd
    clear hd
    by_cases hlt : k < n
    · have hkl : k < l.length := by rw [Hn.out]; exact hlt
      obtain ⟨x, hx⟩ : ∃ x, l[k]? = some x := ⟨l[k], List.getElem?_eq_getElem hkl⟩
      have hc := hl k x hx
      have Ho := Lib.hid (show orM (l.drop k) = if x = 0 then orM (l.drop (k + 1)) else x by
        rw [List.drop_eq_getElem_cons hkl, orM_cons]
        rw [List.getElem?_eq_getElem hkl] at hx
        rw [Option.some.inj hx])
      clear hx
      by_cases h0 : x = 0
      · subst h0
        go_wp2
        refine ⟨⟨k + 1, by omega, by go_num, ?_, rfl⟩, by simp [intOf]; omega⟩
        have := Ho.out
        rw [if_pos rfl] at this
        rw [← this]
        exact Hd.out
      · have hne : (x != 0) = true := by simpa using h0
        have Hx := Lib.hid (show orM l = x by rw [← Hd.out, Ho.out, if_neg h0])
        clear h0
        go_wp2
        go_ret
        exact ⟨by rw [Hx.out]; rfl, rfl⟩
    · obtain rfl : k = n := by omega
      have Hf := Lib.hid (show orM l = 0 by rw [← Hd.out, List.drop_eq_nil_of_le (Nat.le_of_eq Hn.out)]; rfl)
      go_wp2
      go_ret
      exact ⟨by rw [Hf.out]; rfl, rfl⟩
theorem or_twoH (x y : Int) : orM [x, y] = if x ≠ 0 then x else y := by
  rw [orM_cons, orM_cons, orM_nil]
  by_cases h : x = 0 <;> by_cases k : y = 0 <;> simp [h, k]
theorem ints_twoH {w : World} {t : TypeId} {x y : Int} : Ints (w.alloc (.cells #[.int .i64 x, .int .i64 y] t)) w.heap.size [x, y] := by
  have h := At.new w t #[.int .i64 x, .int .i64 y]
  intro k u hk
  match k, hk with
  | 0, hk => obtain rfl : x = u := by simpa using hk
             exact h.cell 0
  | 1, hk => obtain rfl : y = u := by simpa using hk
             exact h.cell 1
  | k + 2, hk => simp at hk
theorem addM_or (l : List Hnt) (p : Int) (x : Smp) : addM l p x = if orM [hintsFaultM l, hfaultM (p, x, 0, 0)] ≠ 0 then (orM [hintsFaultM l, hfaultM (p, x, 0, 0)], []) else if 0 ≤ findHI l p x.2.2.1 then (6, []) else if 8 ≤ l.length then (7, []) else (0, l ++ [(p, x, 0, 0)]) := by
  rw [or_twoH]
  unfold addM
  by_cases h0 : hintsFaultM l = 0
  · rw [if_neg (by simp [h0])]
    have hr : rangeH (p, x, 0, 0) = inB (p, 0, 3) := by
      unfold rangeH
      simp [inB]
    rcases faultM_or x with hf | hf
    · rw [if_neg (by simp [hf])]
      rcases hp : inB (p, 0, 3)
      · rw [if_pos rfl, hfault_no hf (hr.trans hp)]
        simp [h0]
      · rw [if_neg (by simp), hfault_yes hf (hr.trans hp)]
        simp [h0]
    · rw [if_pos (by simp [hf]), hfault_smp (h := (p, x, 0, 0)) hf]
      simp [h0]
  · simp [h0]

set_option maxRecDepth 100000 in
set_option maxHeartbeats 4000000 in
theorem implAddHint (A : Option Addr) (n c : Nat) (l : List Hnt) (p x0 x1 x2 x3 : Int) (w : World) (ha : Rd eH w w.heap.size A l) (hn : l.length = n) (hF : Flds w) :
    Calls Tryz.prog 109 #[.slice A n c, .int .i64 p, .agg #[.int .i64 x0, .int .i64 x1, .int .i64 x2, .int .i64 x3]] w (RetHs (addM l p (x0, x1, x2, x3)) w) := by
  have hB0 : Below w.heap.size w (((w.alloc (.cells #[.int .i64 x0, .int .i64 x1, .int .i64 x2, .int .i64 x3] 25)).alloc (.cells #[.int .i64 0, .slice none 0 0] 158)).alloc (.cells #[.int .i64 p, .int .i64 x0, .int .i64 x1, .int .i64 x2, .int .i64 x3, .int .i64 0, .int .i64 0] 89)) := (((Below.refl _ _).alloc (Nat.le_refl _) _).alloc (by simp) _).alloc (by simp; omega) _
  have bx0 : At (((w.alloc (.cells #[.int .i64 x0, .int .i64 x1, .int .i64 x2, .int .i64 x3] 25)).alloc (.cells #[.int .i64 0, .slice none 0 0] 158)).alloc (.cells #[.int .i64 p, .int .i64 x0, .int .i64 x1, .int .i64 x2, .int .i64 x3, .int .i64 0, .int .i64 0] 89)) w.heap.size 25 #[.int .i64 x0, .int .i64 x1, .int .i64 x2, .int .i64 x3] := ((At.new w 25 #[.int .i64 x0, .int .i64 x1, .int .i64 x2, .int .i64 x3]).alloc _).alloc _
  have r0 : At (((w.alloc (.cells #[.int .i64 x0, .int .i64 x1, .int .i64 x2, .int .i64 x3] 25)).alloc (.cells #[.int .i64 0, .slice none 0 0] 158)).alloc (.cells #[.int .i64 p, .int .i64 x0, .int .i64 x1, .int .i64 x2, .int .i64 x3, .int .i64 0, .int .i64 0] 89)) (w.heap.size + 1) 158 #[.int .i64 0, .slice none 0 0] := by
    have := (At.new (w.alloc (.cells #[.int .i64 x0, .int .i64 x1, .int .i64 x2, .int .i64 x3] 25)) 158 #[.int .i64 0, .slice none 0 0]).alloc (.cells #[.int .i64 p, .int .i64 x0, .int .i64 x1, .int .i64 x2, .int .i64 x3, .int .i64 0, .int .i64 0] 89)
    simpa using this
  have ab0 : At (((w.alloc (.cells #[.int .i64 x0, .int .i64 x1, .int .i64 x2, .int .i64 x3] 25)).alloc (.cells #[.int .i64 0, .slice none 0 0] 158)).alloc (.cells #[.int .i64 p, .int .i64 x0, .int .i64 x1, .int .i64 x2, .int .i64 x3, .int .i64 0, .int .i64 0] 89)) (w.heap.size + 2) 89 #[.int .i64 p, .int .i64 x0, .int .i64 x1, .int .i64 x2, .int .i64 x3, .int .i64 0, .int .i64 0] := by
    have := At.new ((w.alloc (.cells #[.int .i64 x0, .int .i64 x1, .int .i64 x2, .int .i64 x3] 25)).alloc (.cells #[.int .i64 0, .slice none 0 0] 158)) 89 #[.int .i64 p, .int .i64 x0, .int .i64 x1, .int .i64 x2, .int .i64 x3, .int .i64 0, .int .i64 0]
    simpa using this
  have ha0 := ha.lift hB0
  have hF0 := hF.below hB0
  obtain ⟨fa, hfa⟩ : ∃ fa, hintsFaultM l = fa := ⟨_, rfl⟩
  obtain ⟨fb, hfb⟩ : ∃ fb, hfaultM (p, (x0, x1, x2, x3), 0, 0) = fb := ⟨_, rfl⟩
  obtain ⟨s, hs⟩ : ∃ s, orM [fa, fb] = s := ⟨_, rfl⟩
  have HA := fun W h1 h2 => implHintsFault A n c l W h1 hn h2
  rw [hfa] at HA
  have HB := fun W h => implHintFault p x0 x1 x2 x3 0 0 W h
  rw [hfb] at HB
  have HO := fun W t => cmpOr64H (W : World).heap.size 2 2 [fa, fb] _ (ints_twoH (w := W) (t := t)) rfl (by omega)
  rw [hs] at HO
  have hres := addM_or l p (x0, x1, x2, x3)
  rw [hfa, hfb, hs] at hres
  have Hfa := Lib.hid hfa
  have Hs := Lib.hid hs
  have Hres := Lib.hid hres
  have Hn := Lib.hid hn
  clear hfa hfb hs hn hres
  go_enter Tryz.func109, Tryz.ntmps109
  go_wp2
  have r0 := r0.drew
  have bx0 := bx0.drew
  have ab0 := ab0.drew
  have ha0 := ha0.drewN 1
  have hF0 : Flds (((w.alloc (.cells #[.int .i64 x0, .int .i64 x1, .int .i64 x2, .int .i64 x3] 25)).alloc (.cells #[.int .i64 0, .slice none 0 0] 158)).alloc (.cells #[.int .i64 p, .int .i64 x0, .int .i64 x1, .int .i64 x2, .int .i64 x3, .int .i64 0, .int .i64 0] 89)).drew := hF0.below (Below.refl _ _).drew
  have hB0 := hB0.drew
  refine wp_region_mix [(0, false), (2, false), (1, true), (3, true), (4, true), (5, true), (6, false)] (fun u => At u (w.heap.size + 2) 89 #[.int .i64 p, .int .i64 x0, .int .i64 x1, .int .i64 x2, .int .i64 x3, .int .i64 0, .int .i64 0]) (by kernel_rfl) (by kernel_rfl) (fun _ _ _ _ _ h => h) ab0 ?_
  simp only [mixOps, List.map_cons, List.map_nil, List.getElem?_cons_succ, List.getElem?_cons_zero, Option.getD_some]
  iterate 2 (
    refine mix_pure (v := ?_) (by rfl) (fun u hu => ?_) ?_
    rotate_left
    · obtain ⟨_, _, _, _, _, _, _⟩ := hu.seven
      go_simp
      (with_reducible rfl)
    (try simp only [Act.put, List.setIfInBounds_toArray, List.set_cons_zero, List.set_cons_succ]))
  refine mix_call (by rfl) (fun K hK => ?_)
  go_simp
  refine (HA _ ha0 hF0).mono ?_
  rintro e w1 ⟨rfl, hb1⟩
  have r1 := r0.below hb1 r0.lt
  have bx1 := bx0.below hb1 bx0.lt
  have ab1 := ab0.below hb1 ab0.lt
  have ha1 := ha0.lift hb1
  have hF1 := hF0.below hb1
  have hB1 := hB0.trans (hb1.mono hB0.size)
  refine hK _ _ _ (fun _ h => h) ab1 ?_
  (try simp only [Act.put, List.setIfInBounds_toArray, List.set_cons_zero, List.set_cons_succ])
  refine mix_call (by rfl) (fun K hK => ?_)
  go_simp
  refine (HB _ hF1).mono ?_
  rintro e w2 ⟨rfl, hb2⟩
  have r2 := r1.below hb2 r1.lt
  have bx2 := bx1.below hb2 bx1.lt
  have ab2 := ab1.below hb2 ab1.lt
  have ha2 := ha1.lift hb2
  have hF2 := hF1.below hb2
  have hB2 := hB1.trans (hb2.mono hB1.size)
  refine hK _ _ _ (fun _ h => h) ab2 ?_
  (try simp only [Act.put, List.setIfInBounds_toArray, List.set_cons_zero, List.set_cons_succ])
  refine mix_call (by rfl) (fun K hK => ?_)
  go_simp
  have al3 := (Below.refl w2.heap.size w2).alloc (Nat.le_refl _) (.cells #[.int .i64 fa, .int .i64 fb] 2)
  have r3 := r2.alloc (.cells #[.int .i64 fa, .int .i64 fb] 2)
  have bx3 := bx2.alloc (.cells #[.int .i64 fa, .int .i64 fb] 2)
  have ab3 := ab2.alloc (.cells #[.int .i64 fa, .int .i64 fb] 2)
  have ha3 := ha2.lift al3
  have hF3 := hF2.below al3
  have hB3 := hB2.alloc hB2.size (.cells #[.int .i64 fa, .int .i64 fb] 2)
  refine hK _ _ _ (fun _ h => h) ab3 ?_
  (try simp only [Act.put, List.setIfInBounds_toArray, List.set_cons_zero, List.set_cons_succ])
  refine mix_call (by rfl) (fun K hK => ?_)
  go_simp
  refine (HO w2 _).mono ?_
  rintro e w4 ⟨rfl, hw4⟩
  rw [← hw4] at r3 bx3 ab3 ha3 hF3 hB3
  clear hw4 al3
  refine hK _ _ _ (fun _ h => h) ab3 ?_
  (try simp only [Act.put, List.setIfInBounds_toArray, List.set_cons_zero, List.set_cons_succ])
  refine mix_pure (v := ?_) (by rfl) (fun u hu => ?_) ?_
  rotate_left
  · go_simp
    (with_reducible rfl)
  (try simp only [Act.put, List.setIfInBounds_toArray, List.set_cons_zero, List.set_cons_succ])
  refine mix_nil ?_
  by_cases hz : s = 0
  rotate_left
  · have hne : (s != 0) = true := by rw [bne_iff_ne]; exact hz
    have Hfin := Lib.hid (show addM l p (x0, x1, x2, x3) = (s, []) by rw [Hres.out, if_pos hz])
    clear hz
    obtain ⟨c0, c1, f0, f1⟩ := r3.two
    go_wp2
    refine bodyPost_ret (v := .agg #[.int .i64 s, .slice none 0 0]) (by simp [results, Tryz.results109, go_sem, c0, c1]) rfl ?_
    rw [Hfin.out]
    exact ⟨_, _, _, rfl, Ow.nil, (hB3.setCell (by simp) _).setCell (by simp) _⟩
  subst hz
  have h0 : hintsFaultM l = 0 := by
    have := Hs.out
    rw [or_twoH] at this
    rw [Hfa.out]
    by_cases h : fa = 0
    · exact h
    · rw [if_pos h] at this
      exact this
  have Hres := Lib.hid (show addM l p (x0, x1, x2, x3) = if 0 ≤ findHI l p x2 then (6, []) else if 8 ≤ l.length then (7, []) else (0, l ++ [(p, (x0, x1, x2, x3), 0, 0)]) by rw [Hres.out, if_neg (by simp)])
  have hn := Hn.out
  have hn8 := ((hintsFault_iff l).1 h0).1
  rw [hn] at hn8
  have Hz := Lib.hid (queue_zip h0)
  obtain ⟨L, hLz⟩ : ∃ L, zipQ l = L := ⟨_, rfl⟩
  have Hlz := Lib.hid hLz
  have Hll := Lib.hid (show L.length = n by rw [← hLz, zipQ_len, hn])
  obtain ⟨q0, q1, q2, q3, q4, q5, q6, q7, f, hl0, -, hfst, hsome⟩ := lookQ L (p, (x0, x1, x2, x3), 0, 0) 0
  have hl : ∀ b u, QMap u b L → (Instr.lookup 216 (.map (some b)) (.agg #[.int .i64 p, .int .i64 x2]) true).run Tryz.prog u = .ok (.tuple #[.agg #[.int .i64 q0, .int .i64 q1, .int .i64 q2, .int .i64 q3, .int .i64 q4, .int .i64 q5, .int .i64 q6, .int .i64 q7], .bool f]) u := fun b u hu => hl0 u b hu
  clear hl0
  rw [← hLz, first_zip] at hfst hsome
  have hfs : f = (findH l p x2).isSome := by
    rw [← hsome]
    show ((findH l p x2).map _).isSome = _
    cases findH l p x2 <;> rfl
  clear hsome hfst
  rcases hk : findH l p x2 with _ | k
  rotate_left
  · have hi : findHI l p x2 = (k : Int) := by unfold findHI; rw [hk]
    rw [hk] at hfs
    have hff : f = true := hfs
    subst hff
    have Hfin := Lib.hid (show addM l p (x0, x1, x2, x3) = (6, []) by rw [Hres.out, if_pos (by rw [hi]; omega)])
    clear h0 hn hk hfs hi hLz
    go_wp2_with fail
    refine (qOf A n c l _ ha3 Hn.out (by omega)).mono ?_
    rintro e w11 ⟨rfl, hp11, hq11, hb11⟩
    have bx_11 := bx3.below hb11 bx3.lt
    have r_11 := r3.below hb11 r3.lt
    have ab_11 := ab3.below hb11 ab3.lt
    have ha_11 := ha3.lift hb11
    have hF_11 := hF3.below hb11
    have hB_11 := hB3.trans (hb11.mono hB3.size)
    rw [Hz.out, Hlz.out] at hq11
    obtain ⟨bx0_11, bx1_11, bx2_11, bx3_11, _, _, _, _⟩ := bx_11.four
    have al12 := (Below.refl w11.heap.size w11).alloc (Nat.le_refl _) (.cells #[.int .i64 p, .int .i64 x2] 181)
    have kb := At.new w11 181 #[.int .i64 p, .int .i64 x2]
    have bx_12 := bx_11.alloc (.cells #[.int .i64 p, .int .i64 x2] 181)
    have r_12 := r_11.alloc (.cells #[.int .i64 p, .int .i64 x2] 181)
    have ab_12 := ab_11.alloc (.cells #[.int .i64 p, .int .i64 x2] 181)
    have q_12 := hp11.alloc (.cells #[.int .i64 p, .int .i64 x2] 181)
    have qm_12 := hq11.alloc (.cells #[.int .i64 p, .int .i64 x2] 181)
    have ha_12 := ha_11.lift al12
    have hF_12 := hF_11.below al12
    have hB_12 := hB_11.alloc hB_11.size (.cells #[.int .i64 p, .int .i64 x2] 181)
    obtain ⟨kb0_12, kb1_12, kbf_12, kbg_12⟩ := kb.two
    go_wp2_with fail
    refine (qFind (w4.heap.size + 1) w4.heap.size (n : Int) L p x2 q0 q1 q2 q3 q4 q5 q6 q7 true _ q_12 qm_12 (hl _)).mono ?_
    rintro e w13 ⟨rfl, hb13⟩
    have bx_13 := bx_12.below hb13 bx_12.lt
    have r_13 := r_12.below hb13 r_12.lt
    have ab_13 := ab_12.below hb13 ab_12.lt
    have q_13 := q_12.below hb13 q_12.lt
    have kb_13 := kb.below hb13 kb.lt
    have qm_13 := qm_12.below hb13 qm_12.lt
    have ha_13 := ha_12.lift hb13
    have hF_13 := hF_12.below hb13
    have hB_13 := hB_12.trans (hb13.mono hB_12.size)
    have al14 := (Below.refl w13.heap.size w13).alloc (Nat.le_refl _) (.cells #[.int .i64 q1, .int .i64 q2, .int .i64 q3, .int .i64 q4, .int .i64 q5, .int .i64 q6, .int .i64 q7] 89)
    have hb := At.new w13 89 #[.int .i64 q1, .int .i64 q2, .int .i64 q3, .int .i64 q4, .int .i64 q5, .int .i64 q6, .int .i64 q7]
    have bx_14 := bx_13.alloc (.cells #[.int .i64 q1, .int .i64 q2, .int .i64 q3, .int .i64 q4, .int .i64 q5, .int .i64 q6, .int .i64 q7] 89)
    have r_14 := r_13.alloc (.cells #[.int .i64 q1, .int .i64 q2, .int .i64 q3, .int .i64 q4, .int .i64 q5, .int .i64 q6, .int .i64 q7] 89)
    have ab_14 := ab_13.alloc (.cells #[.int .i64 q1, .int .i64 q2, .int .i64 q3, .int .i64 q4, .int .i64 q5, .int .i64 q6, .int .i64 q7] 89)
    have q_14 := q_13.alloc (.cells #[.int .i64 q1, .int .i64 q2, .int .i64 q3, .int .i64 q4, .int .i64 q5, .int .i64 q6, .int .i64 q7] 89)
    have kb_14 := kb_13.alloc (.cells #[.int .i64 q1, .int .i64 q2, .int .i64 q3, .int .i64 q4, .int .i64 q5, .int .i64 q6, .int .i64 q7] 89)
    have qm_14 := qm_13.alloc (.cells #[.int .i64 q1, .int .i64 q2, .int .i64 q3, .int .i64 q4, .int .i64 q5, .int .i64 q6, .int .i64 q7] 89)
    have ha_14 := ha_13.lift al14
    have hF_14 := hF_13.below al14
    have hB_14 := hB_13.alloc hB_13.size (.cells #[.int .i64 q1, .int .i64 q2, .int .i64 q3, .int .i64 q4, .int .i64 q5, .int .i64 q6, .int .i64 q7] 89)
    obtain ⟨r0_14, r1_14, rf_14, rg_14⟩ := r_14.two
    go_wp2_with fail
    refine bodyPost_ret (v := .agg #[.int .i64 6, .slice none 0 0]) (by simp [results, Tryz.results109, go_sem, r0_14, r1_14]) rfl ?_
    rw [Hfin.out]
    exact ⟨_, _, _, rfl, Ow.nil, (hB_14.setCell (by simp) _).setCell (by simp) _⟩
  have hi : findHI l p x2 = -1 := by unfold findHI; rw [hk]
  rw [hk] at hfs
  have hff : f = false := hfs
  subst hff
  by_cases hfull : 8 ≤ n
  · have Hfin := Lib.hid (show addM l p (x0, x1, x2, x3) = (7, []) by rw [Hres.out, if_neg (by rw [hi]; omega), if_pos (by omega)])
    have hn8' : n = 8 := by omega
    have hsz : ((n : Int) == 8) = true := by rw [hn8']; rfl
    clear h0 hn hk hfs hi hLz hfull hn8'
    go_wp2_with fail
    refine (qOf A n c l _ ha3 Hn.out (by omega)).mono ?_
    rintro e w11 ⟨rfl, hp11, hq11, hb11⟩
    have bx_11 := bx3.below hb11 bx3.lt
    have r_11 := r3.below hb11 r3.lt
    have ab_11 := ab3.below hb11 ab3.lt
    have ha_11 := ha3.lift hb11
    have hF_11 := hF3.below hb11
    have hB_11 := hB3.trans (hb11.mono hB3.size)
    rw [Hz.out, Hlz.out] at hq11
    obtain ⟨bx0_11, bx1_11, bx2_11, bx3_11, _, _, _, _⟩ := bx_11.four
    have al12 := (Below.refl w11.heap.size w11).alloc (Nat.le_refl _) (.cells #[.int .i64 p, .int .i64 x2] 181)
    have kb := At.new w11 181 #[.int .i64 p, .int .i64 x2]
    have bx_12 := bx_11.alloc (.cells #[.int .i64 p, .int .i64 x2] 181)
    have r_12 := r_11.alloc (.cells #[.int .i64 p, .int .i64 x2] 181)
    have ab_12 := ab_11.alloc (.cells #[.int .i64 p, .int .i64 x2] 181)
    have q_12 := hp11.alloc (.cells #[.int .i64 p, .int .i64 x2] 181)
    have qm_12 := hq11.alloc (.cells #[.int .i64 p, .int .i64 x2] 181)
    have ha_12 := ha_11.lift al12
    have hF_12 := hF_11.below al12
    have hB_12 := hB_11.alloc hB_11.size (.cells #[.int .i64 p, .int .i64 x2] 181)
    obtain ⟨kb0_12, kb1_12, kbf_12, kbg_12⟩ := kb.two
    go_wp2_with fail
    refine (qFind (w4.heap.size + 1) w4.heap.size (n : Int) L p x2 q0 q1 q2 q3 q4 q5 q6 q7 false _ q_12 qm_12 (hl _)).mono ?_
    rintro e w13 ⟨rfl, hb13⟩
    have bx_13 := bx_12.below hb13 bx_12.lt
    have r_13 := r_12.below hb13 r_12.lt
    have ab_13 := ab_12.below hb13 ab_12.lt
    have q_13 := q_12.below hb13 q_12.lt
    have kb_13 := kb.below hb13 kb.lt
    have qm_13 := qm_12.below hb13 qm_12.lt
    have ha_13 := ha_12.lift hb13
    have hF_13 := hF_12.below hb13
    have hB_13 := hB_12.trans (hb13.mono hB_12.size)
    have al14 := (Below.refl w13.heap.size w13).alloc (Nat.le_refl _) (.cells #[.int .i64 q1, .int .i64 q2, .int .i64 q3, .int .i64 q4, .int .i64 q5, .int .i64 q6, .int .i64 q7] 89)
    have hb := At.new w13 89 #[.int .i64 q1, .int .i64 q2, .int .i64 q3, .int .i64 q4, .int .i64 q5, .int .i64 q6, .int .i64 q7]
    have bx_14 := bx_13.alloc (.cells #[.int .i64 q1, .int .i64 q2, .int .i64 q3, .int .i64 q4, .int .i64 q5, .int .i64 q6, .int .i64 q7] 89)
    have r_14 := r_13.alloc (.cells #[.int .i64 q1, .int .i64 q2, .int .i64 q3, .int .i64 q4, .int .i64 q5, .int .i64 q6, .int .i64 q7] 89)
    have ab_14 := ab_13.alloc (.cells #[.int .i64 q1, .int .i64 q2, .int .i64 q3, .int .i64 q4, .int .i64 q5, .int .i64 q6, .int .i64 q7] 89)
    have q_14 := q_13.alloc (.cells #[.int .i64 q1, .int .i64 q2, .int .i64 q3, .int .i64 q4, .int .i64 q5, .int .i64 q6, .int .i64 q7] 89)
    have kb_14 := kb_13.alloc (.cells #[.int .i64 q1, .int .i64 q2, .int .i64 q3, .int .i64 q4, .int .i64 q5, .int .i64 q6, .int .i64 q7] 89)
    have qm_14 := qm_13.alloc (.cells #[.int .i64 q1, .int .i64 q2, .int .i64 q3, .int .i64 q4, .int .i64 q5, .int .i64 q6, .int .i64 q7] 89)
    have ha_14 := ha_13.lift al14
    have hF_14 := hF_13.below al14
    have hB_14 := hB_13.alloc hB_13.size (.cells #[.int .i64 q1, .int .i64 q2, .int .i64 q3, .int .i64 q4, .int .i64 q5, .int .i64 q6, .int .i64 q7] 89)
    obtain ⟨kb0_14, kb1_14, kbf_14, kbg_14⟩ := kb_14.two
    have HSZ := qSize _ _ _ L _ q_14 qm_14
    rw [Hll.out] at HSZ
    go_wp2_with fail
    refine (HSZ).mono ?_
    rintro e w99 ⟨rfl, rfl⟩
    obtain ⟨r0_14, r1_14, rf_14, rg_14⟩ := r_14.two
    go_wp2_with fail
    refine bodyPost_ret (v := .agg #[.int .i64 7, .slice none 0 0]) (by simp [results, Tryz.results109, go_sem, r0_14, r1_14]) rfl ?_
    rw [Hfin.out]
    exact ⟨_, _, _, rfl, Ow.nil, (hB_14.setCell (by simp) _).setCell (by simp) _⟩
  have hm1 := add_zip (l := l) (h := (p, (x0, x1, x2, x3), 0, 0)) hk
  rw [hLz, hn] at hm1
  have Hm0 := Lib.hid hm1
  obtain ⟨L', hL'⟩ : ∃ L', zipQ (l ++ [(p, (x0, x1, x2, x3), 0, 0)]) = L' := ⟨_, rfl⟩
  have Hl' := Lib.hid (hm1.trans hL')
  have Hm1 := Lib.hid (show L'.map Prod.snd = l ++ [(p, (x0, x1, x2, x3), 0, 0)] by rw [← hL', zipQ_snd])
  have Hm2 := Lib.hid (show Rises L' by rw [← hL']; exact rises_zip _)
  have Hm3 := Lib.hid (show L'.length ≤ 1000 by rw [← hL', zipQ_len, List.length_append, List.length_singleton]; omega)
  have Hfin := Lib.hid (show addM l p (x0, x1, x2, x3) = (0, l ++ [(p, (x0, x1, x2, x3), 0, 0)]) by rw [Hres.out, if_neg (by rw [hi]; omega), if_neg (by omega)])
  have hsz : ((n : Int) == 8) = false := by simp; omega
  clear h0 hn hk hfs hi hLz hfull hm1 hL'
  go_wp2_with fail
  refine (qOf A n c l _ ha3 Hn.out (by omega)).mono ?_
  rintro e w11 ⟨rfl, hp11, hq11, hb11⟩
  have bx_11 := bx3.below hb11 bx3.lt
  have r_11 := r3.below hb11 r3.lt
  have ab_11 := ab3.below hb11 ab3.lt
  have ha_11 := ha3.lift hb11
  have hF_11 := hF3.below hb11
  have hB_11 := hB3.trans (hb11.mono hB3.size)
  rw [Hz.out, Hlz.out] at hq11
  obtain ⟨bx0_11, bx1_11, bx2_11, bx3_11, _, _, _, _⟩ := bx_11.four
  have al12 := (Below.refl w11.heap.size w11).alloc (Nat.le_refl _) (.cells #[.int .i64 p, .int .i64 x2] 181)
  have kb := At.new w11 181 #[.int .i64 p, .int .i64 x2]
  have bx_12 := bx_11.alloc (.cells #[.int .i64 p, .int .i64 x2] 181)
  have r_12 := r_11.alloc (.cells #[.int .i64 p, .int .i64 x2] 181)
  have ab_12 := ab_11.alloc (.cells #[.int .i64 p, .int .i64 x2] 181)
  have q_12 := hp11.alloc (.cells #[.int .i64 p, .int .i64 x2] 181)
  have qm_12 := hq11.alloc (.cells #[.int .i64 p, .int .i64 x2] 181)
  have ha_12 := ha_11.lift al12
  have hF_12 := hF_11.below al12
  have hB_12 := hB_11.alloc hB_11.size (.cells #[.int .i64 p, .int .i64 x2] 181)
  obtain ⟨kb0_12, kb1_12, kbf_12, kbg_12⟩ := kb.two
  go_wp2_with fail
  refine (qFind (w4.heap.size + 1) w4.heap.size (n : Int) L p x2 q0 q1 q2 q3 q4 q5 q6 q7 false _ q_12 qm_12 (hl _)).mono ?_
  rintro e w13 ⟨rfl, hb13⟩
  have bx_13 := bx_12.below hb13 bx_12.lt
  have r_13 := r_12.below hb13 r_12.lt
  have ab_13 := ab_12.below hb13 ab_12.lt
  have q_13 := q_12.below hb13 q_12.lt
  have kb_13 := kb.below hb13 kb.lt
  have qm_13 := qm_12.below hb13 qm_12.lt
  have ha_13 := ha_12.lift hb13
  have hF_13 := hF_12.below hb13
  have hB_13 := hB_12.trans (hb13.mono hB_12.size)
  have al14 := (Below.refl w13.heap.size w13).alloc (Nat.le_refl _) (.cells #[.int .i64 q1, .int .i64 q2, .int .i64 q3, .int .i64 q4, .int .i64 q5, .int .i64 q6, .int .i64 q7] 89)
  have hb := At.new w13 89 #[.int .i64 q1, .int .i64 q2, .int .i64 q3, .int .i64 q4, .int .i64 q5, .int .i64 q6, .int .i64 q7]
  have bx_14 := bx_13.alloc (.cells #[.int .i64 q1, .int .i64 q2, .int .i64 q3, .int .i64 q4, .int .i64 q5, .int .i64 q6, .int .i64 q7] 89)
  have r_14 := r_13.alloc (.cells #[.int .i64 q1, .int .i64 q2, .int .i64 q3, .int .i64 q4, .int .i64 q5, .int .i64 q6, .int .i64 q7] 89)
  have ab_14 := ab_13.alloc (.cells #[.int .i64 q1, .int .i64 q2, .int .i64 q3, .int .i64 q4, .int .i64 q5, .int .i64 q6, .int .i64 q7] 89)
  have q_14 := q_13.alloc (.cells #[.int .i64 q1, .int .i64 q2, .int .i64 q3, .int .i64 q4, .int .i64 q5, .int .i64 q6, .int .i64 q7] 89)
  have kb_14 := kb_13.alloc (.cells #[.int .i64 q1, .int .i64 q2, .int .i64 q3, .int .i64 q4, .int .i64 q5, .int .i64 q6, .int .i64 q7] 89)
  have qm_14 := qm_13.alloc (.cells #[.int .i64 q1, .int .i64 q2, .int .i64 q3, .int .i64 q4, .int .i64 q5, .int .i64 q6, .int .i64 q7] 89)
  have ha_14 := ha_13.lift al14
  have hF_14 := hF_13.below al14
  have hB_14 := hB_13.alloc hB_13.size (.cells #[.int .i64 q1, .int .i64 q2, .int .i64 q3, .int .i64 q4, .int .i64 q5, .int .i64 q6, .int .i64 q7] 89)
  obtain ⟨ab0_14, ab1_14, ab2_14, ab3_14, ab4_14, ab5_14, ab6_14⟩ := ab_14.seven
  obtain ⟨kb0_14, kb1_14, kbf_14, kbg_14⟩ := kb_14.two
  have HSZ := qSize _ _ _ L _ q_14 qm_14
  rw [Hll.out] at HSZ
  go_wp2_with fail
  refine (HSZ).mono ?_
  rintro e w99 ⟨rfl, rfl⟩
  go_wp2_with fail
  refine (qPut (w4.heap.size + 1) w4.heap.size w4.heap.size (n : Int) L p x0 x1 x2 x3 0 0 _ q_14 qm_14 (by omega) (Nat.le_refl _) (by omega)).mono ?_
  rintro e w20 ⟨rfl, hp20, hq20, hb20⟩
  rw [Hl'.out] at hq20
  have r20 := r_14.below hb20 r3.lt
  have hB20 := hB_14.trans (hb20.mono hB3.size)
  go_wp2_with fail
  refine (qList _ _ _ L' _ hp20 hq20 Hm2.out Hm3.out).mono ?_
  rintro e w21 ⟨A5, c5, rfl, ow5, hb21⟩
  rw [Hm1.out] at ow5
  have r21 := r20.below hb21 r20.lt
  have hB21 := hB20.trans (hb21.mono hB20.size)
  have lr20 := r20.lt
  obtain ⟨c0, c1, f0, f1⟩ := r21.two
  go_wp2_with fail
  refine bodyPost_ret (v := .agg #[.int .i64 0, .slice A5 (L'.length) c5]) (by simp [results, Tryz.results109, go_sem, c0, c1]) rfl ?_
  rw [Hfin.out]
  exact ⟨_, _, _, rfl, (((ow5.under (p := ⟨w.heap.size + 1, 0, none⟩) lr20 _).under (p := ⟨w.heap.size + 1, 1, none⟩) lr20 _).from_ hB20.size), (hB21.setCell (by simp) _).setCell (by simp) _⟩
theorem hiAddHint : ∀ (A : Option Addr) (n c : Nat) (l : List Hnt) (p x0 x1 x2 x3 : Int) (W : World), Rd eH W W.heap.size A l → l.length = n → n ≤ 1048576 → Flds W → Calls Tryz.prog 109 #[.slice A n c, .int .i64 p, .agg #[.int .i64 x0, .int .i64 x1, .int .i64 x2, .int .i64 x3]] W (RetHs (addM l p (x0, x1, x2, x3)) W) :=
  fun A n c l p x0 x1 x2 x3 W ha hn _ hF => implAddHint A n c l p x0 x1 x2 x3 W ha hn hF
end Go.Proofs.YteiclanlhnccnaaGreatDoor
/-
  The program's DoneHint.
-/
namespace Go.Proofs.YteiclanlhnccnaaGreatDoor
set_option maxRecDepth 20000
open Go.RowKit Go.Shelf
set_option linter.unusedSimpArgs false
set_option linter.unusedVariables false

set_option maxRecDepth 100000 in
set_option maxHeartbeats 4000000 in
theorem implDoneHint (A : Option Addr) (n c : Nat) (l : List Hnt) (p i : Int) (w : World) (ha : Rd eH w w.heap.size A l) (hn : l.length = n) (hF : Flds w) :
    Calls Tryz.prog 110 #[.slice A n c, .int .i64 p, .int .i64 i] w (RetHs (doneM l p i) w) := by
  have hB0 : Below w.heap.size w (w.alloc (.cells #[.int .i64 0, .slice none 0 0] 158)) := (Below.refl _ _).alloc (Nat.le_refl _) _
  have r0 := At.new w 158 #[.int .i64 0, .slice none 0 0]
  have ha0 := ha.lift hB0
  have hF0 := hF.below hB0
  have HF := implHintsFault A n c l _ ha0 hn hF0
  by_cases h0 : hintsFaultM l = 0
  rotate_left
  · rw [show (doneM l p i) = (hintsFaultM l, []) from if_pos h0]
    have hne : (hintsFaultM l != 0) = true := by rw [bne_iff_ne]; exact h0
    generalize hintsFaultM l = sf at *
    clear h0
    go_enter Tryz.func110, Tryz.ntmps110
    go_wp2_with fail
    refine (HF).mono ?_
    rintro e w1 ⟨rfl, hb1⟩
    have r_1 := r0.below hb1 r0.lt
    have ha_1 := ha0.lift hb1
    have hF_1 := hF0.below hb1
    have hB_1 := hB0.trans (hb1.mono hB0.size)
    obtain ⟨r0_1, r1_1, rf_1, rg_1⟩ := r_1.two
    go_wp2_with fail
    refine bodyPost_ret (v := .agg #[.int .i64 sf, .slice none 0 0]) (by simp [results, Tryz.results110, go_sem, r0_1, r1_1]) rfl ?_
    exact ⟨_, _, _, rfl, Ow.nil, (hB_1.setCell (by simp) _).setCell (by simp) _⟩
  have hn8 := ((hintsFault_iff l).1 h0).1
  rw [hn] at hn8
  have Hn := Lib.hid hn
  have Hz := Lib.hid (queue_zip h0)
  obtain ⟨L, hLz⟩ : ∃ L, zipQ l = L := ⟨_, rfl⟩
  have Hlz := Lib.hid hLz
  have Hll := Lib.hid (show L.length = n by rw [← hLz, zipQ_len, hn])
  obtain ⟨q0, q1, q2, q3, q4, q5, q6, q7, f, hl0, -, hfst, hsome⟩ := lookQ L (p, (0, 0, i, 0), 0, 0) 0
  have hl : ∀ b u, QMap u b L → (Instr.lookup 216 (.map (some b)) (.agg #[.int .i64 p, .int .i64 i]) true).run Tryz.prog u = .ok (.tuple #[.agg #[.int .i64 q0, .int .i64 q1, .int .i64 q2, .int .i64 q3, .int .i64 q4, .int .i64 q5, .int .i64 q6, .int .i64 q7], .bool f]) u := fun b u hu => hl0 u b hu
  clear hl0
  rw [← hLz, first_zip] at hfst hsome
  rcases hk : findH l p i with _ | k
  · have hff : f = false := by
      rw [← hsome]
      show ((findH l p i).map _).isSome = false
      rw [hk]
      rfl
    subst hff
    rw [show (doneM l p i) = (4, []) by unfold doneM; rw [if_neg (by simp [h0]), hk]]
    rw [h0] at HF
    clear h0 hn hk hfst hsome hLz
    go_enter Tryz.func110, Tryz.ntmps110
    go_wp2_with fail
    refine (HF).mono ?_
    rintro e w1 ⟨rfl, hb1⟩
    have r_1 := r0.below hb1 r0.lt
    have ha_1 := ha0.lift hb1
    have hF_1 := hF0.below hb1
    have hB_1 := hB0.trans (hb1.mono hB0.size)
    go_wp2_with fail
    refine (qOf A n c l _ ha_1 Hn.out (by omega)).mono ?_
    rintro e w2 ⟨rfl, hp2, hq2, hb2⟩
    have r_2 := r_1.below hb2 r_1.lt
    have ha_2 := ha_1.lift hb2
    have hF_2 := hF_1.below hb2
    have hB_2 := hB_1.trans (hb2.mono hB_1.size)
    rw [Hz.out, Hlz.out] at hq2
    have al3 := (Below.refl w2.heap.size w2).alloc (Nat.le_refl _) (.cells #[.int .i64 p, .int .i64 i] 181)
    have kb := At.new w2 181 #[.int .i64 p, .int .i64 i]
    have r_3 := r_2.alloc (.cells #[.int .i64 p, .int .i64 i] 181)
    have q_3 := hp2.alloc (.cells #[.int .i64 p, .int .i64 i] 181)
    have qm_3 := hq2.alloc (.cells #[.int .i64 p, .int .i64 i] 181)
    have ha_3 := ha_2.lift al3
    have hF_3 := hF_2.below al3
    have hB_3 := hB_2.alloc hB_2.size (.cells #[.int .i64 p, .int .i64 i] 181)
    obtain ⟨kb0_3, kb1_3, kbf_3, kbg_3⟩ := kb.two
    go_wp2_with fail
    refine (qFind (w1.heap.size + 1) w1.heap.size (n : Int) L p i q0 q1 q2 q3 q4 q5 q6 q7 false _ q_3 qm_3 (hl _)).mono ?_
    rintro e w4 ⟨rfl, hb4⟩
    have r_4 := r_3.below hb4 r_3.lt
    have q_4 := q_3.below hb4 q_3.lt
    have kb_4 := kb.below hb4 kb.lt
    have qm_4 := qm_3.below hb4 qm_3.lt
    have ha_4 := ha_3.lift hb4
    have hF_4 := hF_3.below hb4
    have hB_4 := hB_3.trans (hb4.mono hB_3.size)
    obtain ⟨kb0_4, kb1_4, kbf_4, kbg_4⟩ := kb_4.two
    have al5 := (Below.refl w4.heap.size w4).alloc (Nat.le_refl _) (.cells #[.int .i64 q1, .int .i64 q2, .int .i64 q3, .int .i64 q4, .int .i64 q5, .int .i64 q6, .int .i64 q7] 89)
    have hb := At.new w4 89 #[.int .i64 q1, .int .i64 q2, .int .i64 q3, .int .i64 q4, .int .i64 q5, .int .i64 q6, .int .i64 q7]
    have r_5 := r_4.alloc (.cells #[.int .i64 q1, .int .i64 q2, .int .i64 q3, .int .i64 q4, .int .i64 q5, .int .i64 q6, .int .i64 q7] 89)
    have q_5 := q_4.alloc (.cells #[.int .i64 q1, .int .i64 q2, .int .i64 q3, .int .i64 q4, .int .i64 q5, .int .i64 q6, .int .i64 q7] 89)
    have kb_5 := kb_4.alloc (.cells #[.int .i64 q1, .int .i64 q2, .int .i64 q3, .int .i64 q4, .int .i64 q5, .int .i64 q6, .int .i64 q7] 89)
    have qm_5 := qm_4.alloc (.cells #[.int .i64 q1, .int .i64 q2, .int .i64 q3, .int .i64 q4, .int .i64 q5, .int .i64 q6, .int .i64 q7] 89)
    have ha_5 := ha_4.lift al5
    have hF_5 := hF_4.below al5
    have hB_5 := hB_4.alloc hB_4.size (.cells #[.int .i64 q1, .int .i64 q2, .int .i64 q3, .int .i64 q4, .int .i64 q5, .int .i64 q6, .int .i64 q7] 89)
    obtain ⟨r0_5, r1_5, rf_5, rg_5⟩ := r_5.two
    go_wp2_with fail
    refine bodyPost_ret (v := .agg #[.int .i64 4, .slice none 0 0]) (by simp [results, Tryz.results110, go_sem, r0_5, r1_5]) rfl ?_
    exact ⟨_, _, _, rfl, Ow.nil, (hB_5.setCell (by simp) _).setCell (by simp) _⟩
  · have hff : f = true := by
      rw [← hsome]
      show ((findH l p i).map _).isSome = true
      rw [hk]
      rfl
    subst hff
    obtain ⟨hm1, hm2⟩ := erase_zip hk (h := (p, (0, 0, i, 0), 0, 0)) rfl rfl
    rw [hLz] at hm1 hm2
    obtain ⟨L', hL'⟩ : ∃ L', eraseQ (p, (0, 0, i, 0), 0, 0) L = L' := ⟨_, rfl⟩
    rw [hL'] at hm1 hm2
    have Hl' := Lib.hid hL'
    have Hm1 := Lib.hid hm1
    have Hm2 := Lib.hid hm2
    have Hm3 := Lib.hid (show L'.length ≤ 1000 by have := congrArg List.length hm1; rw [List.length_map, List.length_append, List.length_take, List.length_drop] at this; omega)
    rw [show (doneM l p i) = (0, l.take k ++ l.drop (k + 1)) by unfold doneM; rw [if_neg (by simp [h0]), hk]]
    rw [h0] at HF
    clear h0 hn hk hfst hsome hLz hm1 hm2 hL'
    go_enter Tryz.func110, Tryz.ntmps110
    go_wp2_with fail
    refine (HF).mono ?_
    rintro e w1 ⟨rfl, hb1⟩
    have r_1 := r0.below hb1 r0.lt
    have ha_1 := ha0.lift hb1
    have hF_1 := hF0.below hb1
    have hB_1 := hB0.trans (hb1.mono hB0.size)
    go_wp2_with fail
    refine (qOf A n c l _ ha_1 Hn.out (by omega)).mono ?_
    rintro e w2 ⟨rfl, hp2, hq2, hb2⟩
    have r_2 := r_1.below hb2 r_1.lt
    have ha_2 := ha_1.lift hb2
    have hF_2 := hF_1.below hb2
    have hB_2 := hB_1.trans (hb2.mono hB_1.size)
    rw [Hz.out, Hlz.out] at hq2
    have al3 := (Below.refl w2.heap.size w2).alloc (Nat.le_refl _) (.cells #[.int .i64 p, .int .i64 i] 181)
    have kb := At.new w2 181 #[.int .i64 p, .int .i64 i]
    have r_3 := r_2.alloc (.cells #[.int .i64 p, .int .i64 i] 181)
    have q_3 := hp2.alloc (.cells #[.int .i64 p, .int .i64 i] 181)
    have qm_3 := hq2.alloc (.cells #[.int .i64 p, .int .i64 i] 181)
    have ha_3 := ha_2.lift al3
    have hF_3 := hF_2.below al3
    have hB_3 := hB_2.alloc hB_2.size (.cells #[.int .i64 p, .int .i64 i] 181)
    obtain ⟨kb0_3, kb1_3, kbf_3, kbg_3⟩ := kb.two
    go_wp2_with fail
    refine (qFind (w1.heap.size + 1) w1.heap.size (n : Int) L p i q0 q1 q2 q3 q4 q5 q6 q7 true _ q_3 qm_3 (hl _)).mono ?_
    rintro e w4 ⟨rfl, hb4⟩
    have r_4 := r_3.below hb4 r_3.lt
    have q_4 := q_3.below hb4 q_3.lt
    have kb_4 := kb.below hb4 kb.lt
    have qm_4 := qm_3.below hb4 qm_3.lt
    have ha_4 := ha_3.lift hb4
    have hF_4 := hF_3.below hb4
    have hB_4 := hB_3.trans (hb4.mono hB_3.size)
    obtain ⟨kb0_4, kb1_4, kbf_4, kbg_4⟩ := kb_4.two
    have al5 := (Below.refl w4.heap.size w4).alloc (Nat.le_refl _) (.cells #[.int .i64 q1, .int .i64 q2, .int .i64 q3, .int .i64 q4, .int .i64 q5, .int .i64 q6, .int .i64 q7] 89)
    have hb := At.new w4 89 #[.int .i64 q1, .int .i64 q2, .int .i64 q3, .int .i64 q4, .int .i64 q5, .int .i64 q6, .int .i64 q7]
    have r_5 := r_4.alloc (.cells #[.int .i64 q1, .int .i64 q2, .int .i64 q3, .int .i64 q4, .int .i64 q5, .int .i64 q6, .int .i64 q7] 89)
    have q_5 := q_4.alloc (.cells #[.int .i64 q1, .int .i64 q2, .int .i64 q3, .int .i64 q4, .int .i64 q5, .int .i64 q6, .int .i64 q7] 89)
    have kb_5 := kb_4.alloc (.cells #[.int .i64 q1, .int .i64 q2, .int .i64 q3, .int .i64 q4, .int .i64 q5, .int .i64 q6, .int .i64 q7] 89)
    have qm_5 := qm_4.alloc (.cells #[.int .i64 q1, .int .i64 q2, .int .i64 q3, .int .i64 q4, .int .i64 q5, .int .i64 q6, .int .i64 q7] 89)
    have ha_5 := ha_4.lift al5
    have hF_5 := hF_4.below al5
    have hB_5 := hB_4.alloc hB_4.size (.cells #[.int .i64 q1, .int .i64 q2, .int .i64 q3, .int .i64 q4, .int .i64 q5, .int .i64 q6, .int .i64 q7] 89)
    obtain ⟨kb0_5, kb1_5, kbf_5, kbg_5⟩ := kb_5.two
    go_wp2_with fail
    refine (qRemove (w1.heap.size + 1) w1.heap.size w1.heap.size (n : Int) L p i _ q_5 qm_5 (by omega) (Nat.le_refl _)).mono ?_
    rintro e w20 ⟨rfl, hp20, hq20, hb20⟩
    rw [Hl'.out] at hq20
    have r20 := r_5.below hb20 r_1.lt
    have hB20 := hB_5.trans (hb20.mono hB_1.size)
    go_wp2_with fail
    refine (qList _ _ _ L' _ hp20 hq20 Hm2.out Hm3.out).mono ?_
    rintro e w21 ⟨A5, c5, rfl, ow5, hb21⟩
    rw [Hm1.out] at ow5
    have r21 := r20.below hb21 r20.lt
    have hB21 := hB20.trans (hb21.mono hB20.size)
    have lr20 := r20.lt
    obtain ⟨c0, c1, f0, f1⟩ := r21.two
    go_wp2_with fail
    refine bodyPost_ret (v := .agg #[.int .i64 0, .slice A5 (L'.length) c5]) (by simp [results, Tryz.results110, go_sem, c0, c1]) rfl ?_
    exact ⟨_, _, _, rfl, (((ow5.under (p := ⟨w.heap.size, 0, none⟩) lr20 _).under (p := ⟨w.heap.size, 1, none⟩) lr20 _).from_ hB20.size), (hB21.setCell (Nat.le_refl _) _).setCell (Nat.le_refl _) _⟩
theorem hiDoneHint : ∀ (A0 : Option Addr) (m0 e0 : Nat) (q0 : List Hnt) (p i : Int) (W : World), Rd eH W W.heap.size A0 q0 → q0.length = m0 → m0 ≤ 1048576 → Flds W → Calls Tryz.prog 110 #[.slice A0 m0 e0, .int .i64 p, .int .i64 i] W (RetHs (doneM q0 p i) W) :=
  fun A0 m0 e0 q0 p i W ha hn _ hF => implDoneHint A0 m0 e0 q0 p i W ha hn hF
end Go.Proofs.YteiclanlhnccnaaGreatDoor
