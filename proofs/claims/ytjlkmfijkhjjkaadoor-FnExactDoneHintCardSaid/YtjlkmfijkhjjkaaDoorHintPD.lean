/-
  The program's DoneHint.
-/
import Derived.Test.YtjlkmfijkhjjkaaDoorHintP
namespace Go.Proofs.YtjlkmfijkhjjkaaDoor
set_option maxRecDepth 20000
open Go.RowKit Go.Shelf
set_option linter.unusedSimpArgs false
set_option linter.unusedVariables false

set_option maxRecDepth 100000 in
set_option maxHeartbeats 4000000 in
theorem implDoneHint (A : Option Addr) (n c : Nat) (l : List Hnt) (p i : Int) (w : World) (ha : Rd eH w w.heap.size A l) (hn : l.length = n) (hF : Flds w) :
    Calls Tryd.prog 13 #[.slice A n c, .int .i64 p, .int .i64 i] w (RetHs (doneM l p i) w) := by
  have hB0 : Below w.heap.size w (w.alloc (.cells #[.int .i64 0, .slice none 0 0] 30)) := (Below.refl _ _).alloc (Nat.le_refl _) _
  have r0 := At.new w 30 #[.int .i64 0, .slice none 0 0]
  have ha0 := ha.lift hB0
  have hF0 := hF.below hB0
  have HF := implHintsFault A n c l _ ha0 hn hF0
  by_cases h0 : hintsFaultM l = 0
  rotate_left
  · rw [show (doneM l p i) = (hintsFaultM l, []) from if_pos h0]
    have hne : (hintsFaultM l != 0) = true := by rw [bne_iff_ne]; exact h0
    generalize hintsFaultM l = sf at *
    clear h0
    go_enter Tryd.func13, Tryd.ntmps13
    go_wp2_with fail
    refine (HF).mono ?_
    rintro e w1 ⟨rfl, hb1⟩
    have r_1 := r0.below hb1 r0.lt
    have ha_1 := ha0.lift hb1
    have hF_1 := hF0.below hb1
    have hB_1 := hB0.trans (hb1.mono hB0.size)
    obtain ⟨r0_1, r1_1, rf_1, rg_1⟩ := r_1.two
    go_wp2_with fail
    refine bodyPost_ret (v := .agg #[.int .i64 sf, .slice none 0 0]) (by simp [results, Tryd.results13, go_sem, r0_1, r1_1]) rfl ?_
    exact ⟨_, _, _, rfl, Ow.nil, (hB_1.setCell (by simp) _).setCell (by simp) _⟩
  have hn8 := ((hintsFault_iff l).1 h0).1
  rw [hn] at hn8
  have Hn := Lib.hid hn
  have Hz := Lib.hid (queue_zip h0)
  obtain ⟨L, hLz⟩ : ∃ L, zipQ l = L := ⟨_, rfl⟩
  have Hlz := Lib.hid hLz
  have Hll := Lib.hid (show L.length = n by rw [← hLz, zipQ_len, hn])
  obtain ⟨q0, q1, q2, q3, q4, q5, q6, q7, f, hl0, -, hfst, hsome⟩ := lookQ L (p, (0, 0, i, 0), 0, 0) 0
  have hl : ∀ b u, QMap u b L → (Instr.lookup 106 (.map (some b)) (.agg #[.int .i64 p, .int .i64 i]) true).run Tryd.prog u = .ok (.tuple #[.agg #[.int .i64 q0, .int .i64 q1, .int .i64 q2, .int .i64 q3, .int .i64 q4, .int .i64 q5, .int .i64 q6, .int .i64 q7], .bool f]) u := fun b u hu => hl0 u b hu
  clear hl0
  rw [← hLz, first_zip] at hfst hsome
  rcases hk : findH l p i with _ | k
  · have hff : f = false := by
      rw [← hsome]
      show ((findH l p i).map _).isSome = false
      rw [hk]
      rfl
    subst hff
    rw [show (doneM l p i) = (4, []) by unfold doneM; rw [if_neg (by simp [h0]), hk]]
    rw [h0] at HF
    clear h0 hn hk hfst hsome hLz
    go_enter Tryd.func13, Tryd.ntmps13
    go_wp2_with fail
    refine (HF).mono ?_
    rintro e w1 ⟨rfl, hb1⟩
    have r_1 := r0.below hb1 r0.lt
    have ha_1 := ha0.lift hb1
    have hF_1 := hF0.below hb1
    have hB_1 := hB0.trans (hb1.mono hB0.size)
    go_wp2_with fail
    refine (qOf A n c l _ ha_1 Hn.out (by omega)).mono ?_
    rintro e w2 ⟨rfl, hp2, hq2, hb2⟩
    have r_2 := r_1.below hb2 r_1.lt
    have ha_2 := ha_1.lift hb2
    have hF_2 := hF_1.below hb2
    have hB_2 := hB_1.trans (hb2.mono hB_1.size)
    rw [Hz.out, Hlz.out] at hq2
    have al3 := (Below.refl w2.heap.size w2).alloc (Nat.le_refl _) (.cells #[.int .i64 p, .int .i64 i] 74)
    have kb := At.new w2 74 #[.int .i64 p, .int .i64 i]
    have r_3 := r_2.alloc (.cells #[.int .i64 p, .int .i64 i] 74)
    have q_3 := hp2.alloc (.cells #[.int .i64 p, .int .i64 i] 74)
    have qm_3 := hq2.alloc (.cells #[.int .i64 p, .int .i64 i] 74)
    have ha_3 := ha_2.lift al3
    have hF_3 := hF_2.below al3
    have hB_3 := hB_2.alloc hB_2.size (.cells #[.int .i64 p, .int .i64 i] 74)
    obtain ⟨kb0_3, kb1_3, kbf_3, kbg_3⟩ := kb.two
    go_wp2_with fail
    refine (qFind (w1.heap.size + 1) w1.heap.size (n : Int) L p i q0 q1 q2 q3 q4 q5 q6 q7 false _ q_3 qm_3 (hl _)).mono ?_
    rintro e w4 ⟨rfl, hb4⟩
    have r_4 := r_3.below hb4 r_3.lt
    have q_4 := q_3.below hb4 q_3.lt
    have kb_4 := kb.below hb4 kb.lt
    have qm_4 := qm_3.below hb4 qm_3.lt
    have ha_4 := ha_3.lift hb4
    have hF_4 := hF_3.below hb4
    have hB_4 := hB_3.trans (hb4.mono hB_3.size)
    obtain ⟨kb0_4, kb1_4, kbf_4, kbg_4⟩ := kb_4.two
    have al5 := (Below.refl w4.heap.size w4).alloc (Nat.le_refl _) (.cells #[.int .i64 q1, .int .i64 q2, .int .i64 q3, .int .i64 q4, .int .i64 q5, .int .i64 q6, .int .i64 q7] 50)
    have hb := At.new w4 50 #[.int .i64 q1, .int .i64 q2, .int .i64 q3, .int .i64 q4, .int .i64 q5, .int .i64 q6, .int .i64 q7]
    have r_5 := r_4.alloc (.cells #[.int .i64 q1, .int .i64 q2, .int .i64 q3, .int .i64 q4, .int .i64 q5, .int .i64 q6, .int .i64 q7] 50)
    have q_5 := q_4.alloc (.cells #[.int .i64 q1, .int .i64 q2, .int .i64 q3, .int .i64 q4, .int .i64 q5, .int .i64 q6, .int .i64 q7] 50)
    have kb_5 := kb_4.alloc (.cells #[.int .i64 q1, .int .i64 q2, .int .i64 q3, .int .i64 q4, .int .i64 q5, .int .i64 q6, .int .i64 q7] 50)
    have qm_5 := qm_4.alloc (.cells #[.int .i64 q1, .int .i64 q2, .int .i64 q3, .int .i64 q4, .int .i64 q5, .int .i64 q6, .int .i64 q7] 50)
    have ha_5 := ha_4.lift al5
    have hF_5 := hF_4.below al5
    have hB_5 := hB_4.alloc hB_4.size (.cells #[.int .i64 q1, .int .i64 q2, .int .i64 q3, .int .i64 q4, .int .i64 q5, .int .i64 q6, .int .i64 q7] 50)
    obtain ⟨r0_5, r1_5, rf_5, rg_5⟩ := r_5.two
    go_wp2_with fail
    refine bodyPost_ret (v := .agg #[.int .i64 4, .slice none 0 0]) (by simp [results, Tryd.results13, go_sem, r0_5, r1_5]) rfl ?_
    exact ⟨_, _, _, rfl, Ow.nil, (hB_5.setCell (by simp) _).setCell (by simp) _⟩
  · have hff : f = true := by
      rw [← hsome]
      show ((findH l p i).map _).isSome = true
      rw [hk]
      rfl
    subst hff
    obtain ⟨hm1, hm2⟩ := erase_zip hk (h := (p, (0, 0, i, 0), 0, 0)) rfl rfl
    rw [hLz] at hm1 hm2
    obtain ⟨L', hL'⟩ : ∃ L', eraseQ (p, (0, 0, i, 0), 0, 0) L = L' := ⟨_, rfl⟩
    rw [hL'] at hm1 hm2
    have Hl' := Lib.hid hL'
    have Hm1 := Lib.hid hm1
    have Hm2 := Lib.hid hm2
    have Hm3 := Lib.hid (show L'.length ≤ 1000 by have := congrArg List.length hm1; rw [List.length_map, List.length_append, List.length_take, List.length_drop] at this; omega)
    rw [show (doneM l p i) = (0, l.take k ++ l.drop (k + 1)) by unfold doneM; rw [if_neg (by simp [h0]), hk]]
    rw [h0] at HF
    clear h0 hn hk hfst hsome hLz hm1 hm2 hL'
    go_enter Tryd.func13, Tryd.ntmps13
    go_wp2_with fail
    refine (HF).mono ?_
    rintro e w1 ⟨rfl, hb1⟩
    have r_1 := r0.below hb1 r0.lt
    have ha_1 := ha0.lift hb1
    have hF_1 := hF0.below hb1
    have hB_1 := hB0.trans (hb1.mono hB0.size)
    go_wp2_with fail
    refine (qOf A n c l _ ha_1 Hn.out (by omega)).mono ?_
    rintro e w2 ⟨rfl, hp2, hq2, hb2⟩
    have r_2 := r_1.below hb2 r_1.lt
    have ha_2 := ha_1.lift hb2
    have hF_2 := hF_1.below hb2
    have hB_2 := hB_1.trans (hb2.mono hB_1.size)
    rw [Hz.out, Hlz.out] at hq2
    have al3 := (Below.refl w2.heap.size w2).alloc (Nat.le_refl _) (.cells #[.int .i64 p, .int .i64 i] 74)
    have kb := At.new w2 74 #[.int .i64 p, .int .i64 i]
    have r_3 := r_2.alloc (.cells #[.int .i64 p, .int .i64 i] 74)
    have q_3 := hp2.alloc (.cells #[.int .i64 p, .int .i64 i] 74)
    have qm_3 := hq2.alloc (.cells #[.int .i64 p, .int .i64 i] 74)
    have ha_3 := ha_2.lift al3
    have hF_3 := hF_2.below al3
    have hB_3 := hB_2.alloc hB_2.size (.cells #[.int .i64 p, .int .i64 i] 74)
    obtain ⟨kb0_3, kb1_3, kbf_3, kbg_3⟩ := kb.two
    go_wp2_with fail
    refine (qFind (w1.heap.size + 1) w1.heap.size (n : Int) L p i q0 q1 q2 q3 q4 q5 q6 q7 true _ q_3 qm_3 (hl _)).mono ?_
    rintro e w4 ⟨rfl, hb4⟩
    have r_4 := r_3.below hb4 r_3.lt
    have q_4 := q_3.below hb4 q_3.lt
    have kb_4 := kb.below hb4 kb.lt
    have qm_4 := qm_3.below hb4 qm_3.lt
    have ha_4 := ha_3.lift hb4
    have hF_4 := hF_3.below hb4
    have hB_4 := hB_3.trans (hb4.mono hB_3.size)
    obtain ⟨kb0_4, kb1_4, kbf_4, kbg_4⟩ := kb_4.two
    have al5 := (Below.refl w4.heap.size w4).alloc (Nat.le_refl _) (.cells #[.int .i64 q1, .int .i64 q2, .int .i64 q3, .int .i64 q4, .int .i64 q5, .int .i64 q6, .int .i64 q7] 50)
    have hb := At.new w4 50 #[.int .i64 q1, .int .i64 q2, .int .i64 q3, .int .i64 q4, .int .i64 q5, .int .i64 q6, .int .i64 q7]
    have r_5 := r_4.alloc (.cells #[.int .i64 q1, .int .i64 q2, .int .i64 q3, .int .i64 q4, .int .i64 q5, .int .i64 q6, .int .i64 q7] 50)
    have q_5 := q_4.alloc (.cells #[.int .i64 q1, .int .i64 q2, .int .i64 q3, .int .i64 q4, .int .i64 q5, .int .i64 q6, .int .i64 q7] 50)
    have kb_5 := kb_4.alloc (.cells #[.int .i64 q1, .int .i64 q2, .int .i64 q3, .int .i64 q4, .int .i64 q5, .int .i64 q6, .int .i64 q7] 50)
    have qm_5 := qm_4.alloc (.cells #[.int .i64 q1, .int .i64 q2, .int .i64 q3, .int .i64 q4, .int .i64 q5, .int .i64 q6, .int .i64 q7] 50)
    have ha_5 := ha_4.lift al5
    have hF_5 := hF_4.below al5
    have hB_5 := hB_4.alloc hB_4.size (.cells #[.int .i64 q1, .int .i64 q2, .int .i64 q3, .int .i64 q4, .int .i64 q5, .int .i64 q6, .int .i64 q7] 50)
    obtain ⟨kb0_5, kb1_5, kbf_5, kbg_5⟩ := kb_5.two
    go_wp2_with fail
    refine (qRemove (w1.heap.size + 1) w1.heap.size w1.heap.size (n : Int) L p i _ q_5 qm_5 (by omega) (Nat.le_refl _)).mono ?_
    rintro e w20 ⟨rfl, hp20, hq20, hb20⟩
    rw [Hl'.out] at hq20
    have r20 := r_5.below hb20 r_1.lt
    have hB20 := hB_5.trans (hb20.mono hB_1.size)
    go_wp2_with fail
    refine (qList _ _ _ L' _ hp20 hq20 Hm2.out Hm3.out).mono ?_
    rintro e w21 ⟨A5, c5, rfl, ow5, hb21⟩
    rw [Hm1.out] at ow5
    have r21 := r20.below hb21 r20.lt
    have hB21 := hB20.trans (hb21.mono hB20.size)
    have lr20 := r20.lt
    obtain ⟨c0, c1, f0, f1⟩ := r21.two
    go_wp2_with fail
    refine bodyPost_ret (v := .agg #[.int .i64 0, .slice A5 (L'.length) c5]) (by simp [results, Tryd.results13, go_sem, c0, c1]) rfl ?_
    exact ⟨_, _, _, rfl, (((ow5.under (p := ⟨w.heap.size, 0, none⟩) lr20 _).under (p := ⟨w.heap.size, 1, none⟩) lr20 _).from_ hB20.size), (hB21.setCell (Nat.le_refl _) _).setCell (Nat.le_refl _) _⟩
theorem hiDoneHint : ∀ (A0 : Option Addr) (m0 e0 : Nat) (q0 : List Hnt) (p i : Int) (W : World), Rd eH W W.heap.size A0 q0 → q0.length = m0 → m0 ≤ 1048576 → Flds W → Calls Tryd.prog 13 #[.slice A0 m0 e0, .int .i64 p, .int .i64 i] W (RetHs (doneM q0 p i) W) :=
  fun A0 m0 e0 q0 p i W ha hn _ hF => implDoneHint A0 m0 e0 q0 p i W ha hn hF
end Go.Proofs.YtjlkmfijkhjjkaaDoor
