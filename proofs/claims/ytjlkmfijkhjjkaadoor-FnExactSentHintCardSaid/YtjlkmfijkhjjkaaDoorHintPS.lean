/-
  The program's SentHint.
-/
import Derived.Test.YtjlkmfijkhjjkaaDoorHintP
namespace Go.Proofs.YtjlkmfijkhjjkaaDoor
set_option maxRecDepth 20000
open Go.RowKit Go.Shelf
set_option linter.unusedSimpArgs false
set_option linter.unusedVariables false

theorem fldI1 (a b : Int) (u : World) : (Instr.field 46 (.agg #[.int .i64 a, .int .i64 b]) 1).run Tryd.prog u = .ok (.int .i64 b) u := by kernel_rfl

set_option maxRecDepth 100000 in
set_option maxHeartbeats 4000000 in
theorem implSentHint (A : Option Addr) (n c : Nat) (l : List Hnt) (p i now : Int) (w : World) (ha : Rd eH w w.heap.size A l) (hn : l.length = n) (hF : Flds w) :
    Calls Tryd.prog 15 #[.slice A n c, .int .i64 p, .int .i64 i, .int .i64 now] w (RetHs (sentM l p i now) w) := by
  have hB0 : Below w.heap.size w (w.alloc (.cells #[.int .i64 0, .slice none 0 0] 30)) := (Below.refl _ _).alloc (Nat.le_refl _) _
  have r0 := At.new w 30 #[.int .i64 0, .slice none 0 0]
  have ha0 := ha.lift hB0
  have hF0 := hF.below hB0
  have HF := implHintsFault A n c l _ ha0 hn hF0
  by_cases h0 : hintsFaultM l = 0
  rotate_left
  · rw [show (sentM l p i now) = (hintsFaultM l, []) from if_pos h0]
    have hne : (hintsFaultM l != 0) = true := by rw [bne_iff_ne]; exact h0
    generalize hintsFaultM l = sf at *
    clear h0
    go_enter Tryd.func15, Tryd.ntmps15
    go_wp2_with fail
    refine (HF).mono ?_
    rintro e w1 ⟨rfl, hb1⟩
    have r_1 := r0.below hb1 r0.lt
    have ha_1 := ha0.lift hb1
    have hF_1 := hF0.below hb1
    have hB_1 := hB0.trans (hb1.mono hB0.size)
    obtain ⟨r0_1, r1_1, rf_1, rg_1⟩ := r_1.two
    go_wp2_with fail
    refine bodyPost_ret (v := .agg #[.int .i64 sf, .slice none 0 0]) (by simp [results, Tryd.results15, go_sem, r0_1, r1_1]) rfl ?_
    exact ⟨_, _, _, rfl, Ow.nil, (hB_1.setCell (by simp) _).setCell (by simp) _⟩
  have hn8 := ((hintsFault_iff l).1 h0).1
  rw [hn] at hn8
  have Hn := Lib.hid hn
  have Hz := Lib.hid (queue_zip h0)
  rcases hp : inB (now, 0, 100000)
  · rw [show (sentM l p i now) = (3, []) by unfold sentM; rw [if_neg (by simp [h0]), if_pos hp]]
    rw [h0] at HF
    have Hb := Lib.hid (show ([(now, (0 : Int), (100000 : Int))] : List (Int × Int × Int)).all inB = false by simp [hp])
    clear h0 hn hp
    go_enter Tryd.func15, Tryd.ntmps15
    go_wp2_with fail
    refine (HF).mono ?_
    rintro e w1 ⟨rfl, hb1⟩
    have r_1 := r0.below hb1 r0.lt
    have ha_1 := ha0.lift hb1
    have hF_1 := hF0.below hb1
    have hB_1 := hB0.trans (hb1.mono hB0.size)
    have al2 := (Below.refl w1.heap.size w1).alloc (Nat.le_refl _) (.cells #[.int .i64 now, .int .i64 0, .int .i64 100000] 86)
    have bd := At.new w1 86 #[.int .i64 now, .int .i64 0, .int .i64 100000]
    have r_2 := r_1.alloc (.cells #[.int .i64 now, .int .i64 0, .int .i64 100000] 86)
    have ha_2 := ha_1.lift al2
    have hF_2 := hF_1.below al2
    have hB_2 := hB_1.alloc hB_1.size (.cells #[.int .i64 now, .int .i64 0, .int .i64 100000] 86)
    go_wp2_with fail
    refine (areWithin_any _ 1 _ [(now, 0, 100000)] _ (bnds_one (by simp)) (by simp) rfl (by simp)).mono ?_
    rintro e w3 ⟨rfl, hb3⟩
    have r_3 := r_2.below hb3 r_2.lt
    have ha_3 := ha_2.lift hb3
    have hF_3 := hF_2.below hb3
    have hB_3 := hB_2.trans (hb3.mono hB_2.size)
    rw [Hb.out]
    obtain ⟨r0_3, r1_3, rf_3, rg_3⟩ := r_3.two
    go_wp2_with fail
    refine bodyPost_ret (v := .agg #[.int .i64 3, .slice none 0 0]) (by simp [results, Tryd.results15, go_sem, r0_3, r1_3]) rfl ?_
    exact ⟨_, _, _, rfl, Ow.nil, (hB_3.setCell (by simp) _).setCell (by simp) _⟩
  have Hb := Lib.hid (show ([(now, (0 : Int), (100000 : Int))] : List (Int × Int × Int)).all inB = true by simp [hp])
  obtain ⟨L, hLz⟩ : ∃ L, zipQ l = L := ⟨_, rfl⟩
  have Hlz := Lib.hid hLz
  have Hll := Lib.hid (show L.length = n by rw [← hLz, zipQ_len, hn])
  obtain ⟨q0, q1, q2, q3, q4, q5, q6, q7, f, hl0, -, hfst, hsome⟩ := lookQ L (p, (0, 0, i, 0), 0, 0) 0
  have hl : ∀ b u, QMap u b L → (Instr.lookup 106 (.map (some b)) (.agg #[.int .i64 p, .int .i64 i]) true).run Tryd.prog u = .ok (.tuple #[.agg #[.int .i64 q0, .int .i64 q1, .int .i64 q2, .int .i64 q3, .int .i64 q4, .int .i64 q5, .int .i64 q6, .int .i64 q7], .bool f]) u := fun b u hu => hl0 u b hu
  clear hl0
  rw [← hLz, first_zip] at hfst hsome
  rcases hk : findH l p i with _ | k
  · have hff : f = false := by
      rw [← hsome]
      show ((findH l p i).map _).isSome = false
      rw [hk]
      rfl
    subst hff
    rw [show (sentM l p i now) = (4, []) by unfold sentM; rw [if_neg (by simp [h0]), if_neg (by simp [hp]), hk]]
    rw [h0] at HF
    clear h0 hn hk hfst hsome hLz hp
    go_enter Tryd.func15, Tryd.ntmps15
    go_wp2_with fail
    refine (HF).mono ?_
    rintro e w1 ⟨rfl, hb1⟩
    have r_1 := r0.below hb1 r0.lt
    have ha_1 := ha0.lift hb1
    have hF_1 := hF0.below hb1
    have hB_1 := hB0.trans (hb1.mono hB0.size)
    have al2 := (Below.refl w1.heap.size w1).alloc (Nat.le_refl _) (.cells #[.int .i64 now, .int .i64 0, .int .i64 100000] 86)
    have bd := At.new w1 86 #[.int .i64 now, .int .i64 0, .int .i64 100000]
    have r_2 := r_1.alloc (.cells #[.int .i64 now, .int .i64 0, .int .i64 100000] 86)
    have ha_2 := ha_1.lift al2
    have hF_2 := hF_1.below al2
    have hB_2 := hB_1.alloc hB_1.size (.cells #[.int .i64 now, .int .i64 0, .int .i64 100000] 86)
    go_wp2_with fail
    refine (areWithin_any _ 1 _ [(now, 0, 100000)] _ (bnds_one (by simp)) (by simp) rfl (by simp)).mono ?_
    rintro e w3 ⟨rfl, hb3⟩
    have r_3 := r_2.below hb3 r_2.lt
    have ha_3 := ha_2.lift hb3
    have hF_3 := hF_2.below hb3
    have hB_3 := hB_2.trans (hb3.mono hB_2.size)
    rw [Hb.out]
    go_wp2_with fail
    refine (qOf A n c l _ ha_3 Hn.out (by omega)).mono ?_
    rintro e w4 ⟨rfl, hp4, hq4, hb4⟩
    have r_4 := r_3.below hb4 r_3.lt
    have ha_4 := ha_3.lift hb4
    have hF_4 := hF_3.below hb4
    have hB_4 := hB_3.trans (hb4.mono hB_3.size)
    rw [Hz.out, Hlz.out] at hq4
    have al5 := (Below.refl w4.heap.size w4).alloc (Nat.le_refl _) (.cells #[.int .i64 p, .int .i64 i] 74)
    have kb := At.new w4 74 #[.int .i64 p, .int .i64 i]
    have r_5 := r_4.alloc (.cells #[.int .i64 p, .int .i64 i] 74)
    have q_5 := hp4.alloc (.cells #[.int .i64 p, .int .i64 i] 74)
    have qm_5 := hq4.alloc (.cells #[.int .i64 p, .int .i64 i] 74)
    have ha_5 := ha_4.lift al5
    have hF_5 := hF_4.below al5
    have hB_5 := hB_4.alloc hB_4.size (.cells #[.int .i64 p, .int .i64 i] 74)
    obtain ⟨kb0_5, kb1_5, kbf_5, kbg_5⟩ := kb.two
    go_wp2_with fail
    refine (qFind (w3.heap.size + 1) w3.heap.size (n : Int) L p i q0 q1 q2 q3 q4 q5 q6 q7 false _ q_5 qm_5 (hl _)).mono ?_
    rintro e w6 ⟨rfl, hb6⟩
    have r_6 := r_5.below hb6 r_5.lt
    have q_6 := q_5.below hb6 q_5.lt
    have kb_6 := kb.below hb6 kb.lt
    have qm_6 := qm_5.below hb6 qm_5.lt
    have ha_6 := ha_5.lift hb6
    have hF_6 := hF_5.below hb6
    have hB_6 := hB_5.trans (hb6.mono hB_5.size)
    obtain ⟨kb0_6, kb1_6, kbf_6, kbg_6⟩ := kb_6.two
    have al7 := (Below.refl w6.heap.size w6).alloc (Nat.le_refl _) (.cells #[.int .i64 q1, .int .i64 q2, .int .i64 q3, .int .i64 q4, .int .i64 q5, .int .i64 q6, .int .i64 q7] 50)
    have hb := At.new w6 50 #[.int .i64 q1, .int .i64 q2, .int .i64 q3, .int .i64 q4, .int .i64 q5, .int .i64 q6, .int .i64 q7]
    have r_7 := r_6.alloc (.cells #[.int .i64 q1, .int .i64 q2, .int .i64 q3, .int .i64 q4, .int .i64 q5, .int .i64 q6, .int .i64 q7] 50)
    have q_7 := q_6.alloc (.cells #[.int .i64 q1, .int .i64 q2, .int .i64 q3, .int .i64 q4, .int .i64 q5, .int .i64 q6, .int .i64 q7] 50)
    have kb_7 := kb_6.alloc (.cells #[.int .i64 q1, .int .i64 q2, .int .i64 q3, .int .i64 q4, .int .i64 q5, .int .i64 q6, .int .i64 q7] 50)
    have qm_7 := qm_6.alloc (.cells #[.int .i64 q1, .int .i64 q2, .int .i64 q3, .int .i64 q4, .int .i64 q5, .int .i64 q6, .int .i64 q7] 50)
    have ha_7 := ha_6.lift al7
    have hF_7 := hF_6.below al7
    have hB_7 := hB_6.alloc hB_6.size (.cells #[.int .i64 q1, .int .i64 q2, .int .i64 q3, .int .i64 q4, .int .i64 q5, .int .i64 q6, .int .i64 q7] 50)
    obtain ⟨r0_7, r1_7, rf_7, rg_7⟩ := r_7.two
    go_wp2_with fail
    refine bodyPost_ret (v := .agg #[.int .i64 4, .slice none 0 0]) (by simp [results, Tryd.results15, go_sem, r0_7, r1_7]) rfl ?_
    exact ⟨_, _, _, rfl, Ow.nil, (hB_7.setCell (by simp) _).setCell (by simp) _⟩
  · have hff : f = true := by
      rw [← hsome]
      show ((findH l p i).map _).isSome = true
      rw [hk]
      rfl
    subst hff
    have hfst2 : ((findH l p i).map fun (k : Nat) => ((k : Int), (l[k]?).getD zeroH)).map Prod.snd = some (q1, (q2, q3, q4, q5), q6, q7) := by
      have h1 : (((findH l p i).map fun (k : Nat) => ((k : Int), (l[k]?).getD zeroH)).map Prod.snd).getD zeroH = (q1, (q2, q3, q4, q5), q6, q7) := hfst
      rw [hk] at h1 ⊢
      rw [← h1]
      rfl
    obtain ⟨hlt, hhit, -⟩ := findH_is hk
    have hx : l[k]? = some (q1, (q2, q3, q4, q5), q6, q7) := by
      rw [hk] at hfst2
      have h2 : (l[k]?).getD zeroH = (q1, (q2, q3, q4, q5), q6, q7) := Option.some.inj hfst2
      rw [List.getElem?_eq_getElem hlt] at h2 ⊢
      exact congrArg some h2
    have hk1 : q1 = p ∧ q4 = i := by
      rw [hitH_at hx] at hhit
      simpa using hhit
    obtain ⟨hk1, hk2⟩ := hk1
    have hr0 := (hfault_zero (((hintsFault_iff l).1 h0).2.1 _ (List.mem_of_getElem? hx))).2
    have h5 : 0 ≤ q6 ∧ q6 ≤ 4 := by unfold rangeH at hr0; simp [inB] at hr0; omega
    have hnow : 0 ≤ now ∧ now ≤ 100000 := by simpa [inB] using hp
    obtain ⟨m, rfl⟩ : ∃ m : Nat, q6 = (m : Int) := ⟨q6.toNat, by omega⟩
    have hm : m ≤ 4 := by omega
    rw [show sentM l p i now = (0, l.set k (q1, (q2, q3, q4, q5), (if (m : Int) + 1 < 4 then (m : Int) + 1 else 4), now + pw m)) by unfold sentM; rw [if_neg (by simp [h0]), if_neg (by simp [hp]), hk]; simp only; rw [hx]; rfl]
    have HBk := fun W => implBackoff (m : Int) W
    have hbk : backM (m : Int) = (0, pw m) := by rw [backM_yes (by simp [inB]; omega)]; simp
    rw [hbk] at HBk
    obtain ⟨u1, u2⟩ := pw_le hm
    obtain ⟨b, hb⟩ : ∃ b, pw m = b := ⟨_, rfl⟩
    rw [hb] at HBk u1 u2 ⊢
    obtain ⟨d, hd⟩ : ∃ d, (if (m : Int) + 1 < 4 then (m : Int) + 1 else 4) = d := ⟨_, rfl⟩
    have Hd := Lib.hid hd
    rw [hd]
    have hw1 : IntKind.i64.wrap (now + b) = now + b := IntWalk.i64_in _ (by omega)
    have hw2 : IntKind.i64.wrap ((m : Int) + 1) = (m : Int) + 1 := IntWalk.i64_in _ (by omega)
    obtain ⟨hm1, hm2⟩ := set_zip hk (h := (q1, (q2, q3, q4, q5), d, now + b)) hk1 hk2 (n : Int)
    rw [hLz] at hm1 hm2
    obtain ⟨L', hL'⟩ : ∃ L', putQ (n : Int) (q1, (q2, q3, q4, q5), d, now + b) L = L' := ⟨_, rfl⟩
    rw [hL'] at hm1 hm2
    have Hl' := Lib.hid hL'
    have Hm1 := Lib.hid hm1
    have Hm2 := Lib.hid hm2
    have Hm3 := Lib.hid (show L'.length ≤ 1000 by have := congrArg List.length hm1; rw [List.length_map, List.length_set] at this; omega)
    have hf2 := fun x y u => fldI1 x y u
    rw [h0] at HF
    have Hk1 := Lib.hid hk1
    have Hk2 := Lib.hid hk2
    clear h0 hn hk hfst hsome hLz hp hm1 hm2 hL' hfst2 hlt hhit hx hr0 h5 hb hd hbk
    subst hk1 hk2
    go_enter Tryd.func15, Tryd.ntmps15
    go_wp2_with fail
    refine (HF).mono ?_
    rintro e w1 ⟨rfl, hb1⟩
    have r_1 := r0.below hb1 r0.lt
    have ha_1 := ha0.lift hb1
    have hF_1 := hF0.below hb1
    have hB_1 := hB0.trans (hb1.mono hB0.size)
    have al2 := (Below.refl w1.heap.size w1).alloc (Nat.le_refl _) (.cells #[.int .i64 now, .int .i64 0, .int .i64 100000] 86)
    have bd := At.new w1 86 #[.int .i64 now, .int .i64 0, .int .i64 100000]
    have r_2 := r_1.alloc (.cells #[.int .i64 now, .int .i64 0, .int .i64 100000] 86)
    have ha_2 := ha_1.lift al2
    have hF_2 := hF_1.below al2
    have hB_2 := hB_1.alloc hB_1.size (.cells #[.int .i64 now, .int .i64 0, .int .i64 100000] 86)
    go_wp2_with fail
    refine (areWithin_any _ 1 _ [(now, 0, 100000)] _ (bnds_one (by simp)) (by simp) rfl (by simp)).mono ?_
    rintro e w3 ⟨rfl, hb3⟩
    have r_3 := r_2.below hb3 r_2.lt
    have ha_3 := ha_2.lift hb3
    have hF_3 := hF_2.below hb3
    have hB_3 := hB_2.trans (hb3.mono hB_2.size)
    rw [Hb.out]
    have lr0 := r_3.lt
    go_wp2_with fail
    refine (qOf A n c l _ ha_3 Hn.out (by omega)).mono ?_
    rintro e w4 ⟨rfl, hp4, hq4, hb4⟩
    have r_4 := r_3.below hb4 r_3.lt
    have ha_4 := ha_3.lift hb4
    have hF_4 := hF_3.below hb4
    have hB_4 := hB_3.trans (hb4.mono hB_3.size)
    rw [Hz.out, Hlz.out] at hq4
    have al5 := (Below.refl w4.heap.size w4).alloc (Nat.le_refl _) (.cells #[.int .i64 q1, .int .i64 q4] 74)
    have kb := At.new w4 74 #[.int .i64 q1, .int .i64 q4]
    have r_5 := r_4.alloc (.cells #[.int .i64 q1, .int .i64 q4] 74)
    have q_5 := hp4.alloc (.cells #[.int .i64 q1, .int .i64 q4] 74)
    have qm_5 := hq4.alloc (.cells #[.int .i64 q1, .int .i64 q4] 74)
    have ha_5 := ha_4.lift al5
    have hF_5 := hF_4.below al5
    have hB_5 := hB_4.alloc hB_4.size (.cells #[.int .i64 q1, .int .i64 q4] 74)
    obtain ⟨kb0_5, kb1_5, kbf_5, kbg_5⟩ := kb.two
    go_wp2_with fail
    refine (qFind (w3.heap.size + 1) w3.heap.size (n : Int) L q1 q4 q0 q1 q2 q3 q4 q5 (m : Int) q7 true _ q_5 qm_5 (hl _)).mono ?_
    rintro e w6 ⟨rfl, hb6⟩
    have r_6 := r_5.below hb6 r_5.lt
    have q_6 := q_5.below hb6 q_5.lt
    have kb_6 := kb.below hb6 kb.lt
    have qm_6 := qm_5.below hb6 qm_5.lt
    have ha_6 := ha_5.lift hb6
    have hF_6 := hF_5.below hb6
    have hB_6 := hB_5.trans (hb6.mono hB_5.size)
    obtain ⟨kb0_6, kb1_6, kbf_6, kbg_6⟩ := kb_6.two
    have al7 := (Below.refl w6.heap.size w6).alloc (Nat.le_refl _) (.cells #[.int .i64 q1, .int .i64 q2, .int .i64 q3, .int .i64 q4, .int .i64 q5, .int .i64 (m : Int), .int .i64 q7] 50)
    have hh := At.new w6 50 #[.int .i64 q1, .int .i64 q2, .int .i64 q3, .int .i64 q4, .int .i64 q5, .int .i64 (m : Int), .int .i64 q7]
    have r_7 := r_6.alloc (.cells #[.int .i64 q1, .int .i64 q2, .int .i64 q3, .int .i64 q4, .int .i64 q5, .int .i64 (m : Int), .int .i64 q7] 50)
    have q_7 := q_6.alloc (.cells #[.int .i64 q1, .int .i64 q2, .int .i64 q3, .int .i64 q4, .int .i64 q5, .int .i64 (m : Int), .int .i64 q7] 50)
    have kb_7 := kb_6.alloc (.cells #[.int .i64 q1, .int .i64 q2, .int .i64 q3, .int .i64 q4, .int .i64 q5, .int .i64 (m : Int), .int .i64 q7] 50)
    have qm_7 := qm_6.alloc (.cells #[.int .i64 q1, .int .i64 q2, .int .i64 q3, .int .i64 q4, .int .i64 q5, .int .i64 (m : Int), .int .i64 q7] 50)
    have ha_7 := ha_6.lift al7
    have hF_7 := hF_6.below al7
    have hB_7 := hB_6.alloc hB_6.size (.cells #[.int .i64 q1, .int .i64 q2, .int .i64 q3, .int .i64 q4, .int .i64 q5, .int .i64 (m : Int), .int .i64 q7] 50)
    have hg7 : w6.heap.size < (w6.alloc (.cells #[.int .i64 q1, .int .i64 q2, .int .i64 q3, .int .i64 q4, .int .i64 q5, .int .i64 (m : Int), .int .i64 q7] 50)).heap.size := hh.lt
    go_wp2_with fail
    refine (HBk _).mono ?_
    rintro e w8 ⟨rfl, hb8⟩
    have r_8 := r_7.below hb8 r_7.lt
    have q_8 := q_7.below hb8 q_7.lt
    have kb_8 := kb_7.below hb8 kb_7.lt
    have hh_8 := hh.below hb8 hh.lt
    have qm_8 := qm_7.below hb8 qm_7.lt
    have ha_8 := ha_7.lift hb8
    have hF_8 := hF_7.below hb8
    have hB_8 := hB_7.trans (hb8.mono hB_7.size)
    obtain ⟨kb0_8, kb1_8, kbf_8, kbg_8⟩ := kb_8.two
    obtain ⟨hh0_8, hh1_8, hh2_8, hh3_8, hh4_8, hh5_8, hh6_8⟩ := hh_8.seven
    obtain ⟨hf0, hf1, hf2, hf3, hf4, hf5, hf6⟩ := hh_8.sevenF
    have hne := q_8.apart qm_8
    have lq := hp4.lt
    have lm := hq4.lt
    have sz1 := hb6.size
    have sz2 : w4.heap.size + 1 ≤ w6.heap.size := by have := hb6.size; simp at this; omega
    have ls := hh_8.lt
    have qs := (q_8.far (p := ⟨w6.heap.size, 6, none⟩) (by show w3.heap.size + 1 ≠ w6.heap.size; omega) (.int .i64 (now + b))).far (p := ⟨w6.heap.size, 5, none⟩) (by show w3.heap.size + 1 ≠ w6.heap.size; omega) (.int .i64 d)
    have ms := (qm_8.stored (p := ⟨w6.heap.size, 6, none⟩) (by show w6.heap.size ≠ w3.heap.size; omega) (.int .i64 (now + b))).stored (p := ⟨w6.heap.size, 5, none⟩) (by show w6.heap.size ≠ w3.heap.size; omega) (.int .i64 d)
    have rs := (r_8.far (p := ⟨w6.heap.size, 6, none⟩) (by show w.heap.size ≠ w6.heap.size; omega) (.int .i64 (now + b))).far (p := ⟨w6.heap.size, 5, none⟩) (by show w.heap.size ≠ w6.heap.size; omega) (.int .i64 d)
    have ks := (kb_8.far (p := ⟨w6.heap.size, 6, none⟩) (by show w4.heap.size ≠ w6.heap.size; omega) (.int .i64 (now + b))).far (p := ⟨w6.heap.size, 5, none⟩) (by show w4.heap.size ≠ w6.heap.size; omega) (.int .i64 d)
    have hBs := (hB_8.setCell (p := ⟨w6.heap.size, 6, none⟩) (by show w.heap.size ≤ w6.heap.size; omega) (.int .i64 (now + b))).setCell (p := ⟨w6.heap.size, 5, none⟩) (by show w.heap.size ≤ w6.heap.size; omega) (.int .i64 d)
    obtain ⟨ks0, ks1, _, _⟩ := ks.two
    have hmin : min ((m : Int) + 1) 4 = d := by
      rw [← Hd.out]
      split <;> omega
    go_wp2_with fail
    refine (qPut (w3.heap.size + 1) w3.heap.size w3.heap.size (n : Int) L q1 q2 q3 q4 q5 d (now + b) _ qs ms (by omega) (Nat.le_refl _) (by omega)).mono ?_
    rintro e w20 ⟨rfl, hp20, hq20, hb20⟩
    rw [Hl'.out] at hq20
    have r20 := rs.below hb20 lr0
    have hB20 := hBs.trans (hb20.mono (by omega))
    go_wp2_with fail
    refine (qList _ _ _ L' _ hp20 hq20 Hm2.out Hm3.out).mono ?_
    rintro e w21 ⟨A5, c5, rfl, ow5, hb21⟩
    rw [Hm1.out] at ow5
    have r21 := r20.below hb21 r20.lt
    have hB21 := hB20.trans (hb21.mono hB20.size)
    have lr20 := r20.lt
    obtain ⟨c0, c1, f0, f1⟩ := r21.two
    go_wp2_with fail
    refine bodyPost_ret (v := .agg #[.int .i64 0, .slice A5 (L'.length) c5]) (by simp [results, Tryd.results15, go_sem, c0, c1]) rfl ?_
    exact ⟨_, _, _, rfl, (((ow5.under (p := ⟨w.heap.size, 0, none⟩) lr20 _).under (p := ⟨w.heap.size, 1, none⟩) lr20 _).from_ hB20.size), (hB21.setCell (Nat.le_refl _) _).setCell (Nat.le_refl _) _⟩
theorem hiSentHint : ∀ (A0 : Option Addr) (m0 e0 : Nat) (q0 : List Hnt) (p i t : Int) (W : World), Rd eH W W.heap.size A0 q0 → q0.length = m0 → m0 ≤ 1048576 → Flds W → Calls Tryd.prog 15 #[.slice A0 m0 e0, .int .i64 p, .int .i64 i, .int .i64 t] W (RetHs (sentM q0 p i t) W) :=
  fun A0 m0 e0 q0 p i t W ha hn _ hF => implSentHint A0 m0 e0 q0 p i t W ha hn hF
end Go.Proofs.YtjlkmfijkhjjkaaDoor
