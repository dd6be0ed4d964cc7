/-
  Texts of one proof, joined: each has its own namespace.
-/
import Derived.Test.YtjlkmfijkhjjkaaDoorBFnHints7
import Derived.Test.YtjlkmfijkhjjkaaDoorBFnHints3
import Derived.Test.YtjlkmfijkhjjkaaDoorBFnHints0
import Derived.KernelRfl
import Derived.Test.YtjlkmfijkhjjkaaDoorBFnHints8
/-
  The program's SentHint.
-/
namespace Go.Proofs.YtjlkmfijkhjjkaaDoor
set_option maxRecDepth 20000
open Go.RowKit Go.Shelf
set_option linter.unusedSimpArgs false
set_option linter.unusedVariables false

theorem fldI1 (a b : Int) (u : World) : (Instr.field 46 (.agg #[.int .i64 a, .int .i64 b]) 1).run Tryd.prog u = .ok (.int .i64 b) u := by kernel_rfl

set_option maxRecDepth 100000 in
set_option maxHeartbeats 4000000 in
theorem implSentHint (A : Option Addr) (n c : Nat) (l : List Hnt) (p i now : Int) (w : World) (ha : Rd eH w w.heap.size A l) (hn : l.length = n) (hF : Flds w) :
    Calls Tryd.prog 15 #[.slice A n c, .int .i64 p, .int .i64 i, .int .i64 now] w (RetHs (sentM l p i now) w) := by
  have hB0 : Below w.heap.size w (w.alloc (.cells #[.int .i64 0, .slice none 0 0] 30)) := (Below.refl _ _).alloc (Nat.le_refl _) _
  have r0 := At.new w 30 #[.int .i64 0, .slice none 0 0]
  have ha0 := ha.lift hB0
  have hF0 := hF.below hB0
  have HF := implHintsFault A n c l _ ha0 hn hF0
  by_cases h0 : hintsFaultM l = 0
  rotate_left
  · rw [show (sentM l p i now) = (hintsFaultM l, []) from if_pos h0]
    have hne : (hintsFaultM l != 0) = true := by rw [bne_iff_ne]; exact h0
    generalize hintsFaultM l = sf at *
    clear h0
    go_enter Tryd.func15, Tryd.ntmps15
    go_wp2_with fail
    refine (HF).mono ?_
    rintro e w1 ⟨rfl, hb1⟩
    have r_1 := r0.below hb1 r0.lt
    have ha_1 := ha0.lift hb1
    have hF_1 := hF0.below hb1
    have hB_1 := hB0.trans (hb1.mono hB0.size)
    obtain ⟨r0_1, r1_1, rf_1, rg_1⟩ := r_1.two
    go_wp2_with fail
    refine bodyPost_ret (v := .agg #[.int .i64 sf, .slice none 0 0]) (by simp [results, Tryd.results15, go_sem, r0_1, r1_1]) rfl ?_
    exact ⟨_, _, _, rfl, Ow.nil, (hB_1.setCell (by simp) _).setCell (by simp) _⟩
  have hn8 := ((hintsFault_iff l).1 h0).1
  rw [hn] at hn8
  have Hn := Lib.hid hn
  have Hz := Lib.hid (queue_zip h0)
  rcases hp : inB (now, 0, 100000)
  · rw [show (sentM l p i now) = (3, []) by unfold sentM; rw [if_neg (by simp [h0]), if_pos hp]]
    rw [h0] at HF
    have Hb := Lib.hid (show ([(now, (0 : Int), (100000 : Int))] : List (Int × Int × Int)).all inB = false by simp [hp])
    clear h0 hn hp
    go_enter Tryd.func15, Tryd.ntmps15
    go_wp2_with fail
    refine (HF).mono ?_
    rintro e w1 ⟨rfl, hb1⟩
    have r_1 := r0.below hb1 r0.lt
    have ha_1 := ha0.lift hb1
    have hF_1 := hF0.below hb1
    have hB_1 := hB0.trans (hb1.mono hB0.size)
    have al2 := (Below.refl w1.heap.size w1).alloc (Nat.le_refl _) (.cells #[.int .i64 now, .int .i64 0, .int .i64 100000] 86)
    have bd := At.new w1 86 #[.int .i64 now, .int .i64 0, .int .i64 100000]
    have r_2 := r_1.alloc (.cells #[.int .i64 now, .int .i64 0, .int .i64 100000] 86)
    have ha_2 := ha_1.lift al2
    have hF_2 := hF_1.below al2
    have hB_2 := hB_1.alloc hB_1.size (.cells #[.int .i64 now, .int .i64 0, .int .i64 100000] 86)
    go_wp2_with fail
    refine (areWithin_any _ 1 _ [(now, 0, 100000)] _ (bnds_one (by simp)) (by simp) rfl (by simp)).mono ?_
    rintro e w3 ⟨rfl, hb3⟩
    have r_3 := r_2.below hb3 r_2.lt
    have ha_3 := ha_2.lift hb3
    have hF_3 := hF_2.below hb3
    have hB_3 := hB_2.trans (hb3.mono hB_2.size)
    rw [Hb.out]
    obtain ⟨r0_3, r1_3, rf_3, rg_3⟩ := r_3.two
    go_wp2_with fail
    refine bodyPost_ret (v := .agg #[.int .i64 3, .slice none 0 0]) (by simp [results, Tryd.results15, go_sem, r0_3, r1_3]) rfl ?_
    exact ⟨_, _, _, rfl, Ow.nil, (hB_3.setCell (by simp) _).setCell (by simp) _⟩
  have Hb := Lib.hid (show ([(now, (0 : Int), (100000 : Int))] : List (Int × Int × Int)).all inB = true by simp [hp])
  obtain ⟨L, hLz⟩ : ∃ L, zipQ l = L := ⟨_, rfl⟩
  have Hlz := Lib.hid hLz
  have Hll := Lib.hid (show L.length = n by rw [← hLz, zipQ_len, hn])
  obtain ⟨q0, q1, q2, q3, q4, q5, q6, q7, f, hl0, -, hfst, hsome⟩ := lookQ L (p, (0, 0, i, 0), 0, 0) 0
  have hl : ∀ b u, QMap u b L → (Instr.lookup 106 (.map (some b)) (.agg #[.int .i64 p, .int .i64 i]) true).run Tryd.prog u = .ok (.tuple #[.agg #[.int .i64 q0, .int .i64 q1, .int .i64 q2, .int .i64 q3, .int .i64 q4, .int .i64 q5, .int .i64 q6, .int .i64 q7], .bool f]) u := fun b u hu => hl0 u b hu
  clear hl0
  rw [← hLz, first_zip] at hfst hsome
  rcases hk : findH l p i with _ | k
  · have hff : f = false := by
      rw [← hsome]
      show ((findH l p i).map _).isSome = false
      rw [hk]
      rfl
    subst hff
    rw [show (sentM l p i now) = (4, []) by unfold sentM; rw [if_neg (by simp [h0]), if_neg (by simp [hp]), hk]]
    rw [h0] at HF
    clear h0 hn hk hfst hsome hLz hp
    go_enter Tryd.func15, Tryd.ntmps15
    go_wp2_with fail
    refine (HF).mono ?_
    rintro e w1 ⟨rfl, hb1⟩
    have r_1 := r0.below hb1 r0.lt
    have ha_1 := ha0.lift hb1
    have hF_1 := hF0.below hb1
    have hB_1 := hB0.trans (hb1.mono hB0.size)
    have al2 := (Below.refl w1.heap.size w1).alloc (Nat.le_refl _) (.cells #[.int .i64 now, .int .i64 0, .int .i64 100000] 86)
    have bd := At.new w1 86 #[.int .i64 now, .int .i64 0, .int .i64 100000]
    have r_2 := r_1.alloc (.cells #[.int .i64 now, .int .i64 0, .int .i64 100000] 86)
    have ha_2 := ha_1.lift al2
    have hF_2 := hF_1.below al2
    have hB_2 := hB_1.alloc hB_1.size (.cells #[.int .i64 now, .int .i64 0, .int .i64 100000] 86)
    go_wp2_with fail
    refine (areWithin_any _ 1 _ [(now, 0, 100000)] _ (bnds_one (by simp)) (by simp) rfl (by simp)).mono ?_
    rintro e w3 ⟨rfl, hb3⟩
    have r_3 := r_2.below hb3 r_2.lt
    have ha_3 := ha_2.lift hb3
    have hF_3 := hF_2.below hb3
    have hB_3 := hB_2.trans (hb3.mono hB_2.size)
    rw [Hb.out]
    go_wp2_with fail
    refine (qOf A n c l _ ha_3 Hn.out (by omega)).mono ?_
    rintro e w4 ⟨rfl, hp4, hq4, hb4⟩
    have r_4 := r_3.below hb4 r_3.lt
    have ha_4 := ha_3.lift hb4
    have hF_4 := hF_3.below hb4
    have hB_4 := hB_3.trans (hb4.mono hB_3.size)
    rw [Hz.out, Hlz.out] at hq4
    have al5 := (Below.refl w4.heap.size w4).alloc (Nat.le_refl _) (.cells #[.int .i64 p, .int .i64 i] 74)
    have kb := At.new w4 74 #[.int .i64 p, .int .i64 i]
    have r_5 := r_4.alloc (.cells #[.int .i64 p, .int .i64 i] 74)
    have q_5 := hp4.alloc (.cells #[.int .i64 p, .int .i64 i] 74)
    have qm_5 := hq4.alloc (.cells #[.int .i64 p, .int .i64 i] 74)
    have ha_5 := ha_4.lift al5
    have hF_5 := hF_4.below al5
    have hB_5 := hB_4.alloc hB_4.size (.cells #[.int .i64 p, .int .i64 i] 74)
    obtain ⟨kb0_5, kb1_5, kbf_5, kbg_5⟩ := kb.two
    go_wp2_with fail
    refine (qFind (w3.heap.size + 1) w3.heap.size (n : Int) L p i q0 q1 q2 q3 q4 q5 q6 q7 false _ q_5 qm_5 (hl _)).mono ?_
    rintro e w6 ⟨rfl, hb6⟩
    have r_6 := r_5.below hb6 r_5.lt
    have q_6 := q_5.below hb6 q_5.lt
    have kb_6 := kb.below hb6 kb.lt
    have qm_6 := qm_5.below hb6 qm_5.lt
    have ha_6 := ha_5.lift hb6
    have hF_6 := hF_5.below hb6
    have hB_6 := hB_5.trans (hb6.mono hB_5.size)
    obtain ⟨kb0_6, kb1_6, kbf_6, kbg_6⟩ := kb_6.two
    have al7 := (Below.refl w6.heap.size w6).alloc (Nat.le_refl _) (.cells #[.int .i64 q1, .int .i64 q2, .int .i64 q3, .int .i64 q4, .int .i64 q5, .int .i64 q6, .int .i64 q7] 50)
    have hb := At.new w6 50 #[.int .i64 q1, .int .i64 q2, .int .i64 q3, .int .i64 q4, .int .i64 q5, .int .i64 q6, .int .i64 q7]
    have r_7 := r_6.alloc (.cells #[.int .i64 q1, .int .i64 q2, .int .i64 q3, .int .i64 q4, .int .i64 q5, .int .i64 q6, .int .i64 q7] 50)
    have q_7 := q_6.alloc (.cells #[.int .i64 q1, .int .i64 q2, .int .i64 q3, .int .i64 q4, .int .i64 q5, .int .i64 q6, .int .i64 q7] 50)
    have kb_7 := kb_6.alloc (.cells #[.int .i64 q1, .int .i64 q2, .int .i64 q3, .int .i64 q4, .int .i64 q5, .int .i64 q6, .int .i64 q7] 50)
    have qm_7 := qm_6.alloc (.cells #[.int .i64 q1, .int .i64 q2, .int .i64 q3, .int .i64 q4, .int .i64 q5, .int .i64 q6, .int .i64 q7] 50)
    have ha_7 := ha_6.lift al7
    have hF_7 := hF_6.below al7
    have hB_7 := hB_6.alloc hB_6.size (.cells #[.int .i64 q1, .int .i64 q2, .int .i64 q3, .int .i64 q4, .int .i64 q5, .int .i64 q6, .int .i64 q7] 50)
    obtain ⟨r0_7, r1_7, rf_7, rg_7⟩ := r_7.two
    go_wp2_with fail
    refine bodyPost_ret (v := .agg #[.int .i64 4, .slice none 0 0]) (by simp [results, Tryd.results15, go_sem, r0_7, r1_7]) rfl ?_
    exact ⟨_, _, _, rfl, Ow.nil, (hB_7.setCell (by simp) _).setCell (by simp) _⟩
  · have hff : f = true := by
      rw [← hsome]
      show ((findH l p i).map _).isSome = true
      rw [hk]
      rfl
    subst hff
    have hfst2 : ((findH l p i).map fun (k : Nat) => ((k : Int), (l[k]?).getD zeroH)).map Prod.snd = some (q1, (q2, q3, q4, q5), q6, q7) := by
      have h1 : (((findH l p i).map fun (k : Nat) => ((k : Int), (l[k]?).getD zeroH)).map Prod.snd).getD zeroH = (q1, (q2, q3, q4, q5), q6, q7) := hfst
      rw [hk] at h1 ⊢
      rw [← h1]
      rfl
    obtain ⟨hlt, hhit, -⟩ := findH_is hk
    have hx : l[k]? = some (q1, (q2, q3, q4, q5), q6, q7) := by
      rw [hk] at hfst2
      have h2 : (l[k]?).getD zeroH = (q1, (q2, q3, q4, q5), q6, q7) := Option.some.inj hfst2
      rw [List.getElem?_eq_getElem hlt] at h2 ⊢
      exact congrArg some h2
    have hk1 : q1 = p ∧ q4 = i := by
      rw [hitH_at hx] at hhit
      simpa using hhit
    obtain ⟨hk1, hk2⟩ := hk1
    have hr0 := (hfault_zero (((hintsFault_iff l).1 h0).2.1 _ (List.mem_of_getElem? hx))).2
    have h5 : 0 ≤ q6 ∧ q6 ≤ 4 := by unfold rangeH at hr0; simp [inB] at hr0; omega
    have hnow : 0 ≤ now ∧ now ≤ 100000 := by simpa [inB] using hp
    obtain ⟨m, rfl⟩ : ∃ m : Nat, q6 = (m : Int) := ⟨q6.toNat, by omega⟩
    have hm : m ≤ 4 := by omega
    rw [show sentM l p i now = (0, l.set k (q1, (q2, q3, q4, q5), (if (m : Int) + 1 < 4 then (m : Int) + 1 else 4), now + pw m)) by unfold sentM; rw [if_neg (by simp [h0]), if_neg (by simp [hp]), hk]; simp only; rw [hx]; rfl]
    have HBk := fun W => implBackoff (m : Int) W
    have hbk : backM (m : Int) = (0, pw m) := by rw [backM_yes (by simp [inB]; omega)]; simp
    rw [hbk] at HBk
    obtain ⟨u1, u2⟩ := pw_le hm
    obtain ⟨b, hb⟩ : ∃ b, pw m = b := ⟨_, rfl⟩
    rw [hb] at HBk u1 u2 ⊢
    obtain ⟨d, hd⟩ : ∃ d, (if (m : Int) + 1 < 4 then (m : Int) + 1 else 4) = d := ⟨_, rfl⟩
    have Hd := Lib.hid hd
    rw [hd]
    have hw1 : IntKind.i64.wrap (now + b) = now + b := IntWalk.i64_in _ (by omega)
    have hw2 : IntKind.i64.wrap ((m : Int) + 1) = (m : Int) + 1 := IntWalk.i64_in _ (by omega)
    obtain ⟨hm1, hm2⟩ := set_zip hk (h := (q1, (q2, q3, q4, q5), d, now + b)) hk1 hk2 (n : Int)
    rw [hLz] at hm1 hm2
    obtain ⟨L', hL'⟩ : ∃ L', putQ (n : Int) (q1, (q2, q3, q4, q5), d, now + b) L = L' := ⟨_, rfl⟩
    rw [hL'] at hm1 hm2
    have Hl' := Lib.hid hL'
    have Hm1 := Lib.hid hm1
    have Hm2 := Lib.hid hm2
    have Hm3 := Lib.hid (show L'.length ≤ 1000 by have := congrArg List.length hm1; rw [List.length_map, List.length_set] at this; omega)
    have hf2 := fun x y u => fldI1 x y u
    rw [h0] at HF
    have Hk1 := Lib.hid hk1
    have Hk2 := Lib.hid hk2
    clear h0 hn hk hfst hsome hLz hp hm1 hm2 hL' hfst2 hlt hhit hx hr0 h5 hb hd hbk
    subst hk1 hk2
    go_enter Tryd.func15, Tryd.ntmps15
    go_wp2_with fail
    refine (HF).mono ?_
    rintro e w1 ⟨rfl, hb1⟩
    have r_1 := r0.below hb1 r0.lt
    have ha_1 := ha0.lift hb1
    have hF_1 := hF0.below hb1
    have hB_1 := hB0.trans (hb1.mono hB0.size)
    have al2 := (Below.refl w1.heap.size w1).alloc (Nat.le_refl _) (.cells #[.int .i64 now, .int .i64 0, .int .i64 100000] 86)
    have bd := At.new w1 86 #[.int .i64 now, .int .i64 0, .int .i64 100000]
    have r_2 := r_1.alloc (.cells #[.int .i64 now, .int .i64 0, .int .i64 100000] 86)
    have ha_2 := ha_1.lift al2
    have hF_2 := hF_1.below al2
    have hB_2 := hB_1.alloc hB_1.size (.cells #[.int .i64 now, .int .i64 0, .int .i64 100000] 86)
    go_wp2_with fail
    refine (areWithin_any _ 1 _ [(now, 0, 100000)] _ (bnds_one (by simp)) (by simp) rfl (by simp)).mono ?_
    rintro e w3 ⟨rfl, hb3⟩
    have r_3 := r_2.below hb3 r_2.lt
    have ha_3 := ha_2.lift hb3
    have hF_3 := hF_2.below hb3
    have hB_3 := hB_2.trans (hb3.mono hB_2.size)
    rw [Hb.out]
    have lr0 := r_3.lt
    go_wp2_with fail
    refine (qOf A n c l _ ha_3 Hn.out (by omega)).mono ?_
    rintro e w4 ⟨rfl, hp4, hq4, hb4⟩
    have r_4 := r_3.below hb4 r_3.lt
    have ha_4 := ha_3.lift hb4
    have hF_4 := hF_3.below hb4
    have hB_4 := hB_3.trans (hb4.mono hB_3.size)
    rw [Hz.out, Hlz.out] at hq4
    have al5 := (Below.refl w4.heap.size w4).alloc (Nat.le_refl _) (.cells #[.int .i64 q1, .int .i64 q4] 74)
    have kb := At.new w4 74 #[.int .i64 q1, .int .i64 q4]
    have r_5 := r_4.alloc (.cells #[.int .i64 q1, .int .i64 q4] 74)
    have q_5 := hp4.alloc (.cells #[.int .i64 q1, .int .i64 q4] 74)
    have qm_5 := hq4.alloc (.cells #[.int .i64 q1, .int .i64 q4] 74)
    have ha_5 := ha_4.lift al5
    have hF_5 := hF_4.below al5
    have hB_5 := hB_4.alloc hB_4.size (.cells #[.int .i64 q1, .int .i64 q4] 74)
    obtain ⟨kb0_5, kb1_5, kbf_5, kbg_5⟩ := kb.two
    go_wp2_with fail
    refine (qFind (w3.heap.size + 1) w3.heap.size (n : Int) L q1 q4 q0 q1 q2 q3 q4 q5 (m : Int) q7 true _ q_5 qm_5 (hl _)).mono ?_
    rintro e w6 ⟨rfl, hb6⟩
    have r_6 := r_5.below hb6 r_5.lt
    have q_6 := q_5.below hb6 q_5.lt
    have kb_6 := kb.below hb6 kb.lt
    have qm_6 := qm_5.below hb6 qm_5.lt
    have ha_6 := ha_5.lift hb6
    have hF_6 := hF_5.below hb6
    have hB_6 := hB_5.trans (hb6.mono hB_5.size)
    obtain ⟨kb0_6, kb1_6, kbf_6, kbg_6⟩ := kb_6.two
    have al7 := (Below.refl w6.heap.size w6).alloc (Nat.le_refl _) (.cells #[.int .i64 q1, .int .i64 q2, .int .i64 q3, .int .i64 q4, .int .i64 q5, .int .i64 (m : Int), .int .i64 q7] 50)
    have hh := At.new w6 50 #[.int .i64 q1, .int .i64 q2, .int .i64 q3, .int .i64 q4, .int .i64 q5, .int .i64 (m : Int), .int .i64 q7]
    have r_7 := r_6.alloc (.cells #[.int .i64 q1, .int .i64 q2, .int .i64 q3, .int .i64 q4, .int .i64 q5, .int .i64 (m : Int), .int .i64 q7] 50)
    have q_7 := q_6.alloc (.cells #[.int .i64 q1, .int .i64 q2, .int .i64 q3, .int .i64 q4, .int .i64 q5, .int .i64 (m : Int), .int .i64 q7] 50)
    have kb_7 := kb_6.alloc (.cells #[.int .i64 q1, .int .i64 q2, .int .i64 q3, .int .i64 q4, .int .i64 q5, .int .i64 (m : Int), .int .i64 q7] 50)
    have qm_7 := qm_6.alloc (.cells #[.int .i64 q1, .int .i64 q2, .int .i64 q3, .int .i64 q4, .int .i64 q5, .int .i64 (m : Int), .int .i64 q7] 50)
    have ha_7 := ha_6.lift al7
    have hF_7 := hF_6.below al7
    have hB_7 := hB_6.alloc hB_6.size (.cells #[.int .i64 q1, .int .i64 q2, .int .i64 q3, .int .i64 q4, .int .i64 q5, .int .i64 (m : Int), .int .i64 q7] 50)
    have hg7 : w6.heap.size < (w6.alloc (.cells #[.int .i64 q1, .int .i64 q2, .int .i64 q3, .int .i64 q4, .int .i64 q5, .int .i64 (m : Int), .int .i64 q7] 50)).heap.size := hh.lt
    go_wp2_with fail
    refine (HBk _).mono ?_
    rintro e w8 ⟨rfl, hb8⟩
    have r_8 := r_7.below hb8 r_7.lt
    have q_8 := q_7.below hb8 q_7.lt
    have kb_8 := kb_7.below hb8 kb_7.lt
    have hh_8 := hh.below hb8 hh.lt
    have qm_8 := qm_7.below hb8 qm_7.lt
    have ha_8 := ha_7.lift hb8
    have hF_8 := hF_7.below hb8
    have hB_8 := hB_7.trans (hb8.mono hB_7.size)
    obtain ⟨kb0_8, kb1_8, kbf_8, kbg_8⟩ := kb_8.two
    obtain ⟨hh0_8, hh1_8, hh2_8, hh3_8, hh4_8, hh5_8, hh6_8⟩ := hh_8.seven
    obtain ⟨hf0, hf1, hf2, hf3, hf4, hf5, hf6⟩ := hh_8.sevenF
    have hne := q_8.apart qm_8
    have lq := hp4.lt
    have lm := hq4.lt
    have sz1 := hb6.size
    have sz2 : w4.heap.size + 1 ≤ w6.heap.size := by have := hb6.size; simp at this; omega
    have ls := hh_8.lt
    have qs := (q_8.far (p := ⟨w6.heap.size, 6, none⟩) (by show w3.heap.size + 1 ≠ w6.heap.size; omega) (.int .i64 (now + b))).far (p := ⟨w6.heap.size, 5, none⟩) (by show w3.heap.size + 1 ≠ w6.heap.size; omega) (.int .i64 d)
    have ms := (qm_8.stored (p := ⟨w6.heap.size, 6, none⟩) (by show w6.heap.size ≠ w3.heap.size; omega) (.int .i64 (now + b))).stored (p := ⟨w6.heap.size, 5, none⟩) (by show w6.heap.size ≠ w3.heap.size; omega) (.int .i64 d)
    have rs := (r_8.far (p := ⟨w6.heap.size, 6, none⟩) (by show w.heap.size ≠ w6.heap.size; omega) (.int .i64 (now + b))).far (p := ⟨w6.heap.size, 5, none⟩) (by show w.heap.size ≠ w6.heap.size; omega) (.int .i64 d)
    have ks := (kb_8.far (p := ⟨w6.heap.size, 6, none⟩) (by show w4.heap.size ≠ w6.heap.size; omega) (.int .i64 (now + b))).far (p := ⟨w6.heap.size, 5, none⟩) (by show w4.heap.size ≠ w6.heap.size; omega) (.int .i64 d)
    have hBs := (hB_8.setCell (p := ⟨w6.heap.size, 6, none⟩) (by show w.heap.size ≤ w6.heap.size; omega) (.int .i64 (now + b))).setCell (p := ⟨w6.heap.size, 5, none⟩) (by show w.heap.size ≤ w6.heap.size; omega) (.int .i64 d)
    obtain ⟨ks0, ks1, _, _⟩ := ks.two
    have hmin : min ((m : Int) + 1) 4 = d := by
      rw [← Hd.out]
      split <;> omega
    go_wp2_with fail
    refine (qPut (w3.heap.size + 1) w3.heap.size w3.heap.size (n : Int) L q1 q2 q3 q4 q5 d (now + b) _ qs ms (by omega) (Nat.le_refl _) (by omega)).mono ?_
    rintro e w20 ⟨rfl, hp20, hq20, hb20⟩
    rw [Hl'.out] at hq20
    have r20 := rs.below hb20 lr0
    have hB20 := hBs.trans (hb20.mono (by omega))
    go_wp2_with fail
    refine (qList _ _ _ L' _ hp20 hq20 Hm2.out Hm3.out).mono ?_
    rintro e w21 ⟨A5, c5, rfl, ow5, hb21⟩
    rw [Hm1.out] at ow5
    have r21 := r20.below hb21 r20.lt
    have hB21 := hB20.trans (hb21.mono hB20.size)
    have lr20 := r20.lt
    obtain ⟨c0, c1, f0, f1⟩ := r21.two
    go_wp2_with fail
    refine bodyPost_ret (v := .agg #[.int .i64 0, .slice A5 (L'.length) c5]) (by simp [results, Tryd.results15, go_sem, c0, c1]) rfl ?_
    exact ⟨_, _, _, rfl, (((ow5.under (p := ⟨w.heap.size, 0, none⟩) lr20 _).under (p := ⟨w.heap.size, 1, none⟩) lr20 _).from_ hB20.size), (hB21.setCell (Nat.le_refl _) _).setCell (Nat.le_refl _) _⟩
theorem hiSentHint : ∀ (A0 : Option Addr) (m0 e0 : Nat) (q0 : List Hnt) (p i t : Int) (W : World), Rd eH W W.heap.size A0 q0 → q0.length = m0 → m0 ≤ 1048576 → Flds W → Calls Tryd.prog 15 #[.slice A0 m0 e0, .int .i64 p, .int .i64 i, .int .i64 t] W (RetHs (sentM q0 p i t) W) :=
  fun A0 m0 e0 q0 p i t W ha hn _ hF => implSentHint A0 m0 e0 q0 p i t W ha hn hF
end Go.Proofs.YtjlkmfijkhjjkaaDoor
/-
  Two lists of hints held against one another: the model's and the program's.
-/
namespace Go.Proofs.YtjlkmfijkhjjkaaDoor
set_option maxRecDepth 20000
open Go.RowKit
set_option linter.unusedSimpArgs false

theorem neqHnt (a0 a1 a2 a3 a4 a5 a6 b0 b1 b2 b3 b4 b5 b6 : Int) (u : World) : (binOp .neq 50 (.agg #[.int .i64 a0, .int .i64 a1, .int .i64 a2, .int .i64 a3, .int .i64 a4, .int .i64 a5, .int .i64 a6]) (.agg #[.int .i64 b0, .int .i64 b1, .int .i64 b2, .int .i64 b3, .int .i64 b4, .int .i64 b5, .int .i64 b6])).run Tryd.prog u = .ok (.bool (decide (¬ (a0, (a1, a2, a3, a4), a5, a6) = (b0, (b1, b2, b3, b4), b5, b6)))) u := by
  go_simp
  (by_cases h0 : a0 = b0; rotate_left; simp [h0]; by_cases h1 : a1 = b1; rotate_left; simp [h0, h1]; by_cases h2 : a2 = b2; rotate_left; simp [h0, h1, h2]; by_cases h3 : a3 = b3; rotate_left; simp [h0, h1, h2, h3]; by_cases h4 : a4 = b4; rotate_left; simp [h0, h1, h2, h3, h4]; by_cases h5 : a5 = b5; rotate_left; simp [h0, h1, h2, h3, h4, h5]; by_cases h6 : a6 = b6; rotate_left; simp [h0, h1, h2, h3, h4, h5, h6]; simp [h0, h1, h2, h3, h4, h5, h6])

theorem specSameHints_no (A B : Option Addr) (n m c d : Nat) (w : World) (h : n ≠ m) :
    Calls Tryd.prog 27 #[.slice A n c, .slice B m d] w fun e w' => e = .returned (.bool false) ∧ Below w.heap.size w w' := by
  have hb : ((n : Int) != (m : Int)) = true := by simp; omega
  go_enter Tryd.func27, Tryd.ntmps27
  go_wp2
  go_ret
  exact ⟨rfl, Below.refl _ _⟩

set_option maxHeartbeats 2000000 in
theorem specSameHints_any (A B : Option Addr) (n c d : Nat) (xs ys : List Hnt) (w : World) (ha : Rd eH w w.heap.size A xs) (hb : Rd eH w w.heap.size B ys) (hx : xs.length = n) (hy : ys.length = n) (hm : n ≤ maxLen) :
    Calls Tryd.prog 27 #[.slice A n c, .slice B n d] w fun e w' => e = .returned (.bool (decide (xs = ys))) ∧ Below w.heap.size w w' := by
  have h0 : ((n : Int) != (n : Int)) = false := by simp
  have Hx := Lib.hid hx
  have Hy := Lib.hid hy
  clear hx hy
  unfold maxLen at hm
  go_enter Tryd.func27, Tryd.ntmps27
  go_wp2
  go_loopw [5] (fun i wr => EqRelH xs ys w n i wr) (fun i _ => n - (intOf i).toNat)
  case atStart => exact ⟨0, Nat.zero_le _, rfl, fun _ h => absurd h (by omega), Below.refl _ _⟩
  case round =>
    obtain ⟨k, hk, rfl, hal, hbel⟩ := hrel
    have Hal := Lib.hid hal
    clear hal
    by_cases hlt : k < n
    · obtain ⟨g, o, a0, a1, a2, a3, a4, a5, a6, rfl, hg, hxk, ca⟩ := (ha.below hbel (Nat.le_refl _)).hnt (k := k) (by rw [Hx.out]; exact hlt)
      obtain ⟨g', o', b0, b1, b2, b3, b4, b5, b6, rfl, hg', hyk, cb⟩ := (hb.below hbel (Nat.le_refl _)).hnt (k := k) (by rw [Hy.out]; exact hlt)
      have Hxk := Lib.hid hxk
      have Hyk := Lib.hid hyk
      clear hxk hyk
      have hbd := hbel.drew
      go_wp2
      refine wp_region_mix [(0, false), (1, false), (2, false), (3, false), (4, false), (5, false), (6, false), (7, false), (8, false)] (fun u => S7 u g (o + k * 7) a0 a1 a2 a3 a4 a5 a6 ∧ S7 u g' (o' + k * 7) b0 b1 b2 b3 b4 b5 b6) (by kernel_rfl) (by kernel_rfl) (fun _ _ _ _ _ h => h) ⟨ca.drew, cb.drew⟩ ?_
      simp only [mixOps, List.map_cons, List.map_nil, List.getElem?_cons_succ, List.getElem?_cons_zero, Option.getD_some]
      iterate 8 (
        refine mix_pure (v := ?_) (by rfl) (fun u hu => ?_) ?_
        rotate_left
        · obtain ⟨⟨_, _, _, _, _, _, _⟩, _, _, _, _, _, _, _⟩ := hu
          go_simp
          (with_reducible rfl)
        (try simp only [Act.put, List.setIfInBounds_toArray, List.set_cons_zero, List.set_cons_succ]))
      refine mix_pure (v := .bool (decide (¬ (a0, (a1, a2, a3, a4), a5, a6) = (b0, (b1, b2, b3, b4), b5, b6)))) (by rfl) (fun u _ => by
        go_simp
        (by_cases h0 : a0 = b0; rotate_left; simp [h0]; by_cases h1 : a1 = b1; rotate_left; simp [h0, h1]; by_cases h2 : a2 = b2; rotate_left; simp [h0, h1, h2]; by_cases h3 : a3 = b3; rotate_left; simp [h0, h1, h2, h3]; by_cases h4 : a4 = b4; rotate_left; simp [h0, h1, h2, h3, h4]; by_cases h5 : a5 = b5; rotate_left; simp [h0, h1, h2, h3, h4, h5]; by_cases h6 : a6 = b6; rotate_left; simp [h0, h1, h2, h3, h4, h5, h6]; simp [h0, h1, h2, h3, h4, h5, h6])) ?_
      (try simp only [Act.put, List.setIfInBounds_toArray, List.set_cons_zero, List.set_cons_succ])
      refine mix_nil ?_
      by_cases he : (a0, (a1, a2, a3, a4), a5, a6) = (b0, (b1, b2, b3, b4), b5, b6)
      · rw [show decide (¬ (a0, (a1, a2, a3, a4), a5, a6) = (b0, (b1, b2, b3, b4), b5, b6)) = false from decide_eq_false (fun h => h he)]
        have He := Lib.hid he
        clear he
        go_wp2
        refine ⟨⟨k + 1, by omega, by go_num, fun i hi => ?_, hbd⟩, by simp [intOf]; omega⟩
        rcases Nat.lt_or_ge i k with h | h
        · exact Hal.out i h
        · obtain rfl : i = k := by omega
          rw [Hxk.out, Hyk.out, He.out]
      · rw [show decide (¬ (a0, (a1, a2, a3, a4), a5, a6) = (b0, (b1, b2, b3, b4), b5, b6)) = true from decide_eq_true he]
        have hfin : decide (xs = ys) = false := by
          simp only [decide_eq_false_iff_not]
          rintro rfl
          exact he (Option.some.inj (Hxk.out.symm.trans Hyk.out))
        have Hf := Lib.hid hfin
        clear he hfin
        go_wp2
        go_ret
        exact ⟨by rw [Hf.out]; rfl, hbd⟩
    · have hfin : decide (xs = ys) = true := by
        obtain rfl : k = n := by omega
        simp only [decide_eq_true_eq]
        exact alike_all' Hx.out Hy.out Hal.out
      have Hf := Lib.hid hfin
      clear hfin
      go_wp2
      go_ret
      exact ⟨by rw [Hf.out]; rfl, hbel⟩

theorem specSameHints (A B : Option Addr) (n m c d : Nat) (xs ys : List Hnt) (w : World) (ha : Rd eH w w.heap.size A xs) (hb : Rd eH w w.heap.size B ys) (hx : xs.length = n) (hy : ys.length = m) (hm : n ≤ maxLen) :
    Calls Tryd.prog 27 #[.slice A n c, .slice B m d] w fun e w' => e = .returned (.bool (decide (xs = ys))) ∧ Below w.heap.size w w' := by
  by_cases h : n = m
  · subst h
    exact specSameHints_any A B n c d xs ys w ha hb hx hy hm
  · have hd : decide (xs = ys) = false := by
      simp only [decide_eq_false_iff_not]
      rintro rfl
      exact h (hx.symm.trans hy)
    rw [hd]
    exact specSameHints_no A B n m c d w h

theorem sliceEqualH_no (A B : Option Addr) (n m c d : Nat) (w : World) (h : n ≠ m) :
    Calls Tryd.prog 59 #[.slice A n c, .slice B m d] w fun e w' => e = .returned (.bool false) ∧ Below w.heap.size w w' := by
  have hb : ((n : Int) != (m : Int)) = true := by simp; omega
  go_enter Tryd.func59, Tryd.ntmps59
  go_wp2
  go_ret
  exact ⟨rfl, Below.refl _ _⟩

set_option maxHeartbeats 2000000 in
theorem sliceEqualH_any (A B : Option Addr) (n c d : Nat) (xs ys : List Hnt) (w : World) (ha : Rd eH w w.heap.size A xs) (hb : Rd eH w w.heap.size B ys) (hx : xs.length = n) (hy : ys.length = n) (hm : n ≤ maxLen) :
    Calls Tryd.prog 59 #[.slice A n c, .slice B n d] w fun e w' => e = .returned (.bool (decide (xs = ys))) ∧ Below w.heap.size w w' := by
  have h0 : ((n : Int) != (n : Int)) = false := by simp
  have Hx := Lib.hid hx
  have Hy := Lib.hid hy
  clear hx hy
  unfold maxLen at hm
  go_enter Tryd.func59, Tryd.ntmps59
  go_wp2
  go_loopw [13] (fun i wr => EqRelH xs ys w n i wr) (fun i _ => n - (intOf i).toNat)
  case atStart => exact ⟨0, Nat.zero_le _, rfl, fun _ h => absurd h (by omega), Below.refl _ _⟩
  case round =>
    obtain ⟨k, hk, rfl, hal, hbel⟩ := hrel
    have Hal := Lib.hid hal
    clear hal
    by_cases hlt : k < n
    · obtain ⟨g, o, a0, a1, a2, a3, a4, a5, a6, rfl, hg, hxk, ca⟩ := (ha.below hbel (Nat.le_refl _)).hnt (k := k) (by rw [Hx.out]; exact hlt)
      obtain ⟨g', o', b0, b1, b2, b3, b4, b5, b6, rfl, hg', hyk, cb⟩ := (hb.below hbel (Nat.le_refl _)).hnt (k := k) (by rw [Hy.out]; exact hlt)
      have Hxk := Lib.hid hxk
      have Hyk := Lib.hid hyk
      clear hxk hyk
      have hbd := hbel.drew
      go_wp2
      refine wp_region_mix [(0, false), (1, false), (2, false), (3, false), (4, false), (5, false), (6, false), (7, false), (8, false)] (fun u => S7 u g (o + k * 7) a0 a1 a2 a3 a4 a5 a6 ∧ S7 u g' (o' + k * 7) b0 b1 b2 b3 b4 b5 b6) (by kernel_rfl) (by kernel_rfl) (fun _ _ _ _ _ h => h) ⟨ca.drew, cb.drew⟩ ?_
      simp only [mixOps, List.map_cons, List.map_nil, List.getElem?_cons_succ, List.getElem?_cons_zero, Option.getD_some]
      iterate 8 (
        refine mix_pure (v := ?_) (by rfl) (fun u hu => ?_) ?_
        rotate_left
        · obtain ⟨⟨_, _, _, _, _, _, _⟩, _, _, _, _, _, _, _⟩ := hu
          go_simp
          (with_reducible rfl)
        (try simp only [Act.put, List.setIfInBounds_toArray, List.set_cons_zero, List.set_cons_succ]))
      refine mix_pure (v := .bool (decide (¬ (a0, (a1, a2, a3, a4), a5, a6) = (b0, (b1, b2, b3, b4), b5, b6)))) (by rfl) (fun u _ => by
        go_simp
        (by_cases h0 : a0 = b0; rotate_left; simp [h0]; by_cases h1 : a1 = b1; rotate_left; simp [h0, h1]; by_cases h2 : a2 = b2; rotate_left; simp [h0, h1, h2]; by_cases h3 : a3 = b3; rotate_left; simp [h0, h1, h2, h3]; by_cases h4 : a4 = b4; rotate_left; simp [h0, h1, h2, h3, h4]; by_cases h5 : a5 = b5; rotate_left; simp [h0, h1, h2, h3, h4, h5]; by_cases h6 : a6 = b6; rotate_left; simp [h0, h1, h2, h3, h4, h5, h6]; simp [h0, h1, h2, h3, h4, h5, h6])) ?_
      (try simp only [Act.put, List.setIfInBounds_toArray, List.set_cons_zero, List.set_cons_succ])
      refine mix_nil ?_
      by_cases he : (a0, (a1, a2, a3, a4), a5, a6) = (b0, (b1, b2, b3, b4), b5, b6)
      · rw [show decide (¬ (a0, (a1, a2, a3, a4), a5, a6) = (b0, (b1, b2, b3, b4), b5, b6)) = false from decide_eq_false (fun h => h he)]
        have He := Lib.hid he
        clear he
        go_wp2
        refine ⟨⟨k + 1, by omega, by go_num, fun i hi => ?_, hbd⟩, by simp [intOf]; omega⟩
        rcases Nat.lt_or_ge i k with h | h
        · exact Hal.out i h
        · obtain rfl : i = k := by omega
          rw [Hxk.out, Hyk.out, He.out]
      · rw [show decide (¬ (a0, (a1, a2, a3, a4), a5, a6) = (b0, (b1, b2, b3, b4), b5, b6)) = true from decide_eq_true he]
        have hfin : decide (xs = ys) = false := by
          simp only [decide_eq_false_iff_not]
          rintro rfl
          exact he (Option.some.inj (Hxk.out.symm.trans Hyk.out))
        have Hf := Lib.hid hfin
        clear he hfin
        go_wp2
        go_ret
        exact ⟨by rw [Hf.out]; rfl, hbd⟩
    · have hfin : decide (xs = ys) = true := by
        obtain rfl : k = n := by omega
        simp only [decide_eq_true_eq]
        exact alike_all' Hx.out Hy.out Hal.out
      have Hf := Lib.hid hfin
      clear hfin
      go_wp2
      go_ret
      exact ⟨by rw [Hf.out]; rfl, hbel⟩

theorem sliceEqualH (A B : Option Addr) (n m c d : Nat) (xs ys : List Hnt) (w : World) (ha : Rd eH w w.heap.size A xs) (hb : Rd eH w w.heap.size B ys) (hx : xs.length = n) (hy : ys.length = m) (hm : n ≤ maxLen) :
    Calls Tryd.prog 59 #[.slice A n c, .slice B m d] w fun e w' => e = .returned (.bool (decide (xs = ys))) ∧ Below w.heap.size w w' := by
  by_cases h : n = m
  · subst h
    exact sliceEqualH_any A B n c d xs ys w ha hb hx hy hm
  · have hd : decide (xs = ys) = false := by
      simp only [decide_eq_false_iff_not]
      rintro rfl
      exact h (hx.symm.trans hy)
    rw [hd]
    exact sliceEqualH_no A B n m c d w h

theorem implSameHints (A B : Option Addr) (n m c d : Nat) (xs ys : List Hnt) (w : World) (ha : Rd eH w w.heap.size A xs) (hb : Rd eH w w.heap.size B ys) (hx : xs.length = n) (hy : ys.length = m) (hm : n ≤ maxLen) :
    Calls Tryd.prog 21 #[.slice A n c, .slice B m d] w fun e w' => e = .returned (.bool (decide (xs = ys))) ∧ Below w.heap.size w w' := by
  have h1 := sliceEqualH A B n m c d xs ys w ha hb hx hy hm
  clear ha hb hx hy
  go_enter Tryd.func21, Tryd.ntmps21
  go_wp2_with (go_at_call 59; refine h1.mono ?_; rintro e w1 ⟨rfl, hb1⟩)
  go_ret
  exact ⟨rfl, hb1⟩
theorem hiSameHints : ∀ (A0 : Option Addr) (m0 e0 : Nat) (q0 : List Hnt) (A1 : Option Addr) (m1 e1 : Nat) (q1 : List Hnt)  (W : World), Rd eH W W.heap.size A0 q0 → q0.length = m0 → m0 ≤ 1048576 → Rd eH W W.heap.size A1 q1 → q1.length = m1 → m1 ≤ 1048576 → Calls Tryd.prog 21 #[.slice A0 m0 e0, .slice A1 m1 e1] W (fun e W' => e = .returned (.bool (decide (q0 = q1))) ∧ Below W.heap.size W W') := by
  exact fun A0 m0 e0 q0 A1 m1 e1 q1 W ha hn hm hb hn' hm' => implSameHints A0 A1 m0 m1 e0 e1 q0 q1 W ha hb hn hn' (by unfold maxLen; omega)
end Go.Proofs.YtjlkmfijkhjjkaaDoor
/-
  The big region of the law of hints: its operations, and an order checked in parts.
-/
namespace Go.Proofs.YtjlkmfijkhjjkaaDoor
set_option maxRecDepth 20000
open Go.RowKit

def regionOf (n : Nat) : Code → Option (List Oper)
  | .region id ops _ => if id == n then some ops.toList else none
  | .seq a b => match regionOf n a with
    | some x => some x
    | none => regionOf n b
  | .cond _ a b => match regionOf n a with
    | some x => some x
    | none => regionOf n b
  | .block _ b => regionOf n b
  | .loop b => regionOf n b
  | .scope b => regionOf n b
  | _ => none
def opsOf (f : Func) (n : Nat) : List Oper := match f.body with
  | some c => match regionOf n c with
    | some x => x
    | none => []
  | none => []
def mixHB (l : List Oper) (p : List (Nat × Bool)) : Bool := Region.noSelect l.toArray && (mixB .any l.toArray (Array.replicate l.length false) p && (p.length == l.length && p.all fun x => decide (x.1 < l.length)))
def mixP (md : Region.Mode) (ops : Array Oper) : Array Bool → List (Nat × Bool) → Bool
  | _, [] => true
  | listed, (k, c) :: p => (if c then Region.ready md ops listed == [k] else (Region.ready md ops listed).contains k && Region.free md ops listed k) && mixP md ops (listed.setIfInBounds k true) p
def mixAdv : Array Bool → List (Nat × Bool) → Array Bool
  | listed, [] => listed
  | listed, (k, _) :: p => mixAdv (listed.setIfInBounds k true) p
theorem mixB_append {md : Region.Mode} {ops : Array Oper} : ∀ (p q : List (Nat × Bool)) (listed : Array Bool), mixP md ops listed p = true → mixB md ops (mixAdv listed p) q = true → mixB md ops listed (p ++ q) = true
  | [], _, _, _, h => h
  | (k, c) :: p, q, listed, h1, h2 => by
    simp only [mixP, Bool.and_eq_true] at h1
    simp only [List.cons_append, mixB, Bool.and_eq_true]
    exact ⟨h1.1, mixB_append p q _ h1.2 h2⟩
theorem wp_region_mix_at {P : Program} {Q : Exit → Act → World → Prop} {id : Nat} {l : List Oper} {a : Act} {w : World} (l' : List Oper) (p : List (Nat × Bool)) (S : World → Prop) (hm : P.follows .mixedOrders = true) (hl : l = l') (hB : mixHB l' p = true)
    (hQ : ∀ c a (d : Nat) v w, Q (.panic c) (Act.put a (some d) v) w → Q (.panic c) a w) (hS : S w.drew) (h : mixW P l.toArray Q (mixOps l p) S a w.drew) : (Code.region id l.toArray true).wp P Q a w := by
  subst hl
  exact wp_region_mix p S hm hB hQ hS h
def hlP0 : List (Nat × Bool) := [(0, false), (1, false), (2, false), (3, false), (4, false), (5, true), (6, false), (7, false), (8, false), (9, false), (10, false), (11, false), (12, false), (13, false), (14, true)]
def hlP1 : List (Nat × Bool) := [(15, false), (16, true), (17, false), (18, false), (19, false), (20, false), (21, false), (22, false), (23, false), (24, false), (25, true), (26, false), (27, false), (28, false), (29, false), (30, false), (31, false), (32, false)]
def hlP2 : List (Nat × Bool) := [(33, false), (34, false), (35, true), (36, false), (37, true), (38, false), (39, false), (40, false), (41, false), (42, false), (43, false), (44, false), (45, false), (46, false), (47, true), (48, false), (49, false), (50, false), (51, false), (52, false), (53, false), (54, false), (55, false)]
def hlP3 : List (Nat × Bool) := [(56, false), (57, false), (58, true), (59, false), (60, true), (61, false), (62, false), (63, false), (64, false), (65, false), (66, false), (67, false), (68, true), (69, false), (70, false), (71, false), (72, false), (73, false), (74, false), (75, false), (76, false), (77, true), (78, false), (79, true), (80, false), (81, false), (82, false), (83, false), (85, false), (84, true), (86, true), (87, false), (88, false), (89, false), (90, false), (91, false), (93, false), (94, false), (92, true), (95, true), (96, false), (97, false), (98, false), (99, false), (101, false), (100, true), (102, true), (103, false), (104, false)]
def hlL0 : Array Bool := #[false, false, false, false, false, false, false, false, false, false, false, false, false, false, false, false, false, false, false, false, false, false, false, false, false, false, false, false, false, false, false, false, false, false, false, false, false, false, false, false, false, false, false, false, false, false, false, false, false, false, false, false, false, false, false, false, false, false, false, false, false, false, false, false, false, false, false, false, false, false, false, false, false, false, false, false, false, false, false, false, false, false, false, false, false, false, false, false, false, false, false, false, false, false, false, false, false, false, false, false, false, false, false, false, false]
def hlL1 : Array Bool := #[true, true, true, true, true, true, true, true, true, true, true, true, true, true, true, false, false, false, false, false, false, false, false, false, false, false, false, false, false, false, false, false, false, false, false, false, false, false, false, false, false, false, false, false, false, false, false, false, false, false, false, false, false, false, false, false, false, false, false, false, false, false, false, false, false, false, false, false, false, false, false, false, false, false, false, false, false, false, false, false, false, false, false, false, false, false, false, false, false, false, false, false, false, false, false, false, false, false, false, false, false, false, false, false, false]
def hlL2 : Array Bool := #[true, true, true, true, true, true, true, true, true, true, true, true, true, true, true, true, true, true, true, true, true, true, true, true, true, true, true, true, true, true, true, true, true, false, false, false, false, false, false, false, false, false, false, false, false, false, false, false, false, false, false, false, false, false, false, false, false, false, false, false, false, false, false, false, false, false, false, false, false, false, false, false, false, false, false, false, false, false, false, false, false, false, false, false, false, false, false, false, false, false, false, false, false, false, false, false, false, false, false, false, false, false, false, false, false]
def hlL3 : Array Bool := #[true, true, true, true, true, true, true, true, true, true, true, true, true, true, true, true, true, true, true, true, true, true, true, true, true, true, true, true, true, true, true, true, true, true, true, true, true, true, true, true, true, true, true, true, true, true, true, true, true, true, true, true, true, true, true, true, false, false, false, false, false, false, false, false, false, false, false, false, false, false, false, false, false, false, false, false, false, false, false, false, false, false, false, false, false, false, false, false, false, false, false, false, false, false, false, false, false, false, false, false, false, false, false, false, false]
end Go.Proofs.YtjlkmfijkhjjkaaDoor
