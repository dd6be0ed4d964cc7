/-
  Texts of one proof, joined: each has its own namespace.
-/
import Derived.Test.YteiclanlhnccnaaGreatDoorBExApplyRecord18
import Derived.Test.YteiclanlhnccnaaGreatDoorBExApplyRecord19
/-
  The law FnExactApplyRecord, walked.
-/
namespace Go.Proofs.YteiclanlhnccnaaGreatDoor
set_option maxRecDepth 20000
open Go.RowKit
set_option linter.unusedSimpArgs false
set_option linter.unusedVariables false
attribute [local irreducible] mixW

theorem undrewA {w w' : World} {k : Nat} (h : Below (w.drewN k).heap.size (w.drewN k) w') : Below w.heap.size w w' := ⟨h.os, h.tape, h.output, h.size, h.block⟩
theorem applyM_le (s : Sta) (r : Rcd) : (applyM s r).2.1.length ≤ 160 ∧ (applyM s r).2.2.1.length ≤ 8 := by
  by_cases hs : stateFaultM s = 0
  · by_cases hr : recFaultM r = 0
    · rw [apply_right hs hr]
      by_cases h0 : (stepR s r).1 = 0
      · rw [if_pos h0]
        have := step_right hs hr h0
        obtain ⟨q1, q2, -⟩ := (stateFault_iff _).1 this
        exact ⟨((storeFault_iff _).1 q1).1, ((hintsFault_iff _).1 q2).1⟩
      · rw [if_neg h0]
        exact ⟨Nat.zero_le _, Nat.zero_le _⟩
    · unfold applyM
      rw [if_neg (by simp [hs]), if_pos hr]
      exact ⟨Nat.zero_le _, Nat.zero_le _⟩
  · unfold applyM
    rw [if_pos hs]
    exact ⟨Nat.zero_le _, Nat.zero_le _⟩
set_option maxRecDepth 100000 in
set_option maxHeartbeats 16000000 in
theorem fnExactApplyRecord_walk (X : Option Addr) (n c : Nat) (l : List Smp) (Y : Option Addr) (m d : Nat) (h : List Hnt) (x : Int) (a0 a1 a2 a3 a4 a5 a6 : Int) (w : World) (ha : Rd eL w w.heap.size X l) (hn : l.length = n) (hM1 : n ≤ maxLen) (hb : Rd eM w w.heap.size Y h) (hm : h.length = m) (hM2 : m ≤ maxLen) (hF : Flds w) :
    Calls Tryz.prog 5 #[.agg #[.slice X n c, .slice Y m d, .int .i64 x], .agg #[.int .i64 a0, .int .i64 a1, .int .i64 a2, .int .i64 a3, .int .i64 a4, .int .i64 a5, .int .i64 a6]] w fun e w' => e = .returned (.bool true) ∧ Below w.heap.size w w' := by
  have Hn := Lib.hid hn
  have Hm := Lib.hid hm
  clear hn hm
  have hB0 : Below w.heap.size w ((w.alloc (.cells #[.slice X n c, .slice Y m d, .int .i64 x] 60)).alloc (.cells #[.int .i64 a0, .int .i64 a1, .int .i64 a2, .int .i64 a3, .int .i64 a4, .int .i64 a5, .int .i64 a6] 63)) := ((Below.refl _ _).alloc (Nat.le_refl _) _).alloc (by simp) _
  have bl0 := (At.new w 60 #[.slice X n c, .slice Y m d, .int .i64 x]).alloc (.cells #[.int .i64 a0, .int .i64 a1, .int .i64 a2, .int .i64 a3, .int .i64 a4, .int .i64 a5, .int .i64 a6] 63)
  have br0 : At ((w.alloc (.cells #[.slice X n c, .slice Y m d, .int .i64 x] 60)).alloc (.cells #[.int .i64 a0, .int .i64 a1, .int .i64 a2, .int .i64 a3, .int .i64 a4, .int .i64 a5, .int .i64 a6] 63)) (w.heap.size + 1) 63 #[.int .i64 a0, .int .i64 a1, .int .i64 a2, .int .i64 a3, .int .i64 a4, .int .i64 a5, .int .i64 a6] := by
    have := At.new (w.alloc (.cells #[.slice X n c, .slice Y m d, .int .i64 x] 60)) 63 #[.int .i64 a0, .int .i64 a1, .int .i64 a2, .int .i64 a3, .int .i64 a4, .int .i64 a5, .int .i64 a6]
    simpa using this
  obtain ⟨c0, c1, c2, _, _, _⟩ := bl0.three
  have SZ := szState_gen X Y n c m d x 1048576 ((w.alloc (.cells #[.slice X n c, .slice Y m d, .int .i64 x] 60)).alloc (.cells #[.int .i64 a0, .int .i64 a1, .int .i64 a2, .int .i64 a3, .int .i64 a4, .int .i64 a5, .int .i64 a6] 63)) (by omega) (by omega) hM1 hM2
  by_cases hbig : (1048576 : Int) < (n : Int) + m
  · rw [if_pos hbig] at SZ
    have hneg : (-1 : Int) < 0 := by omega
    clear hbig
    go_enter Tryz.func5, Tryz.ntmps5
    go_wp2_with fail
    refine SZ.mono ?_
    rintro e w1 ⟨rfl, hb1⟩
    go_wp2
    go_ret
    exact ⟨rfl, hB0.trans (hb1.mono hB0.size)⟩
  rw [if_neg hbig] at SZ
  have hl : ¬ (1048576 : Int) - (n : Int) - (m : Int) < 0 := by omega
  have hn1 : n ≤ 1048576 := by omega
  have hm1 : m ≤ 1048576 := by omega
  clear hbig
  obtain ⟨hle1, hle2⟩ := applyM_le (l, h, x) (a0, a1, (a2, a3, a4, a5), a6)
  rcases hM : applyM (l, h, x) (a0, a1, (a2, a3, a4, a5), a6) with ⟨tc, tl, th, tx⟩
  rw [hM] at hle1 hle2
  have SP := fun A B c d W h1 h2 => specApplyRecord A B n c m d l h x a0 a1 a2 a3 a4 a5 a6 W h1 h2 Hn.out Hm.out hn1 hm1
  have IP := fun A B c d W h1 h2 h3 => implApplyRecord A B n c m d l h x a0 a1 a2 a3 a4 a5 a6 W h1 h2 Hn.out Hm.out h3
  rw [hM] at SP IP
  clear hM
  have Hle1 := Lib.hid (show tl.length ≤ 160 from hle1)
  have Hle2 := Lib.hid (show th.length ≤ 8 from hle2)
  clear hle1 hle2
  go_enter Tryz.func5, Tryz.ntmps5
  go_wp2_with fail
  refine SZ.mono ?_
  rintro e w1 ⟨rfl, hb1⟩
  have hB1 := hB0.trans (hb1.mono hB0.size)
  have bl1 := bl0.below hb1 bl0.lt
  have br1 := br0.below hb1 br0.lt
  have lr1 := br1.lt
  have ha1 := ha.lift hB1
  have hb_1 := hb.lift hB1
  have hF1 := hF.below hB1
  clear hB0 bl0 br0 c0 c1 c2
  have s1 : At2 w1 w.heap.size 60 #[.slice X n c, .slice Y m d, .int .i64 x] (w.heap.size + 1) 63 #[.int .i64 a0, .int .i64 a1, .int .i64 a2, .int .i64 a3, .int .i64 a4, .int .i64 a5, .int .i64 a6] := ⟨bl1, br1⟩
  go_upto_region 5 with fail
  go_cut [6] (fun s wx => ∃ gx Ax nx cx Bx mx dx, s = .pointer (some ⟨gx, 0, none⟩) ∧ At wx gx 43 #[.int .i64 tc, .slice Ax nx cx, .slice Bx mx dx, .int .i64 tx] ∧ Ow eS wx w1.heap.size Ax nx cx tl ∧ Ow eH wx w1.heap.size Bx mx dx th ∧ Below w1.heap.size w1 wx)
  case first =>
    refine any_start (fun u => At2 u w.heap.size 60 #[.slice X n c, .slice Y m d, .int .i64 x] (w.heap.size + 1) 63 #[.int .i64 a0, .int .i64 a1, .int .i64 a2, .int .i64 a3, .int .i64 a4, .int .i64 a5, .int .i64 a6]) (by kernel_rfl) s1.drew (fun _ => ?_)
    have bxd := s1.drew
    have hBd := (Below.refl w1.heap.size w1).drew
    have ha1d : _ := ha1.lift ((Below.refl _ _).drew)
    have hb_1d : _ := hb_1.lift ((Below.refl _ _).drew)
    refine any_pure (v := ?_) 0 rfl (by kernel_rfl) (fun _ _ _ _ _ h => h) (by rfl) (fun u hu => ?_) bxd ?_
    rotate_left
    · (obtain ⟨hu1, hu2⟩ := hu; obtain ⟨_, _, _, _, _, _⟩ := At.three hu1; obtain ⟨_, _, _, _, _, _, _⟩ := At.seven hu2)
      go_simp
      (with_reducible rfl)
    (try simp only [Act.put, List.setIfInBounds_toArray, List.set_cons_zero, List.set_cons_succ])
    refine any_pure (v := ?_) 2 rfl (by kernel_rfl) (fun _ _ _ _ _ h => h) (by rfl) (fun u hu => ?_) bxd ?_
    rotate_left
    · (obtain ⟨hu1, hu2⟩ := hu; obtain ⟨_, _, _, _, _, _⟩ := At.three hu1; obtain ⟨_, _, _, _, _, _, _⟩ := At.seven hu2)
      go_simp
      (with_reducible rfl)
    (try simp only [Act.put, List.setIfInBounds_toArray, List.set_cons_zero, List.set_cons_succ])
    refine any_two 1 5 rfl rfl (by kernel_rfl) (by rfl) (by rfl) ?_ ?_
    · go_simp
      refine (toState X Y n c m d l h x _ ha1d hb_1d Hn.out Hm.out hn1 hm1).mono ?_
      rintro e w101 ⟨A101, c101, B101, d101, rfl, os101, oh101, hb101⟩
      have hB101 := hBd.trans (hb101.mono hBd.size)
      have bx101 := bxd.below hb101 bxd.lt
      have ha1_101 := ha1d.lift hb101
      have hb_1_101 := hb_1d.lift hb101
      refine ⟨(fun u => At2 u w.heap.size 60 #[.slice X n c, .slice Y m d, .int .i64 x] (w.heap.size + 1) 63 #[.int .i64 a0, .int .i64 a1, .int .i64 a2, .int .i64 a3, .int .i64 a4, .int .i64 a5, .int .i64 a6]), fun _ h => h, bx101, ?_⟩
      (try simp only [Act.put, List.setIfInBounds_toArray, List.set_cons_zero, List.set_cons_succ])
      refine any_two 3 5 rfl rfl (by kernel_rfl) (by rfl) (by rfl) ?_ ?_
      · go_simp
        refine (toRecord a0 a1 a2 a3 a4 a5 a6 _).mono ?_
        rintro e w102 ⟨rfl, hb102⟩
        have hB102 := hB101.trans (hb102.mono hB101.size)
        have bx102 := bx101.below hb102 bx101.lt
        have os_102 := os101.below hb102 (Nat.le_refl _)
        have oh_102 := oh101.below hb102 (Nat.le_refl _)
        have ha1_102 := ha1_101.lift hb102
        have hb_1_102 := hb_1_101.lift hb102
        refine ⟨(fun u => At2 u w.heap.size 60 #[.slice X n c, .slice Y m d, .int .i64 x] (w.heap.size + 1) 63 #[.int .i64 a0, .int .i64 a1, .int .i64 a2, .int .i64 a3, .int .i64 a4, .int .i64 a5, .int .i64 a6]), fun _ h => h, bx102, ?_⟩
        (try simp only [Act.put, List.setIfInBounds_toArray, List.set_cons_zero, List.set_cons_succ])
        refine any_two 4 5 rfl rfl (by kernel_rfl) (by rfl) (by rfl) ?_ ?_
        · go_simp
          refine (SP A101 B101 c101 d101 _ (os_102.rd okS) (oh_102.rd okH)).mono ?_
          rintro e w103 ⟨A103, n103, c103, B103, m103, d103, rfl, ws103, wh103, hb103⟩
          have hB103 := hB102.trans (hb103.mono hB102.size)
          have bx103 := bx102.below hb103 bx102.lt
          have os_103 := os_102.below hb103 (Nat.le_refl _)
          have oh_103 := oh_102.below hb103 (Nat.le_refl _)
          have ha1_103 := ha1_102.lift hb103
          have hb_1_103 := hb_1_102.lift hb103
          refine ⟨(fun u => At2 u w.heap.size 60 #[.slice X n c, .slice Y m d, .int .i64 x] (w.heap.size + 1) 63 #[.int .i64 a0, .int .i64 a1, .int .i64 a2, .int .i64 a3, .int .i64 a4, .int .i64 a5, .int .i64 a6]), fun _ h => h, bx103, ?_⟩
          (try simp only [Act.put, List.setIfInBounds_toArray, List.set_cons_zero, List.set_cons_succ])
          refine any_one 5 rfl (by kernel_rfl) (by rfl) ?_
          go_simp
          have ag104 := At.newAt' (w := w103) (t := 43) (cs := #[.int .i64 0, .slice none 0 0, .slice none 0 0, .int .i64 0]) (show w103.heap.size = w103.heap.size by first | rfl | simp)
          have gl104 : w1.heap.size ≤ w103.heap.size := by first | exact hB103.size | exact Nat.le_refl _ | (have := hB103.size; simp at this ⊢; try omega)
          have hal104 := (Below.refl w103.heap.size w103).alloc (Nat.le_refl _) (.cells #[.int .i64 0, .slice none 0 0, .slice none 0 0, .int .i64 0] 43)
          have hB104 := hB103.alloc hB103.size (.cells #[.int .i64 0, .slice none 0 0, .slice none 0 0, .int .i64 0] 43)
          have bx104 := bx103.alloc (.cells #[.int .i64 0, .slice none 0 0, .slice none 0 0, .int .i64 0] 43)
          have os_104 := os_103.alloc (.cells #[.int .i64 0, .slice none 0 0, .slice none 0 0, .int .i64 0] 43)
          have oh_104 := oh_103.alloc (.cells #[.int .i64 0, .slice none 0 0, .slice none 0 0, .int .i64 0] 43)
          have ws_104 := ws103.alloc (.cells #[.int .i64 0, .slice none 0 0, .slice none 0 0, .int .i64 0] 43)
          have wh_104 := wh103.alloc (.cells #[.int .i64 0, .slice none 0 0, .slice none 0 0, .int .i64 0] 43)
          have ha1_104 := ha1_103.lift hal104
          have hb_1_104 := hb_1_103.lift hal104
          refine ⟨(fun u => At2 u w.heap.size 60 #[.slice X n c, .slice Y m d, .int .i64 x] (w.heap.size + 1) 63 #[.int .i64 a0, .int .i64 a1, .int .i64 a2, .int .i64 a3, .int .i64 a4, .int .i64 a5, .int .i64 a6]), fun _ h => h, bx104, ?_⟩
          (try simp only [Act.put, List.setIfInBounds_toArray, List.set_cons_zero, List.set_cons_succ])
          refine any_one 6 rfl (by kernel_rfl) (by rfl) ?_
          go_simp
          have AG105 := At.newAt' (w := w103) (t := 43) (cs := #[.int .i64 tc, .slice A103 n103 c103, .slice B103 m103 d103, .int .i64 tx]) (show w103.heap.size = w103.heap.size by first | rfl | simp)
          have hal105 := (Below.refl w103.heap.size w103).alloc (Nat.le_refl _) (.cells #[.int .i64 tc, .slice A103 n103 c103, .slice B103 m103 d103, .int .i64 tx] 43)
          have hB105 := hB103.alloc hB103.size (.cells #[.int .i64 tc, .slice A103 n103 c103, .slice B103 m103 d103, .int .i64 tx] 43)
          have bx105 := bx103.alloc (.cells #[.int .i64 tc, .slice A103 n103 c103, .slice B103 m103 d103, .int .i64 tx] 43)
          have os_105 := os_103.alloc (.cells #[.int .i64 tc, .slice A103 n103 c103, .slice B103 m103 d103, .int .i64 tx] 43)
          have oh_105 := oh_103.alloc (.cells #[.int .i64 tc, .slice A103 n103 c103, .slice B103 m103 d103, .int .i64 tx] 43)
          have ws_105 := ws103.alloc (.cells #[.int .i64 tc, .slice A103 n103 c103, .slice B103 m103 d103, .int .i64 tx] 43)
          have wh_105 := wh103.alloc (.cells #[.int .i64 tc, .slice A103 n103 c103, .slice B103 m103 d103, .int .i64 tx] 43)
          have ha1_105 := ha1_103.lift hal105
          have hb_1_105 := hb_1_103.lift hal105
          refine ⟨(fun u => At2 u w.heap.size 60 #[.slice X n c, .slice Y m d, .int .i64 x] (w.heap.size + 1) 63 #[.int .i64 a0, .int .i64 a1, .int .i64 a2, .int .i64 a3, .int .i64 a4, .int .i64 a5, .int .i64 a6]), fun _ h => h, bx105, ?_⟩
          (try simp only [Act.put, List.setIfInBounds_toArray, List.set_cons_zero, List.set_cons_succ])
          refine any_done (by kernel_rfl) ?_
          go_wp2
          go_meet
          exact ⟨_, _, _, _, _, _, _, rfl, AG105, ws_105.from_ hB102.size, wh_105.from_ hB102.size, hB105⟩
        · go_simp
          have ag106 := At.newAt' (w := w102) (t := 43) (cs := #[.int .i64 0, .slice none 0 0, .slice none 0 0, .int .i64 0]) (show w102.heap.size = w102.heap.size by first | rfl | simp)
          have gl106 : w1.heap.size ≤ w102.heap.size := by first | exact hB102.size | exact Nat.le_refl _ | (have := hB102.size; simp at this ⊢; try omega)
          have hal106 := (Below.refl w102.heap.size w102).alloc (Nat.le_refl _) (.cells #[.int .i64 0, .slice none 0 0, .slice none 0 0, .int .i64 0] 43)
          have hB106 := hB102.alloc hB102.size (.cells #[.int .i64 0, .slice none 0 0, .slice none 0 0, .int .i64 0] 43)
          have bx106 := bx102.alloc (.cells #[.int .i64 0, .slice none 0 0, .slice none 0 0, .int .i64 0] 43)
          have os_106 := os_102.alloc (.cells #[.int .i64 0, .slice none 0 0, .slice none 0 0, .int .i64 0] 43)
          have oh_106 := oh_102.alloc (.cells #[.int .i64 0, .slice none 0 0, .slice none 0 0, .int .i64 0] 43)
          have ha1_106 := ha1_102.lift hal106
          have hb_1_106 := hb_1_102.lift hal106
          refine ⟨(fun u => At2 u w.heap.size 60 #[.slice X n c, .slice Y m d, .int .i64 x] (w.heap.size + 1) 63 #[.int .i64 a0, .int .i64 a1, .int .i64 a2, .int .i64 a3, .int .i64 a4, .int .i64 a5, .int .i64 a6]), fun _ h => h, bx106, ?_⟩
          (try simp only [Act.put, List.setIfInBounds_toArray, List.set_cons_zero, List.set_cons_succ])
          refine any_one 4 rfl (by kernel_rfl) (by rfl) ?_
          go_simp
          refine (SP A101 B101 c101 d101 _ (os_106.rd okS) (oh_106.rd okH)).mono ?_
          rintro e w107 ⟨A107, n107, c107, B107, m107, d107, rfl, ws107, wh107, hb107⟩
          have hB107 := hB106.trans (hb107.mono hB106.size)
          have bx107 := bx106.below hb107 bx106.lt
          have ag_107 := ag106.below hb107 ag106.lt
          have os_107 := os_106.below hb107 (Nat.le_refl _)
          have oh_107 := oh_106.below hb107 (Nat.le_refl _)
          have ha1_107 := ha1_106.lift hb107
          have hb_1_107 := hb_1_106.lift hb107
          refine ⟨(fun u => At2 u w.heap.size 60 #[.slice X n c, .slice Y m d, .int .i64 x] (w.heap.size + 1) 63 #[.int .i64 a0, .int .i64 a1, .int .i64 a2, .int .i64 a3, .int .i64 a4, .int .i64 a5, .int .i64 a6]), fun _ h => h, bx107, ?_⟩
          (try simp only [Act.put, List.setIfInBounds_toArray, List.set_cons_zero, List.set_cons_succ])
          refine any_one 6 rfl (by kernel_rfl) (by rfl) ?_
          obtain ⟨k0, k1, k2, k3, k4, k5, k6, k7⟩ := ag_107.four
          go_simp
          have hltg108 : w102.heap.size < w107.heap.size := ag_107.lt
          have AG108 : At ((((w107.setCell ⟨w102.heap.size, 0, none⟩ (.int .i64 tc)).setCell ⟨w102.heap.size, 1, none⟩ (.slice A107 n107 c107)).setCell ⟨w102.heap.size, 2, none⟩ (.slice B107 m107 d107)).setCell ⟨w102.heap.size, 3, none⟩ (.int .i64 tx)) w102.heap.size 43 #[.int .i64 tc, .slice A107 n107 c107, .slice B107 m107 d107, .int .i64 tx] := ((((ag_107.set 0 (.int .i64 tc)).set 1 (.slice A107 n107 c107)).set 2 (.slice B107 m107 d107)).set 3 (.int .i64 tx))
          have bx108 := ((((bx107.far (p := ⟨w102.heap.size, 0, none⟩) (by show w.heap.size ≠ w102.heap.size ∧ w.heap.size + 1 ≠ w102.heap.size; have := gl106; omega) (.int .i64 tc)).far (p := ⟨w102.heap.size, 1, none⟩) (by show w.heap.size ≠ w102.heap.size ∧ w.heap.size + 1 ≠ w102.heap.size; have := gl106; omega) (.slice A107 n107 c107)).far (p := ⟨w102.heap.size, 2, none⟩) (by show w.heap.size ≠ w102.heap.size ∧ w.heap.size + 1 ≠ w102.heap.size; have := gl106; omega) (.slice B107 m107 d107)).far (p := ⟨w102.heap.size, 3, none⟩) (by show w.heap.size ≠ w102.heap.size ∧ w.heap.size + 1 ≠ w102.heap.size; have := gl106; omega) (.int .i64 tx))
          have hB108 := ((((hB107.setCell (p := ⟨w102.heap.size, 0, none⟩) gl106 (.int .i64 tc)).setCell (p := ⟨w102.heap.size, 1, none⟩) gl106 (.slice A107 n107 c107)).setCell (p := ⟨w102.heap.size, 2, none⟩) gl106 (.slice B107 m107 d107)).setCell (p := ⟨w102.heap.size, 3, none⟩) gl106 (.int .i64 tx))
          have ws_108 := ws107
          have ws_108 := ws_108.apart (by decide) ag_107 0 (.int .i64 tc)
          have ws_108 := ws_108.apart (by decide) ((ag_107.set 0 (.int .i64 tc))) 1 (.slice A107 n107 c107)
          have ws_108 := ws_108.apart (by decide) (((ag_107.set 0 (.int .i64 tc)).set 1 (.slice A107 n107 c107))) 2 (.slice B107 m107 d107)
          have ws_108 := ws_108.apart (by decide) ((((ag_107.set 0 (.int .i64 tc)).set 1 (.slice A107 n107 c107)).set 2 (.slice B107 m107 d107))) 3 (.int .i64 tx)
          have wh_108 := wh107
          have wh_108 := wh_108.apart (by decide) ag_107 0 (.int .i64 tc)
          have wh_108 := wh_108.apart (by decide) ((ag_107.set 0 (.int .i64 tc))) 1 (.slice A107 n107 c107)
          have wh_108 := wh_108.apart (by decide) (((ag_107.set 0 (.int .i64 tc)).set 1 (.slice A107 n107 c107))) 2 (.slice B107 m107 d107)
          have wh_108 := wh_108.apart (by decide) ((((ag_107.set 0 (.int .i64 tc)).set 1 (.slice A107 n107 c107)).set 2 (.slice B107 m107 d107))) 3 (.int .i64 tx)
          refine ⟨(fun u => At2 u w.heap.size 60 #[.slice X n c, .slice Y m d, .int .i64 x] (w.heap.size + 1) 63 #[.int .i64 a0, .int .i64 a1, .int .i64 a2, .int .i64 a3, .int .i64 a4, .int .i64 a5, .int .i64 a6]), fun _ h => h, bx108, ?_⟩
          (try simp only [Act.put, List.setIfInBounds_toArray, List.set_cons_zero, List.set_cons_succ])
          refine any_done (by kernel_rfl) ?_
          go_wp2
          go_meet
          exact ⟨_, _, _, _, _, _, _, rfl, AG108, ws_108.from_ hB106.size, wh_108.from_ hB106.size, hB108⟩
      · go_simp
        have ag109 := At.newAt' (w := w101) (t := 43) (cs := #[.int .i64 0, .slice none 0 0, .slice none 0 0, .int .i64 0]) (show w101.heap.size = w101.heap.size by first | rfl | simp)
        have gl109 : w1.heap.size ≤ w101.heap.size := by first | exact hB101.size | exact Nat.le_refl _ | (have := hB101.size; simp at this ⊢; try omega)
        have hal109 := (Below.refl w101.heap.size w101).alloc (Nat.le_refl _) (.cells #[.int .i64 0, .slice none 0 0, .slice none 0 0, .int .i64 0] 43)
        have hB109 := hB101.alloc hB101.size (.cells #[.int .i64 0, .slice none 0 0, .slice none 0 0, .int .i64 0] 43)
        have bx109 := bx101.alloc (.cells #[.int .i64 0, .slice none 0 0, .slice none 0 0, .int .i64 0] 43)
        have os_109 := os101.alloc (.cells #[.int .i64 0, .slice none 0 0, .slice none 0 0, .int .i64 0] 43)
        have oh_109 := oh101.alloc (.cells #[.int .i64 0, .slice none 0 0, .slice none 0 0, .int .i64 0] 43)
        have ha1_109 := ha1_101.lift hal109
        have hb_1_109 := hb_1_101.lift hal109
        refine ⟨(fun u => At2 u w.heap.size 60 #[.slice X n c, .slice Y m d, .int .i64 x] (w.heap.size + 1) 63 #[.int .i64 a0, .int .i64 a1, .int .i64 a2, .int .i64 a3, .int .i64 a4, .int .i64 a5, .int .i64 a6]), fun _ h => h, bx109, ?_⟩
        (try simp only [Act.put, List.setIfInBounds_toArray, List.set_cons_zero, List.set_cons_succ])
        refine any_one 3 rfl (by kernel_rfl) (by rfl) ?_
        go_simp
        refine (toRecord a0 a1 a2 a3 a4 a5 a6 _).mono ?_
        rintro e w110 ⟨rfl, hb110⟩
        have hB110 := hB109.trans (hb110.mono hB109.size)
        have bx110 := bx109.below hb110 bx109.lt
        have ag_110 := ag109.below hb110 ag109.lt
        have os_110 := os_109.below hb110 (Nat.le_refl _)
        have oh_110 := oh_109.below hb110 (Nat.le_refl _)
        have ha1_110 := ha1_109.lift hb110
        have hb_1_110 := hb_1_109.lift hb110
        refine ⟨(fun u => At2 u w.heap.size 60 #[.slice X n c, .slice Y m d, .int .i64 x] (w.heap.size + 1) 63 #[.int .i64 a0, .int .i64 a1, .int .i64 a2, .int .i64 a3, .int .i64 a4, .int .i64 a5, .int .i64 a6]), fun _ h => h, bx110, ?_⟩
        (try simp only [Act.put, List.setIfInBounds_toArray, List.set_cons_zero, List.set_cons_succ])
        refine any_one 4 rfl (by kernel_rfl) (by rfl) ?_
        go_simp
        refine (SP A101 B101 c101 d101 _ (os_110.rd okS) (oh_110.rd okH)).mono ?_
        rintro e w111 ⟨A111, n111, c111, B111, m111, d111, rfl, ws111, wh111, hb111⟩
        have hB111 := hB110.trans (hb111.mono hB110.size)
        have bx111 := bx110.below hb111 bx110.lt
        have ag_111 := ag_110.below hb111 ag_110.lt
        have os_111 := os_110.below hb111 (Nat.le_refl _)
        have oh_111 := oh_110.below hb111 (Nat.le_refl _)
        have ha1_111 := ha1_110.lift hb111
        have hb_1_111 := hb_1_110.lift hb111
        refine ⟨(fun u => At2 u w.heap.size 60 #[.slice X n c, .slice Y m d, .int .i64 x] (w.heap.size + 1) 63 #[.int .i64 a0, .int .i64 a1, .int .i64 a2, .int .i64 a3, .int .i64 a4, .int .i64 a5, .int .i64 a6]), fun _ h => h, bx111, ?_⟩
        (try simp only [Act.put, List.setIfInBounds_toArray, List.set_cons_zero, List.set_cons_succ])
        refine any_one 6 rfl (by kernel_rfl) (by rfl) ?_
        obtain ⟨k0, k1, k2, k3, k4, k5, k6, k7⟩ := ag_111.four
        go_simp
        have hltg112 : w101.heap.size < w111.heap.size := ag_111.lt
        have AG112 : At ((((w111.setCell ⟨w101.heap.size, 0, none⟩ (.int .i64 tc)).setCell ⟨w101.heap.size, 1, none⟩ (.slice A111 n111 c111)).setCell ⟨w101.heap.size, 2, none⟩ (.slice B111 m111 d111)).setCell ⟨w101.heap.size, 3, none⟩ (.int .i64 tx)) w101.heap.size 43 #[.int .i64 tc, .slice A111 n111 c111, .slice B111 m111 d111, .int .i64 tx] := ((((ag_111.set 0 (.int .i64 tc)).set 1 (.slice A111 n111 c111)).set 2 (.slice B111 m111 d111)).set 3 (.int .i64 tx))
        have bx112 := ((((bx111.far (p := ⟨w101.heap.size, 0, none⟩) (by show w.heap.size ≠ w101.heap.size ∧ w.heap.size + 1 ≠ w101.heap.size; have := gl109; omega) (.int .i64 tc)).far (p := ⟨w101.heap.size, 1, none⟩) (by show w.heap.size ≠ w101.heap.size ∧ w.heap.size + 1 ≠ w101.heap.size; have := gl109; omega) (.slice A111 n111 c111)).far (p := ⟨w101.heap.size, 2, none⟩) (by show w.heap.size ≠ w101.heap.size ∧ w.heap.size + 1 ≠ w101.heap.size; have := gl109; omega) (.slice B111 m111 d111)).far (p := ⟨w101.heap.size, 3, none⟩) (by show w.heap.size ≠ w101.heap.size ∧ w.heap.size + 1 ≠ w101.heap.size; have := gl109; omega) (.int .i64 tx))
        have hB112 := ((((hB111.setCell (p := ⟨w101.heap.size, 0, none⟩) gl109 (.int .i64 tc)).setCell (p := ⟨w101.heap.size, 1, none⟩) gl109 (.slice A111 n111 c111)).setCell (p := ⟨w101.heap.size, 2, none⟩) gl109 (.slice B111 m111 d111)).setCell (p := ⟨w101.heap.size, 3, none⟩) gl109 (.int .i64 tx))
        have ws_112 := ws111
        have ws_112 := ws_112.apart (by decide) ag_111 0 (.int .i64 tc)
        have ws_112 := ws_112.apart (by decide) ((ag_111.set 0 (.int .i64 tc))) 1 (.slice A111 n111 c111)
        have ws_112 := ws_112.apart (by decide) (((ag_111.set 0 (.int .i64 tc)).set 1 (.slice A111 n111 c111))) 2 (.slice B111 m111 d111)
        have ws_112 := ws_112.apart (by decide) ((((ag_111.set 0 (.int .i64 tc)).set 1 (.slice A111 n111 c111)).set 2 (.slice B111 m111 d111))) 3 (.int .i64 tx)
        have wh_112 := wh111
        have wh_112 := wh_112.apart (by decide) ag_111 0 (.int .i64 tc)
        have wh_112 := wh_112.apart (by decide) ((ag_111.set 0 (.int .i64 tc))) 1 (.slice A111 n111 c111)
        have wh_112 := wh_112.apart (by decide) (((ag_111.set 0 (.int .i64 tc)).set 1 (.slice A111 n111 c111))) 2 (.slice B111 m111 d111)
        have wh_112 := wh_112.apart (by decide) ((((ag_111.set 0 (.int .i64 tc)).set 1 (.slice A111 n111 c111)).set 2 (.slice B111 m111 d111))) 3 (.int .i64 tx)
        refine ⟨(fun u => At2 u w.heap.size 60 #[.slice X n c, .slice Y m d, .int .i64 x] (w.heap.size + 1) 63 #[.int .i64 a0, .int .i64 a1, .int .i64 a2, .int .i64 a3, .int .i64 a4, .int .i64 a5, .int .i64 a6]), fun _ h => h, bx112, ?_⟩
        (try simp only [Act.put, List.setIfInBounds_toArray, List.set_cons_zero, List.set_cons_succ])
        refine any_done (by kernel_rfl) ?_
        go_wp2
        go_meet
        exact ⟨_, _, _, _, _, _, _, rfl, AG112, ws_112.from_ hB110.size, wh_112.from_ hB110.size, hB112⟩
    · go_simp
      have ag113 := At.newAt' (w := w1.drew) (t := 43) (cs := #[.int .i64 0, .slice none 0 0, .slice none 0 0, .int .i64 0]) (show w1.drew.heap.size = w1.heap.size by first | rfl | simp)
      have gl113 : w1.heap.size ≤ w1.heap.size := by first | exact hBd.size | exact Nat.le_refl _ | (have := hBd.size; simp at this ⊢; try omega)
      have hal113 := (Below.refl w1.drew.heap.size w1.drew).alloc (Nat.le_refl _) (.cells #[.int .i64 0, .slice none 0 0, .slice none 0 0, .int .i64 0] 43)
      have hB113 := hBd.alloc hBd.size (.cells #[.int .i64 0, .slice none 0 0, .slice none 0 0, .int .i64 0] 43)
      have bx113 := bxd.alloc (.cells #[.int .i64 0, .slice none 0 0, .slice none 0 0, .int .i64 0] 43)
      have ha1_113 := ha1d.lift hal113
      have hb_1_113 := hb_1d.lift hal113
      refine ⟨(fun u => At2 u w.heap.size 60 #[.slice X n c, .slice Y m d, .int .i64 x] (w.heap.size + 1) 63 #[.int .i64 a0, .int .i64 a1, .int .i64 a2, .int .i64 a3, .int .i64 a4, .int .i64 a5, .int .i64 a6]), fun _ h => h, bx113, ?_⟩
      (try simp only [Act.put, List.setIfInBounds_toArray, List.set_cons_zero, List.set_cons_succ])
      refine any_one 1 rfl (by kernel_rfl) (by rfl) ?_
      go_simp
      refine (toState X Y n c m d l h x _ ha1_113 hb_1_113 Hn.out Hm.out hn1 hm1).mono ?_
      rintro e w114 ⟨A114, c114, B114, d114, rfl, os114, oh114, hb114⟩
      have hB114 := hB113.trans (hb114.mono hB113.size)
      have bx114 := bx113.below hb114 bx113.lt
      have ag_114 := ag113.below hb114 ag113.lt
      have ha1_114 := ha1_113.lift hb114
      have hb_1_114 := hb_1_113.lift hb114
      refine ⟨(fun u => At2 u w.heap.size 60 #[.slice X n c, .slice Y m d, .int .i64 x] (w.heap.size + 1) 63 #[.int .i64 a0, .int .i64 a1, .int .i64 a2, .int .i64 a3, .int .i64 a4, .int .i64 a5, .int .i64 a6]), fun _ h => h, bx114, ?_⟩
      (try simp only [Act.put, List.setIfInBounds_toArray, List.set_cons_zero, List.set_cons_succ])
      refine any_one 3 rfl (by kernel_rfl) (by rfl) ?_
      go_simp
      refine (toRecord a0 a1 a2 a3 a4 a5 a6 _).mono ?_
      rintro e w115 ⟨rfl, hb115⟩
      have hB115 := hB114.trans (hb115.mono hB114.size)
      have bx115 := bx114.below hb115 bx114.lt
      have ag_115 := ag_114.below hb115 ag_114.lt
      have os_115 := os114.below hb115 (Nat.le_refl _)
      have oh_115 := oh114.below hb115 (Nat.le_refl _)
      have ha1_115 := ha1_114.lift hb115
      have hb_1_115 := hb_1_114.lift hb115
      refine ⟨(fun u => At2 u w.heap.size 60 #[.slice X n c, .slice Y m d, .int .i64 x] (w.heap.size + 1) 63 #[.int .i64 a0, .int .i64 a1, .int .i64 a2, .int .i64 a3, .int .i64 a4, .int .i64 a5, .int .i64 a6]), fun _ h => h, bx115, ?_⟩
      (try simp only [Act.put, List.setIfInBounds_toArray, List.set_cons_zero, List.set_cons_succ])
      refine any_one 4 rfl (by kernel_rfl) (by rfl) ?_
      go_simp
      refine (SP A114 B114 c114 d114 _ (os_115.rd okS) (oh_115.rd okH)).mono ?_
      rintro e w116 ⟨A116, n116, c116, B116, m116, d116, rfl, ws116, wh116, hb116⟩
      have hB116 := hB115.trans (hb116.mono hB115.size)
      have bx116 := bx115.below hb116 bx115.lt
      have ag_116 := ag_115.below hb116 ag_115.lt
      have os_116 := os_115.below hb116 (Nat.le_refl _)
      have oh_116 := oh_115.below hb116 (Nat.le_refl _)
      have ha1_116 := ha1_115.lift hb116
      have hb_1_116 := hb_1_115.lift hb116
      refine ⟨(fun u => At2 u w.heap.size 60 #[.slice X n c, .slice Y m d, .int .i64 x] (w.heap.size + 1) 63 #[.int .i64 a0, .int .i64 a1, .int .i64 a2, .int .i64 a3, .int .i64 a4, .int .i64 a5, .int .i64 a6]), fun _ h => h, bx116, ?_⟩
      (try simp only [Act.put, List.setIfInBounds_toArray, List.set_cons_zero, List.set_cons_succ])
      refine any_one 6 rfl (by kernel_rfl) (by rfl) ?_
      obtain ⟨k0, k1, k2, k3, k4, k5, k6, k7⟩ := ag_116.four
      go_simp
      have hltg117 : w1.heap.size < w116.heap.size := ag_116.lt
      have AG117 : At ((((w116.setCell ⟨w1.heap.size, 0, none⟩ (.int .i64 tc)).setCell ⟨w1.heap.size, 1, none⟩ (.slice A116 n116 c116)).setCell ⟨w1.heap.size, 2, none⟩ (.slice B116 m116 d116)).setCell ⟨w1.heap.size, 3, none⟩ (.int .i64 tx)) w1.heap.size 43 #[.int .i64 tc, .slice A116 n116 c116, .slice B116 m116 d116, .int .i64 tx] := ((((ag_116.set 0 (.int .i64 tc)).set 1 (.slice A116 n116 c116)).set 2 (.slice B116 m116 d116)).set 3 (.int .i64 tx))
      have bx117 := ((((bx116.far (p := ⟨w1.heap.size, 0, none⟩) (by show w.heap.size ≠ w1.heap.size ∧ w.heap.size + 1 ≠ w1.heap.size; have := gl113; omega) (.int .i64 tc)).far (p := ⟨w1.heap.size, 1, none⟩) (by show w.heap.size ≠ w1.heap.size ∧ w.heap.size + 1 ≠ w1.heap.size; have := gl113; omega) (.slice A116 n116 c116)).far (p := ⟨w1.heap.size, 2, none⟩) (by show w.heap.size ≠ w1.heap.size ∧ w.heap.size + 1 ≠ w1.heap.size; have := gl113; omega) (.slice B116 m116 d116)).far (p := ⟨w1.heap.size, 3, none⟩) (by show w.heap.size ≠ w1.heap.size ∧ w.heap.size + 1 ≠ w1.heap.size; have := gl113; omega) (.int .i64 tx))
      have hB117 := ((((hB116.setCell (p := ⟨w1.heap.size, 0, none⟩) gl113 (.int .i64 tc)).setCell (p := ⟨w1.heap.size, 1, none⟩) gl113 (.slice A116 n116 c116)).setCell (p := ⟨w1.heap.size, 2, none⟩) gl113 (.slice B116 m116 d116)).setCell (p := ⟨w1.heap.size, 3, none⟩) gl113 (.int .i64 tx))
      have ws_117 := ws116
      have ws_117 := ws_117.apart (by decide) ag_116 0 (.int .i64 tc)
      have ws_117 := ws_117.apart (by decide) ((ag_116.set 0 (.int .i64 tc))) 1 (.slice A116 n116 c116)
      have ws_117 := ws_117.apart (by decide) (((ag_116.set 0 (.int .i64 tc)).set 1 (.slice A116 n116 c116))) 2 (.slice B116 m116 d116)
      have ws_117 := ws_117.apart (by decide) ((((ag_116.set 0 (.int .i64 tc)).set 1 (.slice A116 n116 c116)).set 2 (.slice B116 m116 d116))) 3 (.int .i64 tx)
      have wh_117 := wh116
      have wh_117 := wh_117.apart (by decide) ag_116 0 (.int .i64 tc)
      have wh_117 := wh_117.apart (by decide) ((ag_116.set 0 (.int .i64 tc))) 1 (.slice A116 n116 c116)
      have wh_117 := wh_117.apart (by decide) (((ag_116.set 0 (.int .i64 tc)).set 1 (.slice A116 n116 c116))) 2 (.slice B116 m116 d116)
      have wh_117 := wh_117.apart (by decide) ((((ag_116.set 0 (.int .i64 tc)).set 1 (.slice A116 n116 c116)).set 2 (.slice B116 m116 d116))) 3 (.int .i64 tx)
      refine ⟨(fun u => At2 u w.heap.size 60 #[.slice X n c, .slice Y m d, .int .i64 x] (w.heap.size + 1) 63 #[.int .i64 a0, .int .i64 a1, .int .i64 a2, .int .i64 a3, .int .i64 a4, .int .i64 a5, .int .i64 a6]), fun _ h => h, bx117, ?_⟩
      (try simp only [Act.put, List.setIfInBounds_toArray, List.set_cons_zero, List.set_cons_succ])
      refine any_done (by kernel_rfl) ?_
      go_wp2
      go_meet
      exact ⟨_, _, _, _, _, _, _, rfl, AG117, ws_117.from_ hB115.size, wh_117.from_ hB115.size, hB117⟩
  case rest =>
    obtain ⟨gw, Aw, nw, cw, Bw, mw, dw, rfl, AW, ws, wh, HB2⟩ := hcut
    rename World => wA
    have hB2 := hB1.trans (HB2.mono hB1.size)
    have bl2 := bl1.below HB2 bl1.lt
    have br2 := br1.below HB2 br1.lt
    have SA := Lib.hid HB2.size
    have SB := Lib.hid AW.lt
    have SC := Lib.hid bl2.lt
    have SD := Lib.hid br2.lt
    have SE := Lib.hid hB1.size
    have hlw1 := ws.len okS
    have hlw2 := wh.len okH
    have hnw : nw ≤ 160 := by have := Hle1.out; omega
    have hmw : mw ≤ 8 := by have := Hle2.out; omega
    have ha_2 := ha.lift hB2
    have hb_2 := hb.lift hB2
    obtain ⟨bl0_2, bl1_2, bl2_2, _, _, _⟩ := bl2.three
    obtain ⟨br0_2, br1_2, br2_2, br3_2, br4_2, br5_2, br6_2⟩ := br2.seven
    obtain ⟨aw0_2, aw1_2, aw2_2, aw3_2, _, _, _, _⟩ := AW.four
    go_wp2_with fail
    refine (toState X Y n c m d l h x _ ha_2 hb_2 Hn.out Hm.out hn1 hm1).mono ?_
    rintro e w3 ⟨Ax, cx, Bx, dx, rfl, xs, xh, hb3⟩
    have bl_3 := bl2.below hb3 bl2.lt
    have br_3 := br2.below hb3 br2.lt
    have aw_3 := AW.below hb3 AW.lt
    have ws_3 := ws.below hb3 (Nat.le_refl _)
    have wh_3 := wh.below hb3 (Nat.le_refl _)
    have S3 := Lib.hid hb3.size
    have hB3 := hB2.trans (hb3.mono hB2.size)
    have bx := At.new w3 39 #[.slice Ax n cx, .slice Bx m dx, .int .i64 x]
    have bl_4 := bl_3.alloc (.cells #[.slice Ax n cx, .slice Bx m dx, .int .i64 x] 39)
    have br_4 := br_3.alloc (.cells #[.slice Ax n cx, .slice Bx m dx, .int .i64 x] 39)
    have aw_4 := aw_3.alloc (.cells #[.slice Ax n cx, .slice Bx m dx, .int .i64 x] 39)
    have ws_4 := ws_3.alloc (.cells #[.slice Ax n cx, .slice Bx m dx, .int .i64 x] 39)
    have wh_4 := wh_3.alloc (.cells #[.slice Ax n cx, .slice Bx m dx, .int .i64 x] 39)
    have xs_4 := xs.alloc (.cells #[.slice Ax n cx, .slice Bx m dx, .int .i64 x] 39)
    have xh_4 := xh.alloc (.cells #[.slice Ax n cx, .slice Bx m dx, .int .i64 x] 39)
    have S4 := Lib.hid (show (w3.alloc (.cells #[.slice Ax n cx, .slice Bx m dx, .int .i64 x] 39)).heap.size = w3.heap.size + 1 by simp)
    have hB4 := hB3.alloc hB3.size (.cells #[.slice Ax n cx, .slice Bx m dx, .int .i64 x] 39)
    generalize hwB : (w3.alloc (.cells #[.slice Ax n cx, .slice Bx m dx, .int .i64 x] 39)) = wB at *
    have s7 : At2 wB w3.heap.size 39 #[.slice Ax n cx, .slice Bx m dx, .int .i64 x] (w.heap.size + 1) 63 #[.int .i64 a0, .int .i64 a1, .int .i64 a2, .int .i64 a3, .int .i64 a4, .int .i64 a5, .int .i64 a6] := ⟨bx, br_4⟩
    have lx7 := s7.lt
    have rs7 := xs_4.rd okS
    have rh7 := xh_4.rd okH
    have hF7 := hF.below hB4
    go_upto_region 7 with fail
    go_cut [8] (fun s wx => ∃ gx Ax nx cx Bx mx dx, s = .pointer (some ⟨gx, 0, none⟩) ∧ At wx gx 43 #[.int .i64 tc, .slice Ax nx cx, .slice Bx mx dx, .int .i64 tx] ∧ Ow eS wx wB.heap.size Ax nx cx tl ∧ Ow eH wx wB.heap.size Bx mx dx th ∧ Below wB.heap.size wB wx)
    case first =>
      refine any_start (fun u => At2 u w3.heap.size 39 #[.slice Ax n cx, .slice Bx m dx, .int .i64 x] (w.heap.size + 1) 63 #[.int .i64 a0, .int .i64 a1, .int .i64 a2, .int .i64 a3, .int .i64 a4, .int .i64 a5, .int .i64 a6]) (by kernel_rfl) s7.drew (fun _ => ?_)
      have bxd := s7.drew
      have hBd := (Below.refl wB.heap.size wB).drew
      have rs7d : _ := rs7.lift ((Below.refl _ _).drew)
      have rh7d : _ := rh7.lift ((Below.refl _ _).drew)
      have hF7d := hF7.below ((Below.refl _ _).drew)
      refine any_pure (v := ?_) 0 rfl (by kernel_rfl) (fun _ _ _ _ _ h => h) (by rfl) (fun u hu => ?_) bxd ?_
      rotate_left
      · (obtain ⟨hu1, hu2⟩ := hu; obtain ⟨_, _, _, _, _, _⟩ := At.three hu1; obtain ⟨_, _, _, _, _, _, _⟩ := At.seven hu2)
        go_simp
        (with_reducible rfl)
      (try simp only [Act.put, List.setIfInBounds_toArray, List.set_cons_zero, List.set_cons_succ])
      refine any_pure (v := ?_) 1 rfl (by kernel_rfl) (fun _ _ _ _ _ h => h) (by rfl) (fun u hu => ?_) bxd ?_
      rotate_left
      · (obtain ⟨hu1, hu2⟩ := hu; obtain ⟨_, _, _, _, _, _⟩ := At.three hu1; obtain ⟨_, _, _, _, _, _, _⟩ := At.seven hu2)
        go_simp
        (with_reducible rfl)
      (try simp only [Act.put, List.setIfInBounds_toArray, List.set_cons_zero, List.set_cons_succ])
      refine any_two 2 4 rfl rfl (by kernel_rfl) (by rfl) (by rfl) ?_ ?_
      · go_simp
        refine (toRecord a0 a1 a2 a3 a4 a5 a6 _).mono ?_
        rintro e w201 ⟨rfl, hb201⟩
        have hB201 := hBd.trans (hb201.mono hBd.size)
        have bx201 := bxd.below hb201 bxd.lt
        have rs7_201 := rs7d.lift hb201
        have rh7_201 := rh7d.lift hb201
        have hF7_201 := hF7d.below hb201
        refine ⟨(fun u => At2 u w3.heap.size 39 #[.slice Ax n cx, .slice Bx m dx, .int .i64 x] (w.heap.size + 1) 63 #[.int .i64 a0, .int .i64 a1, .int .i64 a2, .int .i64 a3, .int .i64 a4, .int .i64 a5, .int .i64 a6]), fun _ h => h, bx201, ?_⟩
        (try simp only [Act.put, List.setIfInBounds_toArray, List.set_cons_zero, List.set_cons_succ])
        refine any_two 3 4 rfl rfl (by kernel_rfl) (by rfl) (by rfl) ?_ ?_
        · go_simp
          refine (IP Ax Bx cx dx _ rs7_201 rh7_201 hF7_201).mono ?_
          rintro e w202 ⟨A202, n202, c202, B202, m202, d202, rfl, ws202, wh202, hb202⟩
          have hB202 := hB201.trans (hb202.mono hB201.size)
          have bx202 := bx201.below hb202 bx201.lt
          have rs7_202 := rs7_201.lift hb202
          have rh7_202 := rh7_201.lift hb202
          have hF7_202 := hF7_201.below hb202
          refine ⟨(fun u => At2 u w3.heap.size 39 #[.slice Ax n cx, .slice Bx m dx, .int .i64 x] (w.heap.size + 1) 63 #[.int .i64 a0, .int .i64 a1, .int .i64 a2, .int .i64 a3, .int .i64 a4, .int .i64 a5, .int .i64 a6]), fun _ h => h, bx202, ?_⟩
          (try simp only [Act.put, List.setIfInBounds_toArray, List.set_cons_zero, List.set_cons_succ])
          refine any_one 4 rfl (by kernel_rfl) (by rfl) ?_
          go_simp
          have ag203 := At.newAt' (w := w202) (t := 43) (cs := #[.int .i64 0, .slice none 0 0, .slice none 0 0, .int .i64 0]) (show w202.heap.size = w202.heap.size by first | rfl | simp)
          have gl203 : wB.heap.size ≤ w202.heap.size := by first | exact hB202.size | exact Nat.le_refl _ | (have := hB202.size; simp at this ⊢; try omega)
          have hal203 := (Below.refl w202.heap.size w202).alloc (Nat.le_refl _) (.cells #[.int .i64 0, .slice none 0 0, .slice none 0 0, .int .i64 0] 43)
          have hB203 := hB202.alloc hB202.size (.cells #[.int .i64 0, .slice none 0 0, .slice none 0 0, .int .i64 0] 43)
          have bx203 := bx202.alloc (.cells #[.int .i64 0, .slice none 0 0, .slice none 0 0, .int .i64 0] 43)
          have ws_203 := ws202.alloc (.cells #[.int .i64 0, .slice none 0 0, .slice none 0 0, .int .i64 0] 43)
          have wh_203 := wh202.alloc (.cells #[.int .i64 0, .slice none 0 0, .slice none 0 0, .int .i64 0] 43)
          have rs7_203 := rs7_202.lift hal203
          have rh7_203 := rh7_202.lift hal203
          have hF7_203 := hF7_202.below hal203
          refine ⟨(fun u => At2 u w3.heap.size 39 #[.slice Ax n cx, .slice Bx m dx, .int .i64 x] (w.heap.size + 1) 63 #[.int .i64 a0, .int .i64 a1, .int .i64 a2, .int .i64 a3, .int .i64 a4, .int .i64 a5, .int .i64 a6]), fun _ h => h, bx203, ?_⟩
          (try simp only [Act.put, List.setIfInBounds_toArray, List.set_cons_zero, List.set_cons_succ])
          refine any_one 5 rfl (by kernel_rfl) (by rfl) ?_
          go_simp
          have AG204 := At.newAt' (w := w202) (t := 43) (cs := #[.int .i64 tc, .slice A202 n202 c202, .slice B202 m202 d202, .int .i64 tx]) (show w202.heap.size = w202.heap.size by first | rfl | simp)
          have hal204 := (Below.refl w202.heap.size w202).alloc (Nat.le_refl _) (.cells #[.int .i64 tc, .slice A202 n202 c202, .slice B202 m202 d202, .int .i64 tx] 43)
          have hB204 := hB202.alloc hB202.size (.cells #[.int .i64 tc, .slice A202 n202 c202, .slice B202 m202 d202, .int .i64 tx] 43)
          have bx204 := bx202.alloc (.cells #[.int .i64 tc, .slice A202 n202 c202, .slice B202 m202 d202, .int .i64 tx] 43)
          have ws_204 := ws202.alloc (.cells #[.int .i64 tc, .slice A202 n202 c202, .slice B202 m202 d202, .int .i64 tx] 43)
          have wh_204 := wh202.alloc (.cells #[.int .i64 tc, .slice A202 n202 c202, .slice B202 m202 d202, .int .i64 tx] 43)
          have rs7_204 := rs7_202.lift hal204
          have rh7_204 := rh7_202.lift hal204
          have hF7_204 := hF7_202.below hal204
          refine ⟨(fun u => At2 u w3.heap.size 39 #[.slice Ax n cx, .slice Bx m dx, .int .i64 x] (w.heap.size + 1) 63 #[.int .i64 a0, .int .i64 a1, .int .i64 a2, .int .i64 a3, .int .i64 a4, .int .i64 a5, .int .i64 a6]), fun _ h => h, bx204, ?_⟩
          (try simp only [Act.put, List.setIfInBounds_toArray, List.set_cons_zero, List.set_cons_succ])
          refine any_done (by kernel_rfl) ?_
          go_wp2
          go_meet
          exact ⟨_, _, _, _, _, _, _, rfl, AG204, ws_204.from_ hB201.size, wh_204.from_ hB201.size, hB204⟩
        · go_simp
          have ag205 := At.newAt' (w := w201) (t := 43) (cs := #[.int .i64 0, .slice none 0 0, .slice none 0 0, .int .i64 0]) (show w201.heap.size = w201.heap.size by first | rfl | simp)
          have gl205 : wB.heap.size ≤ w201.heap.size := by first | exact hB201.size | exact Nat.le_refl _ | (have := hB201.size; simp at this ⊢; try omega)
          have hal205 := (Below.refl w201.heap.size w201).alloc (Nat.le_refl _) (.cells #[.int .i64 0, .slice none 0 0, .slice none 0 0, .int .i64 0] 43)
          have hB205 := hB201.alloc hB201.size (.cells #[.int .i64 0, .slice none 0 0, .slice none 0 0, .int .i64 0] 43)
          have bx205 := bx201.alloc (.cells #[.int .i64 0, .slice none 0 0, .slice none 0 0, .int .i64 0] 43)
          have rs7_205 := rs7_201.lift hal205
          have rh7_205 := rh7_201.lift hal205
          have hF7_205 := hF7_201.below hal205
          refine ⟨(fun u => At2 u w3.heap.size 39 #[.slice Ax n cx, .slice Bx m dx, .int .i64 x] (w.heap.size + 1) 63 #[.int .i64 a0, .int .i64 a1, .int .i64 a2, .int .i64 a3, .int .i64 a4, .int .i64 a5, .int .i64 a6]), fun _ h => h, bx205, ?_⟩
          (try simp only [Act.put, List.setIfInBounds_toArray, List.set_cons_zero, List.set_cons_succ])
          refine any_one 3 rfl (by kernel_rfl) (by rfl) ?_
          go_simp
          refine (IP Ax Bx cx dx _ rs7_205 rh7_205 hF7_205).mono ?_
          rintro e w206 ⟨A206, n206, c206, B206, m206, d206, rfl, ws206, wh206, hb206⟩
          have hB206 := hB205.trans (hb206.mono hB205.size)
          have bx206 := bx205.below hb206 bx205.lt
          have ag_206 := ag205.below hb206 ag205.lt
          have rs7_206 := rs7_205.lift hb206
          have rh7_206 := rh7_205.lift hb206
          have hF7_206 := hF7_205.below hb206
          refine ⟨(fun u => At2 u w3.heap.size 39 #[.slice Ax n cx, .slice Bx m dx, .int .i64 x] (w.heap.size + 1) 63 #[.int .i64 a0, .int .i64 a1, .int .i64 a2, .int .i64 a3, .int .i64 a4, .int .i64 a5, .int .i64 a6]), fun _ h => h, bx206, ?_⟩
          (try simp only [Act.put, List.setIfInBounds_toArray, List.set_cons_zero, List.set_cons_succ])
          refine any_one 5 rfl (by kernel_rfl) (by rfl) ?_
          obtain ⟨k0, k1, k2, k3, k4, k5, k6, k7⟩ := ag_206.four
          go_simp
          have hltg207 : w201.heap.size < w206.heap.size := ag_206.lt
          have AG207 : At ((((w206.setCell ⟨w201.heap.size, 0, none⟩ (.int .i64 tc)).setCell ⟨w201.heap.size, 1, none⟩ (.slice A206 n206 c206)).setCell ⟨w201.heap.size, 2, none⟩ (.slice B206 m206 d206)).setCell ⟨w201.heap.size, 3, none⟩ (.int .i64 tx)) w201.heap.size 43 #[.int .i64 tc, .slice A206 n206 c206, .slice B206 m206 d206, .int .i64 tx] := ((((ag_206.set 0 (.int .i64 tc)).set 1 (.slice A206 n206 c206)).set 2 (.slice B206 m206 d206)).set 3 (.int .i64 tx))
          have bx207 := ((((bx206.far (p := ⟨w201.heap.size, 0, none⟩) (by show w3.heap.size ≠ w201.heap.size ∧ w.heap.size + 1 ≠ w201.heap.size; have := gl205; omega) (.int .i64 tc)).far (p := ⟨w201.heap.size, 1, none⟩) (by show w3.heap.size ≠ w201.heap.size ∧ w.heap.size + 1 ≠ w201.heap.size; have := gl205; omega) (.slice A206 n206 c206)).far (p := ⟨w201.heap.size, 2, none⟩) (by show w3.heap.size ≠ w201.heap.size ∧ w.heap.size + 1 ≠ w201.heap.size; have := gl205; omega) (.slice B206 m206 d206)).far (p := ⟨w201.heap.size, 3, none⟩) (by show w3.heap.size ≠ w201.heap.size ∧ w.heap.size + 1 ≠ w201.heap.size; have := gl205; omega) (.int .i64 tx))
          have hB207 := ((((hB206.setCell (p := ⟨w201.heap.size, 0, none⟩) gl205 (.int .i64 tc)).setCell (p := ⟨w201.heap.size, 1, none⟩) gl205 (.slice A206 n206 c206)).setCell (p := ⟨w201.heap.size, 2, none⟩) gl205 (.slice B206 m206 d206)).setCell (p := ⟨w201.heap.size, 3, none⟩) gl205 (.int .i64 tx))
          have ws_207 := ws206
          have ws_207 := ws_207.apart (by decide) ag_206 0 (.int .i64 tc)
          have ws_207 := ws_207.apart (by decide) ((ag_206.set 0 (.int .i64 tc))) 1 (.slice A206 n206 c206)
          have ws_207 := ws_207.apart (by decide) (((ag_206.set 0 (.int .i64 tc)).set 1 (.slice A206 n206 c206))) 2 (.slice B206 m206 d206)
          have ws_207 := ws_207.apart (by decide) ((((ag_206.set 0 (.int .i64 tc)).set 1 (.slice A206 n206 c206)).set 2 (.slice B206 m206 d206))) 3 (.int .i64 tx)
          have wh_207 := wh206
          have wh_207 := wh_207.apart (by decide) ag_206 0 (.int .i64 tc)
          have wh_207 := wh_207.apart (by decide) ((ag_206.set 0 (.int .i64 tc))) 1 (.slice A206 n206 c206)
          have wh_207 := wh_207.apart (by decide) (((ag_206.set 0 (.int .i64 tc)).set 1 (.slice A206 n206 c206))) 2 (.slice B206 m206 d206)
          have wh_207 := wh_207.apart (by decide) ((((ag_206.set 0 (.int .i64 tc)).set 1 (.slice A206 n206 c206)).set 2 (.slice B206 m206 d206))) 3 (.int .i64 tx)
          refine ⟨(fun u => At2 u w3.heap.size 39 #[.slice Ax n cx, .slice Bx m dx, .int .i64 x] (w.heap.size + 1) 63 #[.int .i64 a0, .int .i64 a1, .int .i64 a2, .int .i64 a3, .int .i64 a4, .int .i64 a5, .int .i64 a6]), fun _ h => h, bx207, ?_⟩
          (try simp only [Act.put, List.setIfInBounds_toArray, List.set_cons_zero, List.set_cons_succ])
          refine any_done (by kernel_rfl) ?_
          go_wp2
          go_meet
          exact ⟨_, _, _, _, _, _, _, rfl, AG207, ws_207.from_ hB205.size, wh_207.from_ hB205.size, hB207⟩
      · go_simp
        have ag208 := At.newAt' (w := wB.drew) (t := 43) (cs := #[.int .i64 0, .slice none 0 0, .slice none 0 0, .int .i64 0]) (show wB.drew.heap.size = wB.heap.size by first | rfl | simp)
        have gl208 : wB.heap.size ≤ wB.heap.size := by first | exact hBd.size | exact Nat.le_refl _ | (have := hBd.size; simp at this ⊢; try omega)
        have hal208 := (Below.refl wB.drew.heap.size wB.drew).alloc (Nat.le_refl _) (.cells #[.int .i64 0, .slice none 0 0, .slice none 0 0, .int .i64 0] 43)
        have hB208 := hBd.alloc hBd.size (.cells #[.int .i64 0, .slice none 0 0, .slice none 0 0, .int .i64 0] 43)
        have bx208 := bxd.alloc (.cells #[.int .i64 0, .slice none 0 0, .slice none 0 0, .int .i64 0] 43)
        have rs7_208 := rs7d.lift hal208
        have rh7_208 := rh7d.lift hal208
        have hF7_208 := hF7d.below hal208
        refine ⟨(fun u => At2 u w3.heap.size 39 #[.slice Ax n cx, .slice Bx m dx, .int .i64 x] (w.heap.size + 1) 63 #[.int .i64 a0, .int .i64 a1, .int .i64 a2, .int .i64 a3, .int .i64 a4, .int .i64 a5, .int .i64 a6]), fun _ h => h, bx208, ?_⟩
        (try simp only [Act.put, List.setIfInBounds_toArray, List.set_cons_zero, List.set_cons_succ])
        refine any_one 2 rfl (by kernel_rfl) (by rfl) ?_
        go_simp
        refine (toRecord a0 a1 a2 a3 a4 a5 a6 _).mono ?_
        rintro e w209 ⟨rfl, hb209⟩
        have hB209 := hB208.trans (hb209.mono hB208.size)
        have bx209 := bx208.below hb209 bx208.lt
        have ag_209 := ag208.below hb209 ag208.lt
        have rs7_209 := rs7_208.lift hb209
        have rh7_209 := rh7_208.lift hb209
        have hF7_209 := hF7_208.below hb209
        refine ⟨(fun u => At2 u w3.heap.size 39 #[.slice Ax n cx, .slice Bx m dx, .int .i64 x] (w.heap.size + 1) 63 #[.int .i64 a0, .int .i64 a1, .int .i64 a2, .int .i64 a3, .int .i64 a4, .int .i64 a5, .int .i64 a6]), fun _ h => h, bx209, ?_⟩
        (try simp only [Act.put, List.setIfInBounds_toArray, List.set_cons_zero, List.set_cons_succ])
        refine any_one 3 rfl (by kernel_rfl) (by rfl) ?_
        go_simp
        refine (IP Ax Bx cx dx _ rs7_209 rh7_209 hF7_209).mono ?_
        rintro e w210 ⟨A210, n210, c210, B210, m210, d210, rfl, ws210, wh210, hb210⟩
        have hB210 := hB209.trans (hb210.mono hB209.size)
        have bx210 := bx209.below hb210 bx209.lt
        have ag_210 := ag_209.below hb210 ag_209.lt
        have rs7_210 := rs7_209.lift hb210
        have rh7_210 := rh7_209.lift hb210
        have hF7_210 := hF7_209.below hb210
        refine ⟨(fun u => At2 u w3.heap.size 39 #[.slice Ax n cx, .slice Bx m dx, .int .i64 x] (w.heap.size + 1) 63 #[.int .i64 a0, .int .i64 a1, .int .i64 a2, .int .i64 a3, .int .i64 a4, .int .i64 a5, .int .i64 a6]), fun _ h => h, bx210, ?_⟩
        (try simp only [Act.put, List.setIfInBounds_toArray, List.set_cons_zero, List.set_cons_succ])
        refine any_one 5 rfl (by kernel_rfl) (by rfl) ?_
        obtain ⟨k0, k1, k2, k3, k4, k5, k6, k7⟩ := ag_210.four
        go_simp
        have hltg211 : wB.heap.size < w210.heap.size := ag_210.lt
        have AG211 : At ((((w210.setCell ⟨wB.heap.size, 0, none⟩ (.int .i64 tc)).setCell ⟨wB.heap.size, 1, none⟩ (.slice A210 n210 c210)).setCell ⟨wB.heap.size, 2, none⟩ (.slice B210 m210 d210)).setCell ⟨wB.heap.size, 3, none⟩ (.int .i64 tx)) wB.heap.size 43 #[.int .i64 tc, .slice A210 n210 c210, .slice B210 m210 d210, .int .i64 tx] := ((((ag_210.set 0 (.int .i64 tc)).set 1 (.slice A210 n210 c210)).set 2 (.slice B210 m210 d210)).set 3 (.int .i64 tx))
        have bx211 := ((((bx210.far (p := ⟨wB.heap.size, 0, none⟩) (by show w3.heap.size ≠ wB.heap.size ∧ w.heap.size + 1 ≠ wB.heap.size; have := gl208; omega) (.int .i64 tc)).far (p := ⟨wB.heap.size, 1, none⟩) (by show w3.heap.size ≠ wB.heap.size ∧ w.heap.size + 1 ≠ wB.heap.size; have := gl208; omega) (.slice A210 n210 c210)).far (p := ⟨wB.heap.size, 2, none⟩) (by show w3.heap.size ≠ wB.heap.size ∧ w.heap.size + 1 ≠ wB.heap.size; have := gl208; omega) (.slice B210 m210 d210)).far (p := ⟨wB.heap.size, 3, none⟩) (by show w3.heap.size ≠ wB.heap.size ∧ w.heap.size + 1 ≠ wB.heap.size; have := gl208; omega) (.int .i64 tx))
        have hB211 := ((((hB210.setCell (p := ⟨wB.heap.size, 0, none⟩) gl208 (.int .i64 tc)).setCell (p := ⟨wB.heap.size, 1, none⟩) gl208 (.slice A210 n210 c210)).setCell (p := ⟨wB.heap.size, 2, none⟩) gl208 (.slice B210 m210 d210)).setCell (p := ⟨wB.heap.size, 3, none⟩) gl208 (.int .i64 tx))
        have ws_211 := ws210
        have ws_211 := ws_211.apart (by decide) ag_210 0 (.int .i64 tc)
        have ws_211 := ws_211.apart (by decide) ((ag_210.set 0 (.int .i64 tc))) 1 (.slice A210 n210 c210)
        have ws_211 := ws_211.apart (by decide) (((ag_210.set 0 (.int .i64 tc)).set 1 (.slice A210 n210 c210))) 2 (.slice B210 m210 d210)
        have ws_211 := ws_211.apart (by decide) ((((ag_210.set 0 (.int .i64 tc)).set 1 (.slice A210 n210 c210)).set 2 (.slice B210 m210 d210))) 3 (.int .i64 tx)
        have wh_211 := wh210
        have wh_211 := wh_211.apart (by decide) ag_210 0 (.int .i64 tc)
        have wh_211 := wh_211.apart (by decide) ((ag_210.set 0 (.int .i64 tc))) 1 (.slice A210 n210 c210)
        have wh_211 := wh_211.apart (by decide) (((ag_210.set 0 (.int .i64 tc)).set 1 (.slice A210 n210 c210))) 2 (.slice B210 m210 d210)
        have wh_211 := wh_211.apart (by decide) ((((ag_210.set 0 (.int .i64 tc)).set 1 (.slice A210 n210 c210)).set 2 (.slice B210 m210 d210))) 3 (.int .i64 tx)
        refine ⟨(fun u => At2 u w3.heap.size 39 #[.slice Ax n cx, .slice Bx m dx, .int .i64 x] (w.heap.size + 1) 63 #[.int .i64 a0, .int .i64 a1, .int .i64 a2, .int .i64 a3, .int .i64 a4, .int .i64 a5, .int .i64 a6]), fun _ h => h, bx211, ?_⟩
        (try simp only [Act.put, List.setIfInBounds_toArray, List.set_cons_zero, List.set_cons_succ])
        refine any_done (by kernel_rfl) ?_
        go_wp2
        go_meet
        exact ⟨_, _, _, _, _, _, _, rfl, AG211, ws_211.from_ hB209.size, wh_211.from_ hB209.size, hB211⟩
    case rest =>
      obtain ⟨gg, Ag, ng, cg, Bg, mg, dg, rfl, AG, gs, gh, HB3⟩ := hcut
      rename World => wC
      have hb30 := HB3
      have bl_30 := bl_4.below hb30 bl_4.lt
      have br_30 := br_4.below hb30 br_4.lt
      have aw_30 := aw_4.below hb30 aw_4.lt
      have bx_30 := bx.below hb30 bx.lt
      have ws_30 := ws_4.below hb30 (Nat.le_refl _)
      have wh_30 := wh_4.below hb30 (Nat.le_refl _)
      have xs_30 := xs_4.below hb30 (Nat.le_refl _)
      have xh_30 := xh_4.below hb30 (Nat.le_refl _)
      have S30 := Lib.hid hb30.size
      have hB30 := hB4.trans (hb30.mono hB4.size)
      have SG := Lib.hid AG.lt
      have hlg1 := gs.len okS
      have hlg2 := gh.len okH
      have hng : ng ≤ 160 := by have := Hle1.out; omega
      have hmg : mg ≤ 8 := by have := Hle2.out; omega
      obtain ⟨bl0_30, bl1_30, bl2_30, _, _, _⟩ := bl_30.three
      obtain ⟨br0_30, br1_30, br2_30, br3_30, br4_30, br5_30, br6_30⟩ := br_30.seven
      obtain ⟨aw0_30, aw1_30, aw2_30, aw3_30, _, _, _, _⟩ := aw_30.four
      obtain ⟨bx0_30, bx1_30, bx2_30, _, _, _⟩ := bx_30.three
      obtain ⟨ag0_30, ag1_30, ag2_30, ag3_30, _, _, _, _⟩ := AG.four
      go_wp2_with fail
      refine (eqStateResult_same tc Ag Bg Aw Bw ng cg mg dg nw cw mw dw tl th tx _ (gs.rd okS) (gh.rd okH) (ws_30.rd okS) (wh_30.rd okH) (gs.len okS) (gh.len okH) (ws_30.len okS) (wh_30.len okH) (by unfold maxLen; omega) (by unfold maxLen; omega)).mono ?_
      rintro e w31 ⟨rfl, hb31⟩
      have bl_31 := bl_30.below hb31 bl_30.lt
      have br_31 := br_30.below hb31 br_30.lt
      have aw_31 := aw_30.below hb31 aw_30.lt
      have bx_31 := bx_30.below hb31 bx_30.lt
      have ag_31 := AG.below hb31 AG.lt
      have ws_31 := ws_30.below hb31 (Nat.le_refl _)
      have wh_31 := wh_30.below hb31 (Nat.le_refl _)
      have xs_31 := xs_30.below hb31 (Nat.le_refl _)
      have xh_31 := xh_30.below hb31 (Nat.le_refl _)
      have gs_31 := gs.below hb31 (Nat.le_refl _)
      have gh_31 := gh.below hb31 (Nat.le_refl _)
      have S31 := Lib.hid hb31.size
      have hB31 := hB30.trans (hb31.mono hB30.size)
      have ha_31 := ha.lift hB31
      have hb_31 := hb.lift hB31
      have s10 : At2 w31 w3.heap.size 39 #[.slice Ax n cx, .slice Bx m dx, .int .i64 x] w.heap.size 60 #[.slice X n c, .slice Y m d, .int .i64 x] := ⟨bx_31, bl_31⟩
      go_wp2_with fail
      refine wp_region_mix [(0, false), (1, false), (2, true), (3, true), (4, false)] (fun u => At2 u w3.heap.size 39 #[.slice Ax n cx, .slice Bx m dx, .int .i64 x] w.heap.size 60 #[.slice X n c, .slice Y m d, .int .i64 x]) (by kernel_rfl) (by kernel_rfl) (fun _ _ _ _ _ h => h) s10.drew ?_
      simp only [mixOps, List.map_cons, List.map_nil, List.getElem?_cons_succ, List.getElem?_cons_zero, Option.getD_some]
      repeat (first
        | (refine mix_skip (by rfl) ?_
           (try simp only [Act.put, List.setIfInBounds_toArray, List.set_cons_zero, List.set_cons_succ]))
        | (refine mix_pure (v := ?_) (by rfl) (fun u hu => ?_) ?_
           rotate_left
           · (obtain ⟨hu1, hu2⟩ := hu; obtain ⟨_, _, _, _, _, _⟩ := At.three hu1; obtain ⟨_, _, _, _, _, _⟩ := At.three hu2)
             go_simp
             (with_reducible rfl)
           (try simp only [Act.put, List.setIfInBounds_toArray, List.set_cons_zero, List.set_cons_succ])))
      refine mix_call (by rfl) (fun K hK => ?_)
      go_simp
      refine (toState X Y n c m d l h x _ (ha_31.drewN 1) (hb_31.drewN 1) Hn.out Hm.out hn1 hm1).mono ?_
      rintro e w32 ⟨Ay, cy, By, dy, rfl, ys, yh, hb32⟩
      have hb32 := undrewA hb32
      have bl_32 := bl_31.below hb32 bl_31.lt
      have br_32 := br_31.below hb32 br_31.lt
      have aw_32 := aw_31.below hb32 aw_31.lt
      have bx_32 := bx_31.below hb32 bx_31.lt
      have ag_32 := ag_31.below hb32 ag_31.lt
      have ws_32 := ws_31.below hb32 (Nat.le_refl _)
      have wh_32 := wh_31.below hb32 (Nat.le_refl _)
      have xs_32 := xs_31.below hb32 (Nat.le_refl _)
      have xh_32 := xh_31.below hb32 (Nat.le_refl _)
      have gs_32 := gs_31.below hb32 (Nat.le_refl _)
      have gh_32 := gh_31.below hb32 (Nat.le_refl _)
      have S32 := Lib.hid hb32.size
      have hB32 := hB31.trans (hb32.mono hB31.size)
      have s10_32 := s10.below hb32 s10.lt
      refine hK _ _ (fun u => At2 u w3.heap.size 39 #[.slice Ax n cx, .slice Bx m dx, .int .i64 x] w.heap.size 60 #[.slice X n c, .slice Y m d, .int .i64 x]) (fun _ h => h) s10_32 ?_
      clear hK K
      (try simp only [Act.put, List.setIfInBounds_toArray, List.set_cons_zero, List.set_cons_succ])
      repeat (first
        | (refine mix_skip (by rfl) ?_
           (try simp only [Act.put, List.setIfInBounds_toArray, List.set_cons_zero, List.set_cons_succ]))
        | (refine mix_pure (v := ?_) (by rfl) (fun u hu => ?_) ?_
           rotate_left
           · (obtain ⟨hu1, hu2⟩ := hu; obtain ⟨_, _, _, _, _, _⟩ := At.three hu1; obtain ⟨_, _, _, _, _, _⟩ := At.three hu2)
             go_simp
             (with_reducible rfl)
           (try simp only [Act.put, List.setIfInBounds_toArray, List.set_cons_zero, List.set_cons_succ])))
      refine mix_call (by rfl) (fun K hK => ?_)
      go_simp
      refine (eqState Ax Bx Ay By n cx m dx n cy m dy l l h h x x _ (xs_32.rd okS) (xh_32.rd okH) (ys.rd okS) (yh.rd okH) Hn.out Hm.out Hn.out Hm.out hM1 hM2).mono ?_
      rintro e w33 ⟨rfl, hb33⟩
      have bl_33 := bl_32.below hb33 bl_32.lt
      have br_33 := br_32.below hb33 br_32.lt
      have aw_33 := aw_32.below hb33 aw_32.lt
      have bx_33 := bx_32.below hb33 bx_32.lt
      have ag_33 := ag_32.below hb33 ag_32.lt
      have ws_33 := ws_32.below hb33 (Nat.le_refl _)
      have wh_33 := wh_32.below hb33 (Nat.le_refl _)
      have xs_33 := xs_32.below hb33 (Nat.le_refl _)
      have xh_33 := xh_32.below hb33 (Nat.le_refl _)
      have gs_33 := gs_32.below hb33 (Nat.le_refl _)
      have gh_33 := gh_32.below hb33 (Nat.le_refl _)
      have S33 := Lib.hid hb33.size
      have hB33 := hB32.trans (hb33.mono hB32.size)
      rw [sta_yes]
      have s10_33 := s10_32.below hb33 s10_32.lt
      refine hK _ _ (fun u => At2 u w3.heap.size 39 #[.slice Ax n cx, .slice Bx m dx, .int .i64 x] w.heap.size 60 #[.slice X n c, .slice Y m d, .int .i64 x]) (fun _ h => h) s10_33 ?_
      clear hK K
      (try simp only [Act.put, List.setIfInBounds_toArray, List.set_cons_zero, List.set_cons_succ])
      repeat (first
        | (refine mix_skip (by rfl) ?_
           (try simp only [Act.put, List.setIfInBounds_toArray, List.set_cons_zero, List.set_cons_succ]))
        | (refine mix_pure (v := ?_) (by rfl) (fun u hu => ?_) ?_
           rotate_left
           · (obtain ⟨hu1, hu2⟩ := hu; obtain ⟨_, _, _, _, _, _⟩ := At.three hu1; obtain ⟨_, _, _, _, _, _⟩ := At.three hu2)
             go_simp
             (with_reducible rfl)
           (try simp only [Act.put, List.setIfInBounds_toArray, List.set_cons_zero, List.set_cons_succ])))
      refine mix_nil ?_
      obtain ⟨bl0_33, bl1_33, bl2_33, _, _, _⟩ := bl_33.three
      obtain ⟨br0_33, br1_33, br2_33, br3_33, br4_33, br5_33, br6_33⟩ := br_33.seven
      obtain ⟨aw0_33, aw1_33, aw2_33, aw3_33, _, _, _, _⟩ := aw_33.four
      obtain ⟨bx0_33, bx1_33, bx2_33, _, _, _⟩ := bx_33.three
      obtain ⟨ag0_33, ag1_33, ag2_33, ag3_33, _, _, _, _⟩ := ag_33.four
      go_wp2_with fail
      refine (markState Ax Bx n cx m dx _ _ _ l h x _ xs_33 xh_33 xs.lt xh.lt (by omega) (by omega)).mono ?_
      rintro e w34 ⟨rfl, xs_34, xh_34, hw34, kp34⟩
      have bl_34 := kp34 _ _ _ bl_33 (by decide) (by decide)
      have br_34 := kp34 _ _ _ br_33 (by decide) (by decide)
      have aw_34 := kp34 _ _ _ aw_33 (by decide) (by decide)
      have bx_34 := kp34 _ _ _ bx_33 (by decide) (by decide)
      have ag_34 := kp34 _ _ _ ag_33 (by decide) (by decide)
      have ws_34 := ws_33.within hw34 ws.lt (by have := SA.out; have := SB.out; have := SC.out; have := SD.out; have := SE.out; have := S3.out; have := S4.out; have := S30.out; have := SG.out; have := S31.out; have := S32.out; have := S33.out; omega)
      have wh_34 := wh_33.within hw34 wh.lt (by have := SA.out; have := SB.out; have := SC.out; have := SD.out; have := SE.out; have := S3.out; have := S4.out; have := S30.out; have := SG.out; have := S31.out; have := S32.out; have := S33.out; omega)
      have gs_34 := gs_33.within hw34 gs.lt (by have := SA.out; have := SB.out; have := SC.out; have := SD.out; have := SE.out; have := S3.out; have := S4.out; have := S30.out; have := SG.out; have := S31.out; have := S32.out; have := S33.out; omega)
      have gh_34 := gh_33.within hw34 gh.lt (by have := SA.out; have := SB.out; have := SC.out; have := SD.out; have := SE.out; have := S3.out; have := S4.out; have := S30.out; have := SG.out; have := S31.out; have := S32.out; have := S33.out; omega)
      have hB34 := hw34.below hB33 hB33.size (by have := SA.out; have := SB.out; have := SC.out; have := SD.out; have := SE.out; have := S3.out; have := S4.out; have := S30.out; have := SG.out; have := S31.out; have := S32.out; have := S33.out; omega)
      have S34 := Lib.hid hw34.size
      have hk0 : ¬ (1 : Int) + 4 * (n : Int) + 7 * (m : Int) < 0 := by omega
      obtain ⟨bl0_34, bl1_34, bl2_34, _, _, _⟩ := bl_34.three
      obtain ⟨br0_34, br1_34, br2_34, br3_34, br4_34, br5_34, br6_34⟩ := br_34.seven
      obtain ⟨aw0_34, aw1_34, aw2_34, aw3_34, _, _, _, _⟩ := aw_34.four
      obtain ⟨ag0_34, ag1_34, ag2_34, ag3_34, _, _, _, _⟩ := ag_34.four
      go_wp2_with fail
      refine (eqStateResult_same tc Ag Bg Aw Bw ng cg mg dg nw cw mw dw tl th tx _ (gs_34.rd okS) (gh_34.rd okH) (ws_34.rd okS) (wh_34.rd okH) (gs_34.len okS) (gh_34.len okH) (ws_34.len okS) (wh_34.len okH) (by unfold maxLen; omega) (by unfold maxLen; omega)).mono ?_
      rintro e w35 ⟨rfl, hb35⟩
      have bl_35 := bl_34.below hb35 bl_34.lt
      have br_35 := br_34.below hb35 br_34.lt
      have aw_35 := aw_34.below hb35 aw_34.lt
      have ag_35 := ag_34.below hb35 ag_34.lt
      have ws_35 := ws_34.below hb35 (Nat.le_refl _)
      have wh_35 := wh_34.below hb35 (Nat.le_refl _)
      have gs_35 := gs_34.below hb35 (Nat.le_refl _)
      have gh_35 := gh_34.below hb35 (Nat.le_refl _)
      have S35 := Lib.hid hb35.size
      have hB35 := hB34.trans (hb35.mono hB34.size)
      have hk1 : ¬ (1 : Int) + 4 * (ng : Int) + 7 * (mg : Int) < 0 := by omega
      obtain ⟨bl0_35, bl1_35, bl2_35, _, _, _⟩ := bl_35.three
      obtain ⟨br0_35, br1_35, br2_35, br3_35, br4_35, br5_35, br6_35⟩ := br_35.seven
      obtain ⟨aw0_35, aw1_35, aw2_35, aw3_35, _, _, _, _⟩ := aw_35.four
      obtain ⟨ag0_35, ag1_35, ag2_35, ag3_35, _, _, _, _⟩ := ag_35.four
      go_wp2_with fail
      refine (markStateResult tc Ag Bg ng cg mg dg _ _ _ tl th tx _ gs_35 gh_35 gs.lt gh.lt (by omega) (by omega)).mono ?_
      rintro e w36 ⟨rfl, gs_36, gh_36, hw36, kp36⟩
      have bl_36 := kp36 _ _ _ bl_35 (by decide) (by decide)
      have br_36 := kp36 _ _ _ br_35 (by decide) (by decide)
      have aw_36 := kp36 _ _ _ aw_35 (by decide) (by decide)
      have ag_36 := kp36 _ _ _ ag_35 (by decide) (by decide)
      have ws_36 := ws_35.within hw36 ws.lt (by have := SA.out; have := SB.out; have := SC.out; have := SD.out; have := SE.out; have := S3.out; have := S4.out; have := S30.out; have := SG.out; have := S31.out; have := S32.out; have := S33.out; have := S34.out; have := S35.out; omega)
      have wh_36 := wh_35.within hw36 wh.lt (by have := SA.out; have := SB.out; have := SC.out; have := SD.out; have := SE.out; have := S3.out; have := S4.out; have := S30.out; have := SG.out; have := S31.out; have := S32.out; have := S33.out; have := S34.out; have := S35.out; omega)
      have hB36 := hw36.below hB35 hB35.size (by have := SA.out; have := SB.out; have := SC.out; have := SD.out; have := SE.out; have := S3.out; have := S4.out; have := S30.out; have := SG.out; have := S31.out; have := S32.out; have := S33.out; have := S34.out; have := S35.out; omega)
      have S36 := Lib.hid hw36.size
      obtain ⟨bl0_36, bl1_36, bl2_36, _, _, _⟩ := bl_36.three
      obtain ⟨br0_36, br1_36, br2_36, br3_36, br4_36, br5_36, br6_36⟩ := br_36.seven
      obtain ⟨aw0_36, aw1_36, aw2_36, aw3_36, _, _, _, _⟩ := aw_36.four
      obtain ⟨ag0_36, ag1_36, ag2_36, ag3_36, _, _, _, _⟩ := ag_36.four
      go_wp2_with fail
      refine (heldStateResult tc Ag Bg ng cg mg dg tx _ (gs_36.rd okS) (gh_36.rd okH) (by omega) (by omega)).mono ?_
      rintro e w37 ⟨rfl, hb37⟩
      have bl_37 := bl_36.below hb37 bl_36.lt
      have br_37 := br_36.below hb37 br_36.lt
      have aw_37 := aw_36.below hb37 aw_36.lt
      have ag_37 := ag_36.below hb37 ag_36.lt
      have ws_37 := ws_36.below hb37 (Nat.le_refl _)
      have wh_37 := wh_36.below hb37 (Nat.le_refl _)
      have gs_37 := gs_36.below hb37 (Nat.le_refl _)
      have gh_37 := gh_36.below hb37 (Nat.le_refl _)
      have S37 := Lib.hid hb37.size
      have hB37 := hB36.trans (hb37.mono hB36.size)
      have ha_37 := ha.lift hB37
      have hb_37 := hb.lift hB37
      have s24 : At2 w37 w.heap.size 60 #[.slice X n c, .slice Y m d, .int .i64 x] (w.heap.size + 1) 63 #[.int .i64 a0, .int .i64 a1, .int .i64 a2, .int .i64 a3, .int .i64 a4, .int .i64 a5, .int .i64 a6] := ⟨bl_37, br_37⟩
      have lx24 := s24.lt
      have ra24 := ha_37
      have rb24 := hb_37
      have hF24 := hF.below hB37
      go_upto_region 24 with fail
      go_cut [12] (fun s wx => ∃ gx Ax nx cx Bx mx dx, s = .pointer (some ⟨gx, 0, none⟩) ∧ At wx gx 43 #[.int .i64 tc, .slice Ax nx cx, .slice Bx mx dx, .int .i64 tx] ∧ Ow eS wx w37.heap.size Ax nx cx tl ∧ Ow eH wx w37.heap.size Bx mx dx th ∧ Below w37.heap.size w37 wx)
      case first =>
        refine any_start (fun u => At2 u w.heap.size 60 #[.slice X n c, .slice Y m d, .int .i64 x] (w.heap.size + 1) 63 #[.int .i64 a0, .int .i64 a1, .int .i64 a2, .int .i64 a3, .int .i64 a4, .int .i64 a5, .int .i64 a6]) (by kernel_rfl) s24.drew (fun _ => ?_)
        have bxd := s24.drew
        have hBd := (Below.refl w37.heap.size w37).drew
        have ra24d : _ := ra24.lift ((Below.refl _ _).drew)
        have rb24d : _ := rb24.lift ((Below.refl _ _).drew)
        have hF24d := hF24.below ((Below.refl _ _).drew)
        refine any_pure (v := ?_) 0 rfl (by kernel_rfl) (fun _ _ _ _ _ h => h) (by rfl) (fun u hu => ?_) bxd ?_
        rotate_left
        · (obtain ⟨hu1, hu2⟩ := hu; obtain ⟨_, _, _, _, _, _⟩ := At.three hu1; obtain ⟨_, _, _, _, _, _, _⟩ := At.seven hu2)
          go_simp
          (with_reducible rfl)
        (try simp only [Act.put, List.setIfInBounds_toArray, List.set_cons_zero, List.set_cons_succ])
        refine any_pure (v := ?_) 2 rfl (by kernel_rfl) (fun _ _ _ _ _ h => h) (by rfl) (fun u hu => ?_) bxd ?_
        rotate_left
        · (obtain ⟨hu1, hu2⟩ := hu; obtain ⟨_, _, _, _, _, _⟩ := At.three hu1; obtain ⟨_, _, _, _, _, _, _⟩ := At.seven hu2)
          go_simp
          (with_reducible rfl)
        (try simp only [Act.put, List.setIfInBounds_toArray, List.set_cons_zero, List.set_cons_succ])
        refine any_two 1 5 rfl rfl (by kernel_rfl) (by rfl) (by rfl) ?_ ?_
        · go_simp
          refine (toState X Y n c m d l h x _ ra24d rb24d Hn.out Hm.out hn1 hm1).mono ?_
          rintro e w401 ⟨A401, c401, B401, d401, rfl, os401, oh401, hb401⟩
          have hB401 := hBd.trans (hb401.mono hBd.size)
          have bx401 := bxd.below hb401 bxd.lt
          have ra24_401 := ra24d.lift hb401
          have rb24_401 := rb24d.lift hb401
          have hF24_401 := hF24d.below hb401
          refine ⟨(fun u => At2 u w.heap.size 60 #[.slice X n c, .slice Y m d, .int .i64 x] (w.heap.size + 1) 63 #[.int .i64 a0, .int .i64 a1, .int .i64 a2, .int .i64 a3, .int .i64 a4, .int .i64 a5, .int .i64 a6]), fun _ h => h, bx401, ?_⟩
          (try simp only [Act.put, List.setIfInBounds_toArray, List.set_cons_zero, List.set_cons_succ])
          refine any_two 3 5 rfl rfl (by kernel_rfl) (by rfl) (by rfl) ?_ ?_
          · go_simp
            refine (toRecord a0 a1 a2 a3 a4 a5 a6 _).mono ?_
            rintro e w402 ⟨rfl, hb402⟩
            have hB402 := hB401.trans (hb402.mono hB401.size)
            have bx402 := bx401.below hb402 bx401.lt
            have os_402 := os401.below hb402 (Nat.le_refl _)
            have oh_402 := oh401.below hb402 (Nat.le_refl _)
            have ra24_402 := ra24_401.lift hb402
            have rb24_402 := rb24_401.lift hb402
            have hF24_402 := hF24_401.below hb402
            refine ⟨(fun u => At2 u w.heap.size 60 #[.slice X n c, .slice Y m d, .int .i64 x] (w.heap.size + 1) 63 #[.int .i64 a0, .int .i64 a1, .int .i64 a2, .int .i64 a3, .int .i64 a4, .int .i64 a5, .int .i64 a6]), fun _ h => h, bx402, ?_⟩
            (try simp only [Act.put, List.setIfInBounds_toArray, List.set_cons_zero, List.set_cons_succ])
            refine any_two 4 5 rfl rfl (by kernel_rfl) (by rfl) (by rfl) ?_ ?_
            · go_simp
              refine (IP A401 B401 c401 d401 _ (os_402.rd okS) (oh_402.rd okH) hF24_402).mono ?_
              rintro e w403 ⟨A403, n403, c403, B403, m403, d403, rfl, ws403, wh403, hb403⟩
              have hB403 := hB402.trans (hb403.mono hB402.size)
              have bx403 := bx402.below hb403 bx402.lt
              have os_403 := os_402.below hb403 (Nat.le_refl _)
              have oh_403 := oh_402.below hb403 (Nat.le_refl _)
              have ra24_403 := ra24_402.lift hb403
              have rb24_403 := rb24_402.lift hb403
              have hF24_403 := hF24_402.below hb403
              refine ⟨(fun u => At2 u w.heap.size 60 #[.slice X n c, .slice Y m d, .int .i64 x] (w.heap.size + 1) 63 #[.int .i64 a0, .int .i64 a1, .int .i64 a2, .int .i64 a3, .int .i64 a4, .int .i64 a5, .int .i64 a6]), fun _ h => h, bx403, ?_⟩
              (try simp only [Act.put, List.setIfInBounds_toArray, List.set_cons_zero, List.set_cons_succ])
              refine any_one 5 rfl (by kernel_rfl) (by rfl) ?_
              go_simp
              have ag404 := At.newAt' (w := w403) (t := 43) (cs := #[.int .i64 0, .slice none 0 0, .slice none 0 0, .int .i64 0]) (show w403.heap.size = w403.heap.size by first | rfl | simp)
              have gl404 : w37.heap.size ≤ w403.heap.size := by first | exact hB403.size | exact Nat.le_refl _ | (have := hB403.size; simp at this ⊢; try omega)
              have hal404 := (Below.refl w403.heap.size w403).alloc (Nat.le_refl _) (.cells #[.int .i64 0, .slice none 0 0, .slice none 0 0, .int .i64 0] 43)
              have hB404 := hB403.alloc hB403.size (.cells #[.int .i64 0, .slice none 0 0, .slice none 0 0, .int .i64 0] 43)
              have bx404 := bx403.alloc (.cells #[.int .i64 0, .slice none 0 0, .slice none 0 0, .int .i64 0] 43)
              have os_404 := os_403.alloc (.cells #[.int .i64 0, .slice none 0 0, .slice none 0 0, .int .i64 0] 43)
              have oh_404 := oh_403.alloc (.cells #[.int .i64 0, .slice none 0 0, .slice none 0 0, .int .i64 0] 43)
              have ws_404 := ws403.alloc (.cells #[.int .i64 0, .slice none 0 0, .slice none 0 0, .int .i64 0] 43)
              have wh_404 := wh403.alloc (.cells #[.int .i64 0, .slice none 0 0, .slice none 0 0, .int .i64 0] 43)
              have ra24_404 := ra24_403.lift hal404
              have rb24_404 := rb24_403.lift hal404
              have hF24_404 := hF24_403.below hal404
              refine ⟨(fun u => At2 u w.heap.size 60 #[.slice X n c, .slice Y m d, .int .i64 x] (w.heap.size + 1) 63 #[.int .i64 a0, .int .i64 a1, .int .i64 a2, .int .i64 a3, .int .i64 a4, .int .i64 a5, .int .i64 a6]), fun _ h => h, bx404, ?_⟩
              (try simp only [Act.put, List.setIfInBounds_toArray, List.set_cons_zero, List.set_cons_succ])
              refine any_one 6 rfl (by kernel_rfl) (by rfl) ?_
              go_simp
              have AG405 := At.newAt' (w := w403) (t := 43) (cs := #[.int .i64 tc, .slice A403 n403 c403, .slice B403 m403 d403, .int .i64 tx]) (show w403.heap.size = w403.heap.size by first | rfl | simp)
              have hal405 := (Below.refl w403.heap.size w403).alloc (Nat.le_refl _) (.cells #[.int .i64 tc, .slice A403 n403 c403, .slice B403 m403 d403, .int .i64 tx] 43)
              have hB405 := hB403.alloc hB403.size (.cells #[.int .i64 tc, .slice A403 n403 c403, .slice B403 m403 d403, .int .i64 tx] 43)
              have bx405 := bx403.alloc (.cells #[.int .i64 tc, .slice A403 n403 c403, .slice B403 m403 d403, .int .i64 tx] 43)
              have os_405 := os_403.alloc (.cells #[.int .i64 tc, .slice A403 n403 c403, .slice B403 m403 d403, .int .i64 tx] 43)
              have oh_405 := oh_403.alloc (.cells #[.int .i64 tc, .slice A403 n403 c403, .slice B403 m403 d403, .int .i64 tx] 43)
              have ws_405 := ws403.alloc (.cells #[.int .i64 tc, .slice A403 n403 c403, .slice B403 m403 d403, .int .i64 tx] 43)
              have wh_405 := wh403.alloc (.cells #[.int .i64 tc, .slice A403 n403 c403, .slice B403 m403 d403, .int .i64 tx] 43)
              have ra24_405 := ra24_403.lift hal405
              have rb24_405 := rb24_403.lift hal405
              have hF24_405 := hF24_403.below hal405
              refine ⟨(fun u => At2 u w.heap.size 60 #[.slice X n c, .slice Y m d, .int .i64 x] (w.heap.size + 1) 63 #[.int .i64 a0, .int .i64 a1, .int .i64 a2, .int .i64 a3, .int .i64 a4, .int .i64 a5, .int .i64 a6]), fun _ h => h, bx405, ?_⟩
              (try simp only [Act.put, List.setIfInBounds_toArray, List.set_cons_zero, List.set_cons_succ])
              refine any_done (by kernel_rfl) ?_
              go_wp2
              go_meet
              exact ⟨_, _, _, _, _, _, _, rfl, AG405, ws_405.from_ hB402.size, wh_405.from_ hB402.size, hB405⟩
            · go_simp
              have ag406 := At.newAt' (w := w402) (t := 43) (cs := #[.int .i64 0, .slice none 0 0, .slice none 0 0, .int .i64 0]) (show w402.heap.size = w402.heap.size by first | rfl | simp)
              have gl406 : w37.heap.size ≤ w402.heap.size := by first | exact hB402.size | exact Nat.le_refl _ | (have := hB402.size; simp at this ⊢; try omega)
              have hal406 := (Below.refl w402.heap.size w402).alloc (Nat.le_refl _) (.cells #[.int .i64 0, .slice none 0 0, .slice none 0 0, .int .i64 0] 43)
              have hB406 := hB402.alloc hB402.size (.cells #[.int .i64 0, .slice none 0 0, .slice none 0 0, .int .i64 0] 43)
              have bx406 := bx402.alloc (.cells #[.int .i64 0, .slice none 0 0, .slice none 0 0, .int .i64 0] 43)
              have os_406 := os_402.alloc (.cells #[.int .i64 0, .slice none 0 0, .slice none 0 0, .int .i64 0] 43)
              have oh_406 := oh_402.alloc (.cells #[.int .i64 0, .slice none 0 0, .slice none 0 0, .int .i64 0] 43)
              have ra24_406 := ra24_402.lift hal406
              have rb24_406 := rb24_402.lift hal406
              have hF24_406 := hF24_402.below hal406
              refine ⟨(fun u => At2 u w.heap.size 60 #[.slice X n c, .slice Y m d, .int .i64 x] (w.heap.size + 1) 63 #[.int .i64 a0, .int .i64 a1, .int .i64 a2, .int .i64 a3, .int .i64 a4, .int .i64 a5, .int .i64 a6]), fun _ h => h, bx406, ?_⟩
              (try simp only [Act.put, List.setIfInBounds_toArray, List.set_cons_zero, List.set_cons_succ])
              refine any_one 4 rfl (by kernel_rfl) (by rfl) ?_
              go_simp
              refine (IP A401 B401 c401 d401 _ (os_406.rd okS) (oh_406.rd okH) hF24_406).mono ?_
              rintro e w407 ⟨A407, n407, c407, B407, m407, d407, rfl, ws407, wh407, hb407⟩
              have hB407 := hB406.trans (hb407.mono hB406.size)
              have bx407 := bx406.below hb407 bx406.lt
              have ag_407 := ag406.below hb407 ag406.lt
              have os_407 := os_406.below hb407 (Nat.le_refl _)
              have oh_407 := oh_406.below hb407 (Nat.le_refl _)
              have ra24_407 := ra24_406.lift hb407
              have rb24_407 := rb24_406.lift hb407
              have hF24_407 := hF24_406.below hb407
              refine ⟨(fun u => At2 u w.heap.size 60 #[.slice X n c, .slice Y m d, .int .i64 x] (w.heap.size + 1) 63 #[.int .i64 a0, .int .i64 a1, .int .i64 a2, .int .i64 a3, .int .i64 a4, .int .i64 a5, .int .i64 a6]), fun _ h => h, bx407, ?_⟩
              (try simp only [Act.put, List.setIfInBounds_toArray, List.set_cons_zero, List.set_cons_succ])
              refine any_one 6 rfl (by kernel_rfl) (by rfl) ?_
              obtain ⟨k0, k1, k2, k3, k4, k5, k6, k7⟩ := ag_407.four
              go_simp
              have hltg408 : w402.heap.size < w407.heap.size := ag_407.lt
              have AG408 : At ((((w407.setCell ⟨w402.heap.size, 0, none⟩ (.int .i64 tc)).setCell ⟨w402.heap.size, 1, none⟩ (.slice A407 n407 c407)).setCell ⟨w402.heap.size, 2, none⟩ (.slice B407 m407 d407)).setCell ⟨w402.heap.size, 3, none⟩ (.int .i64 tx)) w402.heap.size 43 #[.int .i64 tc, .slice A407 n407 c407, .slice B407 m407 d407, .int .i64 tx] := ((((ag_407.set 0 (.int .i64 tc)).set 1 (.slice A407 n407 c407)).set 2 (.slice B407 m407 d407)).set 3 (.int .i64 tx))
              have bx408 := ((((bx407.far (p := ⟨w402.heap.size, 0, none⟩) (by show w.heap.size ≠ w402.heap.size ∧ w.heap.size + 1 ≠ w402.heap.size; have := gl406; omega) (.int .i64 tc)).far (p := ⟨w402.heap.size, 1, none⟩) (by show w.heap.size ≠ w402.heap.size ∧ w.heap.size + 1 ≠ w402.heap.size; have := gl406; omega) (.slice A407 n407 c407)).far (p := ⟨w402.heap.size, 2, none⟩) (by show w.heap.size ≠ w402.heap.size ∧ w.heap.size + 1 ≠ w402.heap.size; have := gl406; omega) (.slice B407 m407 d407)).far (p := ⟨w402.heap.size, 3, none⟩) (by show w.heap.size ≠ w402.heap.size ∧ w.heap.size + 1 ≠ w402.heap.size; have := gl406; omega) (.int .i64 tx))
              have hB408 := ((((hB407.setCell (p := ⟨w402.heap.size, 0, none⟩) gl406 (.int .i64 tc)).setCell (p := ⟨w402.heap.size, 1, none⟩) gl406 (.slice A407 n407 c407)).setCell (p := ⟨w402.heap.size, 2, none⟩) gl406 (.slice B407 m407 d407)).setCell (p := ⟨w402.heap.size, 3, none⟩) gl406 (.int .i64 tx))
              have ws_408 := ws407
              have ws_408 := ws_408.apart (by decide) ag_407 0 (.int .i64 tc)
              have ws_408 := ws_408.apart (by decide) ((ag_407.set 0 (.int .i64 tc))) 1 (.slice A407 n407 c407)
              have ws_408 := ws_408.apart (by decide) (((ag_407.set 0 (.int .i64 tc)).set 1 (.slice A407 n407 c407))) 2 (.slice B407 m407 d407)
              have ws_408 := ws_408.apart (by decide) ((((ag_407.set 0 (.int .i64 tc)).set 1 (.slice A407 n407 c407)).set 2 (.slice B407 m407 d407))) 3 (.int .i64 tx)
              have wh_408 := wh407
              have wh_408 := wh_408.apart (by decide) ag_407 0 (.int .i64 tc)
              have wh_408 := wh_408.apart (by decide) ((ag_407.set 0 (.int .i64 tc))) 1 (.slice A407 n407 c407)
              have wh_408 := wh_408.apart (by decide) (((ag_407.set 0 (.int .i64 tc)).set 1 (.slice A407 n407 c407))) 2 (.slice B407 m407 d407)
              have wh_408 := wh_408.apart (by decide) ((((ag_407.set 0 (.int .i64 tc)).set 1 (.slice A407 n407 c407)).set 2 (.slice B407 m407 d407))) 3 (.int .i64 tx)
              refine ⟨(fun u => At2 u w.heap.size 60 #[.slice X n c, .slice Y m d, .int .i64 x] (w.heap.size + 1) 63 #[.int .i64 a0, .int .i64 a1, .int .i64 a2, .int .i64 a3, .int .i64 a4, .int .i64 a5, .int .i64 a6]), fun _ h => h, bx408, ?_⟩
              (try simp only [Act.put, List.setIfInBounds_toArray, List.set_cons_zero, List.set_cons_succ])
              refine any_done (by kernel_rfl) ?_
              go_wp2
              go_meet
              exact ⟨_, _, _, _, _, _, _, rfl, AG408, ws_408.from_ hB406.size, wh_408.from_ hB406.size, hB408⟩
          · go_simp
            have ag409 := At.newAt' (w := w401) (t := 43) (cs := #[.int .i64 0, .slice none 0 0, .slice none 0 0, .int .i64 0]) (show w401.heap.size = w401.heap.size by first | rfl | simp)
            have gl409 : w37.heap.size ≤ w401.heap.size := by first | exact hB401.size | exact Nat.le_refl _ | (have := hB401.size; simp at this ⊢; try omega)
            have hal409 := (Below.refl w401.heap.size w401).alloc (Nat.le_refl _) (.cells #[.int .i64 0, .slice none 0 0, .slice none 0 0, .int .i64 0] 43)
            have hB409 := hB401.alloc hB401.size (.cells #[.int .i64 0, .slice none 0 0, .slice none 0 0, .int .i64 0] 43)
            have bx409 := bx401.alloc (.cells #[.int .i64 0, .slice none 0 0, .slice none 0 0, .int .i64 0] 43)
            have os_409 := os401.alloc (.cells #[.int .i64 0, .slice none 0 0, .slice none 0 0, .int .i64 0] 43)
            have oh_409 := oh401.alloc (.cells #[.int .i64 0, .slice none 0 0, .slice none 0 0, .int .i64 0] 43)
            have ra24_409 := ra24_401.lift hal409
            have rb24_409 := rb24_401.lift hal409
            have hF24_409 := hF24_401.below hal409
            refine ⟨(fun u => At2 u w.heap.size 60 #[.slice X n c, .slice Y m d, .int .i64 x] (w.heap.size + 1) 63 #[.int .i64 a0, .int .i64 a1, .int .i64 a2, .int .i64 a3, .int .i64 a4, .int .i64 a5, .int .i64 a6]), fun _ h => h, bx409, ?_⟩
            (try simp only [Act.put, List.setIfInBounds_toArray, List.set_cons_zero, List.set_cons_succ])
            refine any_one 3 rfl (by kernel_rfl) (by rfl) ?_
            go_simp
            refine (toRecord a0 a1 a2 a3 a4 a5 a6 _).mono ?_
            rintro e w410 ⟨rfl, hb410⟩
            have hB410 := hB409.trans (hb410.mono hB409.size)
            have bx410 := bx409.below hb410 bx409.lt
            have ag_410 := ag409.below hb410 ag409.lt
            have os_410 := os_409.below hb410 (Nat.le_refl _)
            have oh_410 := oh_409.below hb410 (Nat.le_refl _)
            have ra24_410 := ra24_409.lift hb410
            have rb24_410 := rb24_409.lift hb410
            have hF24_410 := hF24_409.below hb410
            refine ⟨(fun u => At2 u w.heap.size 60 #[.slice X n c, .slice Y m d, .int .i64 x] (w.heap.size + 1) 63 #[.int .i64 a0, .int .i64 a1, .int .i64 a2, .int .i64 a3, .int .i64 a4, .int .i64 a5, .int .i64 a6]), fun _ h => h, bx410, ?_⟩
            (try simp only [Act.put, List.setIfInBounds_toArray, List.set_cons_zero, List.set_cons_succ])
            refine any_one 4 rfl (by kernel_rfl) (by rfl) ?_
            go_simp
            refine (IP A401 B401 c401 d401 _ (os_410.rd okS) (oh_410.rd okH) hF24_410).mono ?_
            rintro e w411 ⟨A411, n411, c411, B411, m411, d411, rfl, ws411, wh411, hb411⟩
            have hB411 := hB410.trans (hb411.mono hB410.size)
            have bx411 := bx410.below hb411 bx410.lt
            have ag_411 := ag_410.below hb411 ag_410.lt
            have os_411 := os_410.below hb411 (Nat.le_refl _)
            have oh_411 := oh_410.below hb411 (Nat.le_refl _)
            have ra24_411 := ra24_410.lift hb411
            have rb24_411 := rb24_410.lift hb411
            have hF24_411 := hF24_410.below hb411
            refine ⟨(fun u => At2 u w.heap.size 60 #[.slice X n c, .slice Y m d, .int .i64 x] (w.heap.size + 1) 63 #[.int .i64 a0, .int .i64 a1, .int .i64 a2, .int .i64 a3, .int .i64 a4, .int .i64 a5, .int .i64 a6]), fun _ h => h, bx411, ?_⟩
            (try simp only [Act.put, List.setIfInBounds_toArray, List.set_cons_zero, List.set_cons_succ])
            refine any_one 6 rfl (by kernel_rfl) (by rfl) ?_
            obtain ⟨k0, k1, k2, k3, k4, k5, k6, k7⟩ := ag_411.four
            go_simp
            have hltg412 : w401.heap.size < w411.heap.size := ag_411.lt
            have AG412 : At ((((w411.setCell ⟨w401.heap.size, 0, none⟩ (.int .i64 tc)).setCell ⟨w401.heap.size, 1, none⟩ (.slice A411 n411 c411)).setCell ⟨w401.heap.size, 2, none⟩ (.slice B411 m411 d411)).setCell ⟨w401.heap.size, 3, none⟩ (.int .i64 tx)) w401.heap.size 43 #[.int .i64 tc, .slice A411 n411 c411, .slice B411 m411 d411, .int .i64 tx] := ((((ag_411.set 0 (.int .i64 tc)).set 1 (.slice A411 n411 c411)).set 2 (.slice B411 m411 d411)).set 3 (.int .i64 tx))
            have bx412 := ((((bx411.far (p := ⟨w401.heap.size, 0, none⟩) (by show w.heap.size ≠ w401.heap.size ∧ w.heap.size + 1 ≠ w401.heap.size; have := gl409; omega) (.int .i64 tc)).far (p := ⟨w401.heap.size, 1, none⟩) (by show w.heap.size ≠ w401.heap.size ∧ w.heap.size + 1 ≠ w401.heap.size; have := gl409; omega) (.slice A411 n411 c411)).far (p := ⟨w401.heap.size, 2, none⟩) (by show w.heap.size ≠ w401.heap.size ∧ w.heap.size + 1 ≠ w401.heap.size; have := gl409; omega) (.slice B411 m411 d411)).far (p := ⟨w401.heap.size, 3, none⟩) (by show w.heap.size ≠ w401.heap.size ∧ w.heap.size + 1 ≠ w401.heap.size; have := gl409; omega) (.int .i64 tx))
            have hB412 := ((((hB411.setCell (p := ⟨w401.heap.size, 0, none⟩) gl409 (.int .i64 tc)).setCell (p := ⟨w401.heap.size, 1, none⟩) gl409 (.slice A411 n411 c411)).setCell (p := ⟨w401.heap.size, 2, none⟩) gl409 (.slice B411 m411 d411)).setCell (p := ⟨w401.heap.size, 3, none⟩) gl409 (.int .i64 tx))
            have ws_412 := ws411
            have ws_412 := ws_412.apart (by decide) ag_411 0 (.int .i64 tc)
            have ws_412 := ws_412.apart (by decide) ((ag_411.set 0 (.int .i64 tc))) 1 (.slice A411 n411 c411)
            have ws_412 := ws_412.apart (by decide) (((ag_411.set 0 (.int .i64 tc)).set 1 (.slice A411 n411 c411))) 2 (.slice B411 m411 d411)
            have ws_412 := ws_412.apart (by decide) ((((ag_411.set 0 (.int .i64 tc)).set 1 (.slice A411 n411 c411)).set 2 (.slice B411 m411 d411))) 3 (.int .i64 tx)
            have wh_412 := wh411
            have wh_412 := wh_412.apart (by decide) ag_411 0 (.int .i64 tc)
            have wh_412 := wh_412.apart (by decide) ((ag_411.set 0 (.int .i64 tc))) 1 (.slice A411 n411 c411)
            have wh_412 := wh_412.apart (by decide) (((ag_411.set 0 (.int .i64 tc)).set 1 (.slice A411 n411 c411))) 2 (.slice B411 m411 d411)
            have wh_412 := wh_412.apart (by decide) ((((ag_411.set 0 (.int .i64 tc)).set 1 (.slice A411 n411 c411)).set 2 (.slice B411 m411 d411))) 3 (.int .i64 tx)
            refine ⟨(fun u => At2 u w.heap.size 60 #[.slice X n c, .slice Y m d, .int .i64 x] (w.heap.size + 1) 63 #[.int .i64 a0, .int .i64 a1, .int .i64 a2, .int .i64 a3, .int .i64 a4, .int .i64 a5, .int .i64 a6]), fun _ h => h, bx412, ?_⟩
            (try simp only [Act.put, List.setIfInBounds_toArray, List.set_cons_zero, List.set_cons_succ])
            refine any_done (by kernel_rfl) ?_
            go_wp2
            go_meet
            exact ⟨_, _, _, _, _, _, _, rfl, AG412, ws_412.from_ hB410.size, wh_412.from_ hB410.size, hB412⟩
        · go_simp
          have ag413 := At.newAt' (w := w37.drew) (t := 43) (cs := #[.int .i64 0, .slice none 0 0, .slice none 0 0, .int .i64 0]) (show w37.drew.heap.size = w37.heap.size by first | rfl | simp)
          have gl413 : w37.heap.size ≤ w37.heap.size := by first | exact hBd.size | exact Nat.le_refl _ | (have := hBd.size; simp at this ⊢; try omega)
          have hal413 := (Below.refl w37.drew.heap.size w37.drew).alloc (Nat.le_refl _) (.cells #[.int .i64 0, .slice none 0 0, .slice none 0 0, .int .i64 0] 43)
          have hB413 := hBd.alloc hBd.size (.cells #[.int .i64 0, .slice none 0 0, .slice none 0 0, .int .i64 0] 43)
          have bx413 := bxd.alloc (.cells #[.int .i64 0, .slice none 0 0, .slice none 0 0, .int .i64 0] 43)
          have ra24_413 := ra24d.lift hal413
          have rb24_413 := rb24d.lift hal413
          have hF24_413 := hF24d.below hal413
          refine ⟨(fun u => At2 u w.heap.size 60 #[.slice X n c, .slice Y m d, .int .i64 x] (w.heap.size + 1) 63 #[.int .i64 a0, .int .i64 a1, .int .i64 a2, .int .i64 a3, .int .i64 a4, .int .i64 a5, .int .i64 a6]), fun _ h => h, bx413, ?_⟩
          (try simp only [Act.put, List.setIfInBounds_toArray, List.set_cons_zero, List.set_cons_succ])
          refine any_one 1 rfl (by kernel_rfl) (by rfl) ?_
          go_simp
          refine (toState X Y n c m d l h x _ ra24_413 rb24_413 Hn.out Hm.out hn1 hm1).mono ?_
          rintro e w414 ⟨A414, c414, B414, d414, rfl, os414, oh414, hb414⟩
          have hB414 := hB413.trans (hb414.mono hB413.size)
          have bx414 := bx413.below hb414 bx413.lt
          have ag_414 := ag413.below hb414 ag413.lt
          have ra24_414 := ra24_413.lift hb414
          have rb24_414 := rb24_413.lift hb414
          have hF24_414 := hF24_413.below hb414
          refine ⟨(fun u => At2 u w.heap.size 60 #[.slice X n c, .slice Y m d, .int .i64 x] (w.heap.size + 1) 63 #[.int .i64 a0, .int .i64 a1, .int .i64 a2, .int .i64 a3, .int .i64 a4, .int .i64 a5, .int .i64 a6]), fun _ h => h, bx414, ?_⟩
          (try simp only [Act.put, List.setIfInBounds_toArray, List.set_cons_zero, List.set_cons_succ])
          refine any_one 3 rfl (by kernel_rfl) (by rfl) ?_
          go_simp
          refine (toRecord a0 a1 a2 a3 a4 a5 a6 _).mono ?_
          rintro e w415 ⟨rfl, hb415⟩
          have hB415 := hB414.trans (hb415.mono hB414.size)
          have bx415 := bx414.below hb415 bx414.lt
          have ag_415 := ag_414.below hb415 ag_414.lt
          have os_415 := os414.below hb415 (Nat.le_refl _)
          have oh_415 := oh414.below hb415 (Nat.le_refl _)
          have ra24_415 := ra24_414.lift hb415
          have rb24_415 := rb24_414.lift hb415
          have hF24_415 := hF24_414.below hb415
          refine ⟨(fun u => At2 u w.heap.size 60 #[.slice X n c, .slice Y m d, .int .i64 x] (w.heap.size + 1) 63 #[.int .i64 a0, .int .i64 a1, .int .i64 a2, .int .i64 a3, .int .i64 a4, .int .i64 a5, .int .i64 a6]), fun _ h => h, bx415, ?_⟩
          (try simp only [Act.put, List.setIfInBounds_toArray, List.set_cons_zero, List.set_cons_succ])
          refine any_one 4 rfl (by kernel_rfl) (by rfl) ?_
          go_simp
          refine (IP A414 B414 c414 d414 _ (os_415.rd okS) (oh_415.rd okH) hF24_415).mono ?_
          rintro e w416 ⟨A416, n416, c416, B416, m416, d416, rfl, ws416, wh416, hb416⟩
          have hB416 := hB415.trans (hb416.mono hB415.size)
          have bx416 := bx415.below hb416 bx415.lt
          have ag_416 := ag_415.below hb416 ag_415.lt
          have os_416 := os_415.below hb416 (Nat.le_refl _)
          have oh_416 := oh_415.below hb416 (Nat.le_refl _)
          have ra24_416 := ra24_415.lift hb416
          have rb24_416 := rb24_415.lift hb416
          have hF24_416 := hF24_415.below hb416
          refine ⟨(fun u => At2 u w.heap.size 60 #[.slice X n c, .slice Y m d, .int .i64 x] (w.heap.size + 1) 63 #[.int .i64 a0, .int .i64 a1, .int .i64 a2, .int .i64 a3, .int .i64 a4, .int .i64 a5, .int .i64 a6]), fun _ h => h, bx416, ?_⟩
          (try simp only [Act.put, List.setIfInBounds_toArray, List.set_cons_zero, List.set_cons_succ])
          refine any_one 6 rfl (by kernel_rfl) (by rfl) ?_
          obtain ⟨k0, k1, k2, k3, k4, k5, k6, k7⟩ := ag_416.four
          go_simp
          have hltg417 : w37.heap.size < w416.heap.size := ag_416.lt
          have AG417 : At ((((w416.setCell ⟨w37.heap.size, 0, none⟩ (.int .i64 tc)).setCell ⟨w37.heap.size, 1, none⟩ (.slice A416 n416 c416)).setCell ⟨w37.heap.size, 2, none⟩ (.slice B416 m416 d416)).setCell ⟨w37.heap.size, 3, none⟩ (.int .i64 tx)) w37.heap.size 43 #[.int .i64 tc, .slice A416 n416 c416, .slice B416 m416 d416, .int .i64 tx] := ((((ag_416.set 0 (.int .i64 tc)).set 1 (.slice A416 n416 c416)).set 2 (.slice B416 m416 d416)).set 3 (.int .i64 tx))
          have bx417 := ((((bx416.far (p := ⟨w37.heap.size, 0, none⟩) (by show w.heap.size ≠ w37.heap.size ∧ w.heap.size + 1 ≠ w37.heap.size; have := gl413; omega) (.int .i64 tc)).far (p := ⟨w37.heap.size, 1, none⟩) (by show w.heap.size ≠ w37.heap.size ∧ w.heap.size + 1 ≠ w37.heap.size; have := gl413; omega) (.slice A416 n416 c416)).far (p := ⟨w37.heap.size, 2, none⟩) (by show w.heap.size ≠ w37.heap.size ∧ w.heap.size + 1 ≠ w37.heap.size; have := gl413; omega) (.slice B416 m416 d416)).far (p := ⟨w37.heap.size, 3, none⟩) (by show w.heap.size ≠ w37.heap.size ∧ w.heap.size + 1 ≠ w37.heap.size; have := gl413; omega) (.int .i64 tx))
          have hB417 := ((((hB416.setCell (p := ⟨w37.heap.size, 0, none⟩) gl413 (.int .i64 tc)).setCell (p := ⟨w37.heap.size, 1, none⟩) gl413 (.slice A416 n416 c416)).setCell (p := ⟨w37.heap.size, 2, none⟩) gl413 (.slice B416 m416 d416)).setCell (p := ⟨w37.heap.size, 3, none⟩) gl413 (.int .i64 tx))
          have ws_417 := ws416
          have ws_417 := ws_417.apart (by decide) ag_416 0 (.int .i64 tc)
          have ws_417 := ws_417.apart (by decide) ((ag_416.set 0 (.int .i64 tc))) 1 (.slice A416 n416 c416)
          have ws_417 := ws_417.apart (by decide) (((ag_416.set 0 (.int .i64 tc)).set 1 (.slice A416 n416 c416))) 2 (.slice B416 m416 d416)
          have ws_417 := ws_417.apart (by decide) ((((ag_416.set 0 (.int .i64 tc)).set 1 (.slice A416 n416 c416)).set 2 (.slice B416 m416 d416))) 3 (.int .i64 tx)
          have wh_417 := wh416
          have wh_417 := wh_417.apart (by decide) ag_416 0 (.int .i64 tc)
          have wh_417 := wh_417.apart (by decide) ((ag_416.set 0 (.int .i64 tc))) 1 (.slice A416 n416 c416)
          have wh_417 := wh_417.apart (by decide) (((ag_416.set 0 (.int .i64 tc)).set 1 (.slice A416 n416 c416))) 2 (.slice B416 m416 d416)
          have wh_417 := wh_417.apart (by decide) ((((ag_416.set 0 (.int .i64 tc)).set 1 (.slice A416 n416 c416)).set 2 (.slice B416 m416 d416))) 3 (.int .i64 tx)
          refine ⟨(fun u => At2 u w.heap.size 60 #[.slice X n c, .slice Y m d, .int .i64 x] (w.heap.size + 1) 63 #[.int .i64 a0, .int .i64 a1, .int .i64 a2, .int .i64 a3, .int .i64 a4, .int .i64 a5, .int .i64 a6]), fun _ h => h, bx417, ?_⟩
          (try simp only [Act.put, List.setIfInBounds_toArray, List.set_cons_zero, List.set_cons_succ])
          refine any_done (by kernel_rfl) ?_
          go_wp2
          go_meet
          exact ⟨_, _, _, _, _, _, _, rfl, AG417, ws_417.from_ hB415.size, wh_417.from_ hB415.size, hB417⟩
      case rest =>
        obtain ⟨gh0, Ah, nh, ch, Bh, mh, dh, rfl, AH, hs, hh, HB4⟩ := hcut
        rename World => wD
        have hb60 := HB4
        have bl_60 := bl_37.below hb60 bl_37.lt
        have br_60 := br_37.below hb60 br_37.lt
        have aw_60 := aw_37.below hb60 aw_37.lt
        have ag_60 := ag_37.below hb60 ag_37.lt
        have ws_60 := ws_37.below hb60 (Nat.le_refl _)
        have wh_60 := wh_37.below hb60 (Nat.le_refl _)
        have gs_60 := gs_37.below hb60 (Nat.le_refl _)
        have gh_60 := gh_37.below hb60 (Nat.le_refl _)
        have S60 := Lib.hid hb60.size
        have hB60 := hB37.trans (hb60.mono hB37.size)
        have hlh1 := hs.len okS
        have hlh2 := hh.len okH
        have hnh : nh ≤ 160 := by have := Hle1.out; omega
        have hmh : mh ≤ 8 := by have := Hle2.out; omega
        obtain ⟨bl0_60, bl1_60, bl2_60, _, _, _⟩ := bl_60.three
        obtain ⟨br0_60, br1_60, br2_60, br3_60, br4_60, br5_60, br6_60⟩ := br_60.seven
        obtain ⟨aw0_60, aw1_60, aw2_60, aw3_60, _, _, _, _⟩ := aw_60.four
        obtain ⟨ag0_60, ag1_60, ag2_60, ag3_60, _, _, _, _⟩ := ag_60.four
        obtain ⟨ah0_60, ah1_60, ah2_60, ah3_60, _, _, _, _⟩ := AH.four
        go_wp2_with fail
        refine (eqStateResult_same tc Ah Bh Aw Bw nh ch mh dh nw cw mw dw tl th tx _ (hs.rd okS) (hh.rd okH) (ws_60.rd okS) (wh_60.rd okH) (hs.len okS) (hh.len okH) (ws_60.len okS) (wh_60.len okH) (by unfold maxLen; omega) (by unfold maxLen; omega)).mono ?_
        rintro e w61 ⟨rfl, hb61⟩
        have bl_61 := bl_60.below hb61 bl_60.lt
        have br_61 := br_60.below hb61 br_60.lt
        have aw_61 := aw_60.below hb61 aw_60.lt
        have ag_61 := ag_60.below hb61 ag_60.lt
        have ah_61 := AH.below hb61 AH.lt
        have ws_61 := ws_60.below hb61 (Nat.le_refl _)
        have wh_61 := wh_60.below hb61 (Nat.le_refl _)
        have gs_61 := gs_60.below hb61 (Nat.le_refl _)
        have gh_61 := gh_60.below hb61 (Nat.le_refl _)
        have hs_61 := hs.below hb61 (Nat.le_refl _)
        have hh_61 := hh.below hb61 (Nat.le_refl _)
        have S61 := Lib.hid hb61.size
        have hB61 := hB60.trans (hb61.mono hB60.size)
        obtain ⟨bl0_61, bl1_61, bl2_61, _, _, _⟩ := bl_61.three
        obtain ⟨br0_61, br1_61, br2_61, br3_61, br4_61, br5_61, br6_61⟩ := br_61.seven
        obtain ⟨ag0_61, ag1_61, ag2_61, ag3_61, _, _, _, _⟩ := ag_61.four
        go_wp2_with fail
        refine (heldStateResult tc Ag Bg ng cg mg dg tx _ (gs_61.rd okS) (gh_61.rd okH) (by omega) (by omega)).mono ?_
        rintro e w62 ⟨rfl, hb62⟩
        have bl_62 := bl_61.below hb62 bl_61.lt
        have br_62 := br_61.below hb62 br_61.lt
        have ag_62 := ag_61.below hb62 ag_61.lt
        have gs_62 := gs_61.below hb62 (Nat.le_refl _)
        have gh_62 := gh_61.below hb62 (Nat.le_refl _)
        have S62 := Lib.hid hb62.size
        have hB62 := hB61.trans (hb62.mono hB61.size)
        go_wp2_with fail
        go_ret
        exact ⟨rfl, hB62⟩
end Go.Proofs.YteiclanlhnccnaaGreatDoor
