import Derived.Test.YtkgbjlbhlhdhbaaDoorAny
import Derived.Test.YtkgbjlbhlhdhbaaDoorStoreI
import Derived.Deep.DeepCutAuto
namespace Go.Proofs.YtkgbjlbhlhdhbaaDoor
set_option maxRecDepth 20000
open Go.RowKit
set_option linter.unusedSimpArgs false
set_option linter.unusedVariables false

theorem eqSampleResultS (c a0 a1 a2 a3 : Int) (w : World) :
    Calls Tryd.prog 37 #[.agg #[.int .i64 c, .int .i64 a0, .int .i64 a1, .int .i64 a2, .int .i64 a3], .agg #[.int .i64 c, .int .i64 a0, .int .i64 a1, .int .i64 a2, .int .i64 a3]] w fun e w' => e = .returned (.bool true) ∧ Below w.heap.size w w' := by
  have hB0 : Below w.heap.size w ((w.alloc (.cells #[.int .i64 c, .int .i64 a0, .int .i64 a1, .int .i64 a2, .int .i64 a3] 38)).alloc (.cells #[.int .i64 c, .int .i64 a0, .int .i64 a1, .int .i64 a2, .int .i64 a3] 38)) := ((Below.refl _ _).alloc (Nat.le_refl _) _).alloc (by simp) _
  go_enter Tryd.func37, Tryd.ntmps37
  go_wp2_with (go_at_call 68; refine (eqSample _ _ _ _ _ _ _ _ _).mono ?_; rintro e w1 ⟨rfl, hb1⟩)
  go_ret
  exact ⟨by simp, hB0.trans (hb1.mono hB0.size)⟩

set_option maxRecDepth 100000 in
set_option maxHeartbeats 4000000 in
theorem fnExactFindSample_walk (HI : ∀ (A : Option Addr) (n c : Nat) (l : List Smp) (x0 x1 x2 x3 : Int) (W : World), Rd eS W W.heap.size A l → l.length = n → n ≤ 1048576 → Flds W → Calls Tryd.prog 16 #[.slice A n c, .agg #[.int .i64 x0, .int .i64 x1, .int .i64 x2, .int .i64 x3]] W (RetSR (lookM l (x0, x1, x2, x3)) W))
    (X0 : Option Addr) (n0 d0 : Nat) (l0 : List Smp) (a0 b0 c0 e0 : Int) (w : World) (ha0 : Rd eL w w.heap.size X0 l0) (hn0 : l0.length = n0) (hM0 : n0 ≤ maxLen) (hF : Flds w) :
    Calls Tryd.prog 7 #[.slice X0 n0 d0, .agg #[.int .i64 a0, .int .i64 b0, .int .i64 c0, .int .i64 e0]] w fun e w' => e = .returned (.bool true) ∧ Below w.heap.size w w' := by
  have Hn0 := Lib.hid hn0
  clear hn0
  have hB0 := (Below.refl w.heap.size w).alloc (Nat.le_refl _) (.cells #[.int .i64 a0, .int .i64 b0, .int .i64 c0, .int .i64 e0] 50)
  have ax := At.new w 50 #[.int .i64 a0, .int .i64 b0, .int .i64 c0, .int .i64 e0]
  have hs0 : (w.alloc (.cells #[.int .i64 a0, .int .i64 b0, .int .i64 c0, .int .i64 e0] 50)).heap.size = w.heap.size + 1 := by simp
  by_cases hbig : 1048576 < n0
  · go_enter Tryd.func7, Tryd.ntmps7
    go_wp2_with fail
    refine (szSampleS X0 n0 d0 1048576 _ (by omega) (by omega) hM0).mono ?_
    rintro e w' ⟨rfl, rfl⟩
    rw [if_pos (by omega)]
    go_wp2
    go_ret
    exact ⟨rfl, hB0⟩
  have hm0 : n0 ≤ 1048576 := by omega
  clear hbig
  go_enter Tryd.func7, Tryd.ntmps7
  go_wp2_with fail
  refine (szSampleS X0 n0 d0 1048576 _ (by omega) (by omega) hM0).mono ?_
  rintro e w' ⟨rfl, rfl⟩
  rw [if_neg (by omega)]
  have hl : ¬ (1048576 : Int) - (n0 : Int) < 0 := by omega
  have ha1 := ha0.lift hB0
  have bl : w.heap.size < (w.alloc (.cells #[.int .i64 a0, .int .i64 b0, .int .i64 c0, .int .i64 e0] 50)).heap.size := by simp
  go_upto_region 5 with fail
  go_cut [6] (fun s wx => ∃ g, s = .pointer (some ⟨g, 0, none⟩) ∧ At wx g 38 #[.int .i64 (lookM l0 (a0, b0, c0, e0)).1, .int .i64 (lookM l0 (a0, b0, c0, e0)).2.1, .int .i64 (lookM l0 (a0, b0, c0, e0)).2.2.1, .int .i64 (lookM l0 (a0, b0, c0, e0)).2.2.2.1, .int .i64 (lookM l0 (a0, b0, c0, e0)).2.2.2.2] ∧ Below (w.alloc (.cells #[.int .i64 a0, .int .i64 b0, .int .i64 c0, .int .i64 e0] 50)).heap.size (w.alloc (.cells #[.int .i64 a0, .int .i64 b0, .int .i64 c0, .int .i64 e0] 50)) wx)
  case first =>
    refine any_start (fun u => At u w.heap.size 50 #[.int .i64 a0, .int .i64 b0, .int .i64 c0, .int .i64 e0]) (by kernel_rfl) ax.drew (fun _ => ?_)
    have hBd := (Below.refl (w.alloc (.cells #[.int .i64 a0, .int .i64 b0, .int .i64 c0, .int .i64 e0] 50)).heap.size (w.alloc (.cells #[.int .i64 a0, .int .i64 b0, .int .i64 c0, .int .i64 e0] 50))).drew
    have bxd := ax.drew
    have ha1d := ha1.drewN 1
    refine any_pure (v := ?_) 0 rfl (by kernel_rfl) (fun _ _ _ _ _ h => h) (by rfl) (fun u hu => ?_) bxd ?_
    rotate_left
    · obtain ⟨_, _, _, _, _, _, _, _⟩ := At.four hu
      go_simp
      (with_reducible rfl)
    (try simp only [Act.put, List.setIfInBounds_toArray, List.set_cons_zero, List.set_cons_succ])
    refine any_pure (v := ?_) 2 rfl (by kernel_rfl) (fun _ _ _ _ _ h => h) (by rfl) (fun u hu => ?_) bxd ?_
    rotate_left
    · obtain ⟨_, _, _, _, _, _, _, _⟩ := At.four hu
      go_simp
      (with_reducible rfl)
    (try simp only [Act.put, List.setIfInBounds_toArray, List.set_cons_zero, List.set_cons_succ])
    refine any_two 1 5 rfl rfl (by kernel_rfl) (by rfl) (by rfl) ?_ ?_
    · go_simp
      refine (toSampleS X0 n0 d0 l0 _ ha1d Hn0.out hm0).mono ?_
      rintro e w101 ⟨A101, c101, rfl, ox101, hb101⟩
      have hB101 := hBd.trans (hb101.mono hBd.size)
      have bx101 := bxd.below hb101 bxd.lt
      have ha1_101 := ha1d.lift hb101
      refine ⟨(fun u => At u w.heap.size 50 #[.int .i64 a0, .int .i64 b0, .int .i64 c0, .int .i64 e0]), fun _ h => h, bx101, ?_⟩
      (try simp only [Act.put, List.setIfInBounds_toArray, List.set_cons_zero, List.set_cons_succ])
      refine any_two 3 5 rfl rfl (by kernel_rfl) (by rfl) (by rfl) ?_ ?_
      · go_simp
        refine (toSample a0 b0 c0 e0 _).mono ?_
        rintro e w102 ⟨rfl, hb102⟩
        have hB102 := hB101.trans (hb102.mono hB101.size)
        have bx102 := bx101.below hb102 bx101.lt
        have ox_102 := ox101.below hb102 (Nat.le_refl _)
        have ha1_102 := ha1_101.lift hb102
        refine ⟨(fun u => At u w.heap.size 50 #[.int .i64 a0, .int .i64 b0, .int .i64 c0, .int .i64 e0]), fun _ h => h, bx102, ?_⟩
        (try simp only [Act.put, List.setIfInBounds_toArray, List.set_cons_zero, List.set_cons_succ])
        refine any_two 4 5 rfl rfl (by kernel_rfl) (by rfl) (by rfl) ?_ ?_
        · go_simp
          refine (specFindSample A101 n0 c101 l0 a0 b0 c0 e0 _ (ox_102.rd okS) Hn0.out hm0).mono ?_
          rintro e w103 ⟨rfl, hb103⟩
          have hB103 := hB102.trans (hb103.mono hB102.size)
          have bx103 := bx102.below hb103 bx102.lt
          have ox_103 := ox_102.below hb103 (Nat.le_refl _)
          have ha1_103 := ha1_102.lift hb103
          refine ⟨(fun u => At u w.heap.size 50 #[.int .i64 a0, .int .i64 b0, .int .i64 c0, .int .i64 e0]), fun _ h => h, bx103, ?_⟩
          (try simp only [Act.put, List.setIfInBounds_toArray, List.set_cons_zero, List.set_cons_succ])
          refine any_one 5 rfl (by kernel_rfl) (by rfl) ?_
          go_simp
          have ag104 := At.newAt' (w := w103) (t := 38) (cs := #[.int .i64 0, .int .i64 0, .int .i64 0, .int .i64 0, .int .i64 0]) (show w103.heap.size = w103.heap.size by first | rfl | simp)
          have gl104 : (w.alloc (.cells #[.int .i64 a0, .int .i64 b0, .int .i64 c0, .int .i64 e0] 50)).heap.size ≤ w103.heap.size := by first | exact Nat.le_refl _ | exact hB103.size | (have := hB103.size; simp at this ⊢; try omega)
          have hB104 := hB103.alloc hB103.size (.cells #[.int .i64 0, .int .i64 0, .int .i64 0, .int .i64 0, .int .i64 0] 38)
          have bx104 := bx103.alloc (.cells #[.int .i64 0, .int .i64 0, .int .i64 0, .int .i64 0, .int .i64 0] 38)
          have ox_104 := ox_103.alloc (.cells #[.int .i64 0, .int .i64 0, .int .i64 0, .int .i64 0, .int .i64 0] 38)
          have ha1_104 := ha1_103.lift ((Below.refl _ _).alloc (Nat.le_refl _) (.cells #[.int .i64 0, .int .i64 0, .int .i64 0, .int .i64 0, .int .i64 0] 38))
          refine ⟨(fun u => At u w.heap.size 50 #[.int .i64 a0, .int .i64 b0, .int .i64 c0, .int .i64 e0]), fun _ h => h, bx104, ?_⟩
          (try simp only [Act.put, List.setIfInBounds_toArray, List.set_cons_zero, List.set_cons_succ])
          refine any_one 6 rfl (by kernel_rfl) (by rfl) ?_
          go_simp
          have AG := At.new w103 38 #[.int .i64 (lookM l0 (a0, b0, c0, e0)).1, .int .i64 (lookM l0 (a0, b0, c0, e0)).2.1, .int .i64 (lookM l0 (a0, b0, c0, e0)).2.2.1, .int .i64 (lookM l0 (a0, b0, c0, e0)).2.2.2.1, .int .i64 (lookM l0 (a0, b0, c0, e0)).2.2.2.2]
          have BX := bx103.alloc (.cells #[.int .i64 (lookM l0 (a0, b0, c0, e0)).1, .int .i64 (lookM l0 (a0, b0, c0, e0)).2.1, .int .i64 (lookM l0 (a0, b0, c0, e0)).2.2.1, .int .i64 (lookM l0 (a0, b0, c0, e0)).2.2.2.1, .int .i64 (lookM l0 (a0, b0, c0, e0)).2.2.2.2] 38)
          have HB := hB103.alloc hB103.size (.cells #[.int .i64 (lookM l0 (a0, b0, c0, e0)).1, .int .i64 (lookM l0 (a0, b0, c0, e0)).2.1, .int .i64 (lookM l0 (a0, b0, c0, e0)).2.2.1, .int .i64 (lookM l0 (a0, b0, c0, e0)).2.2.2.1, .int .i64 (lookM l0 (a0, b0, c0, e0)).2.2.2.2] 38)
          refine ⟨(fun u => At u w.heap.size 50 #[.int .i64 a0, .int .i64 b0, .int .i64 c0, .int .i64 e0]), fun _ h => h, BX, ?_⟩
          (try simp only [Act.put, List.setIfInBounds_toArray, List.set_cons_zero, List.set_cons_succ])
          refine any_done (by kernel_rfl) ?_
          go_wp2
          go_meet
          exact ⟨_, rfl, AG, HB⟩
        · go_simp
          have ag105 := At.newAt' (w := w102) (t := 38) (cs := #[.int .i64 0, .int .i64 0, .int .i64 0, .int .i64 0, .int .i64 0]) (show w102.heap.size = w102.heap.size by first | rfl | simp)
          have gl105 : (w.alloc (.cells #[.int .i64 a0, .int .i64 b0, .int .i64 c0, .int .i64 e0] 50)).heap.size ≤ w102.heap.size := by first | exact Nat.le_refl _ | exact hB102.size | (have := hB102.size; simp at this ⊢; try omega)
          have hB105 := hB102.alloc hB102.size (.cells #[.int .i64 0, .int .i64 0, .int .i64 0, .int .i64 0, .int .i64 0] 38)
          have bx105 := bx102.alloc (.cells #[.int .i64 0, .int .i64 0, .int .i64 0, .int .i64 0, .int .i64 0] 38)
          have ox_105 := ox_102.alloc (.cells #[.int .i64 0, .int .i64 0, .int .i64 0, .int .i64 0, .int .i64 0] 38)
          have ha1_105 := ha1_102.lift ((Below.refl _ _).alloc (Nat.le_refl _) (.cells #[.int .i64 0, .int .i64 0, .int .i64 0, .int .i64 0, .int .i64 0] 38))
          refine ⟨(fun u => At u w.heap.size 50 #[.int .i64 a0, .int .i64 b0, .int .i64 c0, .int .i64 e0]), fun _ h => h, bx105, ?_⟩
          (try simp only [Act.put, List.setIfInBounds_toArray, List.set_cons_zero, List.set_cons_succ])
          refine any_one 4 rfl (by kernel_rfl) (by rfl) ?_
          go_simp
          refine (specFindSample A101 n0 c101 l0 a0 b0 c0 e0 _ (ox_105.rd okS) Hn0.out hm0).mono ?_
          rintro e w106 ⟨rfl, hb106⟩
          have hB106 := hB105.trans (hb106.mono hB105.size)
          have bx106 := bx105.below hb106 bx105.lt
          have ag106 := ag105.below hb106 ag105.lt
          have ox_106 := ox_105.below hb106 (Nat.le_refl _)
          have ha1_106 := ha1_105.lift hb106
          refine ⟨(fun u => At u w.heap.size 50 #[.int .i64 a0, .int .i64 b0, .int .i64 c0, .int .i64 e0]), fun _ h => h, bx106, ?_⟩
          (try simp only [Act.put, List.setIfInBounds_toArray, List.set_cons_zero, List.set_cons_succ])
          refine any_one 6 rfl (by kernel_rfl) (by rfl) ?_
          obtain ⟨k0, k1, k2, k3, k4, k5, k6, k7, k8, k9⟩ := ag106.five
          go_simp
          have gb := ag105.lt
          have BX := bx106
          have HB := hB106
          have AG := ag106
          have bl := hB105.size
          have bxl : w.heap.size < w102.heap.size := by have := hs0; omega
          have AG := AG.set 0 (.int .i64 (lookM l0 (a0, b0, c0, e0)).1)
          have BX := BX.far (p := ⟨w102.heap.size, 0, none⟩) (by show w.heap.size ≠ w102.heap.size; omega) (.int .i64 (lookM l0 (a0, b0, c0, e0)).1)
          have HB := HB.setCell (p := ⟨w102.heap.size, 0, none⟩) gl105 (.int .i64 (lookM l0 (a0, b0, c0, e0)).1)
          have AG := AG.set 1 (.int .i64 (lookM l0 (a0, b0, c0, e0)).2.1)
          have BX := BX.far (p := ⟨w102.heap.size, 1, none⟩) (by show w.heap.size ≠ w102.heap.size; omega) (.int .i64 (lookM l0 (a0, b0, c0, e0)).2.1)
          have HB := HB.setCell (p := ⟨w102.heap.size, 1, none⟩) gl105 (.int .i64 (lookM l0 (a0, b0, c0, e0)).2.1)
          have AG := AG.set 2 (.int .i64 (lookM l0 (a0, b0, c0, e0)).2.2.1)
          have BX := BX.far (p := ⟨w102.heap.size, 2, none⟩) (by show w.heap.size ≠ w102.heap.size; omega) (.int .i64 (lookM l0 (a0, b0, c0, e0)).2.2.1)
          have HB := HB.setCell (p := ⟨w102.heap.size, 2, none⟩) gl105 (.int .i64 (lookM l0 (a0, b0, c0, e0)).2.2.1)
          have AG := AG.set 3 (.int .i64 (lookM l0 (a0, b0, c0, e0)).2.2.2.1)
          have BX := BX.far (p := ⟨w102.heap.size, 3, none⟩) (by show w.heap.size ≠ w102.heap.size; omega) (.int .i64 (lookM l0 (a0, b0, c0, e0)).2.2.2.1)
          have HB := HB.setCell (p := ⟨w102.heap.size, 3, none⟩) gl105 (.int .i64 (lookM l0 (a0, b0, c0, e0)).2.2.2.1)
          have AG := AG.set 4 (.int .i64 (lookM l0 (a0, b0, c0, e0)).2.2.2.2)
          have BX := BX.far (p := ⟨w102.heap.size, 4, none⟩) (by show w.heap.size ≠ w102.heap.size; omega) (.int .i64 (lookM l0 (a0, b0, c0, e0)).2.2.2.2)
          have HB := HB.setCell (p := ⟨w102.heap.size, 4, none⟩) gl105 (.int .i64 (lookM l0 (a0, b0, c0, e0)).2.2.2.2)
          refine ⟨(fun u => At u w.heap.size 50 #[.int .i64 a0, .int .i64 b0, .int .i64 c0, .int .i64 e0]), fun _ h => h, BX, ?_⟩
          (try simp only [Act.put, List.setIfInBounds_toArray, List.set_cons_zero, List.set_cons_succ])
          refine any_done (by kernel_rfl) ?_
          go_wp2
          go_meet
          exact ⟨_, rfl, AG, HB⟩
      · go_simp
        have ag107 := At.newAt' (w := w101) (t := 38) (cs := #[.int .i64 0, .int .i64 0, .int .i64 0, .int .i64 0, .int .i64 0]) (show w101.heap.size = w101.heap.size by first | rfl | simp)
        have gl107 : (w.alloc (.cells #[.int .i64 a0, .int .i64 b0, .int .i64 c0, .int .i64 e0] 50)).heap.size ≤ w101.heap.size := by first | exact Nat.le_refl _ | exact hB101.size | (have := hB101.size; simp at this ⊢; try omega)
        have hB107 := hB101.alloc hB101.size (.cells #[.int .i64 0, .int .i64 0, .int .i64 0, .int .i64 0, .int .i64 0] 38)
        have bx107 := bx101.alloc (.cells #[.int .i64 0, .int .i64 0, .int .i64 0, .int .i64 0, .int .i64 0] 38)
        have ox_107 := ox101.alloc (.cells #[.int .i64 0, .int .i64 0, .int .i64 0, .int .i64 0, .int .i64 0] 38)
        have ha1_107 := ha1_101.lift ((Below.refl _ _).alloc (Nat.le_refl _) (.cells #[.int .i64 0, .int .i64 0, .int .i64 0, .int .i64 0, .int .i64 0] 38))
        refine ⟨(fun u => At u w.heap.size 50 #[.int .i64 a0, .int .i64 b0, .int .i64 c0, .int .i64 e0]), fun _ h => h, bx107, ?_⟩
        (try simp only [Act.put, List.setIfInBounds_toArray, List.set_cons_zero, List.set_cons_succ])
        refine any_one 3 rfl (by kernel_rfl) (by rfl) ?_
        go_simp
        refine (toSample a0 b0 c0 e0 _).mono ?_
        rintro e w108 ⟨rfl, hb108⟩
        have hB108 := hB107.trans (hb108.mono hB107.size)
        have bx108 := bx107.below hb108 bx107.lt
        have ag108 := ag107.below hb108 ag107.lt
        have ox_108 := ox_107.below hb108 (Nat.le_refl _)
        have ha1_108 := ha1_107.lift hb108
        refine ⟨(fun u => At u w.heap.size 50 #[.int .i64 a0, .int .i64 b0, .int .i64 c0, .int .i64 e0]), fun _ h => h, bx108, ?_⟩
        (try simp only [Act.put, List.setIfInBounds_toArray, List.set_cons_zero, List.set_cons_succ])
        refine any_one 4 rfl (by kernel_rfl) (by rfl) ?_
        go_simp
        refine (specFindSample A101 n0 c101 l0 a0 b0 c0 e0 _ (ox_108.rd okS) Hn0.out hm0).mono ?_
        rintro e w109 ⟨rfl, hb109⟩
        have hB109 := hB108.trans (hb109.mono hB108.size)
        have bx109 := bx108.below hb109 bx108.lt
        have ag109 := ag108.below hb109 ag108.lt
        have ox_109 := ox_108.below hb109 (Nat.le_refl _)
        have ha1_109 := ha1_108.lift hb109
        refine ⟨(fun u => At u w.heap.size 50 #[.int .i64 a0, .int .i64 b0, .int .i64 c0, .int .i64 e0]), fun _ h => h, bx109, ?_⟩
        (try simp only [Act.put, List.setIfInBounds_toArray, List.set_cons_zero, List.set_cons_succ])
        refine any_one 6 rfl (by kernel_rfl) (by rfl) ?_
        obtain ⟨k0, k1, k2, k3, k4, k5, k6, k7, k8, k9⟩ := ag109.five
        go_simp
        have gb := ag108.lt
        have BX := bx109
        have HB := hB109
        have AG := ag109
        have bl := hB108.size
        have bxl : w.heap.size < w101.heap.size := by have := hs0; omega
        have AG := AG.set 0 (.int .i64 (lookM l0 (a0, b0, c0, e0)).1)
        have BX := BX.far (p := ⟨w101.heap.size, 0, none⟩) (by show w.heap.size ≠ w101.heap.size; omega) (.int .i64 (lookM l0 (a0, b0, c0, e0)).1)
        have HB := HB.setCell (p := ⟨w101.heap.size, 0, none⟩) gl107 (.int .i64 (lookM l0 (a0, b0, c0, e0)).1)
        have AG := AG.set 1 (.int .i64 (lookM l0 (a0, b0, c0, e0)).2.1)
        have BX := BX.far (p := ⟨w101.heap.size, 1, none⟩) (by show w.heap.size ≠ w101.heap.size; omega) (.int .i64 (lookM l0 (a0, b0, c0, e0)).2.1)
        have HB := HB.setCell (p := ⟨w101.heap.size, 1, none⟩) gl107 (.int .i64 (lookM l0 (a0, b0, c0, e0)).2.1)
        have AG := AG.set 2 (.int .i64 (lookM l0 (a0, b0, c0, e0)).2.2.1)
        have BX := BX.far (p := ⟨w101.heap.size, 2, none⟩) (by show w.heap.size ≠ w101.heap.size; omega) (.int .i64 (lookM l0 (a0, b0, c0, e0)).2.2.1)
        have HB := HB.setCell (p := ⟨w101.heap.size, 2, none⟩) gl107 (.int .i64 (lookM l0 (a0, b0, c0, e0)).2.2.1)
        have AG := AG.set 3 (.int .i64 (lookM l0 (a0, b0, c0, e0)).2.2.2.1)
        have BX := BX.far (p := ⟨w101.heap.size, 3, none⟩) (by show w.heap.size ≠ w101.heap.size; omega) (.int .i64 (lookM l0 (a0, b0, c0, e0)).2.2.2.1)
        have HB := HB.setCell (p := ⟨w101.heap.size, 3, none⟩) gl107 (.int .i64 (lookM l0 (a0, b0, c0, e0)).2.2.2.1)
        have AG := AG.set 4 (.int .i64 (lookM l0 (a0, b0, c0, e0)).2.2.2.2)
        have BX := BX.far (p := ⟨w101.heap.size, 4, none⟩) (by show w.heap.size ≠ w101.heap.size; omega) (.int .i64 (lookM l0 (a0, b0, c0, e0)).2.2.2.2)
        have HB := HB.setCell (p := ⟨w101.heap.size, 4, none⟩) gl107 (.int .i64 (lookM l0 (a0, b0, c0, e0)).2.2.2.2)
        refine ⟨(fun u => At u w.heap.size 50 #[.int .i64 a0, .int .i64 b0, .int .i64 c0, .int .i64 e0]), fun _ h => h, BX, ?_⟩
        (try simp only [Act.put, List.setIfInBounds_toArray, List.set_cons_zero, List.set_cons_succ])
        refine any_done (by kernel_rfl) ?_
        go_wp2
        go_meet
        exact ⟨_, rfl, AG, HB⟩
    · go_simp
      have ag110 := At.newAt' (w := (w.alloc (.cells #[.int .i64 a0, .int .i64 b0, .int .i64 c0, .int .i64 e0] 50)).drew) (t := 38) (cs := #[.int .i64 0, .int .i64 0, .int .i64 0, .int .i64 0, .int .i64 0]) (show (w.alloc (.cells #[.int .i64 a0, .int .i64 b0, .int .i64 c0, .int .i64 e0] 50)).drew.heap.size = (w.heap.size + 1) by first | rfl | simp)
      have gl110 : (w.alloc (.cells #[.int .i64 a0, .int .i64 b0, .int .i64 c0, .int .i64 e0] 50)).heap.size ≤ (w.heap.size + 1) := by first | exact Nat.le_refl _ | exact hBd.size | (have := hBd.size; simp at this ⊢; try omega)
      have hB110 := hBd.alloc hBd.size (.cells #[.int .i64 0, .int .i64 0, .int .i64 0, .int .i64 0, .int .i64 0] 38)
      have bx110 := bxd.alloc (.cells #[.int .i64 0, .int .i64 0, .int .i64 0, .int .i64 0, .int .i64 0] 38)
      have ha1_110 := ha1d.lift ((Below.refl _ _).alloc (Nat.le_refl _) (.cells #[.int .i64 0, .int .i64 0, .int .i64 0, .int .i64 0, .int .i64 0] 38))
      refine ⟨(fun u => At u w.heap.size 50 #[.int .i64 a0, .int .i64 b0, .int .i64 c0, .int .i64 e0]), fun _ h => h, bx110, ?_⟩
      (try simp only [Act.put, List.setIfInBounds_toArray, List.set_cons_zero, List.set_cons_succ])
      refine any_one 1 rfl (by kernel_rfl) (by rfl) ?_
      go_simp
      refine (toSampleS X0 n0 d0 l0 _ ha1_110 Hn0.out hm0).mono ?_
      rintro e w111 ⟨A111, c111, rfl, ox111, hb111⟩
      have hB111 := hB110.trans (hb111.mono hB110.size)
      have bx111 := bx110.below hb111 bx110.lt
      have ag111 := ag110.below hb111 ag110.lt
      have ha1_111 := ha1_110.lift hb111
      refine ⟨(fun u => At u w.heap.size 50 #[.int .i64 a0, .int .i64 b0, .int .i64 c0, .int .i64 e0]), fun _ h => h, bx111, ?_⟩
      (try simp only [Act.put, List.setIfInBounds_toArray, List.set_cons_zero, List.set_cons_succ])
      refine any_one 3 rfl (by kernel_rfl) (by rfl) ?_
      go_simp
      refine (toSample a0 b0 c0 e0 _).mono ?_
      rintro e w112 ⟨rfl, hb112⟩
      have hB112 := hB111.trans (hb112.mono hB111.size)
      have bx112 := bx111.below hb112 bx111.lt
      have ag112 := ag111.below hb112 ag111.lt
      have ox_112 := ox111.below hb112 (Nat.le_refl _)
      have ha1_112 := ha1_111.lift hb112
      refine ⟨(fun u => At u w.heap.size 50 #[.int .i64 a0, .int .i64 b0, .int .i64 c0, .int .i64 e0]), fun _ h => h, bx112, ?_⟩
      (try simp only [Act.put, List.setIfInBounds_toArray, List.set_cons_zero, List.set_cons_succ])
      refine any_one 4 rfl (by kernel_rfl) (by rfl) ?_
      go_simp
      refine (specFindSample A111 n0 c111 l0 a0 b0 c0 e0 _ (ox_112.rd okS) Hn0.out hm0).mono ?_
      rintro e w113 ⟨rfl, hb113⟩
      have hB113 := hB112.trans (hb113.mono hB112.size)
      have bx113 := bx112.below hb113 bx112.lt
      have ag113 := ag112.below hb113 ag112.lt
      have ox_113 := ox_112.below hb113 (Nat.le_refl _)
      have ha1_113 := ha1_112.lift hb113
      refine ⟨(fun u => At u w.heap.size 50 #[.int .i64 a0, .int .i64 b0, .int .i64 c0, .int .i64 e0]), fun _ h => h, bx113, ?_⟩
      (try simp only [Act.put, List.setIfInBounds_toArray, List.set_cons_zero, List.set_cons_succ])
      refine any_one 6 rfl (by kernel_rfl) (by rfl) ?_
      obtain ⟨k0, k1, k2, k3, k4, k5, k6, k7, k8, k9⟩ := ag113.five
      go_simp
      have gb := ag112.lt
      have BX := bx113
      have HB := hB113
      have AG := ag113
      have bl := hB112.size
      have bxl : w.heap.size < (w.heap.size + 1) := by have := hs0; omega
      have AG := AG.set 0 (.int .i64 (lookM l0 (a0, b0, c0, e0)).1)
      have BX := BX.far (p := ⟨(w.heap.size + 1), 0, none⟩) (by show w.heap.size ≠ (w.heap.size + 1); omega) (.int .i64 (lookM l0 (a0, b0, c0, e0)).1)
      have HB := HB.setCell (p := ⟨(w.heap.size + 1), 0, none⟩) gl110 (.int .i64 (lookM l0 (a0, b0, c0, e0)).1)
      have AG := AG.set 1 (.int .i64 (lookM l0 (a0, b0, c0, e0)).2.1)
      have BX := BX.far (p := ⟨(w.heap.size + 1), 1, none⟩) (by show w.heap.size ≠ (w.heap.size + 1); omega) (.int .i64 (lookM l0 (a0, b0, c0, e0)).2.1)
      have HB := HB.setCell (p := ⟨(w.heap.size + 1), 1, none⟩) gl110 (.int .i64 (lookM l0 (a0, b0, c0, e0)).2.1)
      have AG := AG.set 2 (.int .i64 (lookM l0 (a0, b0, c0, e0)).2.2.1)
      have BX := BX.far (p := ⟨(w.heap.size + 1), 2, none⟩) (by show w.heap.size ≠ (w.heap.size + 1); omega) (.int .i64 (lookM l0 (a0, b0, c0, e0)).2.2.1)
      have HB := HB.setCell (p := ⟨(w.heap.size + 1), 2, none⟩) gl110 (.int .i64 (lookM l0 (a0, b0, c0, e0)).2.2.1)
      have AG := AG.set 3 (.int .i64 (lookM l0 (a0, b0, c0, e0)).2.2.2.1)
      have BX := BX.far (p := ⟨(w.heap.size + 1), 3, none⟩) (by show w.heap.size ≠ (w.heap.size + 1); omega) (.int .i64 (lookM l0 (a0, b0, c0, e0)).2.2.2.1)
      have HB := HB.setCell (p := ⟨(w.heap.size + 1), 3, none⟩) gl110 (.int .i64 (lookM l0 (a0, b0, c0, e0)).2.2.2.1)
      have AG := AG.set 4 (.int .i64 (lookM l0 (a0, b0, c0, e0)).2.2.2.2)
      have BX := BX.far (p := ⟨(w.heap.size + 1), 4, none⟩) (by show w.heap.size ≠ (w.heap.size + 1); omega) (.int .i64 (lookM l0 (a0, b0, c0, e0)).2.2.2.2)
      have HB := HB.setCell (p := ⟨(w.heap.size + 1), 4, none⟩) gl110 (.int .i64 (lookM l0 (a0, b0, c0, e0)).2.2.2.2)
      refine ⟨(fun u => At u w.heap.size 50 #[.int .i64 a0, .int .i64 b0, .int .i64 c0, .int .i64 e0]), fun _ h => h, BX, ?_⟩
      (try simp only [Act.put, List.setIfInBounds_toArray, List.set_cons_zero, List.set_cons_succ])
      refine any_done (by kernel_rfl) ?_
      go_wp2
      go_meet
      exact ⟨_, rfl, AG, HB⟩
  case rest =>
    obtain ⟨gx, rfl, AX1, HB1⟩ := hcut
    have hBc := hB0.trans (HB1.mono hB0.size)
    have axc := ax.below HB1 ax.lt
    clear hl
    have ha0_0 := ha0.lift hBc
    go_wp2_with fail
    refine (toSampleS X0 n0 d0 l0 _ ha0_0 Hn0.out hm0).mono ?_
    rintro e w1 ⟨B1, f1, rfl, ox, hb1⟩
    have ax_1 := axc.below hb1 axc.lt
    have ar_1 := AX1.below hb1 AX1.lt
    have S1 := Lib.hid hb1.size
    have hB1 := hBc.trans (hb1.mono hBc.size)
    obtain ⟨ax0_1, ax1_1, ax2_1, ax3_1, _, _, _, _⟩ := ax_1.four
    obtain ⟨ar0_1, ar1_1, ar2_1, ar3_1, ar4_1, _, _, _, _, _⟩ := ar_1.five
    go_wp2_with fail
    refine (toSample a0 b0 c0 e0 _).mono ?_
    rintro e w2 ⟨rfl, hb2⟩
    have ax_2 := ax_1.below hb2 ax_1.lt
    have ar_2 := ar_1.below hb2 ar_1.lt
    have ox_2 := ox.below hb2 (Nat.le_refl _)
    have S2 := Lib.hid hb2.size
    have hB2 := hB1.trans (hb2.mono hB1.size)
    go_wp2_with fail
    refine (HI B1 n0 f1 l0 a0 b0 c0 e0 _ (ox_2.rd okS) Hn0.out hm0 (hF.below hB2)).mono ?_
    rintro e w3 ⟨rfl, hb3⟩
    have ax_3 := ax_2.below hb3 ax_2.lt
    have ar_3 := ar_2.below hb3 ar_2.lt
    have ox_3 := ox_2.below hb3 (Nat.le_refl _)
    have S3 := Lib.hid hb3.size
    have hB3 := hB2.trans (hb3.mono hB2.size)
    have ag := At.new w3 38 #[.int .i64 (lookM l0 (a0, b0, c0, e0)).1, .int .i64 (lookM l0 (a0, b0, c0, e0)).2.1, .int .i64 (lookM l0 (a0, b0, c0, e0)).2.2.1, .int .i64 (lookM l0 (a0, b0, c0, e0)).2.2.2.1, .int .i64 (lookM l0 (a0, b0, c0, e0)).2.2.2.2]
    have ax_4 := ax_3.alloc (.cells #[.int .i64 (lookM l0 (a0, b0, c0, e0)).1, .int .i64 (lookM l0 (a0, b0, c0, e0)).2.1, .int .i64 (lookM l0 (a0, b0, c0, e0)).2.2.1, .int .i64 (lookM l0 (a0, b0, c0, e0)).2.2.2.1, .int .i64 (lookM l0 (a0, b0, c0, e0)).2.2.2.2] 38)
    have ar_4 := ar_3.alloc (.cells #[.int .i64 (lookM l0 (a0, b0, c0, e0)).1, .int .i64 (lookM l0 (a0, b0, c0, e0)).2.1, .int .i64 (lookM l0 (a0, b0, c0, e0)).2.2.1, .int .i64 (lookM l0 (a0, b0, c0, e0)).2.2.2.1, .int .i64 (lookM l0 (a0, b0, c0, e0)).2.2.2.2] 38)
    have ox_4 := ox_3.alloc (.cells #[.int .i64 (lookM l0 (a0, b0, c0, e0)).1, .int .i64 (lookM l0 (a0, b0, c0, e0)).2.1, .int .i64 (lookM l0 (a0, b0, c0, e0)).2.2.1, .int .i64 (lookM l0 (a0, b0, c0, e0)).2.2.2.1, .int .i64 (lookM l0 (a0, b0, c0, e0)).2.2.2.2] 38)
    have S4 := Lib.hid (show (w3.alloc (.cells #[.int .i64 (lookM l0 (a0, b0, c0, e0)).1, .int .i64 (lookM l0 (a0, b0, c0, e0)).2.1, .int .i64 (lookM l0 (a0, b0, c0, e0)).2.2.1, .int .i64 (lookM l0 (a0, b0, c0, e0)).2.2.2.1, .int .i64 (lookM l0 (a0, b0, c0, e0)).2.2.2.2] 38)).heap.size = w3.heap.size + 1 by simp)
    have hB4 := hB3.alloc hB3.size (.cells #[.int .i64 (lookM l0 (a0, b0, c0, e0)).1, .int .i64 (lookM l0 (a0, b0, c0, e0)).2.1, .int .i64 (lookM l0 (a0, b0, c0, e0)).2.2.1, .int .i64 (lookM l0 (a0, b0, c0, e0)).2.2.2.1, .int .i64 (lookM l0 (a0, b0, c0, e0)).2.2.2.2] 38)
    obtain ⟨ax0_4, ax1_4, ax2_4, ax3_4, _, _, _, _⟩ := ax_4.four
    obtain ⟨ar0_4, ar1_4, ar2_4, ar3_4, ar4_4, _, _, _, _, _⟩ := ar_4.five
    obtain ⟨ag0_4, ag1_4, ag2_4, ag3_4, ag4_4, _, _, _, _, _⟩ := ag.five
    go_wp2_with fail
    refine (eqSampleResultS ((lookM l0 (a0, b0, c0, e0)).1) ((lookM l0 (a0, b0, c0, e0)).2.1) ((lookM l0 (a0, b0, c0, e0)).2.2.1) ((lookM l0 (a0, b0, c0, e0)).2.2.2.1) ((lookM l0 (a0, b0, c0, e0)).2.2.2.2) _).mono ?_
    rintro e w5 ⟨rfl, hb5⟩
    have ax_5 := ax_4.below hb5 ax_4.lt
    have ar_5 := ar_4.below hb5 ar_4.lt
    have ag_5 := ag.below hb5 ag.lt
    have ox_5 := ox_4.below hb5 (Nat.le_refl _)
    have S5 := Lib.hid hb5.size
    have hB5 := hB4.trans (hb5.mono hB4.size)
    have ha0_5 := ha0.lift hB5
    go_wp2_with fail
    refine (toSampleS X0 n0 d0 l0 _ ha0_5 Hn0.out hm0).mono ?_
    rintro e w6 ⟨B6, f6, rfl, oy, hb6⟩
    have ox_6 := ox_5.below hb6 (Nat.le_refl _)
    have S6 := Lib.hid hb6.size
    have hB6 := hB5.trans (hb6.mono hB5.size)
    go_wp2_with fail
    refine (eqSampleS B1 B6 n0 n0 f1 f6 l0 l0 _ (ox_6.rd okS) (oy.rd okS) Hn0.out Hn0.out hM0).mono ?_
    rintro e w7 ⟨rfl, hb7⟩
    have ox_7 := ox_6.below hb7 (Nat.le_refl _)
    have oy_7 := oy.below hb7 (Nat.le_refl _)
    have S7 := Lib.hid hb7.size
    have hB7 := hB6.trans (hb7.mono hB6.size)
    go_wp2_with fail
    go_ret
    exact ⟨by simp, hB7⟩
end Go.Proofs.YtkgbjlbhlhdhbaaDoor
