import Derived.Test.YtjlkmfijkhjjkaaDoorAny
import Derived.Test.YtjlkmfijkhjjkaaDoorHintSA
import Derived.Deep.DeepCutAuto
namespace Go.Proofs.YtjlkmfijkhjjkaaDoor
set_option maxRecDepth 20000
open Go.RowKit
set_option linter.unusedSimpArgs false
set_option linter.unusedVariables false

set_option maxRecDepth 100000 in
set_option maxHeartbeats 4000000 in
theorem fnExactAddHint_walk (HI : ∀ (A : Option Addr) (n c : Nat) (l : List Hnt) (p x0 x1 x2 x3 : Int) (W : World), Rd eH W W.heap.size A l → l.length = n → n ≤ 1048576 → Flds W → Calls Tryd.prog 11 #[.slice A n c, .int .i64 p, .agg #[.int .i64 x0, .int .i64 x1, .int .i64 x2, .int .i64 x3]] W (RetHs (addM l p (x0, x1, x2, x3)) W))
    (X0 : Option Addr) (n0 d0 : Nat) (l0 : List Hnt) (p a0 b0 c0 e0 : Int) (w : World) (ha0 : Rd eM w w.heap.size X0 l0) (hn0 : l0.length = n0) (hM0 : n0 ≤ maxLen) (hF : Flds w) :
    Calls Tryd.prog 5 #[.slice X0 n0 d0, .int .i64 p, .agg #[.int .i64 a0, .int .i64 b0, .int .i64 c0, .int .i64 e0]] w fun e w' => e = .returned (.bool true) ∧ Below w.heap.size w w' := by
  have Hn0 := Lib.hid hn0
  have Hm := Lib.hid (addM_le l0 p (a0, b0, c0, e0))
  clear hn0
  have hB0 := (Below.refl w.heap.size w).alloc (Nat.le_refl _) (.cells #[.int .i64 a0, .int .i64 b0, .int .i64 c0, .int .i64 e0] 55)
  have ax := At.new w 55 #[.int .i64 a0, .int .i64 b0, .int .i64 c0, .int .i64 e0]
  have hs0 : (w.alloc (.cells #[.int .i64 a0, .int .i64 b0, .int .i64 c0, .int .i64 e0] 55)).heap.size = w.heap.size + 1 := by simp
  by_cases hbig : 1048576 < n0
  · go_enter Tryd.func5, Tryd.ntmps5
    go_wp2_with fail
    refine (szHintS X0 n0 d0 1048576 _ (by omega) (by omega) hM0).mono ?_
    rintro e w' ⟨rfl, rfl⟩
    rw [if_pos (by omega)]
    go_wp2
    go_ret
    exact ⟨rfl, hB0⟩
  have hm0 : n0 ≤ 1048576 := by omega
  clear hbig
  go_enter Tryd.func5, Tryd.ntmps5
  go_wp2_with fail
  refine (szHintS X0 n0 d0 1048576 _ (by omega) (by omega) hM0).mono ?_
  rintro e w' ⟨rfl, rfl⟩
  rw [if_neg (by omega)]
  have hl : ¬ (1048576 : Int) - (n0 : Int) < 0 := by omega
  have ha1 := ha0.lift hB0
  have bl : w.heap.size < (w.alloc (.cells #[.int .i64 a0, .int .i64 b0, .int .i64 c0, .int .i64 e0] 55)).heap.size := by simp
  go_upto_region 5 with fail
  go_cut [8] (fun s wx => ∃ g A k c, s = .pointer (some ⟨g, 0, none⟩) ∧ At wx g 30 #[.int .i64 (addM l0 p (a0, b0, c0, e0)).1, .slice A k c] ∧ Ow eH wx (w.alloc (.cells #[.int .i64 a0, .int .i64 b0, .int .i64 c0, .int .i64 e0] 55)).heap.size A k c (addM l0 p (a0, b0, c0, e0)).2 ∧ Below (w.alloc (.cells #[.int .i64 a0, .int .i64 b0, .int .i64 c0, .int .i64 e0] 55)).heap.size (w.alloc (.cells #[.int .i64 a0, .int .i64 b0, .int .i64 c0, .int .i64 e0] 55)) wx)
  case first =>
    refine any_start (fun u => At u w.heap.size 55 #[.int .i64 a0, .int .i64 b0, .int .i64 c0, .int .i64 e0]) (by kernel_rfl) ax.drew (fun _ => ?_)
    have hBd := (Below.refl (w.alloc (.cells #[.int .i64 a0, .int .i64 b0, .int .i64 c0, .int .i64 e0] 55)).heap.size (w.alloc (.cells #[.int .i64 a0, .int .i64 b0, .int .i64 c0, .int .i64 e0] 55))).drew
    have bxd := ax.drew
    have ha1d := ha1.drewN 1
    refine any_pure (v := ?_) 0 rfl (by kernel_rfl) (fun _ _ _ _ _ h => h) (by rfl) (fun u hu => ?_) bxd ?_
    rotate_left
    · obtain ⟨_, _, _, _, _, _, _, _⟩ := At.four hu
      go_simp
      (with_reducible rfl)
    (try simp only [Act.put, List.setIfInBounds_toArray, List.set_cons_zero, List.set_cons_succ])
    refine any_pure (v := ?_) 2 rfl (by kernel_rfl) (fun _ _ _ _ _ h => h) (by rfl) (fun u hu => ?_) bxd ?_
    rotate_left
    · obtain ⟨_, _, _, _, _, _, _, _⟩ := At.four hu
      go_simp
      (with_reducible rfl)
    (try simp only [Act.put, List.setIfInBounds_toArray, List.set_cons_zero, List.set_cons_succ])
    refine any_pure (v := ?_) 3 rfl (by kernel_rfl) (fun _ _ _ _ _ h => h) (by rfl) (fun u hu => ?_) bxd ?_
    rotate_left
    · obtain ⟨_, _, _, _, _, _, _, _⟩ := At.four hu
      go_simp
      (with_reducible rfl)
    (try simp only [Act.put, List.setIfInBounds_toArray, List.set_cons_zero, List.set_cons_succ])
    refine any_two 1 6 rfl rfl (by kernel_rfl) (by rfl) (by rfl) ?_ ?_
    · go_simp
      refine (toHintS X0 n0 d0 l0 _ ha1d Hn0.out hm0).mono ?_
      rintro e w101 ⟨A101, c101, rfl, ox101, hb101⟩
      have hB101 := hBd.trans (hb101.mono hBd.size)
      have bx101 := bxd.below hb101 bxd.lt
      have ha1_101 := ha1d.lift hb101
      refine ⟨(fun u => At u w.heap.size 55 #[.int .i64 a0, .int .i64 b0, .int .i64 c0, .int .i64 e0]), fun _ h => h, bx101, ?_⟩
      (try simp only [Act.put, List.setIfInBounds_toArray, List.set_cons_zero, List.set_cons_succ])
      refine any_two 4 6 rfl rfl (by kernel_rfl) (by rfl) (by rfl) ?_ ?_
      · go_simp
        refine (toSample a0 b0 c0 e0 _).mono ?_
        rintro e w102 ⟨rfl, hb102⟩
        have hB102 := hB101.trans (hb102.mono hB101.size)
        have bx102 := bx101.below hb102 bx101.lt
        have ox_102 := ox101.below hb102 (Nat.le_refl _)
        have ha1_102 := ha1_101.lift hb102
        refine ⟨(fun u => At u w.heap.size 55 #[.int .i64 a0, .int .i64 b0, .int .i64 c0, .int .i64 e0]), fun _ h => h, bx102, ?_⟩
        (try simp only [Act.put, List.setIfInBounds_toArray, List.set_cons_zero, List.set_cons_succ])
        refine any_two 5 6 rfl rfl (by kernel_rfl) (by rfl) (by rfl) ?_ ?_
        · go_simp
          refine (specAddHint A101 n0 c101 l0 p a0 b0 c0 e0 _ (ox_102.rd okH) Hn0.out).mono ?_
          rintro e w103 ⟨A103, k103, c103, rfl, ow103, hb103⟩
          have hB103 := hB102.trans (hb103.mono hB102.size)
          have bx103 := bx102.below hb103 bx102.lt
          have ox_103 := ox_102.below hb103 (Nat.le_refl _)
          have ha1_103 := ha1_102.lift hb103
          refine ⟨(fun u => At u w.heap.size 55 #[.int .i64 a0, .int .i64 b0, .int .i64 c0, .int .i64 e0]), fun _ h => h, bx103, ?_⟩
          (try simp only [Act.put, List.setIfInBounds_toArray, List.set_cons_zero, List.set_cons_succ])
          refine any_one 6 rfl (by kernel_rfl) (by rfl) ?_
          go_simp
          have ag104 := At.newAt' (w := w103) (t := 30) (cs := #[.int .i64 0, .slice none 0 0]) (show w103.heap.size = w103.heap.size by first | rfl | simp)
          have gl104 : (w.alloc (.cells #[.int .i64 a0, .int .i64 b0, .int .i64 c0, .int .i64 e0] 55)).heap.size ≤ w103.heap.size := by first | exact Nat.le_refl _ | exact hB103.size | (have := hB103.size; simp at this ⊢; try omega)
          have hB104 := hB103.alloc hB103.size (.cells #[.int .i64 0, .slice none 0 0] 30)
          have bx104 := bx103.alloc (.cells #[.int .i64 0, .slice none 0 0] 30)
          have ox_104 := ox_103.alloc (.cells #[.int .i64 0, .slice none 0 0] 30)
          have ow_104 := ow103.alloc (.cells #[.int .i64 0, .slice none 0 0] 30)
          have ha1_104 := ha1_103.lift ((Below.refl _ _).alloc (Nat.le_refl _) (.cells #[.int .i64 0, .slice none 0 0] 30))
          refine ⟨(fun u => At u w.heap.size 55 #[.int .i64 a0, .int .i64 b0, .int .i64 c0, .int .i64 e0]), fun _ h => h, bx104, ?_⟩
          (try simp only [Act.put, List.setIfInBounds_toArray, List.set_cons_zero, List.set_cons_succ])
          refine any_one 7 rfl (by kernel_rfl) (by rfl) ?_
          go_simp
          have AG := At.new w103 30 #[.int .i64 (addM l0 p (a0, b0, c0, e0)).1, .slice A103 k103 c103]
          have OW := (ow103.alloc (.cells #[.int .i64 (addM l0 p (a0, b0, c0, e0)).1, .slice A103 k103 c103] 30)).from_ hB102.size
          have BX := bx103.alloc (.cells #[.int .i64 (addM l0 p (a0, b0, c0, e0)).1, .slice A103 k103 c103] 30)
          have HB := hB103.alloc hB103.size (.cells #[.int .i64 (addM l0 p (a0, b0, c0, e0)).1, .slice A103 k103 c103] 30)
          refine ⟨(fun u => At u w.heap.size 55 #[.int .i64 a0, .int .i64 b0, .int .i64 c0, .int .i64 e0]), fun _ h => h, BX, ?_⟩
          (try simp only [Act.put, List.setIfInBounds_toArray, List.set_cons_zero, List.set_cons_succ])
          refine any_done (by kernel_rfl) ?_
          go_wp2
          go_meet
          exact ⟨_, A103, k103, c103, rfl, AG, OW, HB⟩
        · go_simp
          have ag105 := At.newAt' (w := w102) (t := 30) (cs := #[.int .i64 0, .slice none 0 0]) (show w102.heap.size = w102.heap.size by first | rfl | simp)
          have gl105 : (w.alloc (.cells #[.int .i64 a0, .int .i64 b0, .int .i64 c0, .int .i64 e0] 55)).heap.size ≤ w102.heap.size := by first | exact Nat.le_refl _ | exact hB102.size | (have := hB102.size; simp at this ⊢; try omega)
          have hB105 := hB102.alloc hB102.size (.cells #[.int .i64 0, .slice none 0 0] 30)
          have bx105 := bx102.alloc (.cells #[.int .i64 0, .slice none 0 0] 30)
          have ox_105 := ox_102.alloc (.cells #[.int .i64 0, .slice none 0 0] 30)
          have ha1_105 := ha1_102.lift ((Below.refl _ _).alloc (Nat.le_refl _) (.cells #[.int .i64 0, .slice none 0 0] 30))
          refine ⟨(fun u => At u w.heap.size 55 #[.int .i64 a0, .int .i64 b0, .int .i64 c0, .int .i64 e0]), fun _ h => h, bx105, ?_⟩
          (try simp only [Act.put, List.setIfInBounds_toArray, List.set_cons_zero, List.set_cons_succ])
          refine any_one 5 rfl (by kernel_rfl) (by rfl) ?_
          go_simp
          refine (specAddHint A101 n0 c101 l0 p a0 b0 c0 e0 _ (ox_105.rd okH) Hn0.out).mono ?_
          rintro e w106 ⟨A106, k106, c106, rfl, ow106, hb106⟩
          have hB106 := hB105.trans (hb106.mono hB105.size)
          have bx106 := bx105.below hb106 bx105.lt
          have ag106 := ag105.below hb106 ag105.lt
          have ox_106 := ox_105.below hb106 (Nat.le_refl _)
          have ha1_106 := ha1_105.lift hb106
          refine ⟨(fun u => At u w.heap.size 55 #[.int .i64 a0, .int .i64 b0, .int .i64 c0, .int .i64 e0]), fun _ h => h, bx106, ?_⟩
          (try simp only [Act.put, List.setIfInBounds_toArray, List.set_cons_zero, List.set_cons_succ])
          refine any_one 7 rfl (by kernel_rfl) (by rfl) ?_
          obtain ⟨k0, k1, k2, k3⟩ := ag106.two
          go_simp
          have gb := ag105.lt
          have OW := ow106
          have BX := bx106
          have HB := hB106
          have AG := ag106
          have bl := hB105.size
          have bxl : w.heap.size < w102.heap.size := by have := hs0; omega
          have AG := AG.set 0 (.int .i64 (addM l0 p (a0, b0, c0, e0)).1)
          have OW := OW.under (p := ⟨w102.heap.size, 0, none⟩) gb (.int .i64 (addM l0 p (a0, b0, c0, e0)).1)
          have BX := BX.far (p := ⟨w102.heap.size, 0, none⟩) (by show w.heap.size ≠ w102.heap.size; omega) (.int .i64 (addM l0 p (a0, b0, c0, e0)).1)
          have HB := HB.setCell (p := ⟨w102.heap.size, 0, none⟩) gl105 (.int .i64 (addM l0 p (a0, b0, c0, e0)).1)
          have AG := AG.set 1 (.slice A106 k106 c106)
          have OW := OW.under (p := ⟨w102.heap.size, 1, none⟩) gb (.slice A106 k106 c106)
          have BX := BX.far (p := ⟨w102.heap.size, 1, none⟩) (by show w.heap.size ≠ w102.heap.size; omega) (.slice A106 k106 c106)
          have HB := HB.setCell (p := ⟨w102.heap.size, 1, none⟩) gl105 (.slice A106 k106 c106)
          have OW := OW.from_ bl
          refine ⟨(fun u => At u w.heap.size 55 #[.int .i64 a0, .int .i64 b0, .int .i64 c0, .int .i64 e0]), fun _ h => h, BX, ?_⟩
          (try simp only [Act.put, List.setIfInBounds_toArray, List.set_cons_zero, List.set_cons_succ])
          refine any_done (by kernel_rfl) ?_
          go_wp2
          go_meet
          exact ⟨_, A106, k106, c106, rfl, AG, OW, HB⟩
      · go_simp
        have ag107 := At.newAt' (w := w101) (t := 30) (cs := #[.int .i64 0, .slice none 0 0]) (show w101.heap.size = w101.heap.size by first | rfl | simp)
        have gl107 : (w.alloc (.cells #[.int .i64 a0, .int .i64 b0, .int .i64 c0, .int .i64 e0] 55)).heap.size ≤ w101.heap.size := by first | exact Nat.le_refl _ | exact hB101.size | (have := hB101.size; simp at this ⊢; try omega)
        have hB107 := hB101.alloc hB101.size (.cells #[.int .i64 0, .slice none 0 0] 30)
        have bx107 := bx101.alloc (.cells #[.int .i64 0, .slice none 0 0] 30)
        have ox_107 := ox101.alloc (.cells #[.int .i64 0, .slice none 0 0] 30)
        have ha1_107 := ha1_101.lift ((Below.refl _ _).alloc (Nat.le_refl _) (.cells #[.int .i64 0, .slice none 0 0] 30))
        refine ⟨(fun u => At u w.heap.size 55 #[.int .i64 a0, .int .i64 b0, .int .i64 c0, .int .i64 e0]), fun _ h => h, bx107, ?_⟩
        (try simp only [Act.put, List.setIfInBounds_toArray, List.set_cons_zero, List.set_cons_succ])
        refine any_one 4 rfl (by kernel_rfl) (by rfl) ?_
        go_simp
        refine (toSample a0 b0 c0 e0 _).mono ?_
        rintro e w108 ⟨rfl, hb108⟩
        have hB108 := hB107.trans (hb108.mono hB107.size)
        have bx108 := bx107.below hb108 bx107.lt
        have ag108 := ag107.below hb108 ag107.lt
        have ox_108 := ox_107.below hb108 (Nat.le_refl _)
        have ha1_108 := ha1_107.lift hb108
        refine ⟨(fun u => At u w.heap.size 55 #[.int .i64 a0, .int .i64 b0, .int .i64 c0, .int .i64 e0]), fun _ h => h, bx108, ?_⟩
        (try simp only [Act.put, List.setIfInBounds_toArray, List.set_cons_zero, List.set_cons_succ])
        refine any_one 5 rfl (by kernel_rfl) (by rfl) ?_
        go_simp
        refine (specAddHint A101 n0 c101 l0 p a0 b0 c0 e0 _ (ox_108.rd okH) Hn0.out).mono ?_
        rintro e w109 ⟨A109, k109, c109, rfl, ow109, hb109⟩
        have hB109 := hB108.trans (hb109.mono hB108.size)
        have bx109 := bx108.below hb109 bx108.lt
        have ag109 := ag108.below hb109 ag108.lt
        have ox_109 := ox_108.below hb109 (Nat.le_refl _)
        have ha1_109 := ha1_108.lift hb109
        refine ⟨(fun u => At u w.heap.size 55 #[.int .i64 a0, .int .i64 b0, .int .i64 c0, .int .i64 e0]), fun _ h => h, bx109, ?_⟩
        (try simp only [Act.put, List.setIfInBounds_toArray, List.set_cons_zero, List.set_cons_succ])
        refine any_one 7 rfl (by kernel_rfl) (by rfl) ?_
        obtain ⟨k0, k1, k2, k3⟩ := ag109.two
        go_simp
        have gb := ag108.lt
        have OW := ow109
        have BX := bx109
        have HB := hB109
        have AG := ag109
        have bl := hB108.size
        have bxl : w.heap.size < w101.heap.size := by have := hs0; omega
        have AG := AG.set 0 (.int .i64 (addM l0 p (a0, b0, c0, e0)).1)
        have OW := OW.under (p := ⟨w101.heap.size, 0, none⟩) gb (.int .i64 (addM l0 p (a0, b0, c0, e0)).1)
        have BX := BX.far (p := ⟨w101.heap.size, 0, none⟩) (by show w.heap.size ≠ w101.heap.size; omega) (.int .i64 (addM l0 p (a0, b0, c0, e0)).1)
        have HB := HB.setCell (p := ⟨w101.heap.size, 0, none⟩) gl107 (.int .i64 (addM l0 p (a0, b0, c0, e0)).1)
        have AG := AG.set 1 (.slice A109 k109 c109)
        have OW := OW.under (p := ⟨w101.heap.size, 1, none⟩) gb (.slice A109 k109 c109)
        have BX := BX.far (p := ⟨w101.heap.size, 1, none⟩) (by show w.heap.size ≠ w101.heap.size; omega) (.slice A109 k109 c109)
        have HB := HB.setCell (p := ⟨w101.heap.size, 1, none⟩) gl107 (.slice A109 k109 c109)
        have OW := OW.from_ bl
        refine ⟨(fun u => At u w.heap.size 55 #[.int .i64 a0, .int .i64 b0, .int .i64 c0, .int .i64 e0]), fun _ h => h, BX, ?_⟩
        (try simp only [Act.put, List.setIfInBounds_toArray, List.set_cons_zero, List.set_cons_succ])
        refine any_done (by kernel_rfl) ?_
        go_wp2
        go_meet
        exact ⟨_, A109, k109, c109, rfl, AG, OW, HB⟩
    · go_simp
      have ag110 := At.newAt' (w := (w.alloc (.cells #[.int .i64 a0, .int .i64 b0, .int .i64 c0, .int .i64 e0] 55)).drew) (t := 30) (cs := #[.int .i64 0, .slice none 0 0]) (show (w.alloc (.cells #[.int .i64 a0, .int .i64 b0, .int .i64 c0, .int .i64 e0] 55)).drew.heap.size = (w.heap.size + 1) by first | rfl | simp)
      have gl110 : (w.alloc (.cells #[.int .i64 a0, .int .i64 b0, .int .i64 c0, .int .i64 e0] 55)).heap.size ≤ (w.heap.size + 1) := by first | exact Nat.le_refl _ | exact hBd.size | (have := hBd.size; simp at this ⊢; try omega)
      have hB110 := hBd.alloc hBd.size (.cells #[.int .i64 0, .slice none 0 0] 30)
      have bx110 := bxd.alloc (.cells #[.int .i64 0, .slice none 0 0] 30)
      have ha1_110 := ha1d.lift ((Below.refl _ _).alloc (Nat.le_refl _) (.cells #[.int .i64 0, .slice none 0 0] 30))
      refine ⟨(fun u => At u w.heap.size 55 #[.int .i64 a0, .int .i64 b0, .int .i64 c0, .int .i64 e0]), fun _ h => h, bx110, ?_⟩
      (try simp only [Act.put, List.setIfInBounds_toArray, List.set_cons_zero, List.set_cons_succ])
      refine any_one 1 rfl (by kernel_rfl) (by rfl) ?_
      go_simp
      refine (toHintS X0 n0 d0 l0 _ ha1_110 Hn0.out hm0).mono ?_
      rintro e w111 ⟨A111, c111, rfl, ox111, hb111⟩
      have hB111 := hB110.trans (hb111.mono hB110.size)
      have bx111 := bx110.below hb111 bx110.lt
      have ag111 := ag110.below hb111 ag110.lt
      have ha1_111 := ha1_110.lift hb111
      refine ⟨(fun u => At u w.heap.size 55 #[.int .i64 a0, .int .i64 b0, .int .i64 c0, .int .i64 e0]), fun _ h => h, bx111, ?_⟩
      (try simp only [Act.put, List.setIfInBounds_toArray, List.set_cons_zero, List.set_cons_succ])
      refine any_one 4 rfl (by kernel_rfl) (by rfl) ?_
      go_simp
      refine (toSample a0 b0 c0 e0 _).mono ?_
      rintro e w112 ⟨rfl, hb112⟩
      have hB112 := hB111.trans (hb112.mono hB111.size)
      have bx112 := bx111.below hb112 bx111.lt
      have ag112 := ag111.below hb112 ag111.lt
      have ox_112 := ox111.below hb112 (Nat.le_refl _)
      have ha1_112 := ha1_111.lift hb112
      refine ⟨(fun u => At u w.heap.size 55 #[.int .i64 a0, .int .i64 b0, .int .i64 c0, .int .i64 e0]), fun _ h => h, bx112, ?_⟩
      (try simp only [Act.put, List.setIfInBounds_toArray, List.set_cons_zero, List.set_cons_succ])
      refine any_one 5 rfl (by kernel_rfl) (by rfl) ?_
      go_simp
      refine (specAddHint A111 n0 c111 l0 p a0 b0 c0 e0 _ (ox_112.rd okH) Hn0.out).mono ?_
      rintro e w113 ⟨A113, k113, c113, rfl, ow113, hb113⟩
      have hB113 := hB112.trans (hb113.mono hB112.size)
      have bx113 := bx112.below hb113 bx112.lt
      have ag113 := ag112.below hb113 ag112.lt
      have ox_113 := ox_112.below hb113 (Nat.le_refl _)
      have ha1_113 := ha1_112.lift hb113
      refine ⟨(fun u => At u w.heap.size 55 #[.int .i64 a0, .int .i64 b0, .int .i64 c0, .int .i64 e0]), fun _ h => h, bx113, ?_⟩
      (try simp only [Act.put, List.setIfInBounds_toArray, List.set_cons_zero, List.set_cons_succ])
      refine any_one 7 rfl (by kernel_rfl) (by rfl) ?_
      obtain ⟨k0, k1, k2, k3⟩ := ag113.two
      go_simp
      have gb := ag112.lt
      have OW := ow113
      have BX := bx113
      have HB := hB113
      have AG := ag113
      have bl := hB112.size
      have bxl : w.heap.size < (w.heap.size + 1) := by have := hs0; omega
      have AG := AG.set 0 (.int .i64 (addM l0 p (a0, b0, c0, e0)).1)
      have OW := OW.under (p := ⟨(w.heap.size + 1), 0, none⟩) gb (.int .i64 (addM l0 p (a0, b0, c0, e0)).1)
      have BX := BX.far (p := ⟨(w.heap.size + 1), 0, none⟩) (by show w.heap.size ≠ (w.heap.size + 1); omega) (.int .i64 (addM l0 p (a0, b0, c0, e0)).1)
      have HB := HB.setCell (p := ⟨(w.heap.size + 1), 0, none⟩) gl110 (.int .i64 (addM l0 p (a0, b0, c0, e0)).1)
      have AG := AG.set 1 (.slice A113 k113 c113)
      have OW := OW.under (p := ⟨(w.heap.size + 1), 1, none⟩) gb (.slice A113 k113 c113)
      have BX := BX.far (p := ⟨(w.heap.size + 1), 1, none⟩) (by show w.heap.size ≠ (w.heap.size + 1); omega) (.slice A113 k113 c113)
      have HB := HB.setCell (p := ⟨(w.heap.size + 1), 1, none⟩) gl110 (.slice A113 k113 c113)
      have OW := OW.from_ bl
      refine ⟨(fun u => At u w.heap.size 55 #[.int .i64 a0, .int .i64 b0, .int .i64 c0, .int .i64 e0]), fun _ h => h, BX, ?_⟩
      (try simp only [Act.put, List.setIfInBounds_toArray, List.set_cons_zero, List.set_cons_succ])
      refine any_done (by kernel_rfl) ?_
      go_wp2
      go_meet
      exact ⟨_, A113, k113, c113, rfl, AG, OW, HB⟩
  case rest =>
    obtain ⟨gx, Ax, kx, cx, rfl, AX1, OW1, HB1⟩ := hcut
    have hBc := hB0.trans (HB1.mono hB0.size)
    have axc := ax.below HB1 ax.lt
    have SG := Lib.hid AX1.lt
    have SA := Lib.hid axc.lt
    have SB := Lib.hid HB1.size
    clear hl
    have ha0_0 := ha0.lift hBc
    go_wp2_with fail
    refine (toHintS X0 n0 d0 l0 _ ha0_0 Hn0.out hm0).mono ?_
    rintro e w1 ⟨B1, f1, rfl, ox, hb1⟩
    have ax_1 := axc.below hb1 axc.lt
    have ar_1 := AX1.below hb1 AX1.lt
    have ow_1 := OW1.below hb1 (Nat.le_refl _)
    have S1 := Lib.hid hb1.size
    have hB1 := hBc.trans (hb1.mono hBc.size)
    obtain ⟨ax0_1, ax1_1, ax2_1, ax3_1, _, _, _, _⟩ := ax_1.four
    obtain ⟨ar0_1, ar1_1, _, _⟩ := ar_1.two
    go_wp2_with fail
    refine (toSample a0 b0 c0 e0 _).mono ?_
    rintro e w2 ⟨rfl, hb2⟩
    have ax_2 := ax_1.below hb2 ax_1.lt
    have ar_2 := ar_1.below hb2 ar_1.lt
    have ow_2 := ow_1.below hb2 (Nat.le_refl _)
    have ox_2 := ox.below hb2 (Nat.le_refl _)
    have S2 := Lib.hid hb2.size
    have hB2 := hB1.trans (hb2.mono hB1.size)
    obtain ⟨ax0_2, ax1_2, ax2_2, ax3_2, _, _, _, _⟩ := ax_2.four
    obtain ⟨ar0_2, ar1_2, _, _⟩ := ar_2.two
    go_wp2_with fail
    refine (HI B1 n0 f1 l0 p a0 b0 c0 e0 _ (ox_2.rd okH) Hn0.out hm0 (hF.below hB2)).mono ?_
    rintro e w3 ⟨A3, k3, c3, rfl, og, hb3⟩
    have ax_3 := ax_2.below hb3 ax_2.lt
    have ar_3 := ar_2.below hb3 ar_2.lt
    have ow_3 := ow_2.below hb3 (Nat.le_refl _)
    have ox_3 := ox_2.below hb3 (Nat.le_refl _)
    have S3 := Lib.hid hb3.size
    have hB3 := hB2.trans (hb3.mono hB2.size)
    have ag := At.new w3 30 #[.int .i64 (addM l0 p (a0, b0, c0, e0)).1, .slice A3 k3 c3]
    have ax_4 := ax_3.alloc (.cells #[.int .i64 (addM l0 p (a0, b0, c0, e0)).1, .slice A3 k3 c3] 30)
    have ar_4 := ar_3.alloc (.cells #[.int .i64 (addM l0 p (a0, b0, c0, e0)).1, .slice A3 k3 c3] 30)
    have ow_4 := ow_3.alloc (.cells #[.int .i64 (addM l0 p (a0, b0, c0, e0)).1, .slice A3 k3 c3] 30)
    have ox_4 := ox_3.alloc (.cells #[.int .i64 (addM l0 p (a0, b0, c0, e0)).1, .slice A3 k3 c3] 30)
    have og_4 := og.alloc (.cells #[.int .i64 (addM l0 p (a0, b0, c0, e0)).1, .slice A3 k3 c3] 30)
    have S4 := Lib.hid (show (w3.alloc (.cells #[.int .i64 (addM l0 p (a0, b0, c0, e0)).1, .slice A3 k3 c3] 30)).heap.size = w3.heap.size + 1 by simp)
    have hB4 := hB3.alloc hB3.size (.cells #[.int .i64 (addM l0 p (a0, b0, c0, e0)).1, .slice A3 k3 c3] 30)
    obtain ⟨ax0_4, ax1_4, ax2_4, ax3_4, _, _, _, _⟩ := ax_4.four
    obtain ⟨ar0_4, ar1_4, _, _⟩ := ar_4.two
    obtain ⟨ag0_4, ag1_4, _, _⟩ := ag.two
    go_wp2_with fail
    refine (eqHintsResult (addM l0 p (a0, b0, c0, e0)).1 A3 Ax k3 kx c3 cx _ _ _ (og_4.rd okH) (ow_4.rd okH) (og_4.len okH) (ow_4.len okH) og_4.small).mono ?_
    rintro e w5 ⟨rfl, hb5⟩
    have ax_5 := ax_4.below hb5 ax_4.lt
    have ar_5 := ar_4.below hb5 ar_4.lt
    have ag_5 := ag.below hb5 ag.lt
    have ow_5 := ow_4.below hb5 (Nat.le_refl _)
    have ox_5 := ox_4.below hb5 (Nat.le_refl _)
    have og_5 := og_4.below hb5 (Nat.le_refl _)
    have S5 := Lib.hid hb5.size
    have hB5 := hB4.trans (hb5.mono hB4.size)
    have ha0_5 := ha0.lift hB5
    go_wp2_with fail
    refine (toHintS X0 n0 d0 l0 _ ha0_5 Hn0.out hm0).mono ?_
    rintro e w6 ⟨B6, f6, rfl, oy, hb6⟩
    have ax_6 := ax_5.below hb6 ax_5.lt
    have ar_6 := ar_5.below hb6 ar_5.lt
    have ag_6 := ag_5.below hb6 ag_5.lt
    have ow_6 := ow_5.below hb6 (Nat.le_refl _)
    have ox_6 := ox_5.below hb6 (Nat.le_refl _)
    have og_6 := og_5.below hb6 (Nat.le_refl _)
    have S6 := Lib.hid hb6.size
    have hB6 := hB5.trans (hb6.mono hB5.size)
    go_wp2_with fail
    refine (eqHintS B1 B6 n0 n0 f1 f6 l0 l0 _ (ox_6.rd okH) (oy.rd okH) Hn0.out Hn0.out hM0).mono ?_
    rintro e w7 ⟨rfl, hb7⟩
    have ax_7 := ax_6.below hb7 ax_6.lt
    have ar_7 := ar_6.below hb7 ar_6.lt
    have ag_7 := ag_6.below hb7 ag_6.lt
    have ow_7 := ow_6.below hb7 (Nat.le_refl _)
    have ox_7 := ox_6.below hb7 (Nat.le_refl _)
    have og_7 := og_6.below hb7 (Nat.le_refl _)
    have oy_7 := oy.below hb7 (Nat.le_refl _)
    have S7 := Lib.hid hb7.size
    have hB7 := hB6.trans (hb7.mono hB6.size)
    have hk0 : ¬ (1 : Int) + 7 * (n0 : Int) < 0 := by omega
    go_wp2_with fail
    refine (markHintS1 B1 n0 f1 _ _ _ ox_7 (by omega)).mono ?_
    rintro e w8 ⟨rfl, ox_8, hg8⟩
    have hw8 : Within wc.heap.size w1.heap.size w7 w8 := within_of hg8 (fun g hg => ox.lt g hg)
    have ax_8 := ax_7.within hw8 (by have := SG.out; have := SA.out; have := SB.out; have := S1.out; have := S2.out; have := S3.out; have := S4.out; have := S5.out; have := S6.out; have := S7.out; omega)
    have ar_8 := ar_7.within hw8 (by have := SG.out; have := SA.out; have := SB.out; have := S1.out; have := S2.out; have := S3.out; have := S4.out; have := S5.out; have := S6.out; have := S7.out; omega)
    have ag_8 := ag_7.within hw8 (by have := SG.out; have := SA.out; have := SB.out; have := S1.out; have := S2.out; have := S3.out; have := S4.out; have := S5.out; have := S6.out; have := S7.out; omega)
    have ow_8 := ow_7.within hw8 OW1.lt (by have := SG.out; have := SA.out; have := SB.out; have := S1.out; have := S2.out; have := S3.out; have := S4.out; have := S5.out; have := S6.out; have := S7.out; omega)
    have og_8 := og_7.within hw8 og.lt (by have := SG.out; have := SA.out; have := SB.out; have := S1.out; have := S2.out; have := S3.out; have := S4.out; have := S5.out; have := S6.out; have := S7.out; omega)
    have hB8 := hw8.below hB7 hB7.size (by have := SG.out; have := SA.out; have := SB.out; have := S1.out; have := S2.out; have := S3.out; have := S4.out; have := S5.out; have := S6.out; have := S7.out; omega)
    have S8 := Lib.hid hw8.size
    obtain ⟨ax0_8, ax1_8, ax2_8, ax3_8, _, _, _, _⟩ := ax_8.four
    obtain ⟨ar0_8, ar1_8, _, _⟩ := ar_8.two
    obtain ⟨ag0_8, ag1_8, _, _⟩ := ag_8.two
    go_wp2_with fail
    refine (eqHintsResult (addM l0 p (a0, b0, c0, e0)).1 A3 Ax k3 kx c3 cx _ _ _ (og_8.rd okH) (ow_8.rd okH) (og_8.len okH) (ow_8.len okH) og_8.small).mono ?_
    rintro e w9 ⟨rfl, hb9⟩
    have ax_9 := ax_8.below hb9 ax_8.lt
    have ar_9 := ar_8.below hb9 ar_8.lt
    have ag_9 := ag_8.below hb9 ag_8.lt
    have ow_9 := ow_8.below hb9 (Nat.le_refl _)
    have ox_9 := ox_8.below hb9 (Nat.le_refl _)
    have og_9 := og_8.below hb9 (Nat.le_refl _)
    have S9 := Lib.hid hb9.size
    have hB9 := hB8.trans (hb9.mono hB8.size)
    have hkg : k3 ≤ n0 + 1 := by have := Hm.out; have := og.len okH; have := Hn0.out; omega
    have hk1 : ¬ (1 : Int) + 7 * (k3 : Int) < 0 := by omega
    obtain ⟨ax0_9, ax1_9, ax2_9, ax3_9, _, _, _, _⟩ := ax_9.four
    obtain ⟨ar0_9, ar1_9, _, _⟩ := ar_9.two
    obtain ⟨ag0_9, ag1_9, _, _⟩ := ag_9.two
    go_wp2_with fail
    refine (markHintsResult1 (addM l0 p (a0, b0, c0, e0)).1 A3 k3 c3 _ _ _ og_9 (by omega)).mono ?_
    rintro e w10 ⟨rfl, og_10, hg10⟩
    have hw10 : Within w2.heap.size w3.heap.size w9 w10 := within_of hg10 (fun g hg => og.lt g hg)
    have ax_10 := ax_9.within hw10 (by have := SG.out; have := SA.out; have := SB.out; have := S1.out; have := S2.out; have := S3.out; have := S4.out; have := S5.out; have := S6.out; have := S7.out; have := S8.out; have := S9.out; omega)
    have ar_10 := ar_9.within hw10 (by have := SG.out; have := SA.out; have := SB.out; have := S1.out; have := S2.out; have := S3.out; have := S4.out; have := S5.out; have := S6.out; have := S7.out; have := S8.out; have := S9.out; omega)
    have ag_10 := ag_9.within hw10 (by have := SG.out; have := SA.out; have := SB.out; have := S1.out; have := S2.out; have := S3.out; have := S4.out; have := S5.out; have := S6.out; have := S7.out; have := S8.out; have := S9.out; omega)
    have ow_10 := ow_9.within hw10 OW1.lt (by have := SG.out; have := SA.out; have := SB.out; have := S1.out; have := S2.out; have := S3.out; have := S4.out; have := S5.out; have := S6.out; have := S7.out; have := S8.out; have := S9.out; omega)
    have hB10 := hw10.below hB9 hB9.size (by have := SG.out; have := SA.out; have := SB.out; have := S1.out; have := S2.out; have := S3.out; have := S4.out; have := S5.out; have := S6.out; have := S7.out; have := S8.out; have := S9.out; omega)
    have S10 := Lib.hid hw10.size
    obtain ⟨ax0_10, ax1_10, ax2_10, ax3_10, _, _, _, _⟩ := ax_10.four
    obtain ⟨ar0_10, ar1_10, _, _⟩ := ar_10.two
    obtain ⟨ag0_10, ag1_10, _, _⟩ := ag_10.two
    go_wp2_with fail
    refine (heldHintsResult1 (addM l0 p (a0, b0, c0, e0)).1 A3 k3 c3 _ (og_10.rd okH) (by omega)).mono ?_
    rintro e w11 ⟨rfl, hb11⟩
    have ax_11 := ax_10.below hb11 ax_10.lt
    have ar_11 := ar_10.below hb11 ar_10.lt
    have ag_11 := ag_10.below hb11 ag_10.lt
    have ow_11 := ow_10.below hb11 (Nat.le_refl _)
    have og_11 := og_10.below hb11 (Nat.le_refl _)
    have S11 := Lib.hid hb11.size
    have hB11 := hB10.trans (hb11.mono hB10.size)
    have ha0_11 := ha0.lift hB11
    have haz := ha0_11
    go_upto_region 24 with fail
    go_cut [14] (fun s wx => ∃ g A k c, s = .pointer (some ⟨g, 0, none⟩) ∧ At wx g 30 #[.int .i64 (addM l0 p (a0, b0, c0, e0)).1, .slice A k c] ∧ Ow eH wx w11.heap.size A k c (addM l0 p (a0, b0, c0, e0)).2 ∧ Below w11.heap.size w11 wx)
    case first =>
      refine any_start (fun u => At u w.heap.size 55 #[.int .i64 a0, .int .i64 b0, .int .i64 c0, .int .i64 e0]) (by kernel_rfl) ax_11.drew (fun _ => ?_)
      have hBd := (Below.refl w11.heap.size w11).drew
      have bxd := ax_11.drew
      have hazd := haz.drewN 1
      refine any_pure (v := ?_) 0 rfl (by kernel_rfl) (fun _ _ _ _ _ h => h) (by rfl) (fun u hu => ?_) bxd ?_
      rotate_left
      · obtain ⟨_, _, _, _, _, _, _, _⟩ := At.four hu
        go_simp
        (with_reducible rfl)
      (try simp only [Act.put, List.setIfInBounds_toArray, List.set_cons_zero, List.set_cons_succ])
      refine any_pure (v := ?_) 2 rfl (by kernel_rfl) (fun _ _ _ _ _ h => h) (by rfl) (fun u hu => ?_) bxd ?_
      rotate_left
      · obtain ⟨_, _, _, _, _, _, _, _⟩ := At.four hu
        go_simp
        (with_reducible rfl)
      (try simp only [Act.put, List.setIfInBounds_toArray, List.set_cons_zero, List.set_cons_succ])
      refine any_pure (v := ?_) 3 rfl (by kernel_rfl) (fun _ _ _ _ _ h => h) (by rfl) (fun u hu => ?_) bxd ?_
      rotate_left
      · obtain ⟨_, _, _, _, _, _, _, _⟩ := At.four hu
        go_simp
        (with_reducible rfl)
      (try simp only [Act.put, List.setIfInBounds_toArray, List.set_cons_zero, List.set_cons_succ])
      refine any_two 1 6 rfl rfl (by kernel_rfl) (by rfl) (by rfl) ?_ ?_
      · go_simp
        refine (toHintS X0 n0 d0 l0 _ hazd Hn0.out hm0).mono ?_
        rintro e w201 ⟨A201, c201, rfl, ox201, hb201⟩
        have hB201 := hBd.trans (hb201.mono hBd.size)
        have bx201 := bxd.below hb201 bxd.lt
        have haz_201 := hazd.lift hb201
        refine ⟨(fun u => At u w.heap.size 55 #[.int .i64 a0, .int .i64 b0, .int .i64 c0, .int .i64 e0]), fun _ h => h, bx201, ?_⟩
        (try simp only [Act.put, List.setIfInBounds_toArray, List.set_cons_zero, List.set_cons_succ])
        refine any_two 4 6 rfl rfl (by kernel_rfl) (by rfl) (by rfl) ?_ ?_
        · go_simp
          refine (toSample a0 b0 c0 e0 _).mono ?_
          rintro e w202 ⟨rfl, hb202⟩
          have hB202 := hB201.trans (hb202.mono hB201.size)
          have bx202 := bx201.below hb202 bx201.lt
          have ox_202 := ox201.below hb202 (Nat.le_refl _)
          have haz_202 := haz_201.lift hb202
          refine ⟨(fun u => At u w.heap.size 55 #[.int .i64 a0, .int .i64 b0, .int .i64 c0, .int .i64 e0]), fun _ h => h, bx202, ?_⟩
          (try simp only [Act.put, List.setIfInBounds_toArray, List.set_cons_zero, List.set_cons_succ])
          refine any_two 5 6 rfl rfl (by kernel_rfl) (by rfl) (by rfl) ?_ ?_
          · go_simp
            refine (HI A201 n0 c201 l0 p a0 b0 c0 e0 _ (ox_202.rd okH) Hn0.out hm0 (hF.below (hB11.trans (hB202.mono hB11.size)))).mono ?_
            rintro e w203 ⟨A203, k203, c203, rfl, ow203, hb203⟩
            have hB203 := hB202.trans (hb203.mono hB202.size)
            have bx203 := bx202.below hb203 bx202.lt
            have ox_203 := ox_202.below hb203 (Nat.le_refl _)
            have haz_203 := haz_202.lift hb203
            refine ⟨(fun u => At u w.heap.size 55 #[.int .i64 a0, .int .i64 b0, .int .i64 c0, .int .i64 e0]), fun _ h => h, bx203, ?_⟩
            (try simp only [Act.put, List.setIfInBounds_toArray, List.set_cons_zero, List.set_cons_succ])
            refine any_one 6 rfl (by kernel_rfl) (by rfl) ?_
            go_simp
            have ag204 := At.newAt' (w := w203) (t := 30) (cs := #[.int .i64 0, .slice none 0 0]) (show w203.heap.size = w203.heap.size by first | rfl | simp)
            have gl204 : w11.heap.size ≤ w203.heap.size := by first | exact Nat.le_refl _ | exact hB203.size | (have := hB203.size; simp at this ⊢; try omega)
            have hB204 := hB203.alloc hB203.size (.cells #[.int .i64 0, .slice none 0 0] 30)
            have bx204 := bx203.alloc (.cells #[.int .i64 0, .slice none 0 0] 30)
            have ox_204 := ox_203.alloc (.cells #[.int .i64 0, .slice none 0 0] 30)
            have ow_204 := ow203.alloc (.cells #[.int .i64 0, .slice none 0 0] 30)
            have haz_204 := haz_203.lift ((Below.refl _ _).alloc (Nat.le_refl _) (.cells #[.int .i64 0, .slice none 0 0] 30))
            refine ⟨(fun u => At u w.heap.size 55 #[.int .i64 a0, .int .i64 b0, .int .i64 c0, .int .i64 e0]), fun _ h => h, bx204, ?_⟩
            (try simp only [Act.put, List.setIfInBounds_toArray, List.set_cons_zero, List.set_cons_succ])
            refine any_one 7 rfl (by kernel_rfl) (by rfl) ?_
            go_simp
            have AG := At.new w203 30 #[.int .i64 (addM l0 p (a0, b0, c0, e0)).1, .slice A203 k203 c203]
            have OW := (ow203.alloc (.cells #[.int .i64 (addM l0 p (a0, b0, c0, e0)).1, .slice A203 k203 c203] 30)).from_ hB202.size
            have BX := bx203.alloc (.cells #[.int .i64 (addM l0 p (a0, b0, c0, e0)).1, .slice A203 k203 c203] 30)
            have HB := hB203.alloc hB203.size (.cells #[.int .i64 (addM l0 p (a0, b0, c0, e0)).1, .slice A203 k203 c203] 30)
            refine ⟨(fun u => At u w.heap.size 55 #[.int .i64 a0, .int .i64 b0, .int .i64 c0, .int .i64 e0]), fun _ h => h, BX, ?_⟩
            (try simp only [Act.put, List.setIfInBounds_toArray, List.set_cons_zero, List.set_cons_succ])
            refine any_done (by kernel_rfl) ?_
            go_wp2
            go_meet
            exact ⟨_, A203, k203, c203, rfl, AG, OW, HB⟩
          · go_simp
            have ag205 := At.newAt' (w := w202) (t := 30) (cs := #[.int .i64 0, .slice none 0 0]) (show w202.heap.size = w202.heap.size by first | rfl | simp)
            have gl205 : w11.heap.size ≤ w202.heap.size := by first | exact Nat.le_refl _ | exact hB202.size | (have := hB202.size; simp at this ⊢; try omega)
            have hB205 := hB202.alloc hB202.size (.cells #[.int .i64 0, .slice none 0 0] 30)
            have bx205 := bx202.alloc (.cells #[.int .i64 0, .slice none 0 0] 30)
            have ox_205 := ox_202.alloc (.cells #[.int .i64 0, .slice none 0 0] 30)
            have haz_205 := haz_202.lift ((Below.refl _ _).alloc (Nat.le_refl _) (.cells #[.int .i64 0, .slice none 0 0] 30))
            refine ⟨(fun u => At u w.heap.size 55 #[.int .i64 a0, .int .i64 b0, .int .i64 c0, .int .i64 e0]), fun _ h => h, bx205, ?_⟩
            (try simp only [Act.put, List.setIfInBounds_toArray, List.set_cons_zero, List.set_cons_succ])
            refine any_one 5 rfl (by kernel_rfl) (by rfl) ?_
            go_simp
            refine (HI A201 n0 c201 l0 p a0 b0 c0 e0 _ (ox_205.rd okH) Hn0.out hm0 (hF.below (hB11.trans (hB205.mono hB11.size)))).mono ?_
            rintro e w206 ⟨A206, k206, c206, rfl, ow206, hb206⟩
            have hB206 := hB205.trans (hb206.mono hB205.size)
            have bx206 := bx205.below hb206 bx205.lt
            have ag206 := ag205.below hb206 ag205.lt
            have ox_206 := ox_205.below hb206 (Nat.le_refl _)
            have haz_206 := haz_205.lift hb206
            refine ⟨(fun u => At u w.heap.size 55 #[.int .i64 a0, .int .i64 b0, .int .i64 c0, .int .i64 e0]), fun _ h => h, bx206, ?_⟩
            (try simp only [Act.put, List.setIfInBounds_toArray, List.set_cons_zero, List.set_cons_succ])
            refine any_one 7 rfl (by kernel_rfl) (by rfl) ?_
            obtain ⟨k0, k1, k2, k3⟩ := ag206.two
            go_simp
            have gb := ag205.lt
            have OW := ow206
            have BX := bx206
            have HB := hB206
            have AG := ag206
            have bl := hB205.size
            have bxl : w.heap.size < w202.heap.size := by have := ax_11.lt; omega
            have AG := AG.set 0 (.int .i64 (addM l0 p (a0, b0, c0, e0)).1)
            have OW := OW.under (p := ⟨w202.heap.size, 0, none⟩) gb (.int .i64 (addM l0 p (a0, b0, c0, e0)).1)
            have BX := BX.far (p := ⟨w202.heap.size, 0, none⟩) (by show w.heap.size ≠ w202.heap.size; omega) (.int .i64 (addM l0 p (a0, b0, c0, e0)).1)
            have HB := HB.setCell (p := ⟨w202.heap.size, 0, none⟩) gl205 (.int .i64 (addM l0 p (a0, b0, c0, e0)).1)
            have AG := AG.set 1 (.slice A206 k206 c206)
            have OW := OW.under (p := ⟨w202.heap.size, 1, none⟩) gb (.slice A206 k206 c206)
            have BX := BX.far (p := ⟨w202.heap.size, 1, none⟩) (by show w.heap.size ≠ w202.heap.size; omega) (.slice A206 k206 c206)
            have HB := HB.setCell (p := ⟨w202.heap.size, 1, none⟩) gl205 (.slice A206 k206 c206)
            have OW := OW.from_ bl
            refine ⟨(fun u => At u w.heap.size 55 #[.int .i64 a0, .int .i64 b0, .int .i64 c0, .int .i64 e0]), fun _ h => h, BX, ?_⟩
            (try simp only [Act.put, List.setIfInBounds_toArray, List.set_cons_zero, List.set_cons_succ])
            refine any_done (by kernel_rfl) ?_
            go_wp2
            go_meet
            exact ⟨_, A206, k206, c206, rfl, AG, OW, HB⟩
        · go_simp
          have ag207 := At.newAt' (w := w201) (t := 30) (cs := #[.int .i64 0, .slice none 0 0]) (show w201.heap.size = w201.heap.size by first | rfl | simp)
          have gl207 : w11.heap.size ≤ w201.heap.size := by first | exact Nat.le_refl _ | exact hB201.size | (have := hB201.size; simp at this ⊢; try omega)
          have hB207 := hB201.alloc hB201.size (.cells #[.int .i64 0, .slice none 0 0] 30)
          have bx207 := bx201.alloc (.cells #[.int .i64 0, .slice none 0 0] 30)
          have ox_207 := ox201.alloc (.cells #[.int .i64 0, .slice none 0 0] 30)
          have haz_207 := haz_201.lift ((Below.refl _ _).alloc (Nat.le_refl _) (.cells #[.int .i64 0, .slice none 0 0] 30))
          refine ⟨(fun u => At u w.heap.size 55 #[.int .i64 a0, .int .i64 b0, .int .i64 c0, .int .i64 e0]), fun _ h => h, bx207, ?_⟩
          (try simp only [Act.put, List.setIfInBounds_toArray, List.set_cons_zero, List.set_cons_succ])
          refine any_one 4 rfl (by kernel_rfl) (by rfl) ?_
          go_simp
          refine (toSample a0 b0 c0 e0 _).mono ?_
          rintro e w208 ⟨rfl, hb208⟩
          have hB208 := hB207.trans (hb208.mono hB207.size)
          have bx208 := bx207.below hb208 bx207.lt
          have ag208 := ag207.below hb208 ag207.lt
          have ox_208 := ox_207.below hb208 (Nat.le_refl _)
          have haz_208 := haz_207.lift hb208
          refine ⟨(fun u => At u w.heap.size 55 #[.int .i64 a0, .int .i64 b0, .int .i64 c0, .int .i64 e0]), fun _ h => h, bx208, ?_⟩
          (try simp only [Act.put, List.setIfInBounds_toArray, List.set_cons_zero, List.set_cons_succ])
          refine any_one 5 rfl (by kernel_rfl) (by rfl) ?_
          go_simp
          refine (HI A201 n0 c201 l0 p a0 b0 c0 e0 _ (ox_208.rd okH) Hn0.out hm0 (hF.below (hB11.trans (hB208.mono hB11.size)))).mono ?_
          rintro e w209 ⟨A209, k209, c209, rfl, ow209, hb209⟩
          have hB209 := hB208.trans (hb209.mono hB208.size)
          have bx209 := bx208.below hb209 bx208.lt
          have ag209 := ag208.below hb209 ag208.lt
          have ox_209 := ox_208.below hb209 (Nat.le_refl _)
          have haz_209 := haz_208.lift hb209
          refine ⟨(fun u => At u w.heap.size 55 #[.int .i64 a0, .int .i64 b0, .int .i64 c0, .int .i64 e0]), fun _ h => h, bx209, ?_⟩
          (try simp only [Act.put, List.setIfInBounds_toArray, List.set_cons_zero, List.set_cons_succ])
          refine any_one 7 rfl (by kernel_rfl) (by rfl) ?_
          obtain ⟨k0, k1, k2, k3⟩ := ag209.two
          go_simp
          have gb := ag208.lt
          have OW := ow209
          have BX := bx209
          have HB := hB209
          have AG := ag209
          have bl := hB208.size
          have bxl : w.heap.size < w201.heap.size := by have := ax_11.lt; omega
          have AG := AG.set 0 (.int .i64 (addM l0 p (a0, b0, c0, e0)).1)
          have OW := OW.under (p := ⟨w201.heap.size, 0, none⟩) gb (.int .i64 (addM l0 p (a0, b0, c0, e0)).1)
          have BX := BX.far (p := ⟨w201.heap.size, 0, none⟩) (by show w.heap.size ≠ w201.heap.size; omega) (.int .i64 (addM l0 p (a0, b0, c0, e0)).1)
          have HB := HB.setCell (p := ⟨w201.heap.size, 0, none⟩) gl207 (.int .i64 (addM l0 p (a0, b0, c0, e0)).1)
          have AG := AG.set 1 (.slice A209 k209 c209)
          have OW := OW.under (p := ⟨w201.heap.size, 1, none⟩) gb (.slice A209 k209 c209)
          have BX := BX.far (p := ⟨w201.heap.size, 1, none⟩) (by show w.heap.size ≠ w201.heap.size; omega) (.slice A209 k209 c209)
          have HB := HB.setCell (p := ⟨w201.heap.size, 1, none⟩) gl207 (.slice A209 k209 c209)
          have OW := OW.from_ bl
          refine ⟨(fun u => At u w.heap.size 55 #[.int .i64 a0, .int .i64 b0, .int .i64 c0, .int .i64 e0]), fun _ h => h, BX, ?_⟩
          (try simp only [Act.put, List.setIfInBounds_toArray, List.set_cons_zero, List.set_cons_succ])
          refine any_done (by kernel_rfl) ?_
          go_wp2
          go_meet
          exact ⟨_, A209, k209, c209, rfl, AG, OW, HB⟩
      · go_simp
        have ag210 := At.newAt' (w := w11.drew) (t := 30) (cs := #[.int .i64 0, .slice none 0 0]) (show w11.drew.heap.size = w11.heap.size by first | rfl | simp)
        have gl210 : w11.heap.size ≤ w11.heap.size := by first | exact Nat.le_refl _ | exact hBd.size | (have := hBd.size; simp at this ⊢; try omega)
        have hB210 := hBd.alloc hBd.size (.cells #[.int .i64 0, .slice none 0 0] 30)
        have bx210 := bxd.alloc (.cells #[.int .i64 0, .slice none 0 0] 30)
        have haz_210 := hazd.lift ((Below.refl _ _).alloc (Nat.le_refl _) (.cells #[.int .i64 0, .slice none 0 0] 30))
        refine ⟨(fun u => At u w.heap.size 55 #[.int .i64 a0, .int .i64 b0, .int .i64 c0, .int .i64 e0]), fun _ h => h, bx210, ?_⟩
        (try simp only [Act.put, List.setIfInBounds_toArray, List.set_cons_zero, List.set_cons_succ])
        refine any_one 1 rfl (by kernel_rfl) (by rfl) ?_
        go_simp
        refine (toHintS X0 n0 d0 l0 _ haz_210 Hn0.out hm0).mono ?_
        rintro e w211 ⟨A211, c211, rfl, ox211, hb211⟩
        have hB211 := hB210.trans (hb211.mono hB210.size)
        have bx211 := bx210.below hb211 bx210.lt
        have ag211 := ag210.below hb211 ag210.lt
        have haz_211 := haz_210.lift hb211
        refine ⟨(fun u => At u w.heap.size 55 #[.int .i64 a0, .int .i64 b0, .int .i64 c0, .int .i64 e0]), fun _ h => h, bx211, ?_⟩
        (try simp only [Act.put, List.setIfInBounds_toArray, List.set_cons_zero, List.set_cons_succ])
        refine any_one 4 rfl (by kernel_rfl) (by rfl) ?_
        go_simp
        refine (toSample a0 b0 c0 e0 _).mono ?_
        rintro e w212 ⟨rfl, hb212⟩
        have hB212 := hB211.trans (hb212.mono hB211.size)
        have bx212 := bx211.below hb212 bx211.lt
        have ag212 := ag211.below hb212 ag211.lt
        have ox_212 := ox211.below hb212 (Nat.le_refl _)
        have haz_212 := haz_211.lift hb212
        refine ⟨(fun u => At u w.heap.size 55 #[.int .i64 a0, .int .i64 b0, .int .i64 c0, .int .i64 e0]), fun _ h => h, bx212, ?_⟩
        (try simp only [Act.put, List.setIfInBounds_toArray, List.set_cons_zero, List.set_cons_succ])
        refine any_one 5 rfl (by kernel_rfl) (by rfl) ?_
        go_simp
        refine (HI A211 n0 c211 l0 p a0 b0 c0 e0 _ (ox_212.rd okH) Hn0.out hm0 (hF.below (hB11.trans (hB212.mono hB11.size)))).mono ?_
        rintro e w213 ⟨A213, k213, c213, rfl, ow213, hb213⟩
        have hB213 := hB212.trans (hb213.mono hB212.size)
        have bx213 := bx212.below hb213 bx212.lt
        have ag213 := ag212.below hb213 ag212.lt
        have ox_213 := ox_212.below hb213 (Nat.le_refl _)
        have haz_213 := haz_212.lift hb213
        refine ⟨(fun u => At u w.heap.size 55 #[.int .i64 a0, .int .i64 b0, .int .i64 c0, .int .i64 e0]), fun _ h => h, bx213, ?_⟩
        (try simp only [Act.put, List.setIfInBounds_toArray, List.set_cons_zero, List.set_cons_succ])
        refine any_one 7 rfl (by kernel_rfl) (by rfl) ?_
        obtain ⟨k0, k1, k2, k3⟩ := ag213.two
        go_simp
        have gb := ag212.lt
        have OW := ow213
        have BX := bx213
        have HB := hB213
        have AG := ag213
        have bl := hB212.size
        have bxl : w.heap.size < w11.heap.size := by have := ax_11.lt; omega
        have AG := AG.set 0 (.int .i64 (addM l0 p (a0, b0, c0, e0)).1)
        have OW := OW.under (p := ⟨w11.heap.size, 0, none⟩) gb (.int .i64 (addM l0 p (a0, b0, c0, e0)).1)
        have BX := BX.far (p := ⟨w11.heap.size, 0, none⟩) (by show w.heap.size ≠ w11.heap.size; omega) (.int .i64 (addM l0 p (a0, b0, c0, e0)).1)
        have HB := HB.setCell (p := ⟨w11.heap.size, 0, none⟩) gl210 (.int .i64 (addM l0 p (a0, b0, c0, e0)).1)
        have AG := AG.set 1 (.slice A213 k213 c213)
        have OW := OW.under (p := ⟨w11.heap.size, 1, none⟩) gb (.slice A213 k213 c213)
        have BX := BX.far (p := ⟨w11.heap.size, 1, none⟩) (by show w.heap.size ≠ w11.heap.size; omega) (.slice A213 k213 c213)
        have HB := HB.setCell (p := ⟨w11.heap.size, 1, none⟩) gl210 (.slice A213 k213 c213)
        have OW := OW.from_ bl
        refine ⟨(fun u => At u w.heap.size 55 #[.int .i64 a0, .int .i64 b0, .int .i64 c0, .int .i64 e0]), fun _ h => h, BX, ?_⟩
        (try simp only [Act.put, List.setIfInBounds_toArray, List.set_cons_zero, List.set_cons_succ])
        refine any_done (by kernel_rfl) ?_
        go_wp2
        go_meet
        exact ⟨_, A213, k213, c213, rfl, AG, OW, HB⟩
    case rest =>
      obtain ⟨gh, Ah, kh, ch, rfl, AH1, OH1, HB2⟩ := hcut
      have axz := ax_11.below HB2 ax_11.lt
      have arz := ar_11.below HB2 ar_11.lt
      have agz := ag_11.below HB2 ag_11.lt
      have owz := ow_11.below HB2 (Nat.le_refl _)
      have ogz := og_11.below HB2 (Nat.le_refl _)
      have hBz := hB11.trans (HB2.mono hB11.size)
      obtain ⟨ax0_300, ax1_300, ax2_300, ax3_300, _, _, _, _⟩ := axz.four
      obtain ⟨ar0_300, ar1_300, _, _⟩ := arz.two
      obtain ⟨ag0_300, ag1_300, _, _⟩ := agz.two
      obtain ⟨ah0_300, ah1_300, _, _⟩ := AH1.two
      go_wp2_with fail
      refine (eqHintsResult (addM l0 p (a0, b0, c0, e0)).1 Ah Ax kh kx ch cx _ _ _ (OH1.rd okH) (owz.rd okH) (OH1.len okH) (owz.len okH) OH1.small).mono ?_
      rintro e w301 ⟨rfl, hb301⟩
      have ax_301 := axz.below hb301 axz.lt
      have ar_301 := arz.below hb301 arz.lt
      have ag_301 := agz.below hb301 agz.lt
      have ah_301 := AH1.below hb301 AH1.lt
      have ow_301 := owz.below hb301 (Nat.le_refl _)
      have og_301 := ogz.below hb301 (Nat.le_refl _)
      have oh_301 := OH1.below hb301 (Nat.le_refl _)
      have S301 := Lib.hid hb301.size
      have hB301 := hBz.trans (hb301.mono hBz.size)
      obtain ⟨ax0_301, ax1_301, ax2_301, ax3_301, _, _, _, _⟩ := ax_301.four
      obtain ⟨ag0_301, ag1_301, _, _⟩ := ag_301.two
      go_wp2_with fail
      refine (heldHintsResult1 (addM l0 p (a0, b0, c0, e0)).1 A3 k3 c3 _ (og_301.rd okH) (by omega)).mono ?_
      rintro e w302 ⟨rfl, hb302⟩
      have ax_302 := ax_301.below hb302 ax_301.lt
      have ag_302 := ag_301.below hb302 ag_301.lt
      have og_302 := og_301.below hb302 (Nat.le_refl _)
      have S302 := Lib.hid hb302.size
      have hB302 := hB301.trans (hb302.mono hB301.size)
      go_wp2_with fail
      go_ret
      exact ⟨rfl, hB302⟩
end Go.Proofs.YtjlkmfijkhjjkaaDoor
