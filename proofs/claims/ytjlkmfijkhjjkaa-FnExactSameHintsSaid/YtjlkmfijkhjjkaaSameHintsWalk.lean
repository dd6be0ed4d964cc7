import Derived.Test.YtjlkmfijkhjjkaaSameH
namespace Go.Proofs.Ytjlkmfijkhjjkaa
set_option maxRecDepth 20000
open Go.RowKit
set_option linter.unusedSimpArgs false
set_option linter.unusedVariables false

set_option maxRecDepth 100000 in
set_option maxHeartbeats 4000000 in
theorem fnExactSameHints_walk (HI : ∀ (A0 : Option Addr) (m0 e0 : Nat) (q0 : List Hnt) (A1 : Option Addr) (m1 e1 : Nat) (q1 : List Hnt)  (W : World), Rd eH W W.heap.size A0 q0 → q0.length = m0 → m0 ≤ 1048576 → Rd eH W W.heap.size A1 q1 → q1.length = m1 → m1 ≤ 1048576 → Calls Try.prog 11 #[.slice A0 m0 e0, .slice A1 m1 e1] W (fun e W' => e = .returned (.bool (decide (q0 = q1))) ∧ Below W.heap.size W W'))
    (X0 : Option Addr) (n0 d0 : Nat) (l0 : List Hnt) (X1 : Option Addr) (n1 d1 : Nat) (l1 : List Hnt)  (w : World) (ha0 : Rd eM w w.heap.size X0 l0) (hn0 : l0.length = n0) (hM0 : n0 ≤ maxLen) (ha1 : Rd eM w w.heap.size X1 l1) (hn1 : l1.length = n1) (hM1 : n1 ≤ maxLen) :
    Calls Try.prog 4 #[.slice X0 n0 d0, .slice X1 n1 d1] w fun e w' => e = .returned (.bool true) ∧ Below w.heap.size w w' := by
  have Hn0 := Lib.hid hn0
  have Hn1 := Lib.hid hn1
  clear hn0 hn1
  by_cases hbig0 : (1048576 : Int) < (n0 : Int)
  · go_enter Try.func4, Try.ntmps4
    go_wp2_with fail
    refine (szHintS X0 n0 d0 1048576 _ (by omega) (by omega) hM0).mono ?_
    rintro e w' ⟨rfl, rfl⟩
    rw [if_pos (by omega)]
    go_wp2
    go_ret
    exact ⟨rfl, Below.refl _ _⟩
  have hsm0 : (n0 : Int) ≤ 1048576 := by omega
  have hm0 : n0 ≤ 1048576 := by omega
  have hl0 : ¬ (1048576 : Int) - (n0 : Int) < 0 := by omega
  clear hbig0
  by_cases hbig1 : (((1048576 : Int) - (n0 : Int)) : Int) < (n1 : Int)
  · go_enter Try.func4, Try.ntmps4
    go_wp2_with fail
    refine (szHintS X0 n0 d0 1048576 _ (by omega) (by omega) hM0).mono ?_
    rintro e w' ⟨rfl, rfl⟩
    rw [if_neg (by omega)]
    go_wp2_with fail
    refine (szHintS X1 n1 d1 ((1048576 : Int) - (n0 : Int)) _ (by omega) (by omega) hM1).mono ?_
    rintro e w' ⟨rfl, rfl⟩
    rw [if_pos (by omega)]
    go_wp2
    go_ret
    exact ⟨rfl, Below.refl _ _⟩
  have hsm1 : (n1 : Int) ≤ ((1048576 : Int) - (n0 : Int)) := by omega
  have hm1 : n1 ≤ 1048576 := by omega
  have hl1 : ¬ (((1048576 : Int) - (n0 : Int)) : Int) - (n1 : Int) < 0 := by omega
  clear hbig1
  go_enter Try.func4, Try.ntmps4
  go_wp2_with fail
  refine (szHintS X0 n0 d0 1048576 _ (by omega) (by omega) hM0).mono ?_
  rintro e w' ⟨rfl, rfl⟩
  rw [if_neg (by omega)]
  go_wp2_with fail
  refine (szHintS X1 n1 d1 ((1048576 : Int) - (n0 : Int)) _ (by omega) (by omega) hM1).mono ?_
  rintro e w' ⟨rfl, rfl⟩
  rw [if_neg (by omega)]
  go_wp2_with fail
  refine (toHintS X0 n0 d0 l0 _ ha0 Hn0.out hm0).mono ?_
  rintro e w1 ⟨B1, f1, rfl, s0, hb1⟩
  have S1 := Lib.hid hb1.size
  have hB1 := hb1
  have ha0_1 := ha0.lift hB1
  have ha1_1 := ha1.lift hB1
  go_wp2_with fail
  refine (toHintS X1 n1 d1 l1 _ ha1_1 Hn1.out hm1).mono ?_
  rintro e w2 ⟨B2, f2, rfl, s1, hb2⟩
  have s0_2 := s0.below hb2 (Nat.le_refl _)
  have S2 := Lib.hid hb2.size
  have hB2 := hB1.trans (hb2.mono hB1.size)
  go_wp2_with fail
  refine (specSameHints B1 B2 n0 n1 f1 f2 l0 l1 _ (s0_2.rd okH) (s1.rd okH) Hn0.out Hn1.out hM0).mono ?_
  rintro e w3 ⟨rfl, hb3⟩
  have s0_3 := s0_2.below hb3 (Nat.le_refl _)
  have s1_3 := s1.below hb3 (Nat.le_refl _)
  have S3 := Lib.hid hb3.size
  have hB3 := hB2.trans (hb3.mono hB2.size)
  have ha0_3 := ha0.lift hB3
  have ha1_3 := ha1.lift hB3
  go_wp2_with fail
  refine (toHintS X0 n0 d0 l0 _ ha0_3 Hn0.out hm0).mono ?_
  rintro e w4 ⟨B4, f4, rfl, x0, hb4⟩
  have S4 := Lib.hid hb4.size
  have hB4 := hB3.trans (hb4.mono hB3.size)
  have ha0_4 := ha0.lift hB4
  have ha1_4 := ha1.lift hB4
  go_wp2_with fail
  refine (toHintS X1 n1 d1 l1 _ ha1_4 Hn1.out hm1).mono ?_
  rintro e w5 ⟨B5, f5, rfl, x1, hb5⟩
  have x0_5 := x0.below hb5 (Nat.le_refl _)
  have S5 := Lib.hid hb5.size
  have hB5 := hB4.trans (hb5.mono hB4.size)
  go_wp2_with fail
  refine (HI B4 n0 f4 l0 B5 n1 f5 l1  _ (x0_5.rd okH) Hn0.out hm0 (x1.rd okH) Hn1.out hm1).mono ?_
  rintro e w6 ⟨rfl, hb6⟩
  have x0_6 := x0_5.below hb6 (Nat.le_refl _)
  have x1_6 := x1.below hb6 (Nat.le_refl _)
  have S6 := Lib.hid hb6.size
  have hB6 := hB5.trans (hb6.mono hB5.size)
  have hself : (decide (l0 = l1) != decide (l0 = l1)) = false := by simp
  have ha0_6 := ha0.lift hB6
  have ha1_6 := ha1.lift hB6
  go_wp2_with fail
  refine (toHintS X0 n0 d0 l0 _ ha0_6 Hn0.out hm0).mono ?_
  rintro e w7 ⟨B7, f7, rfl, y0, hb7⟩
  have x0_7 := x0_6.below hb7 (Nat.le_refl _)
  have x1_7 := x1_6.below hb7 (Nat.le_refl _)
  have S7 := Lib.hid hb7.size
  have hB7 := hB6.trans (hb7.mono hB6.size)
  go_wp2_with fail
  refine (eqHintS B4 B7 n0 n0 f4 f7 l0 l0 _ (x0_7.rd okH) (y0.rd okH) Hn0.out Hn0.out hM0).mono ?_
  rintro e w8 ⟨rfl, hb8⟩
  have x0_8 := x0_7.below hb8 (Nat.le_refl _)
  have x1_8 := x1_7.below hb8 (Nat.le_refl _)
  have y0_8 := y0.below hb8 (Nat.le_refl _)
  have S8 := Lib.hid hb8.size
  have hB8 := hB7.trans (hb8.mono hB7.size)
  have ha0_8 := ha0.lift hB8
  have ha1_8 := ha1.lift hB8
  go_wp2_with fail
  refine (toHintS X1 n1 d1 l1 _ ha1_8 Hn1.out hm1).mono ?_
  rintro e w9 ⟨B9, f9, rfl, y1, hb9⟩
  have x0_9 := x0_8.below hb9 (Nat.le_refl _)
  have x1_9 := x1_8.below hb9 (Nat.le_refl _)
  have S9 := Lib.hid hb9.size
  have hB9 := hB8.trans (hb9.mono hB8.size)
  go_wp2_with fail
  refine (eqHintS B5 B9 n1 n1 f5 f9 l1 l1 _ (x1_9.rd okH) (y1.rd okH) Hn1.out Hn1.out hM1).mono ?_
  rintro e w10 ⟨rfl, hb10⟩
  have x0_10 := x0_9.below hb10 (Nat.le_refl _)
  have x1_10 := x1_9.below hb10 (Nat.le_refl _)
  have y1_10 := y1.below hb10 (Nat.le_refl _)
  have S10 := Lib.hid hb10.size
  have hB10 := hB9.trans (hb10.mono hB9.size)
  go_wp2_with fail
  go_ret
  exact ⟨by simp, hB10⟩
end Go.Proofs.Ytjlkmfijkhjjkaa
