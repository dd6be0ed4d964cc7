import Derived.Test.YtjlkmfijkhjjkaaDoorHintS
namespace Go.Proofs.YtjlkmfijkhjjkaaDoor
set_option maxRecDepth 20000
open Go.RowKit
set_option linter.unusedSimpArgs false
set_option linter.unusedVariables false

set_option maxRecDepth 100000 in
set_option maxHeartbeats 4000000 in
theorem fnExactHintsFault_walk (HI : ∀ (A0 : Option Addr) (m0 e0 : Nat) (q0 : List Hnt)  (W : World), Rd eH W W.heap.size A0 q0 → q0.length = m0 → m0 ≤ 1048576 → Flds W → Calls Tryd.prog 28 #[.slice A0 m0 e0] W (fun e W' => e = .returned (.int .i64 (hintsFaultM q0)) ∧ Below W.heap.size W W'))
    (X0 : Option Addr) (n0 d0 : Nat) (l0 : List Hnt)  (w : World) (ha0 : Rd eM w w.heap.size X0 l0) (hn0 : l0.length = n0) (hM0 : n0 ≤ maxLen) (hF : Flds w) :
    Calls Tryd.prog 4 #[.slice X0 n0 d0] w fun e w' => e = .returned (.bool true) ∧ Below w.heap.size w w' := by
  have Hn0 := Lib.hid hn0
  clear hn0
  by_cases hbig0 : (1048576 : Int) < (n0 : Int)
  · go_enter Tryd.func4, Tryd.ntmps4
    go_wp2_with fail
    refine (szHintS X0 n0 d0 1048576 _ (by omega) (by omega) hM0).mono ?_
    rintro e w' ⟨rfl, rfl⟩
    rw [if_pos (by omega)]
    go_wp2
    go_ret
    exact ⟨rfl, Below.refl _ _⟩
  have hsm0 : (n0 : Int) ≤ 1048576 := by omega
  have hm0 : n0 ≤ 1048576 := by omega
  have hl0 : ¬ (1048576 : Int) - (n0 : Int) < 0 := by omega
  clear hbig0
  go_enter Tryd.func4, Tryd.ntmps4
  go_wp2_with fail
  refine (szHintS X0 n0 d0 1048576 _ (by omega) (by omega) hM0).mono ?_
  rintro e w' ⟨rfl, rfl⟩
  rw [if_neg (by omega)]
  go_wp2_with fail
  refine (toHintS X0 n0 d0 l0 _ ha0 Hn0.out hm0).mono ?_
  rintro e w1 ⟨B1, f1, rfl, s0, hb1⟩
  have S1 := Lib.hid hb1.size
  have hB1 := hb1
  go_wp2_with fail
  refine (specHintsFault B1 n0 f1 l0 _ (s0.rd okH) Hn0.out).mono ?_
  rintro e w2 ⟨rfl, hb2⟩
  have s0_2 := s0.below hb2 (Nat.le_refl _)
  have S2 := Lib.hid hb2.size
  have hB2 := hB1.trans (hb2.mono hB1.size)
  have ha0_2 := ha0.lift hB2
  go_wp2_with fail
  refine (toHintS X0 n0 d0 l0 _ ha0_2 Hn0.out hm0).mono ?_
  rintro e w3 ⟨B3, f3, rfl, x0, hb3⟩
  have S3 := Lib.hid hb3.size
  have hB3 := hB2.trans (hb3.mono hB2.size)
  go_wp2_with fail
  refine (HI B3 n0 f3 l0  _ (x0.rd okH) Hn0.out hm0 (hF.below hB3)).mono ?_
  rintro e w4 ⟨rfl, hb4⟩
  have x0_4 := x0.below hb4 (Nat.le_refl _)
  have S4 := Lib.hid hb4.size
  have hB4 := hB3.trans (hb4.mono hB3.size)
  have ha0_4 := ha0.lift hB4
  go_wp2_with fail
  refine (toHintS X0 n0 d0 l0 _ ha0_4 Hn0.out hm0).mono ?_
  rintro e w5 ⟨B5, f5, rfl, y0, hb5⟩
  have x0_5 := x0_4.below hb5 (Nat.le_refl _)
  have S5 := Lib.hid hb5.size
  have hB5 := hB4.trans (hb5.mono hB4.size)
  go_wp2_with fail
  refine (eqHintS B3 B5 n0 n0 f3 f5 l0 l0 _ (x0_5.rd okH) (y0.rd okH) Hn0.out Hn0.out hM0).mono ?_
  rintro e w6 ⟨rfl, hb6⟩
  have x0_6 := x0_5.below hb6 (Nat.le_refl _)
  have y0_6 := y0.below hb6 (Nat.le_refl _)
  have S6 := Lib.hid hb6.size
  have hB6 := hB5.trans (hb6.mono hB5.size)
  go_wp2_with fail
  go_ret
  exact ⟨by simp, hB6⟩
end Go.Proofs.YtjlkmfijkhjjkaaDoor
