/-
  The model's faults of a record.
-/
import Derived.Test.YteiclanlhnccnaaDoorRPure
import Derived.Test.YteiclanlhnccnaaDoorHintS
namespace Go.Proofs.YteiclanlhnccnaaDoor
set_option maxRecDepth 20000
open Go.RowKit
set_option linter.unusedSimpArgs false
set_option linter.unusedVariables false

theorem eqlZ (a2 a3 a4 a5 : Int) (u : World) : (binOp .eql 27 (.agg #[.int .i64 a2, .int .i64 a3, .int .i64 a4, .int .i64 a5]) (.agg #[.int .i64 0, .int .i64 0, .int .i64 0, .int .i64 0])).run Tryd.prog u = .ok (.bool (decide ((a2, a3, a4, a5) = ((0 : Int), (0 : Int), (0 : Int), (0 : Int))))) u := by
  go_simp
  (by_cases h0 : a2 = 0; rotate_left; simp [h0]; by_cases h1 : a3 = 0; rotate_left; simp [h0, h1]; by_cases h2 : a4 = 0; rotate_left; simp [h0, h1, h2]; by_cases h3 : a5 = 0; rotate_left; simp [h0, h1, h2, h3]; simp [h0, h1, h2, h3])

set_option maxHeartbeats 4000000 in
theorem l5Form (g : Nat) (a0 a1 a2 a3 a4 a5 a6 : Int) (nd sm nm : Bool) (w : World) (hx : At w g 29 #[.int .i64 a0, .int .i64 a1, .int .i64 a2, .int .i64 a3, .int .i64 a4, .int .i64 a5, .int .i64 a6]) :
    Calls Tryd.prog 25 #[.pointer (some ⟨g, 0, none⟩), .bool nd, .bool sm, .bool nm] w fun e w' => e = .returned (.bool (formM (a0, a1, (a2, a3, a4, a5), a6) nd sm nm)) ∧ w' = w := by
  obtain ⟨x0, x1, x2, x3, x4, x5, x6⟩ := hx.seven
  have Z := eqlZ a2 a3 a4 a5
  have e1 : (a1 == 0) = decide (a1 = 0) := rfl
  have e6 : (a6 == 0) = decide (a6 = 0) := rfl
  rcases h1 : decide (a1 = 0) <;> rcases h2 : decide ((a2, a3, a4, a5) = ((0 : Int), (0 : Int), (0 : Int), (0 : Int))) <;> rcases h6 : decide (a6 = 0) <;> rw [h2] at Z <;> rw [h1] at e1 <;> rw [h6] at e6 <;>
    (have Hr := Lib.hid (show ∀ a b c, formM (a0, a1, (a2, a3, a4, a5), a6) a b c = ((a || decide (a1 = 0)) && ((b || decide ((a2, a3, a4, a5) = ((0 : Int), (0 : Int), (0 : Int), (0 : Int)))) && (c || decide (a6 = 0)))) from fun _ _ _ => rfl)
     rw [h1, h2, h6] at Hr
     clear h1 h2 h6
     rcases nd <;> rcases sm <;> rcases nm <;>
      (go_enter Tryd.func25, Tryd.ntmps25
       go_wp2
       go_ret
       exact ⟨by rw [Hr.out]; rfl, rfl⟩))

set_option maxHeartbeats 4000000 in
theorem l5Range (g : Nat) (a0 a1 a2 a3 a4 a5 a6 m : Int) (w : World) (hx : At w g 29 #[.int .i64 a0, .int .i64 a1, .int .i64 a2, .int .i64 a3, .int .i64 a4, .int .i64 a5, .int .i64 a6]) :
    Calls Tryd.prog 26 #[.pointer (some ⟨g, 0, none⟩), .int .i64 m] w fun e w' => e = .returned (.int .i64 (rrangeM (a0, a1, (a2, a3, a4, a5), a6) m)) ∧ Below w.heap.size w w' := by
  obtain ⟨x0, x1, x2, x3, x4, x5, x6⟩ := hx.seven
  have Hr := Lib.hid (show rrangeM (a0, a1, (a2, a3, a4, a5), a6) m = if (inB (a1, 0, 3) && inB (a6, 0, m)) = true then faultM (a2, a3, a4, a5) else 3 from rfl)
  rcases h1 : inB (a1, 0, 3)
  · go_enter Tryd.func26, Tryd.ntmps26
    go_wp2_with (go_at_call 53; refine (l4Node a1 w).mono ?_; rintro e w1 ⟨rfl, rfl⟩; rw [h1])
    go_ret
    exact ⟨by rw [Hr.out, h1]; rfl, Below.refl _ _⟩
  rcases h2 : inB (a6, 0, m)
  · go_enter Tryd.func26, Tryd.ntmps26
    go_wp2_with (first | (go_at_call 53; refine (l4Node a1 w).mono ?_; rintro e w1 ⟨rfl, rfl⟩; rw [h1]) | (go_at_call 45; refine (l1In_any a6 0 m w).mono ?_; rintro e w1 ⟨rfl, rfl⟩; rw [h2]))
    go_ret
    exact ⟨by rw [Hr.out, h1, h2]; rfl, Below.refl _ _⟩
  · go_enter Tryd.func26, Tryd.ntmps26
    go_wp2_with (first | (go_at_call 53; refine (l4Node a1 w).mono ?_; rintro e w1 ⟨rfl, rfl⟩; rw [h1]) | (go_at_call 45; refine (l1In_any a6 0 m w).mono ?_; rintro e w1 ⟨rfl, rfl⟩; rw [h2]) | (go_at_call 54; refine (specSampleFault a2 a3 a4 a5 w).mono ?_; rintro e w1 ⟨rfl, hb1⟩))
    go_ret
    exact ⟨by rw [Hr.out, h1, h2]; rfl, hb1⟩

set_option maxHeartbeats 4000000 in
theorem specRecordFault (a0 a1 a2 a3 a4 a5 a6 : Int) (w : World) :
    Calls Tryd.prog 7 #[.agg #[.int .i64 a0, .int .i64 a1, .int .i64 a2, .int .i64 a3, .int .i64 a4, .int .i64 a5, .int .i64 a6]] w fun e w' => e = .returned (.int .i64 (recFaultM (a0, a1, (a2, a3, a4, a5), a6))) ∧ Below w.heap.size w w' := by
  have hB0 : Below w.heap.size w (w.alloc (.cells #[.int .i64 a0, .int .i64 a1, .int .i64 a2, .int .i64 a3, .int .i64 a4, .int .i64 a5, .int .i64 a6] 29)) := (Below.refl _ _).alloc (Nat.le_refl _) _
  have r0 := At.new w 29 #[.int .i64 a0, .int .i64 a1, .int .i64 a2, .int .i64 a3, .int .i64 a4, .int .i64 a5, .int .i64 a6]
  obtain ⟨c0, c1, c2, c3, c4, c5, c6⟩ := r0.seven
  have LF := fun a b c => l5Form w.heap.size a0 a1 a2 a3 a4 a5 a6 a b c _ r0
  have LR := fun m => l5Range w.heap.size a0 a1 a2 a3 a4 a5 a6 m _ r0
  by_cases k1 : a0 = 1
  rotate_left
  by_cases k2 : a0 = 2
  rotate_left
  by_cases k3 : a0 = 3
  rotate_left
  by_cases k4 : a0 = 4
  rotate_left
  · have b1 : (a0 == 1) = false := by simpa using k1
    have b2 : (a0 == 2) = false := by simpa using k2
    have b3 : (a0 == 3) = false := by simpa using k3
    have b4 : (a0 == 4) = false := by simpa using k4
    have Hr := Lib.hid (recFault_form (r := (a0, a1, (a2, a3, a4, a5), a6)) (by unfold recFormM; rw [if_neg k1, if_neg k2, if_neg k3, if_neg k4]))
    clear k1 k2 k3 k4
    go_enter Tryd.func7, Tryd.ntmps7
    go_wp2
    go_ret
    exact ⟨by rw [Hr.out]; try rfl, hB0⟩
  · subst k1
    have hform : recFormM (1, a1, (a2, a3, a4, a5), a6) = formM (1, a1, (a2, a3, a4, a5), a6) false true false := by unfold recFormM; rw [if_pos rfl]
    have hmost : mostM (1, a1, (a2, a3, a4, a5), a6) = 9999 := by unfold mostM; rfl
    rcases hf : formM (1, a1, (a2, a3, a4, a5), a6) false true false
    · have Hr := Lib.hid (recFault_form (hform.trans hf))
      have Hf := Lib.hid hf
      clear hf hform hmost
      go_enter Tryd.func7, Tryd.ntmps7
      go_wp2_with (go_at_call 25; refine (LF false true false).mono ?_; rintro e w1 ⟨rfl, rfl⟩; rw [Hf.out])
      go_ret
      exact ⟨by rw [Hr.out]; try rfl, hB0⟩
    · have Hr := Lib.hid (recFault_range (hform.trans hf))
      rw [hmost] at Hr
      have Hf := Lib.hid hf
      clear hf hform hmost
      go_enter Tryd.func7, Tryd.ntmps7
      go_wp2_with (first | (go_at_call 25; refine (LF false true false).mono ?_; rintro e w1 ⟨rfl, rfl⟩; rw [Hf.out]) | (go_at_call 26; refine (LR 9999).mono ?_; rintro e w2 ⟨rfl, hb2⟩))
      go_ret
      exact ⟨by rw [Hr.out]; try rfl, hB0.trans (hb2.mono hB0.size)⟩
  · subst k2
    clear k1
    have hform : recFormM (2, a1, (a2, a3, a4, a5), a6) = formM (2, a1, (a2, a3, a4, a5), a6) true true false := by unfold recFormM; rw [if_neg (show ¬ ((2 : Int) = 1) by decide), if_pos rfl]
    have hmost : mostM (2, a1, (a2, a3, a4, a5), a6) = 9999 := by unfold mostM; rfl
    rcases hf : formM (2, a1, (a2, a3, a4, a5), a6) true true false
    · have Hr := Lib.hid (recFault_form (hform.trans hf))
      have Hf := Lib.hid hf
      clear hf hform hmost
      go_enter Tryd.func7, Tryd.ntmps7
      go_wp2_with (go_at_call 25; refine (LF true true false).mono ?_; rintro e w1 ⟨rfl, rfl⟩; rw [Hf.out])
      go_ret
      exact ⟨by rw [Hr.out]; try rfl, hB0⟩
    · have Hr := Lib.hid (recFault_range (hform.trans hf))
      rw [hmost] at Hr
      have Hf := Lib.hid hf
      clear hf hform hmost
      go_enter Tryd.func7, Tryd.ntmps7
      go_wp2_with (first | (go_at_call 25; refine (LF true true false).mono ?_; rintro e w1 ⟨rfl, rfl⟩; rw [Hf.out]) | (go_at_call 26; refine (LR 9999).mono ?_; rintro e w2 ⟨rfl, hb2⟩))
      go_ret
      exact ⟨by rw [Hr.out]; try rfl, hB0.trans (hb2.mono hB0.size)⟩
  · subst k3
    clear k1 k2
    have hform : recFormM (3, a1, (a2, a3, a4, a5), a6) = formM (3, a1, (a2, a3, a4, a5), a6) true false true := by unfold recFormM; rw [if_neg (show ¬ ((3 : Int) = 1) by decide), if_neg (show ¬ ((3 : Int) = 2) by decide), if_pos rfl]
    have hmost : mostM (3, a1, (a2, a3, a4, a5), a6) = 9999 := by unfold mostM; rfl
    rcases hf : formM (3, a1, (a2, a3, a4, a5), a6) true false true
    · have Hr := Lib.hid (recFault_form (hform.trans hf))
      have Hf := Lib.hid hf
      clear hf hform hmost
      go_enter Tryd.func7, Tryd.ntmps7
      go_wp2_with (go_at_call 25; refine (LF true false true).mono ?_; rintro e w1 ⟨rfl, rfl⟩; rw [Hf.out])
      go_ret
      exact ⟨by rw [Hr.out]; try rfl, hB0⟩
    · have Hr := Lib.hid (recFault_range (hform.trans hf))
      rw [hmost] at Hr
      have Hf := Lib.hid hf
      clear hf hform hmost
      go_enter Tryd.func7, Tryd.ntmps7
      go_wp2_with (first | (go_at_call 25; refine (LF true false true).mono ?_; rintro e w1 ⟨rfl, rfl⟩; rw [Hf.out]) | (go_at_call 26; refine (LR 9999).mono ?_; rintro e w2 ⟨rfl, hb2⟩))
      go_ret
      exact ⟨by rw [Hr.out]; try rfl, hB0.trans (hb2.mono hB0.size)⟩
  · subst k4
    clear k1 k2 k3
    have hform : recFormM (4, a1, (a2, a3, a4, a5), a6) = formM (4, a1, (a2, a3, a4, a5), a6) false false true := by unfold recFormM; rw [if_neg (show ¬ ((4 : Int) = 1) by decide), if_neg (show ¬ ((4 : Int) = 2) by decide), if_neg (show ¬ ((4 : Int) = 3) by decide), if_pos rfl]
    have hmost : mostM (4, a1, (a2, a3, a4, a5), a6) = 60000 := by unfold mostM; rfl
    rcases hf : formM (4, a1, (a2, a3, a4, a5), a6) false false true
    · have Hr := Lib.hid (recFault_form (hform.trans hf))
      have Hf := Lib.hid hf
      clear hf hform hmost
      go_enter Tryd.func7, Tryd.ntmps7
      go_wp2_with (go_at_call 25; refine (LF false false true).mono ?_; rintro e w1 ⟨rfl, rfl⟩; rw [Hf.out])
      go_ret
      exact ⟨by rw [Hr.out]; try rfl, hB0⟩
    · have Hr := Lib.hid (recFault_range (hform.trans hf))
      rw [hmost] at Hr
      have Hf := Lib.hid hf
      clear hf hform hmost
      go_enter Tryd.func7, Tryd.ntmps7
      go_wp2_with (first | (go_at_call 25; refine (LF false false true).mono ?_; rintro e w1 ⟨rfl, rfl⟩; rw [Hf.out]) | (go_at_call 26; refine (LR 60000).mono ?_; rintro e w2 ⟨rfl, hb2⟩))
      go_ret
      exact ⟨by rw [Hr.out]; try rfl, hB0.trans (hb2.mono hB0.size)⟩
end Go.Proofs.YteiclanlhnccnaaDoor
