/-
  The program's fault of a record.
-/
import Derived.Test.YteiclanlhnccnaaDoorEntP
import Derived.Test.YteiclanlhnccnaaDoorHintF
namespace Go.Proofs.YteiclanlhnccnaaDoor
set_option maxRecDepth 20000
open Go.RowKit
set_option linter.unusedSimpArgs false
set_option linter.unusedVariables false

/-- What rangeFault answers. -/
def rngM (bs : List (Int × Int × Int)) : Int := if bs.all inB = true then 0 else 3
theorem rangeFault (g n c : Nat) (bs : List (Int × Int × Int)) (w : World) (hb : Bnds w g bs) (hg : g < w.heap.size) (hn : bs.length = n) (hm : n ≤ 1000) :
    Calls Tryd.prog 31 #[.slice (some ⟨g, 0, none⟩) n c] w fun e w' => e = .returned (.int .i64 (rngM bs)) ∧ Below w.heap.size w w' := by
  unfold rngM
  have HW := areWithin_any g n c bs w hb hg hn hm
  rcases hq : bs.all inB
  · rw [hq] at HW
    rw [if_neg (by simp)]
    clear hq hb hn
    go_enter Tryd.func31, Tryd.ntmps31
    go_wp2_with fail
    refine HW.mono ?_
    rintro e w1 ⟨rfl, hb1⟩
    go_wp2
    go_ret
    exact ⟨rfl, hb1⟩
  · rw [hq] at HW
    rw [if_pos rfl]
    clear hq hb hn
    go_enter Tryd.func31, Tryd.ntmps31
    go_wp2_with fail
    refine HW.mono ?_
    rintro e w1 ⟨rfl, hb1⟩
    go_wp2
    go_ret
    exact ⟨rfl, hb1⟩
theorem rec_kind1 {a1 a2 a3 a4 a5 a6 : Int} (h : recFormM (1, a1, (a2, a3, a4, a5), a6) = true) : recFaultM (1, a1, (a2, a3, a4, a5), a6) = faultM (a2, a3, a4, a5) := by
  have e : a1 = 0 ∧ a6 = 0 := by unfold recFormM formM at h; simpa using h
  rw [recFault_range h]; unfold rrangeM; rw [e.1, e.2, if_pos (by unfold mostM inB; simp)]
theorem rec_kind2 {a1 a2 a3 a4 a5 a6 : Int} (h : recFormM (2, a1, (a2, a3, a4, a5), a6) = true) : recFaultM (2, a1, (a2, a3, a4, a5), a6) = hfaultM (a1, (a2, a3, a4, a5), 0, 0) := by
  have e : a6 = 0 := by unfold recFormM formM at h; simpa using h
  have h0 : inB ((0 : Int), 0, 9999) = true := by decide
  have h4 : inB ((0 : Int), 0, 4) = true := by decide
  have h2 : inB ((0 : Int), 0, 200000) = true := by decide
  rw [recFault_range h]; unfold rrangeM hfaultM rangeH mostM
  rw [e]
  simp only [show ¬ ((2 : Int) = 4) by decide, if_false, h0, h4, h2, Bool.and_true]
  rcases faultM_or (a2, a3, a4, a5) with hf | hf <;> rcases hb : inB (a1, 0, 3) <;> simp [hf]
theorem rec_kind3 {a1 a2 a3 a4 a5 a6 : Int} (h : recFormM (3, a1, (a2, a3, a4, a5), a6) = true) : recFaultM (3, a1, (a2, a3, a4, a5), a6) = rngM [(a1, 0, 3), (a6, 0, 9999)] := by
  unfold rngM
  have e : (a2, a3, a4, a5) = ((0 : Int), (0 : Int), (0 : Int), (0 : Int)) := by unfold recFormM formM at h; simpa using h
  have hz : faultM (0, 0, 0, 0) = 0 := by decide
  rw [recFault_range h]; unfold rrangeM mostM
  rw [e, hz]
  simp only [show ¬ ((3 : Int) = 4) by decide, if_false, List.all_cons, List.all_nil, Bool.and_true]
theorem rec_kind4 {a1 a2 a3 a4 a5 a6 : Int} (h : recFormM (4, a1, (a2, a3, a4, a5), a6) = true) : recFaultM (4, a1, (a2, a3, a4, a5), a6) = rngM [(a6, 0, 60000)] := by
  unfold rngM
  have e : a1 = 0 ∧ (a2, a3, a4, a5) = ((0 : Int), (0 : Int), (0 : Int), (0 : Int)) := by unfold recFormM formM at h; simpa using h
  have hz : faultM (0, 0, 0, 0) = 0 := by decide
  have h0 : inB ((0 : Int), 0, 3) = true := by decide
  rw [recFault_range h]; unfold rrangeM mostM
  rw [e.1, e.2, hz]
  simp only [if_true, h0, List.all_cons, List.all_nil, Bool.and_true, Bool.true_and]

set_option maxHeartbeats 4000000 in
theorem implRecordFault (a0 a1 a2 a3 a4 a5 a6 : Int) (w : World) (hF : Flds w) :
    Calls Tryd.prog 9 #[.agg #[.int .i64 a0, .int .i64 a1, .int .i64 a2, .int .i64 a3, .int .i64 a4, .int .i64 a5, .int .i64 a6]] w fun e w' => e = .returned (.int .i64 (recFaultM (a0, a1, (a2, a3, a4, a5), a6))) ∧ Below w.heap.size w w' := by
  have hB0 : Below w.heap.size w (w.alloc (.cells #[.int .i64 a0, .int .i64 a1, .int .i64 a2, .int .i64 a3, .int .i64 a4, .int .i64 a5, .int .i64 a6] 29)) := (Below.refl _ _).alloc (Nat.le_refl _) _
  have r0 := At.new w 29 #[.int .i64 a0, .int .i64 a1, .int .i64 a2, .int .i64 a3, .int .i64 a4, .int .i64 a5, .int .i64 a6]
  obtain ⟨c0, c1, c2, c3, c4, c5, c6⟩ := r0.seven
  have hF0 := hF.below hB0
  have EN := entryOf a0 a1 a2 a3 a4 a5 a6 (w.alloc (.cells #[.int .i64 a0, .int .i64 a1, .int .i64 a2, .int .i64 a3, .int .i64 a4, .int .i64 a5, .int .i64 a6] 29))
  rcases hf : recFormM (a0, a1, (a2, a3, a4, a5), a6)
  · rw [entV_no hf] at EN
    have q1 := as0_1
    have q2 := as0_2
    have q3 := as0_3
    have q4 := as0_4
    have Hr := Lib.hid (recFault_form hf)
    clear hf
    go_enter Tryd.func9, Tryd.ntmps9
    go_wp2_with fail
    refine EN.mono ?_
    rintro e w1 ⟨rfl, hb1⟩
    have hB1 := hB0.trans (hb1.mono hB0.size)
    go_wp2
    go_ret
    exact ⟨by rw [Hr.out]; try rfl, hB1⟩
  by_cases k1 : a0 = 1
  rotate_left
  by_cases k2 : a0 = 2
  rotate_left
  by_cases k3 : a0 = 3
  rotate_left
  by_cases k4 : a0 = 4
  rotate_left
  · exact absurd hf (by unfold recFormM; rw [if_neg k1, if_neg k2, if_neg k3, if_neg k4]; decide)
  · subst k1
    have q1 := as1_1
    rw [entV_1 hf] at EN
    have Hr := Lib.hid (rec_kind1 hf)
    clear hf
    go_enter Tryd.func9, Tryd.ntmps9
    go_wp2_with fail
    refine EN.mono ?_
    rintro e w1 ⟨rfl, hb1⟩
    have hB1 := hB0.trans (hb1.mono hB0.size)
    have hF1 := hF0.below hb1
    have hB2 := hB1.alloc hB1.size (.cells #[.int .i64 a2, .int .i64 a3, .int .i64 a4, .int .i64 a5] 66)
    have hF2 := hF1.below ((Below.refl _ _).alloc (Nat.le_refl _) (.cells #[.int .i64 a2, .int .i64 a3, .int .i64 a4, .int .i64 a5] 66))
    go_wp2_with fail
    refine (implSampleFault a2 a3 a4 a5 _ hF2).mono ?_
    rintro e w3 ⟨rfl, hb3⟩
    have hB3 := hB2.trans (hb3.mono hB2.size)
    go_wp2
    go_ret
    exact ⟨by rw [Hr.out]; try rfl, hB3⟩
  · subst k2
    clear k1
    have q1 := as2_1
    have q2 := as2_2
    rw [entV_2 hf] at EN
    have Hr := Lib.hid (rec_kind2 hf)
    clear hf
    go_enter Tryd.func9, Tryd.ntmps9
    go_wp2_with fail
    refine EN.mono ?_
    rintro e w1 ⟨rfl, hb1⟩
    have hB1 := hB0.trans (hb1.mono hB0.size)
    have hF1 := hF0.below hb1
    have hB2 := hB1.alloc hB1.size (.cells #[.int .i64 a1, .int .i64 a2, .int .i64 a3, .int .i64 a4, .int .i64 a5] 69)
    have hF2 := hF1.below ((Below.refl _ _).alloc (Nat.le_refl _) (.cells #[.int .i64 a1, .int .i64 a2, .int .i64 a3, .int .i64 a4, .int .i64 a5] 69))
    go_wp2_with fail
    refine (implHintFault a1 a2 a3 a4 a5 0 0 _ hF2).mono ?_
    rintro e w3 ⟨rfl, hb3⟩
    have hB3 := hB2.trans (hb3.mono hB2.size)
    go_wp2
    go_ret
    exact ⟨by rw [Hr.out]; try rfl, hB3⟩
  · subst k3
    clear k1 k2
    have q1 := as3_1
    have q2 := as3_2
    have q3 := as3_3
    rw [entV_3 hf] at EN
    have Hr := Lib.hid (rec_kind3 hf)
    clear hf
    go_enter Tryd.func9, Tryd.ntmps9
    go_wp2_with fail
    refine EN.mono ?_
    rintro e w1 ⟨rfl, hb1⟩
    have hB1 := hB0.trans (hb1.mono hB0.size)
    have hF1 := hF0.below hb1
    have hB2 := hB1.alloc hB1.size (.cells #[.int .i64 a1, .int .i64 a6] 74)
    have hF2 := hF1.below ((Below.refl _ _).alloc (Nat.le_refl _) (.cells #[.int .i64 a1, .int .i64 a6] 74))
    go_wp2_with fail
    refine (rangeFault _ 2 _ [(a1, 0, 3), (a6, 0, 9999)] _ (bnds_two (by simp)) (by simp) rfl (by omega)).mono ?_
    rintro e w3 ⟨rfl, hb3⟩
    have hB2 := hB2.alloc hB2.size (.cells #[.int .i64 a1, .int .i64 0, .int .i64 3, .int .i64 a6, .int .i64 0, .int .i64 9999] 77)
    have hB3 := hB2.trans (hb3.mono hB2.size)
    go_wp2
    go_ret
    exact ⟨by rw [Hr.out]; try rfl, hB3⟩
  · subst k4
    clear k1 k2 k3
    have q1 := as4_1
    have q2 := as4_2
    have q3 := as4_3
    have q4 := as4_4
    rw [entV_4 hf] at EN
    have Hr := Lib.hid (rec_kind4 hf)
    clear hf
    go_enter Tryd.func9, Tryd.ntmps9
    go_wp2_with fail
    refine EN.mono ?_
    rintro e w1 ⟨rfl, hb1⟩
    have hB1 := hB0.trans (hb1.mono hB0.size)
    have hF1 := hF0.below hb1
    have hB2 := hB1.alloc hB1.size (.cells #[.int .i64 a6] 79)
    have hF2 := hF1.below ((Below.refl _ _).alloc (Nat.le_refl _) (.cells #[.int .i64 a6] 79))
    go_wp2_with fail
    refine (rangeFault _ 1 _ [(a6, 0, 60000)] _ (bnds_one (by simp)) (by simp) rfl (by omega)).mono ?_
    rintro e w3 ⟨rfl, hb3⟩
    have hB2 := hB2.alloc hB2.size (.cells #[.int .i64 a6, .int .i64 0, .int .i64 60000] 77)
    have hB3 := hB2.trans (hb3.mono hB2.size)
    go_wp2
    go_ret
    exact ⟨by rw [Hr.out]; try rfl, hB3⟩
theorem hiRecordFault : ∀ (x0 x1 x2 x3 x4 x5 x6 : Int) (W : World), Flds W → Calls Tryd.prog 9 #[.agg #[.int .i64 x0, .int .i64 x1, .int .i64 x2, .int .i64 x3, .int .i64 x4, .int .i64 x5, .int .i64 x6]] W fun e W' => e = .returned (.int .i64 (recFaultM (x0, x1, (x2, x3, x4, x5), x6))) ∧ Below W.heap.size W W' :=
  fun x0 x1 x2 x3 x4 x5 x6 W hF => implRecordFault x0 x1 x2 x3 x4 x5 x6 W hF
end Go.Proofs.YteiclanlhnccnaaDoor
