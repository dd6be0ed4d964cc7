/-
  The program's fault of one hint.
-/
import Derived.Test.YteiclanlhnccnaaDoorHPure
import Derived.Test.YteiclanlhnccnaaDoorFault
import Derived.Test.YteiclanlhnccnaaDoorBound
namespace Go.Proofs.YteiclanlhnccnaaDoor
set_option maxRecDepth 20000
open Go.RowKit
set_option linter.unusedSimpArgs false
set_option linter.unusedVariables false

theorem bnds_three {w : World} {t : TypeId} {x lo hi x' lo' hi' x'' lo'' hi'' : Int} {g : Nat} (hg : w.heap.size = g) : Bnds (w.alloc (.cells #[.int .i64 x, .int .i64 lo, .int .i64 hi, .int .i64 x', .int .i64 lo', .int .i64 hi', .int .i64 x'', .int .i64 lo'', .int .i64 hi''] t)) g [(x, lo, hi), (x', lo', hi'), (x'', lo'', hi'')] := by
  subst hg
  intro k b hk
  match k, hk with
  | 0, hk =>
    obtain rfl : (x, lo, hi) = b := by simpa using hk
    refine ⟨?_, ?_, ?_⟩ <;> (rw [cell_of_row _ _ _ _ _ _ (heap_alloc_new w _)]; rfl)
  | 1, hk =>
    obtain rfl : (x', lo', hi') = b := by simpa using hk
    refine ⟨?_, ?_, ?_⟩ <;> (rw [cell_of_row _ _ _ _ _ _ (heap_alloc_new w _)]; rfl)
  | 2, hk =>
    obtain rfl : (x'', lo'', hi'') = b := by simpa using hk
    refine ⟨?_, ?_, ?_⟩ <;> (rw [cell_of_row _ _ _ _ _ _ (heap_alloc_new w _)]; rfl)
  | k + 3, hk => simp at hk

set_option maxHeartbeats 1000000 in
theorem implHintFault (a0 a1 a2 a3 a4 a5 a6 : Int) (w : World) (hF : Flds w) :
    Calls Tryd.prog 30 #[.agg #[.int .i64 a0, .int .i64 a1, .int .i64 a2, .int .i64 a3, .int .i64 a4, .int .i64 a5, .int .i64 a6]] w fun e w' => e = .returned (.int .i64 (hfaultM (a0, (a1, a2, a3, a4), a5, a6))) ∧ Below w.heap.size w w' := by
  have hB0 : Below w.heap.size w (w.alloc (.cells #[.int .i64 a0, .int .i64 a1, .int .i64 a2, .int .i64 a3, .int .i64 a4, .int .i64 a5, .int .i64 a6] 72)) := (Below.refl _ _).alloc (Nat.le_refl _) _
  have x0 := At.new w 72 #[.int .i64 a0, .int .i64 a1, .int .i64 a2, .int .i64 a3, .int .i64 a4, .int .i64 a5, .int .i64 a6]
  have HS := implSampleFault a1 a2 a3 a4 _ (hF.below hB0)
  rcases faultM_or (a1, a2, a3, a4) with hf | hf
  rotate_left
  · rw [hf] at HS
    have Hr := Lib.hid (hfault_smp (h := (a0, (a1, a2, a3, a4), a5, a6)) hf)
    clear hf
    go_enter Tryd.func30, Tryd.ntmps30
    go_wp2_with fail
    refine HS.mono ?_
    rintro e w1 ⟨rfl, hb1⟩
    have hB1 := hB0.trans (hb1.mono hB0.size)
    go_wp2
    go_ret
    exact ⟨by rw [Hr.out]; rfl, hB1⟩
  rw [hf] at HS
  obtain ⟨r, hr⟩ : ∃ r, rangeH (a0, (a1, a2, a3, a4), a5, a6) = r := ⟨_, rfl⟩
  have Hb := Lib.hid (show ([(a0, 0, 3), (a5, 0, 4), (a6, 0, 200000)] : List (Int × Int × Int)).all inB = r by rw [← hr]; simp [rangeH])
  have Hr := Lib.hid (show hfaultM (a0, (a1, a2, a3, a4), a5, a6) = if r then 0 else 3 by
    cases r
    · exact hfault_no hf hr
    · exact hfault_yes hf hr)
  clear hf hr
  go_enter Tryd.func30, Tryd.ntmps30
  go_wp2_with fail
  refine HS.mono ?_
  rintro e w1 ⟨rfl, hb1⟩
  have hB1 := hB0.trans (hb1.mono hB0.size)
  obtain ⟨c0, c1, c2, c3, c4, c5, c6⟩ := (x0.below hb1 x0.lt).seven
  go_wp2_with fail
  refine (areWithin_any _ 3 _ [(a0, 0, 3), (a5, 0, 4), (a6, 0, 200000)] _ (bnds_three (by simp)) (by simp) rfl (by simp)).mono ?_
  rintro e w2 ⟨rfl, hb2⟩
  have hBa := hB1.alloc hB1.size (.cells #[.int .i64 a0, .int .i64 0, .int .i64 3, .int .i64 a5, .int .i64 0, .int .i64 4, .int .i64 a6, .int .i64 0, .int .i64 200000] 77)
  have hB2 := hBa.trans (hb2.mono hBa.size)
  rw [Hb.out]
  cases r
  · go_wp2
    go_ret
    exact ⟨by rw [Hr.out]; rfl, hB2⟩
  · go_wp2
    go_ret
    exact ⟨by rw [Hr.out]; rfl, hB2⟩
end Go.Proofs.YteiclanlhnccnaaDoor
