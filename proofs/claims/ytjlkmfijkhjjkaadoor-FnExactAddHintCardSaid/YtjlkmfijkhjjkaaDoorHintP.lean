/-
  The program's faults of hints.
-/
import Derived.Test.YtjlkmfijkhjjkaaDoorHintS
import Derived.Test.YtjlkmfijkhjjkaaDoorHQ
import Derived.Test.YtjlkmfijkhjjkaaDoorQueue
namespace Go.Proofs.YtjlkmfijkhjjkaaDoor
set_option maxRecDepth 20000
open Go.RowKit Go.Shelf
set_option linter.unusedSimpArgs false
set_option linter.unusedVariables false

theorem bnds_three {w : World} {t : TypeId} {x lo hi x' lo' hi' x'' lo'' hi'' : Int} {g : Nat} (hg : w.heap.size = g) : Bnds (w.alloc (.cells #[.int .i64 x, .int .i64 lo, .int .i64 hi, .int .i64 x', .int .i64 lo', .int .i64 hi', .int .i64 x'', .int .i64 lo'', .int .i64 hi''] t)) g [(x, lo, hi), (x', lo', hi'), (x'', lo'', hi'')] := by
  subst hg
  intro k b hk
  match k, hk with
  | 0, hk =>
    obtain rfl : (x, lo, hi) = b := by simpa using hk
    refine ⟨?_, ?_, ?_⟩ <;> (rw [cell_of_row _ _ _ _ _ _ (heap_alloc_new w _)]; rfl)
  | 1, hk =>
    obtain rfl : (x', lo', hi') = b := by simpa using hk
    refine ⟨?_, ?_, ?_⟩ <;> (rw [cell_of_row _ _ _ _ _ _ (heap_alloc_new w _)]; rfl)
  | 2, hk =>
    obtain rfl : (x'', lo'', hi'') = b := by simpa using hk
    refine ⟨?_, ?_, ?_⟩ <;> (rw [cell_of_row _ _ _ _ _ _ (heap_alloc_new w _)]; rfl)
  | k + 3, hk => simp at hk

set_option maxHeartbeats 1000000 in
theorem implHintFault (a0 a1 a2 a3 a4 a5 a6 : Int) (w : World) (hF : Flds w) :
    Calls Tryd.prog 43 #[.agg #[.int .i64 a0, .int .i64 a1, .int .i64 a2, .int .i64 a3, .int .i64 a4, .int .i64 a5, .int .i64 a6]] w fun e w' => e = .returned (.int .i64 (hfaultM (a0, (a1, a2, a3, a4), a5, a6))) ∧ Below w.heap.size w w' := by
  have hB0 : Below w.heap.size w (w.alloc (.cells #[.int .i64 a0, .int .i64 a1, .int .i64 a2, .int .i64 a3, .int .i64 a4, .int .i64 a5, .int .i64 a6] 50)) := (Below.refl _ _).alloc (Nat.le_refl _) _
  have x0 := At.new w 50 #[.int .i64 a0, .int .i64 a1, .int .i64 a2, .int .i64 a3, .int .i64 a4, .int .i64 a5, .int .i64 a6]
  have HS := implSampleFault a1 a2 a3 a4 _ (hF.below hB0)
  rcases faultM_or (a1, a2, a3, a4) with hf | hf
  rotate_left
  · rw [hf] at HS
    have Hr := Lib.hid (hfault_smp (h := (a0, (a1, a2, a3, a4), a5, a6)) hf)
    clear hf
    go_enter Tryd.func43, Tryd.ntmps43
    go_wp2_with fail
    refine HS.mono ?_
    rintro e w1 ⟨rfl, hb1⟩
    have hB1 := hB0.trans (hb1.mono hB0.size)
    go_wp2
    go_ret
    exact ⟨by rw [Hr.out]; rfl, hB1⟩
  rw [hf] at HS
  obtain ⟨r, hr⟩ : ∃ r, rangeH (a0, (a1, a2, a3, a4), a5, a6) = r := ⟨_, rfl⟩
  have Hb := Lib.hid (show ([(a0, 0, 3), (a5, 0, 4), (a6, 0, 200000)] : List (Int × Int × Int)).all inB = r by rw [← hr]; simp [rangeH])
  have Hr := Lib.hid (show hfaultM (a0, (a1, a2, a3, a4), a5, a6) = if r then 0 else 3 by
    cases r
    · exact hfault_no hf hr
    · exact hfault_yes hf hr)
  clear hf hr
  go_enter Tryd.func43, Tryd.ntmps43
  go_wp2_with fail
  refine HS.mono ?_
  rintro e w1 ⟨rfl, hb1⟩
  have hB1 := hB0.trans (hb1.mono hB0.size)
  obtain ⟨c0, c1, c2, c3, c4, c5, c6⟩ := (x0.below hb1 x0.lt).seven
  go_wp2_with fail
  refine (areWithin_any _ 3 _ [(a0, 0, 3), (a5, 0, 4), (a6, 0, 200000)] _ (bnds_three (by simp)) (by simp) rfl (by simp)).mono ?_
  rintro e w2 ⟨rfl, hb2⟩
  have hBa := hB1.alloc hB1.size (.cells #[.int .i64 a0, .int .i64 0, .int .i64 3, .int .i64 a5, .int .i64 0, .int .i64 4, .int .i64 a6, .int .i64 0, .int .i64 200000] 86)
  have hB2 := hBa.trans (hb2.mono hBa.size)
  rw [Hb.out]
  cases r
  · go_wp2
    go_ret
    exact ⟨by rw [Hr.out]; rfl, hB2⟩
  · go_wp2
    go_ret
    exact ⟨by rw [Hr.out]; rfl, hB2⟩

set_option maxHeartbeats 4000000 in
theorem implHintsFault (A : Option Addr) (n c : Nat) (l : List Hnt) (w : World) (ha : Rd eH w w.heap.size A l) (hn : l.length = n) (hF : Flds w) :
    Calls Tryd.prog 28 #[.slice A n c] w fun e w' => e = .returned (.int .i64 (hintsFaultM l)) ∧ Below w.heap.size w w' := by
  by_cases hbig : 8 < n
  · have hb : (8 : Int) < (n : Int) := by omega
    rw [hintsFault_many (by omega)]
    go_enter Tryd.func28, Tryd.ntmps28
    go_wp2
    go_ret
    exact ⟨rfl, Below.refl _ _⟩
  have hb : (n : Int) ≤ 8 := by omega
  have Hbig := Lib.hid (show ¬ 8 < l.length by omega)
  have Hn := Lib.hid hn
  clear hn hbig
  go_enter Tryd.func28, Tryd.ntmps28
  go_wp2
  go_loopw [11] (fun i wr => RightRelH w l n i wr) (fun i _ => n - (intOf i).toNat)
  case atStart => exact ⟨0, Nat.zero_le _, rfl, fun _ _ h => absurd h (by omega), Below.refl _ _⟩
  case round =>
    obtain ⟨k, hk, rfl, hal, hbel⟩ := hrel
    have Hal := Lib.hid hal
    clear hal
    by_cases hlt : k < n
    · obtain ⟨g, o, a0, a1, a2, a3, a4, a5, a6, rfl, hg, hx, c0, c1, c2, c3, c4, c5, c6⟩ := (ha.below hbel (Nat.le_refl _)).hnt (k := k) (by rw [Hn.out]; exact hlt)
      have hB1 := hbel.alloc hbel.size (.cells #[.int .i64 a0, .int .i64 a1, .int .i64 a2, .int .i64 a3, .int .i64 a4, .int .i64 a5, .int .i64 a6] 50)
      have HH := implHintFault a0 a1 a2 a3 a4 a5 a6 _ (hF.below hB1)
      have Hx := Lib.hid hx
      clear hx
      rcases hfault_or (a0, (a1, a2, a3, a4), a5, a6) with hf | hf
      · rw [hf] at HH
        have Hf := Lib.hid hf
        clear hf
        go_wp2_with fail
        refine HH.mono ?_
        rintro e w2 ⟨rfl, hb2⟩
        have hB2 := hB1.trans (hb2.mono hB1.size)
        go_wp2
        refine ⟨⟨k + 1, by omega, by go_num, fun j x hj hx => ?_, hB2⟩, by simp [intOf]; omega⟩
        rcases Nat.lt_or_ge j k with h | h
        · exact Hal.out j x h hx
        · obtain rfl : j = k := by omega
          obtain rfl := Option.some.inj (Hx.out.symm.trans hx)
          exact Hf.out
      · rw [hf] at HH
        have Hr := Lib.hid (hintsFault_wrong Hbig.out Hx.out hf)
        clear hf
        go_wp2_with fail
        refine HH.mono ?_
        rintro e w2 ⟨rfl, hb2⟩
        have hB2 := hB1.trans (hb2.mono hB1.size)
        go_wp2
        go_ret
        exact ⟨by rw [Hr.out]; rfl, hB2⟩
    · obtain rfl : n = k := by omega
      have Hright := Lib.hid (rightHM_of Hn.out Hal.out)
      have HQ := qOf A n c l wr (ha.lift hbel) Hn.out (by omega)
      obtain ⟨m, hm⟩ : ∃ m, (queueM l).length = m := ⟨_, rfl⟩
      have Hm := Lib.hid hm
      obtain ⟨q1, q2, q3⟩ := queue_all l
      have Q1 := Lib.hid q1
      have Q2 := Lib.hid q2
      clear Hal hm q1 q2 q3
      by_cases hd : Dis l
      · have hmn : m = n := by rw [← Hm.out, Q1.out hd, zipQ_len, Hn.out]
        subst hmn
        have Hr := Lib.hid (hintsFault_ok Hbig.out Hright.out hd)
        have hno : ¬ (m : Int) < (m : Int) := by omega
        clear hd
        go_wp2_with fail
        refine HQ.mono ?_
        rintro e w2 ⟨rfl, hp, hq, hb2⟩
        have hB2 := hbel.trans (hb2.mono hbel.size)
        have HSZ := qSize _ _ _ _ _ hp hq
        rw [Hm.out] at HSZ
        go_wp2_with fail
        refine HSZ.mono ?_
        rintro e w99 ⟨rfl, rfl⟩
        go_wp2
        go_ret
        exact ⟨by rw [Hr.out]; rfl, hB2⟩
      · have hmn : m < n := by have := Q2.out hd; have := Hm.out; have := Hn.out; omega
        have hlt' : (m : Int) < (n : Int) := by omega
        have Hr := Lib.hid (hintsFault_taken Hbig.out Hright.out hd)
        clear hd
        go_wp2_with fail
        refine HQ.mono ?_
        rintro e w2 ⟨rfl, hp, hq, hb2⟩
        have hB2 := hbel.trans (hb2.mono hbel.size)
        have HSZ := qSize _ _ _ _ _ hp hq
        rw [Hm.out] at HSZ
        go_wp2_with fail
        refine HSZ.mono ?_
        rintro e w99 ⟨rfl, rfl⟩
        go_wp2
        go_ret
        exact ⟨by rw [Hr.out]; rfl, hB2⟩
theorem hiHintsFault : ∀ (A0 : Option Addr) (m0 e0 : Nat) (q0 : List Hnt)  (W : World), Rd eH W W.heap.size A0 q0 → q0.length = m0 → m0 ≤ 1048576 → Flds W → Calls Tryd.prog 28 #[.slice A0 m0 e0] W (fun e W' => e = .returned (.int .i64 (hintsFaultM q0)) ∧ Below W.heap.size W W') :=
  fun A0 m0 e0 q0 W ha hn _ hF => implHintsFault A0 m0 e0 q0 W ha hn hF
end Go.Proofs.YtjlkmfijkhjjkaaDoor
