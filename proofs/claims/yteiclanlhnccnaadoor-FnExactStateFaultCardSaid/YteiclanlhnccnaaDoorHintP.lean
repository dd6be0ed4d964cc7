/-
  The program's faults of hints.
-/
import Derived.Test.YteiclanlhnccnaaDoorHintS
import Derived.Test.YteiclanlhnccnaaDoorHQ
import Derived.Test.YteiclanlhnccnaaDoorHintF
import Derived.Test.YteiclanlhnccnaaDoorQueue
namespace Go.Proofs.YteiclanlhnccnaaDoor
set_option maxRecDepth 20000
open Go.RowKit Go.Shelf
set_option linter.unusedSimpArgs false
set_option linter.unusedVariables false

set_option maxHeartbeats 4000000 in
theorem implHintsFault (A : Option Addr) (n c : Nat) (l : List Hnt) (w : World) (ha : Rd eH w w.heap.size A l) (hn : l.length = n) (hF : Flds w) :
    Calls Tryd.prog 50 #[.slice A n c] w fun e w' => e = .returned (.int .i64 (hintsFaultM l)) ∧ Below w.heap.size w w' := by
  by_cases hbig : 8 < n
  · have hb : (8 : Int) < (n : Int) := by omega
    rw [hintsFault_many (by omega)]
    go_enter Tryd.func50, Tryd.ntmps50
    go_wp2
    go_ret
    exact ⟨rfl, Below.refl _ _⟩
  have hb : (n : Int) ≤ 8 := by omega
  have Hbig := Lib.hid (show ¬ 8 < l.length by omega)
  have Hn := Lib.hid hn
  clear hn hbig
  go_enter Tryd.func50, Tryd.ntmps50
  go_wp2
  go_loopw [11] (fun i wr => RightRelH w l n i wr) (fun i _ => n - (intOf i).toNat)
  case atStart => exact ⟨0, Nat.zero_le _, rfl, fun _ _ h => absurd h (by omega), Below.refl _ _⟩
  case round =>
    obtain ⟨k, hk, rfl, hal, hbel⟩ := hrel
    have Hal := Lib.hid hal
    clear hal
    by_cases hlt : k < n
    · obtain ⟨g, o, a0, a1, a2, a3, a4, a5, a6, rfl, hg, hx, c0, c1, c2, c3, c4, c5, c6⟩ := (ha.below hbel (Nat.le_refl _)).hnt (k := k) (by rw [Hn.out]; exact hlt)
      have hB1 := hbel.alloc hbel.size (.cells #[.int .i64 a0, .int .i64 a1, .int .i64 a2, .int .i64 a3, .int .i64 a4, .int .i64 a5, .int .i64 a6] 72)
      have HH := implHintFault a0 a1 a2 a3 a4 a5 a6 _ (hF.below hB1)
      have Hx := Lib.hid hx
      clear hx
      rcases hfault_or (a0, (a1, a2, a3, a4), a5, a6) with hf | hf
      · rw [hf] at HH
        have Hf := Lib.hid hf
        clear hf
        go_wp2_with fail
        refine HH.mono ?_
        rintro e w2 ⟨rfl, hb2⟩
        have hB2 := hB1.trans (hb2.mono hB1.size)
        go_wp2
        refine ⟨⟨k + 1, by omega, by go_num, fun j x hj hx => ?_, hB2⟩, by simp [intOf]; omega⟩
        rcases Nat.lt_or_ge j k with h | h
        · exact Hal.out j x h hx
        · obtain rfl : j = k := by omega
          obtain rfl := Option.some.inj (Hx.out.symm.trans hx)
          exact Hf.out
      · rw [hf] at HH
        have Hr := Lib.hid (hintsFault_wrong Hbig.out Hx.out hf)
        clear hf
        go_wp2_with fail
        refine HH.mono ?_
        rintro e w2 ⟨rfl, hb2⟩
        have hB2 := hB1.trans (hb2.mono hB1.size)
        go_wp2
        go_ret
        exact ⟨by rw [Hr.out]; rfl, hB2⟩
    · obtain rfl : n = k := by omega
      have Hright := Lib.hid (rightHM_of Hn.out Hal.out)
      have HQ := qOf A n c l wr (ha.lift hbel) Hn.out (by omega)
      obtain ⟨m, hm⟩ : ∃ m, (queueM l).length = m := ⟨_, rfl⟩
      have Hm := Lib.hid hm
      obtain ⟨q1, q2, q3⟩ := queue_all l
      have Q1 := Lib.hid q1
      have Q2 := Lib.hid q2
      clear Hal hm q1 q2 q3
      by_cases hd : Dis l
      · have hmn : m = n := by rw [← Hm.out, Q1.out hd, zipQ_len, Hn.out]
        subst hmn
        have Hr := Lib.hid (hintsFault_ok Hbig.out Hright.out hd)
        have hno : ¬ (m : Int) < (m : Int) := by omega
        clear hd
        go_wp2_with fail
        refine HQ.mono ?_
        rintro e w2 ⟨rfl, hp, hq, hb2⟩
        have hB2 := hbel.trans (hb2.mono hbel.size)
        have HSZ := qSize _ _ _ _ _ hp hq
        rw [Hm.out] at HSZ
        go_wp2_with fail
        refine HSZ.mono ?_
        rintro e w99 ⟨rfl, rfl⟩
        go_wp2
        go_ret
        exact ⟨by rw [Hr.out]; rfl, hB2⟩
      · have hmn : m < n := by have := Q2.out hd; have := Hm.out; have := Hn.out; omega
        have hlt' : (m : Int) < (n : Int) := by omega
        have Hr := Lib.hid (hintsFault_taken Hbig.out Hright.out hd)
        clear hd
        go_wp2_with fail
        refine HQ.mono ?_
        rintro e w2 ⟨rfl, hp, hq, hb2⟩
        have hB2 := hbel.trans (hb2.mono hbel.size)
        have HSZ := qSize _ _ _ _ _ hp hq
        rw [Hm.out] at HSZ
        go_wp2_with fail
        refine HSZ.mono ?_
        rintro e w99 ⟨rfl, rfl⟩
        go_wp2
        go_ret
        exact ⟨by rw [Hr.out]; rfl, hB2⟩
theorem hiHintsFault : ∀ (A0 : Option Addr) (m0 e0 : Nat) (q0 : List Hnt)  (W : World), Rd eH W W.heap.size A0 q0 → q0.length = m0 → m0 ≤ 1048576 → Flds W → Calls Tryd.prog 50 #[.slice A0 m0 e0] W (fun e W' => e = .returned (.int .i64 (hintsFaultM q0)) ∧ Below W.heap.size W W') :=
  fun A0 m0 e0 q0 W ha hn _ hF => implHintsFault A0 m0 e0 q0 W ha hn hF
end Go.Proofs.YteiclanlhnccnaaDoor
