/-
  How long one waits: two to the power of the tries: the model's and the program's.
-/
import Derived.Test.YtjlkmfijkhjjkaaDoorBound
import Derived.Test.YtjlkmfijkhjjkaaDoorIR
namespace Go.Proofs.YtjlkmfijkhjjkaaDoor
set_option maxRecDepth 20000
open Go.RowKit
set_option linter.unusedSimpArgs false

def pw (j : Nat) : Int := (2 : Int) ^ j
theorem pw_next (j : Nat) : pw (j + 1) = pw j * 2 := by unfold pw; rw [Int.pow_succ]
theorem pw_le {j : Nat} (h : j ≤ 4) : 1 ≤ pw j ∧ pw j ≤ 16 := by
  rcases (show j = 0 ∨ j = 1 ∨ j = 2 ∨ j = 3 ∨ j = 4 by omega) with rfl | rfl | rfl | rfl | rfl <;> decide
def backM (t : Int) : Int × Int := if inB (t, 0, 4) then (0, pw t.toNat) else (3, 0)
theorem backM_no {t : Int} (h : inB (t, 0, 4) = false) : backM t = (3, 0) := by unfold backM; rw [h]; rfl
theorem backM_yes {t : Int} (h : inB (t, 0, 4) = true) : backM t = (0, pw t.toNat) := by unfold backM; rw [h]; rfl

set_option maxHeartbeats 1000000 in
theorem l4Power (n : Nat) (hn : n ≤ 4) (w : World) :
    Calls Tryd.prog 61 #[.int .i64 (n : Int)] w fun e w' => e = .returned (.int .i64 (pw n)) ∧ w' = w := by
  go_enter Tryd.func61, Tryd.ntmps61
  go_wp2
  go_loopw [0, 3] (fun t v wr => ∃ j : Nat, j ≤ n ∧ t = .int .i64 ((n : Int) - (j : Int)) ∧ v = .int .i64 (pw j) ∧ wr = w) (fun t _ _ => (intOf t).toNat)
  case atStart => exact ⟨0, Nat.zero_le _, by simp, rfl, rfl⟩
  case round =>
    obtain ⟨j, hj, rfl, rfl, rfl⟩ := hrel
    by_cases hlt : j < n
    · obtain ⟨p1, p2⟩ := pw_le (j := j) (by omega)
      have Hp := Lib.hid (pw_next j)
      have hpos : (0 : Int) < (n : Int) - (j : Int) := by omega
      generalize pw j = b at p1 p2 Hp ⊢
      go_wp2
      exact ⟨⟨j + 1, by omega, by go_num, by rw [Hp.out], trivial⟩, by simp [intOf]; omega⟩
    · obtain rfl : j = n := by omega
      have hno : ¬ (0 : Int) < (j : Int) - (j : Int) := by omega
      go_wp2
      go_ret
      exact ⟨rfl, rfl⟩

set_option maxHeartbeats 400000 in
theorem specBackoff (t : Int) (w : World) :
    Calls Tryd.prog 26 #[.int .i64 t] w (RetIR (backM t) w) := by
  rcases hf : inB (t, 0, 4)
  · rw [backM_no hf]
    have Hf := Lib.hid hf
    clear hf
    go_enter Tryd.func26, Tryd.ntmps26
    go_wp2_with (go_at_call 60; refine (l1In_any t 0 4 _).mono ?_; rintro e w' ⟨rfl, rfl⟩; rw [Hf.out])
    refine bodyPost_ret (v := .agg #[.int .i64 3, .int .i64 0]) (by simp [results, Tryd.results26, go_sem]) rfl ?_
    exact ⟨rfl, (Below.refl _ _).alloc (Nat.le_refl _) _⟩
  · rw [backM_yes hf]
    have hb : 0 ≤ t ∧ t ≤ 4 := by simpa [inB] using hf
    have Hf := Lib.hid hf
    clear hf
    obtain ⟨n, rfl⟩ : ∃ n : Nat, t = (n : Int) := ⟨t.toNat, by omega⟩
    have hn : n ≤ 4 := by omega
    rw [show ((n : Int)).toNat = n by simp]
    clear hb
    go_enter Tryd.func26, Tryd.ntmps26
    go_wp2_with fail
    refine (l1In_any (n : Int) 0 4 _).mono ?_
    rintro e w' ⟨rfl, rfl⟩
    rw [Hf.out]
    go_wp2_with fail
    refine (l4Power n hn _).mono ?_
    rintro e w' ⟨rfl, rfl⟩
    go_wp2
    refine bodyPost_ret (v := .agg #[.int .i64 0, .int .i64 (pw n)]) (by simp [results, Tryd.results26, go_sem]) rfl ?_
    exact ⟨rfl, (Below.refl _ _).alloc (Nat.le_refl _) _⟩

theorem pw_shl {n : Nat} (hn : n ≤ 4) : wrap64 ((2 : Int) ^ n) = pw n := by
  rcases (show n = 0 ∨ n = 1 ∨ n = 2 ∨ n = 3 ∨ n = 4 by omega) with rfl | rfl | rfl | rfl | rfl <;> first | decide +kernel | simp [pw, wrap64]

set_option maxHeartbeats 400000 in
theorem implBackoff (t : Int) (w : World) :
    Calls Tryd.prog 25 #[.int .i64 t] w (RetIR (backM t) w) := by
  have hB := ((Below.refl w.heap.size w).alloc (Nat.le_refl _) (.cells #[.int .i64 0, .int .i64 0] 46)).alloc (by simp) (.cells #[.int .i64 t, .int .i64 0, .int .i64 4] 86)
  have r0 := (At.new w 46 #[.int .i64 0, .int .i64 0]).alloc (.cells #[.int .i64 t, .int .i64 0, .int .i64 4] 86)
  rcases hf : inB (t, 0, 4)
  · rw [backM_no hf]
    have Hf := Lib.hid (show [(t, (0 : Int), (4 : Int))].all inB = false by simp [hf])
    clear hf
    go_enter Tryd.func25, Tryd.ntmps25
    go_wp2_with fail
    refine (areWithin_any _ _ _ [(t, 0, 4)] _ (bnds_one (by simp)) (by simp) rfl (by simp)).mono ?_
    rintro e w' ⟨rfl, hb⟩
    rw [Hf.out]
    obtain ⟨c0, c1, f0, f1⟩ := (r0.below hb r0.lt).two
    have hB1 := hB.trans (hb.mono hB.size)
    go_wp2
    refine bodyPost_ret (v := .agg #[.int .i64 3, .int .i64 0]) (by simp [results, Tryd.results25, go_sem, c0, c1]) rfl ?_
    exact ⟨rfl, (hB1.setCell (Nat.le_refl _) _).setCell (Nat.le_refl _) _⟩
  · rw [backM_yes hf]
    have hb : 0 ≤ t ∧ t ≤ 4 := by simpa [inB] using hf
    have Hf := Lib.hid (show [(t, (0 : Int), (4 : Int))].all inB = true by simp [hf])
    clear hf
    obtain ⟨n, rfl⟩ : ∃ n : Nat, t = (n : Int) := ⟨t.toNat, by omega⟩
    have hn : n ≤ 4 := by omega
    have Hw := Lib.hid (pw_shl hn)
    have hnn : ¬ (n : Int) < 0 := by omega
    rw [show ((n : Int)).toNat = n by simp]
    clear hb
    go_enter Tryd.func25, Tryd.ntmps25
    go_wp2_with fail
    refine (areWithin_any _ _ _ [((n : Int), 0, 4)] _ (bnds_one (by simp)) (by simp) rfl (by simp)).mono ?_
    rintro e w' ⟨rfl, hb⟩
    rw [Hf.out]
    obtain ⟨c0, c1, f0, f1⟩ := (r0.below hb r0.lt).two
    have hB1 := hB.trans (hb.mono hB.size)
    go_wp2
    refine bodyPost_ret (v := .agg #[.int .i64 0, .int .i64 (pw n)]) (by simp [results, Tryd.results25, go_sem, c0, c1, Hw.out]) rfl ?_
    exact ⟨rfl, (hB1.setCell (Nat.le_refl _) _).setCell (Nat.le_refl _) _⟩

end Go.Proofs.YtjlkmfijkhjjkaaDoor
