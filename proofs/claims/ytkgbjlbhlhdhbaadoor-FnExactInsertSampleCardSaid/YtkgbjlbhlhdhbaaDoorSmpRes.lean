/-
  Answers that hold samples: compared, marked and held as the law does it.
-/
import Derived.Test.YtkgbjlbhlhdhbaaDoorSmpMark
namespace Go.Proofs.YtkgbjlbhlhdhbaaDoor
set_option maxRecDepth 20000
open Go.RowKit
set_option linter.unusedSimpArgs false

/-- A code and samples of the call's own. -/
def RetSs (r : Int × List Smp) (w : World) (e : Ending) (w' : World) : Prop :=
  ∃ A n c, e = .returned (.agg #[.int .i64 r.1, .slice A n c]) ∧ Ow eS w' w.heap.size A n c r.2 ∧ Below w.heap.size w w'
/-- A code, whether it is new, and samples of the call's own. -/
def RetSt (r : Int × Bool × List Smp) (w : World) (e : Ending) (w' : World) : Prop :=
  ∃ A n c, e = .returned (.agg #[.int .i64 r.1, .bool r.2.1, .slice A n c]) ∧ Ow eS w' w.heap.size A n c r.2.2 ∧ Below w.heap.size w w'

set_option maxHeartbeats 400000 in
theorem eqSamplesResult (z : Int) (A B : Option Addr) (n m c d : Nat) (xs ys : List Smp) (w : World) (ha : Rd eS w w.heap.size A xs) (hb : Rd eS w w.heap.size B ys) (hx : xs.length = n) (hy : ys.length = m) (hm : n ≤ maxLen) :
    Calls Tryd.prog 38 #[.agg #[.int .i64 z, .slice A n c], .agg #[.int .i64 z, .slice B m d]] w fun e w' => e = .returned (.bool (decide (xs = ys))) ∧ Below w.heap.size w w' := by
  have hb0 : Below w.heap.size w ((w.alloc (.cells #[.int .i64 z, .slice A n c] 35)).alloc (.cells #[.int .i64 z, .slice B m d] 35)) := ((Below.refl _ _).alloc (Nat.le_refl _) _).alloc (by simp) _
  have ha2 := ha.lift hb0
  have hb2 := hb.lift hb0
  have hzz : (z != z) = false := by simp
  by_cases he : xs = ys
  all_goals
    first
      | (have hd : decide (xs = ys) = true := by simpa using he)
      | (have hd : decide (xs = ys) = false := by simpa using he)
    have Hd := Lib.hid hd
    clear he
    go_enter Tryd.func38, Tryd.ntmps38
    go_wp2_with (go_at_call 31; refine (eqSampleS A B n m c d xs ys _ ha2 hb2 hx hy hm).mono ?_; rintro e w1 ⟨rfl, hb1⟩)
    go_ret
    exact ⟨by rw [Hd.out]; simp, hb0.trans (hb1.mono hb0.size)⟩

set_option maxHeartbeats 400000 in
theorem markSamplesResult (z : Int) (A : Option Addr) (n c base : Nat) (l : List Smp) (k : Nat) (w : World) (ha : Ow eS w base A n c l) (hm : n ≤ 4294967296) (hk : k ≤ 4294967296) :
    Calls Tryd.prog 39 #[.agg #[.int .i64 z, .slice A n c], .int .i64 k] w fun e w' => e = .returned (.int .i64 ((k : Int) + 4 * n)) ∧ Ow eS w' base A n c (marksS k n) ∧ w.grownBy w' (A.map (·.block)) := by
  go_enter Tryd.func39, Tryd.ntmps39
  go_wp2_with (go_at_call 34; refine (markSampleS A n c base l k _ (ha.alloc _) hm hk).mono ?_; rintro e w1 ⟨rfl, hown, hg1⟩)
  go_ret
  exact ⟨rfl, hown, grown_trans (World.grownBy_alloc w _ _) hg1⟩

set_option maxHeartbeats 400000 in
theorem heldSamplesResult (z : Int) (A : Option Addr) (n c : Nat) (k : Nat) (w : World) (ha : Rd eS w w.heap.size A (marksS k n)) (hm : n ≤ 4294967296) (hk : k ≤ 4294967296) :
    Calls Tryd.prog 40 #[.agg #[.int .i64 z, .slice A n c], .int .i64 k] w fun e w' => e = .returned (.int .i64 ((k : Int) + 4 * n)) ∧ Below w.heap.size w w' := by
  have hb0 : Below w.heap.size w (w.alloc (.cells #[.int .i64 z, .slice A n c] 35)) := (Below.refl _ _).alloc (Nat.le_refl _) _
  have ha2 := ha.lift hb0
  have hp : (0 : Int) ≤ (k : Int) + 4 * n := by omega
  go_enter Tryd.func40, Tryd.ntmps40
  go_wp2_with (go_at_call 69; refine (heldSampleS A n c k _ ha2 hm hk).mono ?_; rintro e w1 ⟨rfl, hb1⟩)
  go_ret
  exact ⟨rfl, hb0.trans (hb1.mono hb0.size)⟩

theorem markSamplesResult1 (z : Int) (A : Option Addr) (n c base : Nat) (l : List Smp) (w : World) (ha : Ow eS w base A n c l) (hm : n ≤ 4294967296) :
    Calls Tryd.prog 39 #[.agg #[.int .i64 z, .slice A n c], .int .i64 1] w fun e w' => e = .returned (.int .i64 (1 + 4 * (n : Int))) ∧ Ow eS w' base A n c (marksS 1 n) ∧ w.grownBy w' (A.map (·.block)) :=
  markSamplesResult z A n c base l 1 w ha hm (by omega)
theorem heldSamplesResult1 (z : Int) (A : Option Addr) (n c : Nat) (w : World) (ha : Rd eS w w.heap.size A (marksS 1 n)) (hm : n ≤ 4294967296) :
    Calls Tryd.prog 40 #[.agg #[.int .i64 z, .slice A n c], .int .i64 1] w fun e w' => e = .returned (.int .i64 (1 + 4 * (n : Int))) ∧ Below w.heap.size w w' :=
  heldSamplesResult z A n c 1 w ha hm (by omega)

set_option maxHeartbeats 400000 in
theorem eqStoreResult (z : Int) (b : Bool) (A B : Option Addr) (n m c d : Nat) (xs ys : List Smp) (w : World) (ha : Rd eS w w.heap.size A xs) (hb : Rd eS w w.heap.size B ys) (hx : xs.length = n) (hy : ys.length = m) (hm : n ≤ maxLen) :
    Calls Tryd.prog 33 #[.agg #[.int .i64 z, .bool b, .slice A n c], .agg #[.int .i64 z, .bool b, .slice B m d]] w fun e w' => e = .returned (.bool (decide (xs = ys))) ∧ Below w.heap.size w w' := by
  have hb0 : Below w.heap.size w ((w.alloc (.cells #[.int .i64 z, .bool b, .slice A n c] 30)).alloc (.cells #[.int .i64 z, .bool b, .slice B m d] 30)) := ((Below.refl _ _).alloc (Nat.le_refl _) _).alloc (by simp) _
  have ha2 := ha.lift hb0
  have hb2 := hb.lift hb0
  have hzz : (z != z) = false := by simp
  have hbb : (b != b) = false := by simp
  by_cases he : xs = ys
  all_goals
    first
      | (have hd : decide (xs = ys) = true := by simpa using he)
      | (have hd : decide (xs = ys) = false := by simpa using he)
    have Hd := Lib.hid hd
    clear he
    go_enter Tryd.func33, Tryd.ntmps33
    go_wp2_with (go_at_call 31; refine (eqSampleS A B n m c d xs ys _ ha2 hb2 hx hy hm).mono ?_; rintro e w1 ⟨rfl, hb1⟩)
    go_ret
    exact ⟨by rw [Hd.out]; simp, hb0.trans (hb1.mono hb0.size)⟩

set_option maxHeartbeats 400000 in
theorem markStoreResult (z : Int) (b : Bool) (A : Option Addr) (n c base : Nat) (l : List Smp) (k : Nat) (w : World) (ha : Ow eS w base A n c l) (hm : n ≤ 4294967296) (hk : k ≤ 4294967296) :
    Calls Tryd.prog 35 #[.agg #[.int .i64 z, .bool b, .slice A n c], .int .i64 k] w fun e w' => e = .returned (.int .i64 ((k : Int) + 4 * n)) ∧ Ow eS w' base A n c (marksS k n) ∧ w.grownBy w' (A.map (·.block)) := by
  go_enter Tryd.func35, Tryd.ntmps35
  go_wp2_with (go_at_call 34; refine (markSampleS A n c base l k _ (ha.alloc _) hm hk).mono ?_; rintro e w1 ⟨rfl, hown, hg1⟩)
  go_ret
  exact ⟨rfl, hown, grown_trans (World.grownBy_alloc w _ _) hg1⟩

set_option maxHeartbeats 400000 in
theorem heldStoreResult (z : Int) (b : Bool) (A : Option Addr) (n c : Nat) (k : Nat) (w : World) (ha : Rd eS w w.heap.size A (marksS k n)) (hm : n ≤ 4294967296) (hk : k ≤ 4294967296) :
    Calls Tryd.prog 36 #[.agg #[.int .i64 z, .bool b, .slice A n c], .int .i64 k] w fun e w' => e = .returned (.int .i64 ((k : Int) + 4 * n)) ∧ Below w.heap.size w w' := by
  have hb0 : Below w.heap.size w (w.alloc (.cells #[.int .i64 z, .bool b, .slice A n c] 30)) := (Below.refl _ _).alloc (Nat.le_refl _) _
  have ha2 := ha.lift hb0
  have hp : (0 : Int) ≤ (k : Int) + 4 * n := by omega
  go_enter Tryd.func36, Tryd.ntmps36
  go_wp2_with (go_at_call 69; refine (heldSampleS A n c k _ ha2 hm hk).mono ?_; rintro e w1 ⟨rfl, hb1⟩)
  go_ret
  exact ⟨rfl, hb0.trans (hb1.mono hb0.size)⟩

theorem markStoreResult1 (z : Int) (b : Bool) (A : Option Addr) (n c base : Nat) (l : List Smp) (w : World) (ha : Ow eS w base A n c l) (hm : n ≤ 4294967296) :
    Calls Tryd.prog 35 #[.agg #[.int .i64 z, .bool b, .slice A n c], .int .i64 1] w fun e w' => e = .returned (.int .i64 (1 + 4 * (n : Int))) ∧ Ow eS w' base A n c (marksS 1 n) ∧ w.grownBy w' (A.map (·.block)) :=
  markStoreResult z b A n c base l 1 w ha hm (by omega)
theorem heldStoreResult1 (z : Int) (b : Bool) (A : Option Addr) (n c : Nat) (w : World) (ha : Rd eS w w.heap.size A (marksS 1 n)) (hm : n ≤ 4294967296) :
    Calls Tryd.prog 36 #[.agg #[.int .i64 z, .bool b, .slice A n c], .int .i64 1] w fun e w' => e = .returned (.int .i64 (1 + 4 * (n : Int))) ∧ Below w.heap.size w w' :=
  heldStoreResult z b A n c 1 w ha hm (by omega)

end Go.Proofs.YtkgbjlbhlhdhbaaDoor
