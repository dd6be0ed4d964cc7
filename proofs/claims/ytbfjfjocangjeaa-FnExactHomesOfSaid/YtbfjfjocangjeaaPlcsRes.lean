/-
  An answer of a code and a row of place: compared, marked and held as the law does it.
-/
import Derived.Test.YtbfjfjocangjeaaPlcsMark
namespace Go.Proofs.Ytbfjfjocangjeaa
set_option maxRecDepth 20000
open Go.RowKit
set_option linter.unusedSimpArgs false

/-- A code and a row of the call's own. -/
def RetPl (r : Int × List Plc) (w : World) (e : Ending) (w' : World) : Prop :=
  ∃ A n c, e = .returned (.agg #[.int .i64 r.1, .slice A n c]) ∧ Ow ePl w' w.heap.size A n c r.2 ∧ Below w.heap.size w w'

set_option maxHeartbeats 400000 in
theorem eqPlacesResult (z : Int) (A B : Option Addr) (n m c d : Nat) (xs ys : List Plc) (w : World) (ha : Rd ePl w w.heap.size A xs) (hb : Rd ePl w w.heap.size B ys) (hx : xs.length = n) (hy : ys.length = m) (hm : n ≤ maxLen) :
    Calls Try.prog 40 #[.agg #[.int .i64 z, .slice A n c], .agg #[.int .i64 z, .slice B m d]] w fun e w' => e = .returned (.bool (decide (xs = ys))) ∧ Below w.heap.size w w' := by
  have hb0 : Below w.heap.size w ((w.alloc (.cells #[.int .i64 z, .slice A n c] 54)).alloc (.cells #[.int .i64 z, .slice B m d] 54)) := ((Below.refl _ _).alloc (Nat.le_refl _) _).alloc (by simp) _
  have ha2 := ha.lift hb0
  have hb2 := hb.lift hb0
  have hzz : (z != z) = false := by simp
  by_cases he : xs = ys
  all_goals
    first
      | (have hd : decide (xs = ys) = true := by simpa using he)
      | (have hd : decide (xs = ys) = false := by simpa using he)
    have Hd := Lib.hid hd
    clear he
    go_enter Try.func40, Try.ntmps40
    go_wp2_with (go_at_call 96; refine (eqPlaceS A B n m c d xs ys _ ha2 hb2 hx hy hm).mono ?_; rintro e w1 ⟨rfl, hb1⟩)
    go_ret
    exact ⟨by rw [Hd.out]; simp, hb0.trans (hb1.mono hb0.size)⟩

set_option maxHeartbeats 400000 in
theorem markPlacesResult (z : Int) (A : Option Addr) (n c base : Nat) (l : List Plc) (k : Nat) (w : World) (ha : Ow ePl w base A n c l) (hm : n ≤ 4294967296) (hk : k ≤ 4294967296) :
    Calls Try.prog 41 #[.agg #[.int .i64 z, .slice A n c], .int .i64 k] w fun e w' => e = .returned (.int .i64 ((k : Int) + 2 * n)) ∧ Ow ePl w' base A n c (marksPl k n) ∧ w.grownBy w' (A.map (·.block)) := by
  go_enter Try.func41, Try.ntmps41
  go_wp2_with (go_at_call 97; refine (markPlaceS A n c base l k _ (ha.alloc _) hm hk).mono ?_; rintro e w1 ⟨rfl, hown, hg1⟩)
  go_ret
  exact ⟨rfl, hown, grown_trans (World.grownBy_alloc w _ _) hg1⟩

set_option maxHeartbeats 400000 in
theorem heldPlacesResult (z : Int) (A : Option Addr) (n c : Nat) (k : Nat) (w : World) (ha : Rd ePl w w.heap.size A (marksPl k n)) (hm : n ≤ 4294967296) (hk : k ≤ 4294967296) :
    Calls Try.prog 42 #[.agg #[.int .i64 z, .slice A n c], .int .i64 k] w fun e w' => e = .returned (.int .i64 ((k : Int) + 2 * n)) ∧ Below w.heap.size w w' := by
  have hb0 : Below w.heap.size w (w.alloc (.cells #[.int .i64 z, .slice A n c] 54)) := (Below.refl _ _).alloc (Nat.le_refl _) _
  have ha2 := ha.lift hb0
  have hp : (0 : Int) ≤ (k : Int) + 2 * n := by omega
  go_enter Try.func42, Try.ntmps42
  go_wp2_with (go_at_call 98; refine (heldPlaceS A n c k _ ha2 hm hk).mono ?_; rintro e w1 ⟨rfl, hb1⟩)
  go_ret
  exact ⟨rfl, hb0.trans (hb1.mono hb0.size)⟩

theorem markPlacesResult1 (z : Int) (A : Option Addr) (n c base : Nat) (l : List Plc) (w : World) (ha : Ow ePl w base A n c l) (hm : n ≤ 4294967296) :
    Calls Try.prog 41 #[.agg #[.int .i64 z, .slice A n c], .int .i64 1] w fun e w' => e = .returned (.int .i64 (1 + 2 * (n : Int))) ∧ Ow ePl w' base A n c (marksPl 1 n) ∧ w.grownBy w' (A.map (·.block)) :=
  markPlacesResult z A n c base l 1 w ha hm (by omega)
theorem heldPlacesResult1 (z : Int) (A : Option Addr) (n c : Nat) (w : World) (ha : Rd ePl w w.heap.size A (marksPl 1 n)) (hm : n ≤ 4294967296) :
    Calls Try.prog 42 #[.agg #[.int .i64 z, .slice A n c], .int .i64 1] w fun e w' => e = .returned (.int .i64 (1 + 2 * (n : Int))) ∧ Below w.heap.size w w' :=
  heldPlacesResult z A n c 1 w ha hm (by omega)

end Go.Proofs.Ytbfjfjocangjeaa
