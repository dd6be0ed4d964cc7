import Derived.Test.YteiclanlhnccnaaDoorEq
import Derived.Test.YteiclanlhnccnaaDoorMark
namespace Go.Proofs.YteiclanlhnccnaaDoor
set_option maxRecDepth 20000
open Go.RowKit

/-- An answer of a code and bytes of the call's own. -/
def RetBR (r : Int × List UInt8) (w : World) (e : Ending) (w' : World) : Prop :=
  ∃ A n c, e = .returned (.agg #[.int .i64 r.1, .slice A n c]) ∧ Ow eB w' w.heap.size A n c r.2 ∧ Below w.heap.size w w'

set_option maxHeartbeats 400000 in
theorem eqBytesResult (c1 c2 : Int) (A B : Option Addr) (n m c d : Nat) (xs ys : List UInt8) (w : World) (ha : Rd eB w w.heap.size A xs) (hb : Rd eB w w.heap.size B ys) (hx : xs.length = n) (hy : ys.length = m) (hm : n ≤ maxLen) :
    Calls Tryd.prog 12 #[.agg #[.int .i64 c1, .slice A n c], .agg #[.int .i64 c2, .slice B m d]] w fun e w' => e = .returned (.bool (decide (c1 = c2) && decide (xs = ys))) ∧ Below w.heap.size w w' := by
  by_cases h : c1 = c2
  · subst h
    have hb0 : Below w.heap.size w ((w.alloc (.cells #[.int .i64 c1, .slice A n c] 34)).alloc (.cells #[.int .i64 c1, .slice B m d] 34)) := ((Below.refl _ _).alloc (Nat.le_refl _) _).alloc (by simp) _
    have ha2 := ha.lift hb0
    have hb2 := hb.lift hb0
    by_cases he : xs = ys
    · have hd : decide (xs = ys) = true := by simpa using he
      have Hd := Lib.hid hd
      clear he
      go_enter Tryd.func12, Tryd.ntmps12
      go_wp2_with (go_at_call 19; refine (eqByteS A B n m c d xs ys _ ha2 hb2 hx hy hm).mono ?_; rintro e w1 ⟨rfl, hb1⟩)
      go_ret
      exact ⟨by rw [Hd.out]; simp, hb0.trans (hb1.mono hb0.size)⟩
    · have hd : decide (xs = ys) = false := by simpa using he
      have Hd := Lib.hid hd
      clear he
      go_enter Tryd.func12, Tryd.ntmps12
      go_wp2_with (go_at_call 19; refine (eqByteS A B n m c d xs ys _ ha2 hb2 hx hy hm).mono ?_; rintro e w1 ⟨rfl, hb1⟩)
      go_ret
      exact ⟨by rw [Hd.out]; simp, hb0.trans (hb1.mono hb0.size)⟩
  · have hne : (c1 != c2) = true := by rw [bne_iff_ne]; exact h
    have hd : decide (c1 = c2) = false := by simpa using h
    have Hd := Lib.hid hd
    clear h hd
    go_enter Tryd.func12, Tryd.ntmps12
    go_wp2
    go_ret
    exact ⟨by rw [Hd.out]; rfl, ((Below.refl _ _).alloc (Nat.le_refl _) _).alloc (by simp) _⟩

set_option maxHeartbeats 400000 in
theorem markBytesResult (c1 : Int) (A : Option Addr) (n c base : Nat) (l : List UInt8) (k : Nat) (w : World) (ha : Ow eB w base A n c l) (hm : n ≤ 4294967296) (hk : k ≤ 4294967296) :
    Calls Tryd.prog 13 #[.agg #[.int .i64 c1, .slice A n c], .int .i64 k] w fun e w' => e = .returned (.int .i64 ((k : Int) + n)) ∧ Ow eB w' base A n c (marks k n) ∧ w.grownBy w' (A.map (·.block)) := by
  go_enter Tryd.func13, Tryd.ntmps13
  go_wp2_with (go_at_call 35; refine (markByteS A n c base l k _ (ha.alloc _) hm hk).mono ?_; rintro e w1 ⟨rfl, hown, hg1⟩)
  go_ret
  exact ⟨rfl, hown, grown_trans (World.grownBy_alloc w _ _) hg1⟩

set_option maxHeartbeats 400000 in
theorem heldBytesResult (c1 : Int) (A : Option Addr) (n c : Nat) (k : Nat) (w : World) (ha : Rd eB w w.heap.size A (marks k n)) (hm : n ≤ 4294967296) (hk : k ≤ 4294967296) :
    Calls Tryd.prog 14 #[.agg #[.int .i64 c1, .slice A n c], .int .i64 k] w fun e w' => e = .returned (.int .i64 ((k : Int) + n)) ∧ Below w.heap.size w w' := by
  have hb0 : Below w.heap.size w (w.alloc (.cells #[.int .i64 c1, .slice A n c] 34)) := (Below.refl _ _).alloc (Nat.le_refl _) _
  have ha2 := ha.lift hb0
  go_enter Tryd.func14, Tryd.ntmps14
  go_wp2_with (go_at_call 36; refine (heldByteS A n c k _ ha2 hm hk).mono ?_; rintro e w1 ⟨rfl, hb1⟩)
  go_ret
  exact ⟨rfl, hb0.trans (hb1.mono hb0.size)⟩

theorem markBytesResult1 (c1 : Int) (A : Option Addr) (n c base : Nat) (l : List UInt8) (w : World) (ha : Ow eB w base A n c l) (hm : n ≤ 4294967296) :
    Calls Tryd.prog 13 #[.agg #[.int .i64 c1, .slice A n c], .int .i64 1] w fun e w' => e = .returned (.int .i64 (1 + (n : Int))) ∧ Ow eB w' base A n c (marks 1 n) ∧ w.grownBy w' (A.map (·.block)) :=
  markBytesResult c1 A n c base l 1 w ha hm (by omega)
theorem heldBytesResult1 (c1 : Int) (A : Option Addr) (n c : Nat) (w : World) (ha : Rd eB w w.heap.size A (marks 1 n)) (hm : n ≤ 4294967296) :
    Calls Tryd.prog 14 #[.agg #[.int .i64 c1, .slice A n c], .int .i64 1] w fun e w' => e = .returned (.int .i64 (1 + (n : Int))) ∧ Below w.heap.size w w' :=
  heldBytesResult c1 A n c 1 w ha hm (by omega)
end Go.Proofs.YteiclanlhnccnaaDoor
