/-
  Rows of hints marked and held, as the law does it; answers that hold hints.
-/
import Derived.Test.YtjlkmfijkhjjkaaDoorHnts
namespace Go.Proofs.YtjlkmfijkhjjkaaDoor
set_option maxRecDepth 20000
open Go.RowKit
set_option linter.unusedSimpArgs false

def markH (k i : Nat) : Hnt := ((k : Int) + 7 * i, ((k : Int) + 7 * i + 1, (k : Int) + 7 * i + 2, (k : Int) + 7 * i + 3, (k : Int) + 7 * i + 4), (k : Int) + 7 * i + 5, (k : Int) + 7 * i + 6)
/-- What a mark lays: seven numbers a hint. -/
def marksH (k n : Nat) : List Hnt := (List.range n).map (markH k)
theorem marksH_len (k n : Nat) : (marksH k n).length = n := by simp [marksH]
theorem marksH_at {k n i : Nat} (h : i < n) : (marksH k n)[i]? = some (markH k i) := by simp [marksH, h]

set_option maxHeartbeats 4000000 in
theorem markHintS (A : Option Addr) (n c base : Nat) (l : List Hnt) (k : Nat) (w : World) (ha : Ow eH w base A n c l) (hm : n ≤ 4294967296) (hk : k ≤ 4294967296) :
    Calls Tryd.prog 35 #[.slice A n c, .int .i64 k] w fun e w' => e = .returned (.int .i64 ((k : Int) + 7 * n)) ∧ Ow eH w' base A n c (marksH k n) ∧ w.grownBy w' (A.map (·.block)) := by
  have Hn := Lib.hid (ha.len okH)
  go_enter Tryd.func35, Tryd.ntmps35
  go_wp2
  go_loopw [1, 5] (fun vk i wr => MarkRel eH (markH k) 7 w base A n c l k vk i wr) (fun _ i _ => n - (intOf i).toNat)
  case atStart => exact markRel_start _ _ _ ha
  case round =>
    obtain ⟨j, hj, rfl, rfl, hown, hgr⟩ := hrel
    rw [show (k : Int) + ((7 : Nat) : Int) * (j : Int) = (k : Int) + 7 * (j : Int) by omega]
    by_cases hlt : j < n
    · obtain ⟨g, rfl, hg, _⟩ := hown.form (by omega)
      obtain ⟨⟨a0, ⟨a1, a2, a3, a4⟩, a5, a6⟩, hz⟩ := markRel_at (markH k) l n j hlt Hn.out
      obtain ⟨d0, d1, d2, d3, d4, d5, d6⟩ := hown.hntAt hz
      have f0 := hown.frozenAt (j * 7)
      have f1 := hown.frozenAt (j * 7 + 1)
      have f2 := hown.frozenAt (j * 7 + 2)
      have f3 := hown.frozenAt (j * 7 + 3)
      have f4 := hown.frozenAt (j * 7 + 4)
      have f5 := hown.frozenAt (j * 7 + 5)
      have f6 := hown.frozenAt (j * 7 + 6)
      have hs := hown.hntSet (k := j) (getElem?_some_lt hz) ((k : Int) + 7 * j) ((k : Int) + 7 * j + 1) ((k : Int) + 7 * j + 2) ((k : Int) + 7 * j + 3) ((k : Int) + 7 * j + 4) ((k : Int) + 7 * j + 5) ((k : Int) + 7 * j + 6)
      have Hset := Lib.hid (laid_set (markH k) l n j hlt Hn.out)
      have Hgr := Lib.hid (grown_trans hgr hs.2)
      have Hst := Lib.hid hs.1
      clear hgr hs hz
      go_wp2
      exact ⟨⟨j + 1, by omega, by go_num, congrArg _ (by omega), by rw [← Hset.out]; exact Hst.out, Hgr.out⟩, by simp [intOf]; omega⟩
    · have hall := markRel_end hown (by omega) Hn.out
      obtain rfl : n = j := by omega
      clear hown
      go_wp2
      go_ret
      exact ⟨rfl, hall, hgr⟩
theorem markHintS1 (A : Option Addr) (n c base : Nat) (l : List Hnt) (w : World) (ha : Ow eH w base A n c l) (hm : n ≤ 4294967296) :
    Calls Tryd.prog 35 #[.slice A n c, .int .i64 1] w fun e w' => e = .returned (.int .i64 (1 + 7 * (n : Int))) ∧ Ow eH w' base A n c (marksH 1 n) ∧ w.grownBy w' (A.map (·.block)) :=
  markHintS A n c base l 1 w ha hm (by omega)

set_option maxHeartbeats 4000000 in
theorem heldHintS (A : Option Addr) (n c : Nat) (k : Nat) (w : World) (ha : Rd eH w w.heap.size A (marksH k n)) (hm : n ≤ 4294967296) (hk : k ≤ 4294967296) :
    Calls Tryd.prog 65 #[.slice A n c, .int .i64 k] w fun e w' => e = .returned (.int .i64 ((k : Int) + 7 * n)) ∧ Below w.heap.size w w' := by
  go_enter Tryd.func65, Tryd.ntmps65
  go_wp2
  go_loopw [1, 5] (fun vk i wr => HeldRel w n 7 k vk i wr) (fun _ i _ => n - (intOf i).toNat)
  case atStart => exact heldRel_start _ _ _ _
  case round =>
    obtain ⟨j, hj, rfl, rfl, hbel⟩ := hrel
    rw [show (k : Int) + ((7 : Nat) : Int) * (j : Int) = (k : Int) + 7 * (j : Int) by omega]
    by_cases hlt : j < n
    · obtain ⟨g, o, a0, a1, a2, a3, a4, a5, a6, rfl, hg, hx, c0, c1, c2, c3, c4, c5, c6⟩ := (ha.below hbel (Nat.le_refl _)).hnt (k := j) (by rw [marksH_len]; exact hlt)
      rw [marksH_at hlt] at hx
      simp only [markH, Option.some.injEq, Prod.mk.injEq] at hx
      obtain ⟨rfl, ⟨rfl, rfl, rfl, rfl⟩, rfl, rfl⟩ := hx
      go_wp2
      exact ⟨⟨j + 1, by omega, by go_num, congrArg _ (by omega), hbel⟩, by simp [intOf]; omega⟩
    · obtain rfl : n = j := by omega
      go_wp2
      go_ret
      exact ⟨rfl, hbel⟩

/-- A code and hints of the call's own. -/
def RetHs (r : Int × List Hnt) (w : World) (e : Ending) (w' : World) : Prop :=
  ∃ A n c, e = .returned (.agg #[.int .i64 r.1, .slice A n c]) ∧ Ow eH w' w.heap.size A n c r.2 ∧ Below w.heap.size w w'

set_option maxHeartbeats 400000 in
theorem eqHintsResult (z : Int) (A B : Option Addr) (n m c d : Nat) (xs ys : List Hnt) (w : World) (ha : Rd eH w w.heap.size A xs) (hb : Rd eH w w.heap.size B ys) (hx : xs.length = n) (hy : ys.length = m) (hm : n ≤ maxLen) :
    Calls Tryd.prog 34 #[.agg #[.int .i64 z, .slice A n c], .agg #[.int .i64 z, .slice B m d]] w fun e w' => e = .returned (.bool (decide (xs = ys))) ∧ Below w.heap.size w w' := by
  have hb0 : Below w.heap.size w ((w.alloc (.cells #[.int .i64 z, .slice A n c] 30)).alloc (.cells #[.int .i64 z, .slice B m d] 30)) := ((Below.refl _ _).alloc (Nat.le_refl _) _).alloc (by simp) _
  have ha2 := ha.lift hb0
  have hb2 := hb.lift hb0
  have hzz : (z != z) = false := by simp
  by_cases he : xs = ys
  all_goals
    first
      | (have hd : decide (xs = ys) = true := by simpa using he)
      | (have hd : decide (xs = ys) = false := by simpa using he)
    have Hd := Lib.hid hd
    clear he
    go_enter Tryd.func34, Tryd.ntmps34
    go_wp2_with (go_at_call 32; refine (eqHintS A B n m c d xs ys _ ha2 hb2 hx hy hm).mono ?_; rintro e w1 ⟨rfl, hb1⟩)
    go_ret
    exact ⟨by rw [Hd.out]; simp, hb0.trans (hb1.mono hb0.size)⟩

set_option maxHeartbeats 400000 in
theorem markHintsResult (z : Int) (A : Option Addr) (n c base : Nat) (l : List Hnt) (k : Nat) (w : World) (ha : Ow eH w base A n c l) (hm : n ≤ 4294967296) (hk : k ≤ 4294967296) :
    Calls Tryd.prog 36 #[.agg #[.int .i64 z, .slice A n c], .int .i64 k] w fun e w' => e = .returned (.int .i64 ((k : Int) + 7 * n)) ∧ Ow eH w' base A n c (marksH k n) ∧ w.grownBy w' (A.map (·.block)) := by
  go_enter Tryd.func36, Tryd.ntmps36
  go_wp2_with (go_at_call 35; refine (markHintS A n c base l k _ (ha.alloc _) hm hk).mono ?_; rintro e w1 ⟨rfl, hown, hg1⟩)
  go_ret
  exact ⟨rfl, hown, grown_trans (World.grownBy_alloc w _ _) hg1⟩

set_option maxHeartbeats 400000 in
theorem heldHintsResult (z : Int) (A : Option Addr) (n c : Nat) (k : Nat) (w : World) (ha : Rd eH w w.heap.size A (marksH k n)) (hm : n ≤ 4294967296) (hk : k ≤ 4294967296) :
    Calls Tryd.prog 37 #[.agg #[.int .i64 z, .slice A n c], .int .i64 k] w fun e w' => e = .returned (.int .i64 ((k : Int) + 7 * n)) ∧ Below w.heap.size w w' := by
  have hb0 : Below w.heap.size w (w.alloc (.cells #[.int .i64 z, .slice A n c] 30)) := (Below.refl _ _).alloc (Nat.le_refl _) _
  have ha2 := ha.lift hb0
  have hp : (0 : Int) ≤ (k : Int) + 7 * n := by omega
  go_enter Tryd.func37, Tryd.ntmps37
  go_wp2_with (go_at_call 65; refine (heldHintS A n c k _ ha2 hm hk).mono ?_; rintro e w1 ⟨rfl, hb1⟩)
  go_ret
  exact ⟨rfl, hb0.trans (hb1.mono hb0.size)⟩

theorem markHintsResult1 (z : Int) (A : Option Addr) (n c base : Nat) (l : List Hnt) (w : World) (ha : Ow eH w base A n c l) (hm : n ≤ 4294967296) :
    Calls Tryd.prog 36 #[.agg #[.int .i64 z, .slice A n c], .int .i64 1] w fun e w' => e = .returned (.int .i64 (1 + 7 * (n : Int))) ∧ Ow eH w' base A n c (marksH 1 n) ∧ w.grownBy w' (A.map (·.block)) :=
  markHintsResult z A n c base l 1 w ha hm (by omega)
theorem heldHintsResult1 (z : Int) (A : Option Addr) (n c : Nat) (w : World) (ha : Rd eH w w.heap.size A (marksH 1 n)) (hm : n ≤ 4294967296) :
    Calls Tryd.prog 37 #[.agg #[.int .i64 z, .slice A n c], .int .i64 1] w fun e w' => e = .returned (.int .i64 (1 + 7 * (n : Int))) ∧ Below w.heap.size w w' :=
  heldHintsResult z A n c 1 w ha hm (by omega)
end Go.Proofs.YtjlkmfijkhjjkaaDoor
