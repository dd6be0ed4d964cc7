/-
  Rows of samples marked and held, as the law does it.
-/
import Derived.Test.YtkgbjlbhlhdhbaaDoorSmps
namespace Go.Proofs.YtkgbjlbhlhdhbaaDoor
set_option maxRecDepth 20000
open Go.RowKit
set_option linter.unusedSimpArgs false

def markS (k i : Nat) : Smp := ((k : Int) + 4 * i, (k : Int) + 4 * i + 1, (k : Int) + 4 * i + 2, (k : Int) + 4 * i + 3)
/-- What a mark lays: four numbers a sample. -/
def marksS (k n : Nat) : List Smp := (List.range n).map (markS k)
theorem marksS_len (k n : Nat) : (marksS k n).length = n := by simp [marksS]
theorem marksS_at {k n i : Nat} (h : i < n) : (marksS k n)[i]? = some (markS k i) := by simp [marksS, h]

set_option maxHeartbeats 2000000 in
theorem markSampleS (A : Option Addr) (n c base : Nat) (l : List Smp) (k : Nat) (w : World) (ha : Ow eS w base A n c l) (hm : n ≤ 4294967296) (hk : k ≤ 4294967296) :
    Calls Tryd.prog 34 #[.slice A n c, .int .i64 k] w fun e w' => e = .returned (.int .i64 ((k : Int) + 4 * n)) ∧ Ow eS w' base A n c (marksS k n) ∧ w.grownBy w' (A.map (·.block)) := by
  have Hn := Lib.hid (ha.len okS)
  go_enter Tryd.func34, Tryd.ntmps34
  go_wp2
  go_loopw [1, 5] (fun vk i wr => MarkRel eS (markS k) 4 w base A n c l k vk i wr) (fun _ i _ => n - (intOf i).toNat)
  case atStart => exact markRel_start _ _ _ ha
  case round =>
    obtain ⟨j, hj, rfl, rfl, hown, hgr⟩ := hrel
    rw [show (k : Int) + ((4 : Nat) : Int) * (j : Int) = (k : Int) + 4 * (j : Int) by omega]
    by_cases hlt : j < n
    · obtain ⟨g, rfl, hg, _⟩ := hown.form (by omega)
      obtain ⟨⟨a0, a1, a2, a3⟩, hz⟩ := markRel_at (markS k) l n j hlt Hn.out
      obtain ⟨d0, d1, d2, d3⟩ := hown.smpAt hz
      have f0 := hown.frozenAt (j * 4)
      have f1 := hown.frozenAt (j * 4 + 1)
      have f2 := hown.frozenAt (j * 4 + 2)
      have f3 := hown.frozenAt (j * 4 + 3)
      have hs := hown.smpSet (k := j) (getElem?_some_lt hz) ((k : Int) + 4 * j) ((k : Int) + 4 * j + 1) ((k : Int) + 4 * j + 2) ((k : Int) + 4 * j + 3)
      have Hset := Lib.hid (laid_set (markS k) l n j hlt Hn.out)
      have Hgr := Lib.hid (grown_trans hgr hs.2)
      have Hst := Lib.hid hs.1
      clear hgr hs hz
      go_wp2
      exact ⟨⟨j + 1, by omega, by go_num, congrArg _ (by omega), by rw [← Hset.out]; exact Hst.out, Hgr.out⟩, by simp [intOf]; omega⟩
    · have hall := markRel_end hown (by omega) Hn.out
      obtain rfl : n = j := by omega
      clear hown
      go_wp2
      go_ret
      exact ⟨rfl, hall, hgr⟩
theorem markSampleS1 (A : Option Addr) (n c base : Nat) (l : List Smp) (w : World) (ha : Ow eS w base A n c l) (hm : n ≤ 4294967296) :
    Calls Tryd.prog 34 #[.slice A n c, .int .i64 1] w fun e w' => e = .returned (.int .i64 (1 + 4 * (n : Int))) ∧ Ow eS w' base A n c (marksS 1 n) ∧ w.grownBy w' (A.map (·.block)) :=
  markSampleS A n c base l 1 w ha hm (by omega)

theorem markSampleSK (A : Option Addr) (n c base : Nat) (l : List Smp) (k : Nat) (z : Int) (w : World) (hz : z = (k : Int)) (ha : Ow eS w base A n c l) (hm : n ≤ 4294967296) (hk : k ≤ 4294967296) :
    Calls Tryd.prog 34 #[.slice A n c, .int .i64 z] w fun e w' => e = .returned (.int .i64 (z + 4 * (n : Int))) ∧ Ow eS w' base A n c (marksS k n) ∧ w.grownBy w' (A.map (·.block)) := by
  subst hz
  exact markSampleS A n c base l k w ha hm hk

set_option maxHeartbeats 2000000 in
theorem heldSampleS (A : Option Addr) (n c : Nat) (k : Nat) (w : World) (ha : Rd eS w w.heap.size A (marksS k n)) (hm : n ≤ 4294967296) (hk : k ≤ 4294967296) :
    Calls Tryd.prog 69 #[.slice A n c, .int .i64 k] w fun e w' => e = .returned (.int .i64 ((k : Int) + 4 * n)) ∧ Below w.heap.size w w' := by
  go_enter Tryd.func69, Tryd.ntmps69
  go_wp2
  go_loopw [1, 5] (fun vk i wr => HeldRel w n 4 k vk i wr) (fun _ i _ => n - (intOf i).toNat)
  case atStart => exact heldRel_start _ _ _ _
  case round =>
    obtain ⟨j, hj, rfl, rfl, hbel⟩ := hrel
    rw [show (k : Int) + ((4 : Nat) : Int) * (j : Int) = (k : Int) + 4 * (j : Int) by omega]
    by_cases hlt : j < n
    · obtain ⟨g, o, a0, a1, a2, a3, rfl, hg, hx, c0, c1, c2, c3⟩ := (ha.below hbel (Nat.le_refl _)).smp (k := j) (by rw [marksS_len]; exact hlt)
      rw [marksS_at hlt] at hx
      simp only [markS, Option.some.injEq, Prod.mk.injEq] at hx
      obtain ⟨rfl, rfl, rfl, rfl⟩ := hx
      go_wp2
      exact ⟨⟨j + 1, by omega, by go_num, congrArg _ (by omega), hbel⟩, by simp [intOf]; omega⟩
    · obtain rfl : n = j := by omega
      go_wp2
      go_ret
      exact ⟨rfl, hbel⟩
theorem heldSampleS1 (A : Option Addr) (n c : Nat) (w : World) (ha : Rd eS w w.heap.size A (marksS 1 n)) (hm : n ≤ 4294967296) :
    Calls Tryd.prog 69 #[.slice A n c, .int .i64 1] w fun e w' => e = .returned (.int .i64 (1 + 4 * (n : Int))) ∧ Below w.heap.size w w' :=
  heldSampleS A n c 1 w ha hm (by omega)
end Go.Proofs.YtkgbjlbhlhdhbaaDoor
