/-
  Rows of mark marked and held, as the law does it.
-/
import Derived.Test.YtbfjfjocangjeaaMrks
namespace Go.Proofs.Ytbfjfjocangjeaa
set_option maxRecDepth 20000
open Go.RowKit
set_option linter.unusedSimpArgs false

def markMk (k i : Nat) : Mrk := ((k : Int) + 2 * i, (k : Int) + 2 * i + 1)
/-- What a mark lays: four numbers a sample. -/
def marksMk (k n : Nat) : List Mrk := (List.range n).map (markMk k)
theorem marksMk_len (k n : Nat) : (marksMk k n).length = n := by simp [marksMk]
theorem marksMk_at {k n i : Nat} (h : i < n) : (marksMk k n)[i]? = some (markMk k i) := by simp [marksMk, h]

set_option maxHeartbeats 2000000 in
theorem markMarkS (A : Option Addr) (n c base : Nat) (l : List Mrk) (k : Nat) (w : World) (ha : Ow eMk w base A n c l) (hm : n ≤ 4294967296) (hk : k ≤ 4294967296) :
    Calls Try.prog 58 #[.slice A n c, .int .i64 k] w fun e w' => e = .returned (.int .i64 ((k : Int) + 2 * n)) ∧ Ow eMk w' base A n c (marksMk k n) ∧ w.grownBy w' (A.map (·.block)) := by
  have Hn := Lib.hid (ha.len okMk)
  go_enter Try.func58, Try.ntmps58
  go_wp2
  go_loopw [1, 5] (fun vk i wr => MarkRel eMk (markMk k) 2 w base A n c l k vk i wr) (fun _ i _ => n - (intOf i).toNat)
  case atStart => exact markRel_start _ _ _ ha
  case round =>
    obtain ⟨j, hj, rfl, rfl, hown, hgr⟩ := hrel
    rw [show (k : Int) + ((2 : Nat) : Int) * (j : Int) = (k : Int) + 2 * (j : Int) by omega]
    by_cases hlt : j < n
    · obtain ⟨g, rfl, hg, _⟩ := hown.form (by omega)
      obtain ⟨⟨a0, a1⟩, hz⟩ := markRel_at (markMk k) l n j hlt Hn.out
      obtain ⟨d0, d1⟩ := hown.mrkAt hz
      have f0 := hown.frozenAt (j * 2)
      have f1 := hown.frozenAt (j * 2 + 1)
      have hs := hown.mrkSet (k := j) (getElem?_some_lt hz) ((k : Int) + 2 * j) ((k : Int) + 2 * j + 1)
      have Hset := Lib.hid (laid_set (markMk k) l n j hlt Hn.out)
      have Hgr := Lib.hid (grown_trans hgr hs.2)
      have Hst := Lib.hid hs.1
      clear hgr hs hz
      go_wp2
      exact ⟨⟨j + 1, by omega, by go_num, congrArg _ (by omega), by rw [← Hset.out]; exact Hst.out, Hgr.out⟩, by simp [intOf]; omega⟩
    · have hall := markRel_end hown (by omega) Hn.out
      obtain rfl : n = j := by omega
      clear hown
      go_wp2
      go_ret
      exact ⟨rfl, hall, hgr⟩
theorem markMarkS1 (A : Option Addr) (n c base : Nat) (l : List Mrk) (w : World) (ha : Ow eMk w base A n c l) (hm : n ≤ 4294967296) :
    Calls Try.prog 58 #[.slice A n c, .int .i64 1] w fun e w' => e = .returned (.int .i64 (1 + 2 * (n : Int))) ∧ Ow eMk w' base A n c (marksMk 1 n) ∧ w.grownBy w' (A.map (·.block)) :=
  markMarkS A n c base l 1 w ha hm (by omega)

theorem markMarkSK (A : Option Addr) (n c base : Nat) (l : List Mrk) (k : Nat) (z : Int) (w : World) (hz : z = (k : Int)) (ha : Ow eMk w base A n c l) (hm : n ≤ 4294967296) (hk : k ≤ 4294967296) :
    Calls Try.prog 58 #[.slice A n c, .int .i64 z] w fun e w' => e = .returned (.int .i64 (z + 2 * (n : Int))) ∧ Ow eMk w' base A n c (marksMk k n) ∧ w.grownBy w' (A.map (·.block)) := by
  subst hz
  exact markMarkS A n c base l k w ha hm hk

set_option maxHeartbeats 2000000 in
theorem heldMarkS (A : Option Addr) (n c : Nat) (k : Nat) (w : World) (ha : Rd eMk w w.heap.size A (marksMk k n)) (hm : n ≤ 4294967296) (hk : k ≤ 4294967296) :
    Calls Try.prog 109 #[.slice A n c, .int .i64 k] w fun e w' => e = .returned (.int .i64 ((k : Int) + 2 * n)) ∧ Below w.heap.size w w' := by
  go_enter Try.func109, Try.ntmps109
  go_wp2
  go_loopw [1, 5] (fun vk i wr => HeldRel w n 2 k vk i wr) (fun _ i _ => n - (intOf i).toNat)
  case atStart => exact heldRel_start _ _ _ _
  case round =>
    obtain ⟨j, hj, rfl, rfl, hbel⟩ := hrel
    rw [show (k : Int) + ((2 : Nat) : Int) * (j : Int) = (k : Int) + 2 * (j : Int) by omega]
    by_cases hlt : j < n
    · obtain ⟨g, o, a0, a1, rfl, hg, hx, c0, c1⟩ := (ha.below hbel (Nat.le_refl _)).mrk (k := j) (by rw [marksMk_len]; exact hlt)
      rw [marksMk_at hlt] at hx
      simp only [markMk, Option.some.injEq, Prod.mk.injEq] at hx
      obtain ⟨rfl, rfl⟩ := hx
      go_wp2
      exact ⟨⟨j + 1, by omega, by go_num, congrArg _ (by omega), hbel⟩, by simp [intOf]; omega⟩
    · obtain rfl : n = j := by omega
      go_wp2
      go_ret
      exact ⟨rfl, hbel⟩
theorem heldMarkS1 (A : Option Addr) (n c : Nat) (w : World) (ha : Rd eMk w w.heap.size A (marksMk 1 n)) (hm : n ≤ 4294967296) :
    Calls Try.prog 109 #[.slice A n c, .int .i64 1] w fun e w' => e = .returned (.int .i64 (1 + 2 * (n : Int))) ∧ Below w.heap.size w w' :=
  heldMarkS A n c 1 w ha hm (by omega)
end Go.Proofs.Ytbfjfjocangjeaa
