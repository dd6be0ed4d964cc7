/-
  Bytes in an array's block: marked and read as the law does it.
-/
import Derived.Test.YteiclanlhnccnaaDoorBR
namespace Go.Proofs.YteiclanlhnccnaaDoor
set_option maxRecDepth 20000
open Go.RowKit

/-- Bytes in a block that is an array of seven. -/
def eA : Enc UInt8 := ⟨130, 1, fun b => [.int .u8 (b.toNat : Int)]⟩
theorem okA : EncOk eA := ⟨fun _ => rfl, fun a u hu => by simp only [eA, List.mem_singleton] at hu; subst hu; rfl, Nat.one_pos⟩
theorem Rd.ofA {w : World} {hi : Nat} {A : Option Addr} {l : List UInt8} (h : Rd eA w hi A l) : Rd eB w hi A l := h

section
variable {w w' : World} {base hi n c : Nat} {A : Option Addr} {l : List UInt8}
theorem Ow.byteAtA {g : Nat} (h : Ow eA w base (some ⟨g, 0, none⟩) n c l) {k : Nat} {x : UInt8} (hk : l[k]? = some x) : w.cell? ⟨g, k, none⟩ = some (.int .u8 (x.toNat : Int)) := by
  have := h.cellAt okA hk (j := 0) (u := .int .u8 (x.toNat : Int)) rfl
  simpa [eA] using this
theorem Ow.byteSetA {g : Nat} (h : Ow eA w base (some ⟨g, 0, none⟩) n c l) {k : Nat} (hk : k < n) (y : UInt8) :
    Ow eA (w.setCell ⟨g, k, none⟩ (.int .u8 (y.toNat : Int))) base (some ⟨g, 0, none⟩) n c (l.set k y) ∧ w.grownBy (w.setCell ⟨g, k, none⟩ (.int .u8 (y.toNat : Int))) (some g) := by
  have hl := h.len okA
  have := h.stored okA (k := k) (j := 0) (a' := y) (u := .int .u8 (y.toNat : Int)) (List.getElem?_eq_getElem (by omega)) Nat.one_pos rfl
  simpa [eA] using this
end

set_option maxHeartbeats 400000 in
theorem markByteSA (A : Option Addr) (n c base : Nat) (l : List UInt8) (k : Nat) (w : World) (ha : Ow eA w base A n c l) (hm : n ≤ 4294967296) (hk : k ≤ 4294967296) :
    Calls Tryd.prog 35 #[.slice A n c, .int .i64 k] w fun e w' => e = .returned (.int .i64 ((k : Int) + n)) ∧ Ow eA w' base A n c (marks k n) ∧ w.grownBy w' (A.map (·.block)) := by
  have Hn := Lib.hid (ha.len okA)
  go_enter Tryd.func35, Tryd.ntmps35
  go_wp2
  go_loopw [1, 5] (fun vk i wr => MarkRel eA (fun i => UInt8.ofNat (k + i)) 1 w base A n c l k vk i wr) (fun _ i _ => n - (intOf i).toNat)
  case atStart => exact markRel_start _ _ _ ha
  case round =>
    obtain ⟨j, hj, rfl, rfl, hown, hgr⟩ := hrel
    rw [show (k : Int) + ((1 : Nat) : Int) * (j : Int) = (k : Int) + (j : Int) by omega]
    by_cases hlt : j < n
    · obtain ⟨g, rfl, hg, _⟩ := hown.form (by omega)
      obtain ⟨a, hz⟩ := markRel_at (fun i => UInt8.ofNat (k + i)) l n j hlt Hn.out
      have cb := hown.byteAtA hz
      have fb := hown.frozenAt j
      clear hz
      obtain ⟨hst, hgr2⟩ := hown.byteSetA hlt (UInt8.ofNat (k + j))
      have Hset := Lib.hid (laid_set (fun i => UInt8.ofNat (k + i)) l n j hlt Hn.out)
      have Hgr := Lib.hid (grown_trans hgr hgr2)
      have Hst := Lib.hid hst
      clear hgr hgr2 hst
      go_wp2
      have hcv : ((k : Int) + (j : Int)) % 256 = ((UInt8.ofNat (k + j)).toNat : Int) := by rw [byte_num]; omega
      rw [hcv]
      exact ⟨⟨j + 1, by omega, by go_num, congrArg _ (by omega), by rw [← Hset.out]; exact Hst.out, Hgr.out⟩, by simp [intOf]; omega⟩
    · have hall := markRel_end hown (by omega) Hn.out
      obtain rfl : n = j := by omega
      clear hown
      go_wp2
      go_ret
      exact ⟨rfl, hall, hgr⟩

theorem markByteS1A (A : Option Addr) (n c base : Nat) (l : List UInt8) (w : World) (ha : Ow eA w base A n c l) (hm : n ≤ 4294967296) :
    Calls Tryd.prog 35 #[.slice A n c, .int .i64 1] w fun e w' => e = .returned (.int .i64 (1 + (n : Int))) ∧ Ow eA w' base A n c (marks 1 n) ∧ w.grownBy w' (A.map (·.block)) :=
  markByteSA A n c base l 1 w ha hm (by omega)

set_option maxHeartbeats 400000 in
theorem markBytesResultA (c1 : Int) (A : Option Addr) (n c base : Nat) (l : List UInt8) (k : Nat) (w : World) (ha : Ow eA w base A n c l) (hm : n ≤ 4294967296) (hk : k ≤ 4294967296) :
    Calls Tryd.prog 13 #[.agg #[.int .i64 c1, .slice A n c], .int .i64 k] w fun e w' => e = .returned (.int .i64 ((k : Int) + n)) ∧ Ow eA w' base A n c (marks k n) ∧ w.grownBy w' (A.map (·.block)) := by
  go_enter Tryd.func13, Tryd.ntmps13
  go_wp2_with (go_at_call 35; refine (markByteSA A n c base l k _ (ha.alloc _) hm hk).mono ?_; rintro e w1 ⟨rfl, hown, hg1⟩)
  go_ret
  exact ⟨rfl, hown, grown_trans (World.grownBy_alloc w _ _) hg1⟩

theorem markBytesResult1A (c1 : Int) (A : Option Addr) (n c base : Nat) (l : List UInt8) (w : World) (ha : Ow eA w base A n c l) (hm : n ≤ 4294967296) :
    Calls Tryd.prog 13 #[.agg #[.int .i64 c1, .slice A n c], .int .i64 1] w fun e w' => e = .returned (.int .i64 (1 + (n : Int))) ∧ Ow eA w' base A n c (marks 1 n) ∧ w.grownBy w' (A.map (·.block)) :=
  markBytesResultA c1 A n c base l 1 w ha hm (by omega)
end Go.Proofs.YteiclanlhnccnaaDoor
