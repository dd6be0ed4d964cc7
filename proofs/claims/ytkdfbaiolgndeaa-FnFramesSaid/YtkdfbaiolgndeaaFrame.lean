import Derived.Test.YtkdfbaiolgndeaaSum
import Derived.Test.YtkdfbaiolgndeaaBound
namespace Go.Proofs.Ytkdfbaiolgndeaa
open Go.RowKit

/-- The length and the body. -/
def frontL (b : List UInt8) : List UInt8 := UInt8.ofNat b.length :: b
/-- The sum, the higher byte first. -/
def sumL (f : List UInt8) : List UInt8 := [UInt8.ofNat (sumN f / 256), UInt8.ofNat (sumN f)]
def frameL (b : List UInt8) : List UInt8 := frontL b ++ sumL (frontL b)
theorem frameL_len (b : List UInt8) : (frameL b).length = b.length + 3 := by simp [frameL, frontL, sumL]

theorem byte_num' (n : Nat) : ((UInt8.ofNat n).toNat : Int) = (n : Int) % 256 := by
  rw [UInt8.toNat_ofNat']
  omega
theorem byte_small {n : Nat} (h : n < 256) : ((UInt8.ofNat n).toNat : Int) = (n : Int) := by rw [byte_num']; omega

/-- One byte laid in a block. -/
theorem ow_one (w : World) (b : UInt8) (v : Int) (hv : v = (b.toNat : Int)) : Ow eB (w.alloc (.cells #[.int .u8 v] 5)) w.heap.size (some ⟨w.heap.size, 0, none⟩) 1 1 [b] :=
  Ow.lit w [b] _ 1 (Nat.le_refl _) (by unfold maxLen; omega) (by simp [Enc.row, eB, hv]) rfl
theorem ow_two (w : World) (a b : UInt8) (u v : Int) (hu : u = (a.toNat : Int)) (hv : v = (b.toNat : Int)) : Ow eB (w.alloc (.cells #[.int .u8 u, .int .u8 v] 5)) w.heap.size (some ⟨w.heap.size, 0, none⟩) 2 2 [a, b] :=
  Ow.lit w [a, b] _ 2 (Nat.le_refl _) (by unfold maxLen; omega) (by simp [Enc.row, eB, hu, hv]) rfl

set_option maxHeartbeats 800000 in
theorem l1Frame (A : Option Addr) (n c : Nat) (b : List UInt8) (w : World) (ha : Rd eB w w.heap.size A b) (hn : b.length = n) (hm : n ≤ 40) :
    Calls Try.prog 43 #[.slice A n c] w fun e w' => ∃ A' c', e = .returned (.slice A' (n + 3) c') ∧ Ow eB w' w.heap.size A' (n + 3) c' (frameL b) ∧ Below w.heap.size w w' := by
  have Hn := Lib.hid hn
  clear hn
  have o1 := ow_one w (UInt8.ofNat n) (n : Int) (byte_small (by omega)).symm
  have B1 := (Below.refl w.heap.size w).alloc (Nat.le_refl _) (.cells #[.int .u8 (n : Int)] 5)
  have a1 := ha.lift B1
  go_enter Try.func43, Try.ntmps43
  go_wp2_with (first
    | (at_builtin
       refine wpList_append_ow okB _ rfl (.tmp 8) (.tmp 9) _ rfl w.heap.size info_u8 Try.underlying22 rfl (some ⟨w.heap.size, 0, none⟩) 1 1 [UInt8.ofNat n] rfl o1 A n c _ b rfl a1 Hn.out (by unfold maxLen; omega) (by omega) (by simp) ?_
       intro A1 c1 w1 ow1 hg1 _
       have B2 : Below w.heap.size w w1 := B1.grown hg1 (by simp) (fun g hg => by simp at hg; omega)
       have ow2 : Ow eB w1 w.heap.size A1 (1 + n) c1 (frontL b) := by
         rw [frontL, Hn.out]
         exact ow1
       have hs := sumN_lt (frontL b)
       have hs2 : ((sumN (frontL b) : Nat) : Int) ≤ 65535 := by omega
       have Hs := Lib.hid hs
       have o3 := ow_two w1 (UInt8.ofNat (sumN (frontL b) / 256)) (UInt8.ofNat (sumN (frontL b))) (((sumN (frontL b) : Nat) : Int) / 256) (((sumN (frontL b) : Nat) : Int) % 256) (by rw [byte_num']; omega) (by rw [byte_num'])
       have B3 := B2.alloc B2.size (.cells #[.int .u8 (((sumN (frontL b) : Nat) : Int) / 256), .int .u8 (((sumN (frontL b) : Nat) : Int) % 256)] 5)
       clear hs)
    | (go_at_call 58; refine (l1Sum A1 (1 + n) c1 (frontL b) _ (ow2.rd okB) (ow2.len okB) ow2.small).mono ?_; rintro e w' ⟨rfl, rfl⟩)
    | (at_builtin
       refine wpList_append_ow okB _ rfl (.tmp 13) (.tmp 20) _ rfl w.heap.size info_u8 Try.underlying22 rfl A1 (1 + n) c1 (frontL b) rfl (ow2.alloc _) (some ⟨w1.heap.size, 0, none⟩) 2 2 _ (sumL (frontL b)) rfl (o3.rd okB) rfl (by unfold maxLen; omega) (by omega) B3.size ?_
       intro A2 c2 w3 ow3 hg3 _))
  go_ret
  have B4 := B3.grown hg3 B3.size (fun g hg => (ow2.lt g hg).1)
  rw [show 1 + n + 2 = n + 3 by omega] at ow3
  rw [show 1 + n + 2 = n + 3 by omega]
  exact ⟨_, _, rfl, ow3, B4⟩
end Go.Proofs.Ytkdfbaiolgndeaa
