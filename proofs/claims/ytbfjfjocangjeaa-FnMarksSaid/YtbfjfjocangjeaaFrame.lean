import Derived.Test.YtbfjfjocangjeaaSum
import Derived.Test.YtbfjfjocangjeaaBound
namespace Go.Proofs.Ytbfjfjocangjeaa
set_option maxRecDepth 20000
open Go.RowKit

/-- The length and the body. -/
def frontL (b : List UInt8) : List UInt8 := UInt8.ofNat b.length :: b
/-- The sum, the higher byte first. -/
def sumL (f : List UInt8) : List UInt8 := [UInt8.ofNat (sumN f / 256), UInt8.ofNat (sumN f)]
def frameL (b : List UInt8) : List UInt8 := frontL b ++ sumL (frontL b)
theorem frameL_len (b : List UInt8) : (frameL b).length = b.length + 3 := by simp [frameL, frontL, sumL]

theorem byte_num' (n : Nat) : ((UInt8.ofNat n).toNat : Int) = (n : Int) % 256 := by
  rw [UInt8.toNat_ofNat']
  omega
theorem byte_small {n : Nat} (h : n < 256) : ((UInt8.ofNat n).toNat : Int) = (n : Int) := by rw [byte_num']; omega

/-- One byte laid in a block. -/
theorem ow_one (w : World) (b : UInt8) (v : Int) (hv : v = (b.toNat : Int)) : Ow eB (w.alloc (.cells #[.int .u8 v] 5)) w.heap.size (some ⟨w.heap.size, 0, none⟩) 1 1 [b] :=
  Ow.lit w [b] _ 1 (Nat.le_refl _) (by unfold maxLen; omega) (by simp [Enc.row, eB, hv]) rfl
theorem ow_two (w : World) (a b : UInt8) (u v : Int) (hu : u = (a.toNat : Int)) (hv : v = (b.toNat : Int)) : Ow eB (w.alloc (.cells #[.int .u8 u, .int .u8 v] 5)) w.heap.size (some ⟨w.heap.size, 0, none⟩) 2 2 [a, b] :=
  Ow.lit w [a, b] _ 2 (Nat.le_refl _) (by unfold maxLen; omega) (by simp [Enc.row, eB, hu, hv]) rfl

end Go.Proofs.Ytbfjfjocangjeaa
