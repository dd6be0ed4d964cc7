import Derived.Test.YtbfjfjocangjeaaBase
import Derived.Test.YtbfjfjocangjeaaIR
namespace Go.Proofs.Ytbfjfjocangjeaa
set_option maxRecDepth 20000
open Go.RowKit

/-- One shift of a sum. -/
def crcS (n : Nat) : Nat := if 65536 ≤ n * 2 then (n * 2 % 65536) ^^^ 4129 else n * 2
def crcK : Nat → Nat → Nat
  | 0, n => n
  | k + 1, n => crcS (crcK k n)
def crcB (n : Nat) (b : UInt8) : Nat := crcK 8 (n ^^^ (b.toNat * 256))
def sumN (l : List UInt8) : Nat := l.foldl crcB 65535

theorem xor16 {a b : Nat} (ha : a < 65536) (hb : b < 65536) : a ^^^ b < 65536 := by
  have := Nat.xor_lt_two_pow (n := 16) (x := a) (y := b) (by omega) (by omega)
  omega
theorem crcS_lt {n : Nat} (h : n < 65536) : crcS n < 65536 := by
  unfold crcS
  split
  · exact xor16 (by omega) (by omega)
  · omega
theorem crcK_lt {n : Nat} (h : n < 65536) : ∀ k, crcK k n < 65536
  | 0 => h
  | k + 1 => crcS_lt (crcK_lt h k)
theorem crcB_lt {n : Nat} (h : n < 65536) (b : UInt8) : crcB n b < 65536 := by
  have := b.toNat_lt
  unfold crcB
  exact crcK_lt (xor16 h (by omega)) 8
theorem fold_lt {n : Nat} (h : n < 65536) (l : List UInt8) : l.foldl crcB n < 65536 := by
  induction l generalizing n with
  | nil => exact h
  | cons b l ih =>
    rw [List.foldl_cons]
    exact ih (crcB_lt h b)
theorem sumN_lt (l : List UInt8) : sumN l < 65536 := by
  exact fold_lt (n := 65535) (by omega) l
theorem sumN_snoc (l : List UInt8) (k : Nat) (x : UInt8) (h : l[k]? = some x) : sumN (l.take (k + 1)) = crcB (sumN (l.take k)) x := by
  have hl := getElem?_some_lt h
  rw [List.take_succ_eq_append_getElem hl]
  rw [List.getElem?_eq_getElem hl] at h
  rw [Option.some.inj h]
  simp [sumN]

theorem ofInt_i64 (a : Nat) (ha : a < 9223372036854775808) : (BitVec.ofInt 64 (a : Int)).toNat = a := by
  rw [BitVec.ofInt_natCast, BitVec.toNat_ofNat]; exact Nat.mod_eq_of_lt (by omega)
theorem i64_xor (a b : Nat) (ha : a < 65536) (hb : b < 65536) : bits .xor .i64 (a : Int) (b : Int) = ((a ^^^ b : Nat) : Int) := by
  have hx := xor16 ha hb
  show IntKind.i64.wrap ((BitVec.ofInt 64 (a : Int) ^^^ BitVec.ofInt 64 (b : Int)).toNat : Int) = _
  rw [BitVec.toNat_xor, ofInt_i64 a (by omega), ofInt_i64 b (by omega), IntKind.wrap_i64]
  omega

/-- The xor of a sum and a byte that is moved up, in the walk's spelling. -/
theorem xor_up (q : Nat) (x : UInt8) (hq : q < 65536) : ∃ y : Nat, y < 65536 ∧ y = q ^^^ (x.toNat * 256) ∧ bits .xor .i64 (q : Int) ((x.toNat : Int) * 256) = (y : Int) := by
  have hx8 := x.toNat_lt
  refine ⟨_, xor16 hq (by omega), rfl, ?_⟩
  have h := i64_xor q (x.toNat * 256) hq (by omega)
  rw [Int.natCast_mul] at h
  exact h
/-- One shift that goes over, in the walk's spelling. -/
theorem xor_over (r : Nat) (hr : r < 65536) (ho : 65536 ≤ r * 2) : ∃ z : Nat, z < 65536 ∧ z = crcS r ∧ bits .xor .i64 ((r : Int) * 2 % 65536) 4129 = (z : Int) := by
  refine ⟨crcS r, crcS_lt hr, rfl, ?_⟩
  have h := i64_xor (r * 2 % 65536) 4129 (by omega) (by omega)
  rw [Int.natCast_emod, Int.natCast_mul] at h
  rw [crcS, if_pos ho]
  exact h
theorem crcS_under (r : Nat) (ho : ¬ 65536 ≤ r * 2) : crcS r = r * 2 := if_neg ho

/-! ### impl -/
theorem and_mask (r : Nat) (hr : r < 65536) : bits .and .i64 ((r : Int) * 2) 65535 = (r : Int) * 2 % 65536 := by
  show IntKind.i64.wrap ((BitVec.ofInt 64 ((r : Int) * 2) &&& BitVec.ofInt 64 65535).toNat : Int) = _
  have o1 : (BitVec.ofInt 64 ((r : Int) * 2)).toNat = r * 2 := by
    have := ofInt_i64 (r * 2) (by omega)
    rw [Int.natCast_mul] at this
    exact this
  have o2 : (BitVec.ofInt 64 65535).toNat = 65535 := by decide
  have o3 : r * 2 &&& 65535 = r * 2 % 65536 := Nat.and_two_pow_sub_one_eq_mod (r * 2) 16
  rw [BitVec.toNat_and, o1, o2, o3, IntKind.wrap_i64]
  omega

/-- What SumOf answers. -/
def sumM (l : List UInt8) : Int × Int := if l.length ≤ 20000 then (0, (sumN l : Nat)) else (2, 0)
theorem sumM_big {l : List UInt8} (h : 20000 < l.length) : sumM l = (2, 0) := if_neg (by omega)
theorem sumM_ok {l : List UInt8} (h : l.length ≤ 20000) : sumM l = (0, ((sumN l : Nat) : Int)) := if_pos h

end Go.Proofs.Ytbfjfjocangjeaa
