import Derived.Test.YtkdfbaiolgndeaaBase
import Derived.Test.YtkdfbaiolgndeaaIR
namespace Go.Proofs.Ytkdfbaiolgndeaa
open Go.RowKit

/-- One shift of a sum. -/
def crcS (n : Nat) : Nat := if 65536 ≤ n * 2 then (n * 2 % 65536) ^^^ 4129 else n * 2
def crcK : Nat → Nat → Nat
  | 0, n => n
  | k + 1, n => crcS (crcK k n)
def crcB (n : Nat) (b : UInt8) : Nat := crcK 8 (n ^^^ (b.toNat * 256))
def sumN (l : List UInt8) : Nat := l.foldl crcB 65535

theorem xor16 {a b : Nat} (ha : a < 65536) (hb : b < 65536) : a ^^^ b < 65536 := by
  have := Nat.xor_lt_two_pow (n := 16) (x := a) (y := b) (by omega) (by omega)
  omega
theorem crcS_lt {n : Nat} (h : n < 65536) : crcS n < 65536 := by
  unfold crcS
  split
  · exact xor16 (by omega) (by omega)
  · omega
theorem crcK_lt {n : Nat} (h : n < 65536) : ∀ k, crcK k n < 65536
  | 0 => h
  | k + 1 => crcS_lt (crcK_lt h k)
theorem crcB_lt {n : Nat} (h : n < 65536) (b : UInt8) : crcB n b < 65536 := by
  have := b.toNat_lt
  unfold crcB
  exact crcK_lt (xor16 h (by omega)) 8
theorem fold_lt {n : Nat} (h : n < 65536) (l : List UInt8) : l.foldl crcB n < 65536 := by
  induction l generalizing n with
  | nil => exact h
  | cons b l ih =>
    rw [List.foldl_cons]
    exact ih (crcB_lt h b)
theorem sumN_lt (l : List UInt8) : sumN l < 65536 := by
  exact fold_lt (n := 65535) (by omega) l
theorem sumN_snoc (l : List UInt8) (k : Nat) (x : UInt8) (h : l[k]? = some x) : sumN (l.take (k + 1)) = crcB (sumN (l.take k)) x := by
  have hl := getElem?_some_lt h
  rw [List.take_succ_eq_append_getElem hl]
  rw [List.getElem?_eq_getElem hl] at h
  rw [Option.some.inj h]
  simp [sumN]

theorem ofInt_i64 (a : Nat) (ha : a < 9223372036854775808) : (BitVec.ofInt 64 (a : Int)).toNat = a := by
  rw [BitVec.ofInt_natCast, BitVec.toNat_ofNat]; exact Nat.mod_eq_of_lt (by omega)
theorem i64_xor (a b : Nat) (ha : a < 65536) (hb : b < 65536) : bits .xor .i64 (a : Int) (b : Int) = ((a ^^^ b : Nat) : Int) := by
  have hx := xor16 ha hb
  show IntKind.i64.wrap ((BitVec.ofInt 64 (a : Int) ^^^ BitVec.ofInt 64 (b : Int)).toNat : Int) = _
  rw [BitVec.toNat_xor, ofInt_i64 a (by omega), ofInt_i64 b (by omega), IntKind.wrap_i64]
  omega

/-- The xor of a sum and a byte that is moved up, in the walk's spelling. -/
theorem xor_up (q : Nat) (x : UInt8) (hq : q < 65536) : ∃ y : Nat, y < 65536 ∧ y = q ^^^ (x.toNat * 256) ∧ bits .xor .i64 (q : Int) ((x.toNat : Int) * 256) = (y : Int) := by
  have hx8 := x.toNat_lt
  refine ⟨_, xor16 hq (by omega), rfl, ?_⟩
  have h := i64_xor q (x.toNat * 256) hq (by omega)
  rw [Int.natCast_mul] at h
  exact h
/-- One shift that goes over, in the walk's spelling. -/
theorem xor_over (r : Nat) (hr : r < 65536) (ho : 65536 ≤ r * 2) : ∃ z : Nat, z < 65536 ∧ z = crcS r ∧ bits .xor .i64 ((r : Int) * 2 % 65536) 4129 = (z : Int) := by
  refine ⟨crcS r, crcS_lt hr, rfl, ?_⟩
  have h := i64_xor (r * 2 % 65536) 4129 (by omega) (by omega)
  rw [Int.natCast_emod, Int.natCast_mul] at h
  rw [crcS, if_pos ho]
  exact h
theorem crcS_under (r : Nat) (ho : ¬ 65536 ≤ r * 2) : crcS r = r * 2 := if_neg ho

set_option maxRecDepth 100000 in
set_option maxHeartbeats 800000 in
theorem l1Sum (A : Option Addr) (n c : Nat) (l : List UInt8) (w : World) (ha : Rd eB w w.heap.size A l) (hn : l.length = n) (hm : n ≤ maxLen) :
    Calls Try.prog 58 #[.slice A n c] w fun e w' => e = .returned (.int .i64 (sumN l : Nat)) ∧ w = w' := by
  have Hn := Lib.hid hn
  clear hn
  unfold maxLen at hm
  go_enter Try.func58, Try.ntmps58
  go_wp2
  go_loop [3, 4, 5] (fun vq vi _ => ∃ k q : Nat, k ≤ n ∧ vi = .int .i64 k ∧ vq = .int .i64 q ∧ q < 65536 ∧ Hid (q = sumN (l.take k))) (fun _ vi _ => n - (intOf vi).toNat)
  case atStart => exact ⟨0, 65535, Nat.zero_le _, rfl, rfl, by omega, Lib.hid (by simp [sumN])⟩
  case round =>
    obtain ⟨k, q, hk, rfl, rfl, hq, Hq⟩ := hrel
    by_cases hlt : k < n
    · obtain ⟨g, o, x, rfl, hg, hx, ca⟩ := ha.byte (k := k) (by rw [Hn.out]; exact hlt)
      have hx8 := x.toNat_lt
      have Hst := Lib.hid (sumN_snoc l k x hx)
      clear hx
      obtain ⟨y, hy, hy0, hxor⟩ := xor_up q x hq
      have Hy := Lib.hid hy0
      clear hy0
      go_wp2
      go_loop [3, 5] (fun vq vj => ∃ j r : Nat, j ≤ 8 ∧ vj = .int .i64 j ∧ vq = .int .i64 r ∧ r < 65536 ∧ Hid (r = crcK j y)) (fun _ vj => 8 - (intOf vj).toNat)
      case atStart => exact ⟨0, y, Nat.zero_le _, rfl, rfl, hy, Lib.hid rfl⟩
      case round =>
        obtain ⟨j, r, hj, rfl, rfl, hr, Hr⟩ := hrel
        by_cases hlt8 : j < 8
        · by_cases ho : 65536 ≤ r * 2
          · obtain ⟨z, hz, hz0, hxor2⟩ := xor_over r hr ho
            have Hz := Lib.hid hz0
            have hge : (65536 : Int) ≤ (r : Int) * 2 := by omega
            clear hz0 ho
            go_wp2
            exact ⟨⟨j + 1, z, by omega, by go_num, rfl, hz, Lib.hid (by rw [Hz.out, Hr.out]; rfl)⟩, by simp [intOf]; omega⟩
          · have hge : decide ((65536 : Int) ≤ (r : Int) * 2) = false := decide_eq_false (by omega)
            have Hz := Lib.hid (crcS_under r ho)
            have Hle := Lib.hid (show r * 2 < 65536 by omega)
            clear ho
            go_wp2
            exact ⟨⟨j + 1, r * 2, by omega, by go_num, by go_num, Hle.out, Lib.hid (by rw [← Hz.out, Hr.out]; rfl)⟩, by simp [intOf]; omega⟩
        · go_wp2
          obtain rfl : j = 8 := by omega
          exact ⟨⟨k + 1, r, by omega, by go_num, rfl, hr, Lib.hid (by rw [Hst.out, ← Hq.out, Hr.out, Hy.out]; rfl)⟩, by simp [intOf]; omega⟩
    · go_wp2
      go_ret
      exact ⟨by rw [Hq.out, List.take_of_length_le (by rw [Hn.out]; omega)]; rfl, rfl⟩

/-! ### impl -/
theorem and_mask (r : Nat) (hr : r < 65536) : bits .and .i64 ((r : Int) * 2) 65535 = (r : Int) * 2 % 65536 := by
  show IntKind.i64.wrap ((BitVec.ofInt 64 ((r : Int) * 2) &&& BitVec.ofInt 64 65535).toNat : Int) = _
  have o1 : (BitVec.ofInt 64 ((r : Int) * 2)).toNat = r * 2 := by
    have := ofInt_i64 (r * 2) (by omega)
    rw [Int.natCast_mul] at this
    exact this
  have o2 : (BitVec.ofInt 64 65535).toNat = 65535 := by decide
  have o3 : r * 2 &&& 65535 = r * 2 % 65536 := Nat.and_two_pow_sub_one_eq_mod (r * 2) 16
  rw [BitVec.toNat_and, o1, o2, o3, IntKind.wrap_i64]
  omega

set_option maxRecDepth 100000 in
set_option maxHeartbeats 800000 in
theorem addToSum (q : Nat) (x : UInt8) (w : World) (hq : q < 65536) :
    Calls Try.prog 57 #[.int .i64 q, .int .u8 (x.toNat : Int)] w fun e w' => e = .returned (.int .i64 (crcB q x : Nat)) ∧ w = w' := by
  obtain ⟨y, hy, hy0, hxor⟩ := xor_up q x hq
  have Hy := Lib.hid hy0
  have hx8 := x.toNat_lt
  clear hy0
  go_enter Try.func57, Try.ntmps57
  go_wp2
  go_loop [0, 10] (fun vq vj => ∃ j r : Nat, j ≤ 8 ∧ vj = .int .i64 j ∧ vq = .int .i64 r ∧ r < 65536 ∧ Hid (r = crcK j y)) (fun _ vj => 8 - (intOf vj).toNat)
  case atStart => exact ⟨0, y, Nat.zero_le _, rfl, rfl, hy, Lib.hid rfl⟩
  case round =>
    obtain ⟨j, r, hj, rfl, rfl, hr, Hr⟩ := hrel
    by_cases hlt8 : j < 8
    · by_cases ho : 65536 ≤ r * 2
      · obtain ⟨z, hz, hz0, hxor2⟩ := xor_over r hr ho
        have Hz := Lib.hid hz0
        have hge : (65535 : Int) < (r : Int) * 2 := by omega
        have hmask := and_mask r hr
        clear hz0 ho
        go_wp2
        exact ⟨⟨j + 1, z, by omega, by go_num, rfl, hz, Lib.hid (by rw [Hz.out, Hr.out]; rfl)⟩, by simp [intOf]; omega⟩
      · have hge : (r : Int) * 2 ≤ 65535 := by omega
        have Hz := Lib.hid (crcS_under r ho)
        have Hle := Lib.hid (show r * 2 < 65536 by omega)
        clear ho
        go_wp2
        exact ⟨⟨j + 1, r * 2, by omega, by go_num, by go_num, Hle.out, Lib.hid (by rw [← Hz.out, Hr.out]; rfl)⟩, by simp [intOf]; omega⟩
    · obtain rfl : j = 8 := by omega
      have Hfin := Lib.hid (show r = crcB q x by rw [Hr.out, Hy.out]; rfl)
      go_wp2
      go_ret
      exact ⟨by rw [← Hfin.out]; rfl, rfl⟩

/-- What SumOf answers. -/
def sumM (l : List UInt8) : Int × Int := if l.length ≤ 20000 then (0, (sumN l : Nat)) else (2, 0)
theorem sumM_big {l : List UInt8} (h : 20000 < l.length) : sumM l = (2, 0) := if_neg (by omega)
theorem sumM_ok {l : List UInt8} (h : l.length ≤ 20000) : sumM l = (0, ((sumN l : Nat) : Int)) := if_pos h

set_option maxHeartbeats 400000 in
theorem specSumOf_big (A : Option Addr) (n c : Nat) (l : List UInt8) (w : World) (hn : l.length = n) (h : 20000 < n) :
    Calls Try.prog 28 #[.slice A n c] w fun e w' => RetIR (sumM l) w e w' := by
  have Hf := Lib.hid (sumM_big (l := l) (by omega))
  have hgt : (20000 : Int) < (n : Int) := by omega
  clear hn h
  go_enter Try.func28, Try.ntmps28
  go_wp2
  refine bodyPost_ret (v := .agg #[.int .i64 2, .int .i64 0]) (by simp [results, Try.results28, go_sem]) rfl ?_
  rw [Hf.out]
  exact ⟨rfl, (Below.refl _ _).alloc (Nat.le_refl _) _⟩

set_option maxHeartbeats 400000 in
theorem specSumOf_ok (A : Option Addr) (n c : Nat) (l : List UInt8) (w : World) (ha : Rd eB w w.heap.size A l) (hn : l.length = n) (h : n ≤ 20000) :
    Calls Try.prog 28 #[.slice A n c] w fun e w' => RetIR (sumM l) w e w' := by
  have Hf := Lib.hid (sumM_ok (l := l) (by omega))
  have Hn := Lib.hid hn
  have hle : (n : Int) ≤ 20000 := by omega
  have hM : n ≤ maxLen := by unfold maxLen; omega
  have HM := Lib.hid hM
  clear hn h hM
  have ha2 := ha.lift ((Below.refl w.heap.size w).alloc (Nat.le_refl _) (.cells #[.int .i64 0, .int .i64 0] 40))
  go_enter Try.func28, Try.ntmps28
  go_wp2_with (go_at_call 58; refine (l1Sum A n c l _ ha2 Hn.out HM.out).mono ?_; rintro e w' ⟨rfl, rfl⟩)
  refine bodyPost_ret (v := .agg #[.int .i64 0, .int .i64 (sumN l : Nat)]) (by simp [results, Try.results28, go_sem]) rfl ?_
  rw [Hf.out]
  exact ⟨rfl, (Below.refl _ _).alloc (Nat.le_refl _) _⟩

theorem specSumOf (A : Option Addr) (n c : Nat) (l : List UInt8) (w : World) (ha : Rd eB w w.heap.size A l) (hn : l.length = n) :
    Calls Try.prog 28 #[.slice A n c] w fun e w' => RetIR (sumM l) w e w' := by
  by_cases h : n ≤ 20000
  · exact specSumOf_ok A n c l w ha hn h
  · exact specSumOf_big A n c l w hn (by omega)

set_option maxHeartbeats 400000 in
theorem implSumOf_big (A : Option Addr) (n c : Nat) (l : List UInt8) (w : World) (hn : l.length = n) (h : 20000 < n) :
    Calls Try.prog 27 #[.slice A n c] w fun e w' => RetIR (sumM l) w e w' := by
  have Hf := Lib.hid (sumM_big (l := l) (by omega))
  have hgt : (20000 : Int) < (n : Int) := by omega
  clear hn h
  go_enter Try.func27, Try.ntmps27
  go_wp2
  refine bodyPost_ret (v := .agg #[.int .i64 2, .int .i64 0]) (by simp [results, Try.results27, go_sem]) rfl ?_
  rw [Hf.out]
  exact ⟨rfl, (Below.refl _ _).alloc (Nat.le_refl _) _⟩

set_option maxHeartbeats 800000 in
theorem implSumOf_ok (A : Option Addr) (n c : Nat) (l : List UInt8) (w : World) (ha : Rd eB w w.heap.size A l) (hn : l.length = n) (h : n ≤ 20000) :
    Calls Try.prog 27 #[.slice A n c] w fun e w' => RetIR (sumM l) w e w' := by
  have Hf := Lib.hid (sumM_ok (l := l) (by omega))
  have Hn := Lib.hid hn
  have hle : (n : Int) ≤ 20000 := by omega
  clear hn h
  have ha2 := ha.lift ((Below.refl w.heap.size w).alloc (Nat.le_refl _) (.cells #[.int .i64 0, .int .i64 0] 40))
  go_enter Try.func27, Try.ntmps27
  go_wp2
  go_loop [3, 5, 12] (fun vq _ vi => ∃ k q : Nat, k ≤ n ∧ vi = .int .i64 k ∧ vq = .int .i64 q ∧ Hid (q < 65536) ∧ Hid (q = sumN (l.take k))) (fun _ _ vi => n - (intOf vi).toNat)
  case atStart => exact ⟨0, 65535, Nat.zero_le _, rfl, rfl, Lib.hid (by omega), Lib.hid (by simp [sumN])⟩
  case round =>
    obtain ⟨k, q, hk, rfl, rfl, Hq8, Hq⟩ := hrel
    by_cases hlt : k < n
    · obtain ⟨g, o, x, rfl, hg, hx, ca⟩ := ha2.byte (k := k) (by rw [Hn.out]; exact hlt)
      have Hst := Lib.hid (sumN_snoc l k x hx)
      clear hx
      go_wp2_with (go_at_call 57; refine (addToSum q x _ Hq8.out).mono ?_; rintro e w' ⟨rfl, rfl⟩)
      exact ⟨⟨k + 1, crcB q x, by omega, by go_num, rfl, Lib.hid (crcB_lt Hq8.out x), Lib.hid (by rw [Hst.out, ← Hq.out])⟩, by simp [intOf]; omega⟩
    · have Hfin := Lib.hid (show q = sumN l by rw [Hq.out, List.take_of_length_le (by rw [Hn.out]; omega)])
      go_wp2
      refine bodyPost_ret (v := .agg #[.int .i64 0, .int .i64 (q : Nat)]) (by simp [results, Try.results27, go_sem]) rfl ?_
      rw [Hf.out, ← Hfin.out]
      exact ⟨rfl, (Below.refl _ _).alloc (Nat.le_refl _) _⟩

theorem implSumOf (A : Option Addr) (n c : Nat) (l : List UInt8) (w : World) (ha : Rd eB w w.heap.size A l) (hn : l.length = n) :
    Calls Try.prog 27 #[.slice A n c] w fun e w' => RetIR (sumM l) w e w' := by
  by_cases h : n ≤ 20000
  · exact implSumOf_ok A n c l w ha hn h
  · exact implSumOf_big A n c l w hn (by omega)
end Go.Proofs.Ytkdfbaiolgndeaa
