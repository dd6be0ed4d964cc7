import Derived.Test.YteiclanlhnccnaaDoorBound
import Derived.Test.YteiclanlhnccnaaDoorBR
import Derived.Test.YteiclanlhnccnaaDoorTo
namespace Go.Proofs.YteiclanlhnccnaaDoor
set_option maxRecDepth 20000
open Go.RowKit

/-- The first s bytes of a number, the lowest one first. -/
def packL (m s : Nat) : List UInt8 := (List.range s).map fun i => UInt8.ofNat (m / 256 ^ i)
theorem packL_len (m s : Nat) : (packL m s).length = s := by simp [packL]
theorem packL_succ (m s : Nat) : packL m (s + 1) = packL m s ++ [UInt8.ofNat (m / 256 ^ s)] := by simp [packL, List.range_succ]
theorem div_next (m k q : Nat) (h : q = m / 256 ^ k) : q / 256 = m / 256 ^ (k + 1) := by
  rw [h, Nat.div_div_eq_div_mul, Nat.pow_succ]

def PackRel (w : World) (m s : Nat) (vn vs out : Value) (wr : World) : Prop :=
  ∃ (k q : Nat) (A : Option Addr) (c : Nat), k ≤ s ∧ vn = .int .i64 q ∧ q = m / 256 ^ k ∧ vs = .int .i64 ((s : Int) - k) ∧ out = .slice A k c ∧ Ow eB wr w.heap.size A k c (packL m k) ∧ Below w.heap.size w wr

set_option maxHeartbeats 400000 in
theorem l1Pack (m s : Nat) (w : World) (hm : m ≤ 9223372036854775807) (hs : s ≤ 8) :
    Calls Tryd.prog 58 #[.int .i64 m, .int .i64 s] w fun e w' => ∃ A c, e = .returned (.slice A s c) ∧ Ow eB w' w.heap.size A s c (packL m s) ∧ Below w.heap.size w w' := by
  go_enter Tryd.func58, Tryd.ntmps58
  go_wp2
  have how : Ow eB (w.alloc (.cells #[] 5)) w.heap.size (some ⟨w.heap.size, 0, none⟩) 0 0 (packL m 0) := Ow.lit w [] #[] 0 (Nat.le_refl _) (Nat.zero_le _) rfl rfl
  have hbel0 : Below w.heap.size w (w.alloc (.cells #[] 5)) := (Below.refl _ _).alloc (Nat.le_refl _) _
  go_loopw [0, 1, 5] (fun vn vs out wr => PackRel w m s vn vs out wr) (fun _ vs _ _ => (intOf vs).toNat)
  case atStart => exact ⟨0, m, _, 0, Nat.zero_le _, rfl, by simp, by simp, rfl, how, hbel0⟩
  case round =>
    obtain ⟨k, q, A, c, hk, rfl, hq, rfl, rfl, hown, hbel⟩ := hrel
    have hql : q ≤ m := by rw [hq]; exact Nat.div_le_self _ _
    have Hq := Lib.hid hq
    clear hq
    by_cases hlt : k < s
    · have hg : decide ((s : Int) - (k : Int) > 0) = true := by simp; omega
      have hgt : (0 : Int) < (s : Int) - (k : Int) := by omega
      have hrd : Rd eB (wr.alloc (.cells #[.int .u8 ((q : Int) % 256)] 5)) (wr.heap.size + 1) (some ⟨wr.heap.size, 0, none⟩) [UInt8.ofNat q] := rd_lit okB wr 5 [UInt8.ofNat q] _ (by simp [Enc.row, eB])
      have Hbel := Lib.hid hbel
      go_wp2_with (at_builtin; refine wpList_append_ow okB _ rfl (.tmp 11) (.tmp 15) _ rfl w.heap.size info_u8 Tryd.underlying32 rfl A k c _ rfl (hown.alloc _) (some ⟨wr.heap.size, 0, none⟩) 1 1 (wr.heap.size + 1) [UInt8.ofNat q] rfl hrd rfl (by unfold maxLen; omega) (by omega) (by simp; have := Hbel.out.size; omega) ?_; intro A' c' w1 hown1 hgr1 hat1)
      have hb1 : Below w.heap.size w w1 := (Hbel.out.alloc Hbel.out.size _).grown hgr1 (by simp; have := Hbel.out.size; omega) (fun g hg => (hown.lt g hg).1)
      refine ⟨⟨k + 1, q / 256, A', c', by omega, by go_num, div_next m k q Hq.out, congrArg _ (by omega), rfl, ?_, hb1⟩, by simp [intOf]; omega⟩
      rw [packL_succ, ← Hq.out]
      exact hown1
    · obtain rfl : s = k := by omega
      have h0 : ((s : Int) - (s : Int)) = 0 := by omega
      rw [h0]
      go_wp2
      go_ret
      exact ⟨_, _, rfl, hown, hbel⟩

/-- What PackWord answers: the code and the bytes. -/
def packM (n size : Int) : Int × List UInt8 :=
  if 1 ≤ size ∧ size ≤ 4 ∧ 0 ≤ n ∧ n < 256 ^ size.toNat then (0, packL n.toNat size.toNat) else (3, [])

def LeftRel (w : World) (m s : Nat) (vq vi : Value) (wr : World) : Prop :=
  ∃ k q : Nat, k ≤ s ∧ vi = .int .i64 k ∧ vq = .int .i64 q ∧ q = m / 256 ^ k ∧ Below w.heap.size w wr

theorem packM_bad {n size : Int} (h : ¬ (1 ≤ size ∧ size ≤ 4 ∧ 0 ≤ n ∧ n < 256 ^ size.toNat)) : packM n size = (3, []) := if_neg h
theorem packM_nat {m s : Nat} (h1 : 1 ≤ s) (h4 : s ≤ 4) (hm : m < 256 ^ s) : packM m s = (0, packL m s) := by
  have h : (m : Int) < 256 ^ (s : Int).toNat := by
    rw [Int.toNat_natCast]
    have h := Int.ofNat_lt.2 hm
    rw [Int.natCast_pow] at h
    exact h
  unfold packM
  rw [if_pos ⟨by omega, by omega, by omega, h⟩, Int.toNat_natCast, Int.toNat_natCast]

theorem div_zero_iff (m s : Nat) : m / 256 ^ s = 0 ↔ m < 256 ^ s := by
  rw [Nat.div_eq_zero_iff]
  have : 0 < 256 ^ s := Nat.pow_pos (by omega)
  omega

/-! ### impl.PackWord -/
set_option maxHeartbeats 400000 in
theorem implPackWord_size (n size : Int) (w : World) (h : ¬ (1 ≤ size ∧ size ≤ 4)) :
    Calls Tryd.prog 33 #[.int .i64 n, .int .i64 size] w fun e w' => RetBR (packM n size) w e w' := by
  have Hf := Lib.hid (packM_bad (n := n) (size := size) (by omega))
  have hin : inB (size, 1, 4) = false := by simp only [inB, Bool.and_eq_false_iff, decide_eq_false_iff_not]; omega
  go_enter Tryd.func33, Tryd.ntmps33
  go_wp2_with (go_at_call 59; refine (isWordSize_any _ _).mono ?_; rintro e w1 ⟨rfl, hb1⟩; obtain ⟨hc1, hf1⟩ := bcell hb1; have hz1 : w.heap.size < w1.heap.size := by have := hb1.size; simp at this; omega)
  have hB1 : Below w.heap.size w w1 := ((Below.refl _ _).alloc (Nat.le_refl _) _).trans (hb1.mono (by simp))
  refine bodyPost_ret (v := .agg #[.int .i64 3, .slice none 0 0]) (by simp [results, Tryd.results33, go_sem, hc1]) rfl ?_
  rw [Hf.out]
  exact ⟨none, 0, 0, rfl, Ow.nil, (hB1.setCell (Nat.le_refl _) _).setCell (Nat.le_refl _) _⟩

theorem packL_at {m s k : Nat} (h : k < s) : (packL m s)[k]? = some (UInt8.ofNat (m / 256 ^ k)) := by simp [packL, h]
theorem shr_byte (m j : Nat) : (m : Int) / 2 ^ (8 * j) % 256 = ((UInt8.ofNat (m / 256 ^ j)).toNat : Int) := by
  rw [byte_num, Int.natCast_ediv, Int.natCast_pow]
  have h : (2 : Int) ^ (8 * j) = ((256 : Nat) : Int) ^ j := by rw [Int.pow_mul]; rfl
  rw [h]
def ImplRel (w : World) (m s g t : Nat) (vi : Value) (wr : World) : Prop :=
  At wr w.heap.size t #[.int .i64 0, .slice none 0 0] ∧ ToRel eB 0 w g (packL m s) s vi wr

set_option maxHeartbeats 400000 in
theorem implPackWord_no1 (n : Int) (w : World) (hn : ¬ (0 ≤ n ∧ n ≤ 255)) :
    Calls Tryd.prog 33 #[.int .i64 n, .int .i64 1] w fun e w' => RetBR (packM n 1) w e w' := by
  have hin : inB (1, 1, 4) = true := rfl
  have hno : [(n, (0 : Int), (255 : Int))].all inB = false := by simp [inB]; omega
  have Hf := Lib.hid (packM_bad (n := n) (size := 1) (by simp; omega))
  go_enter Tryd.func33, Tryd.ntmps33
  go_wp2_with (go_at_call 59; refine (isWordSize_any _ _).mono ?_; rintro e w1 ⟨rfl, hb1⟩; have a1 := (At.new w _ _).below hb1 (by simp))
  have z1 := a1.lt
  have hB1 : Below w.heap.size w w1 := ((Below.refl _ _).alloc (Nat.le_refl _) _).trans (hb1.mono (by simp))
  refine (areWithin_any _ _ _ [(n, 0, 255)] _ (bnds_one (by simp)) (by simp) rfl (by simp)).mono ?_
  rintro e w2 ⟨rfl, hb2⟩
  have a2 := (a1.alloc _).below hb2 (by simp; omega)
  have hB2 : Below w.heap.size w w2 := (hB1.alloc (by omega) _).trans (hb2.mono (by simp; omega))
  obtain ⟨r0, r1, f0, f1⟩ := a2.two
  go_wp2
  refine bodyPost_ret (v := .agg #[.int .i64 3, .slice none 0 0]) (by simp [results, Tryd.results33, go_sem, r0, r1]) rfl ?_
  rw [Hf.out]
  exact ⟨none, 0, 0, rfl, Ow.nil, (hB2.setCell (Nat.le_refl _) _).setCell (Nat.le_refl _) _⟩

set_option maxRecDepth 100000 in
set_option maxHeartbeats 400000 in
theorem implPackWord_yes1 (m : Nat) (w : World) (hn : m ≤ 255) :
    Calls Tryd.prog 33 #[.int .i64 m, .int .i64 1] w fun e w' => RetBR (packM m 1) w e w' := by
  have hin : inB (1, 1, 4) = true := rfl
  have hno : [((m : Int), (0 : Int), (255 : Int))].all inB = true := by simp [inB]; omega
  have Hf := Lib.hid (show packM (m : Int) 1 = (0, packL m 1) from packM_nat (s := 1) (by omega) (by omega) (by omega))
  go_enter Tryd.func33, Tryd.ntmps33
  go_wp2_with (go_at_call 59; refine (isWordSize_any _ _).mono ?_; rintro e w1 ⟨rfl, hb1⟩; have a1 := (At.new w _ _).below hb1 (by simp))
  have z1 := a1.lt
  have hB1 : Below w.heap.size w w1 := ((Below.refl _ _).alloc (Nat.le_refl _) _).trans (hb1.mono (by simp))
  refine (areWithin_any _ _ _ [((m : Int), 0, 255)] _ (bnds_one (by simp)) (by simp) rfl (by simp)).mono ?_
  rintro e w2 ⟨rfl, hb2⟩
  have a2 := (a1.alloc _).below hb2 (by simp; omega)
  have hB2 : Below w.heap.size w w2 := (hB1.alloc (by omega) _).trans (hb2.mono (by simp; omega))
  have z2 := a2.lt
  go_wp2_with (refine wpList_make_ow okB _ rfl _ _ _ rfl w.heap.size info_u8 Tryd.underlying32 0 rfl .i64 .i64 1 1 1 rfl rfl rfl rfl (by omega) (by unfold maxLen; omega) (by omega) ?_; intro w3 hown hg3)
  have a3 := a2.grown hg3 (by simp)
  have hB3 : Below w.heap.size w w3 := hB2.grown hg3 (by omega) (by simp)
  have z3 := (hown.lt w2.heap.size rfl).2
  go_loopw [6, 26] (fun _ vi wr => ImplRel w m 1 w2.heap.size 34 vi wr) (fun _ vi _ => 1 - (intOf vi).toNat)
  case atStart => exact ⟨a3, 0, by omega, rfl, hown, hB3⟩
  case round =>
    obtain ⟨ar, j, hj, rfl, hown, hbel⟩ := hrel
    by_cases hlt : j < 1
    · have cb := hown.byteAt (part_at 0 (packL m 1) 1 j hlt (packL_len _ _))
      have fb := hown.frozenAt j
      go_wp2
      rw [shr_byte]
      refine ⟨⟨ar.far (by simp; omega) _, j + 1, by omega, by go_num, ?_, hbel.setCell (by simp; omega) _⟩, by simp [intOf]; omega⟩
      rw [← set_next 0 (packL m 1) 1 j _ hlt (packL_len _ _) (packL_at hlt)]
      exact (hown.byteSet hlt _).1
    · have hall := toRel_end hown (by omega) (packL_len _ _)
      obtain ⟨r0, r1, f0, f1⟩ := ar.two
      obtain rfl : j = 1 := by omega
      clear hown
      go_wp2
      refine bodyPost_ret (v := .agg #[.int .i64 0, .slice (some ⟨w2.heap.size, 0, none⟩) 1 1]) (by simp [results, Tryd.results33, go_sem, r0, r1]) rfl ?_
      rw [Hf.out]
      exact ⟨_, _, _, rfl, ((hall.grown (grown_setCell _ ⟨w.heap.size, 0, none⟩ _) (by simp; omega)).grown (grown_setCell _ ⟨w.heap.size, 1, none⟩ _) (by simp; omega)), (hbel.setCell (Nat.le_refl _) _).setCell (Nat.le_refl _) _⟩
set_option maxHeartbeats 400000 in
theorem implPackWord_no2 (n : Int) (w : World) (hn : ¬ (0 ≤ n ∧ n ≤ 65535)) :
    Calls Tryd.prog 33 #[.int .i64 n, .int .i64 2] w fun e w' => RetBR (packM n 2) w e w' := by
  have hin : inB (2, 1, 4) = true := rfl
  have hno : [(n, (0 : Int), (65535 : Int))].all inB = false := by simp [inB]; omega
  have Hf := Lib.hid (packM_bad (n := n) (size := 2) (by simp; omega))
  go_enter Tryd.func33, Tryd.ntmps33
  go_wp2_with (go_at_call 59; refine (isWordSize_any _ _).mono ?_; rintro e w1 ⟨rfl, hb1⟩; have a1 := (At.new w _ _).below hb1 (by simp))
  have z1 := a1.lt
  have hB1 : Below w.heap.size w w1 := ((Below.refl _ _).alloc (Nat.le_refl _) _).trans (hb1.mono (by simp))
  refine (areWithin_any _ _ _ [(n, 0, 65535)] _ (bnds_one (by simp)) (by simp) rfl (by simp)).mono ?_
  rintro e w2 ⟨rfl, hb2⟩
  have a2 := (a1.alloc _).below hb2 (by simp; omega)
  have hB2 : Below w.heap.size w w2 := (hB1.alloc (by omega) _).trans (hb2.mono (by simp; omega))
  obtain ⟨r0, r1, f0, f1⟩ := a2.two
  go_wp2
  refine bodyPost_ret (v := .agg #[.int .i64 3, .slice none 0 0]) (by simp [results, Tryd.results33, go_sem, r0, r1]) rfl ?_
  rw [Hf.out]
  exact ⟨none, 0, 0, rfl, Ow.nil, (hB2.setCell (Nat.le_refl _) _).setCell (Nat.le_refl _) _⟩

set_option maxRecDepth 100000 in
set_option maxHeartbeats 400000 in
theorem implPackWord_yes2 (m : Nat) (w : World) (hn : m ≤ 65535) :
    Calls Tryd.prog 33 #[.int .i64 m, .int .i64 2] w fun e w' => RetBR (packM m 2) w e w' := by
  have hin : inB (2, 1, 4) = true := rfl
  have hno : [((m : Int), (0 : Int), (65535 : Int))].all inB = true := by simp [inB]; omega
  have Hf := Lib.hid (show packM (m : Int) 2 = (0, packL m 2) from packM_nat (s := 2) (by omega) (by omega) (by omega))
  go_enter Tryd.func33, Tryd.ntmps33
  go_wp2_with (go_at_call 59; refine (isWordSize_any _ _).mono ?_; rintro e w1 ⟨rfl, hb1⟩; have a1 := (At.new w _ _).below hb1 (by simp))
  have z1 := a1.lt
  have hB1 : Below w.heap.size w w1 := ((Below.refl _ _).alloc (Nat.le_refl _) _).trans (hb1.mono (by simp))
  refine (areWithin_any _ _ _ [((m : Int), 0, 65535)] _ (bnds_one (by simp)) (by simp) rfl (by simp)).mono ?_
  rintro e w2 ⟨rfl, hb2⟩
  have a2 := (a1.alloc _).below hb2 (by simp; omega)
  have hB2 : Below w.heap.size w w2 := (hB1.alloc (by omega) _).trans (hb2.mono (by simp; omega))
  have z2 := a2.lt
  go_wp2_with (refine wpList_make_ow okB _ rfl _ _ _ rfl w.heap.size info_u8 Tryd.underlying32 0 rfl .i64 .i64 2 2 2 rfl rfl rfl rfl (by omega) (by unfold maxLen; omega) (by omega) ?_; intro w3 hown hg3)
  have a3 := a2.grown hg3 (by simp)
  have hB3 : Below w.heap.size w w3 := hB2.grown hg3 (by omega) (by simp)
  have z3 := (hown.lt w2.heap.size rfl).2
  go_loopw [6, 26] (fun _ vi wr => ImplRel w m 2 w2.heap.size 34 vi wr) (fun _ vi _ => 2 - (intOf vi).toNat)
  case atStart => exact ⟨a3, 0, by omega, rfl, hown, hB3⟩
  case round =>
    obtain ⟨ar, j, hj, rfl, hown, hbel⟩ := hrel
    by_cases hlt : j < 2
    · have cb := hown.byteAt (part_at 0 (packL m 2) 2 j hlt (packL_len _ _))
      have fb := hown.frozenAt j
      have Hset := Lib.hid (set_next 0 (packL m 2) 2 j _ hlt (packL_len _ _) (packL_at hlt))
      have Hst := Lib.hid (hown.byteSet hlt (UInt8.ofNat (m / 256 ^ j))).1
      rcases (show j = 0 ∨ j = 1 by omega) with rfl | rfl
      · go_wp2
        rw [show (m : Int) % 256 = ((UInt8.ofNat (m / 256 ^ 0)).toNat : Int) by rw [byte_num]; omega]
        exact ⟨⟨ar.far (by simp; omega) _, 1, by omega, by go_num, by rw [← Hset.out]; exact Hst.out, hbel.setCell (by simp; omega) _⟩, by simp [intOf]⟩
      · go_wp2
        rw [show (m : Int) / 256 = ((UInt8.ofNat (m / 256 ^ 1)).toNat : Int) by rw [byte_num]; omega]
        exact ⟨⟨ar.far (by simp; omega) _, 2, by omega, by go_num, by rw [← Hset.out]; exact Hst.out, hbel.setCell (by simp; omega) _⟩, by simp [intOf]⟩
    · have hall := toRel_end hown (by omega) (packL_len _ _)
      obtain ⟨r0, r1, f0, f1⟩ := ar.two
      obtain rfl : j = 2 := by omega
      clear hown
      go_wp2
      refine bodyPost_ret (v := .agg #[.int .i64 0, .slice (some ⟨w2.heap.size, 0, none⟩) 2 2]) (by simp [results, Tryd.results33, go_sem, r0, r1]) rfl ?_
      rw [Hf.out]
      exact ⟨_, _, _, rfl, ((hall.grown (grown_setCell _ ⟨w.heap.size, 0, none⟩ _) (by simp; omega)).grown (grown_setCell _ ⟨w.heap.size, 1, none⟩ _) (by simp; omega)), (hbel.setCell (Nat.le_refl _) _).setCell (Nat.le_refl _) _⟩
set_option maxHeartbeats 400000 in
theorem implPackWord_no3 (n : Int) (w : World) (hn : ¬ (0 ≤ n ∧ n ≤ 16777215)) :
    Calls Tryd.prog 33 #[.int .i64 n, .int .i64 3] w fun e w' => RetBR (packM n 3) w e w' := by
  have hin : inB (3, 1, 4) = true := rfl
  have hno : [(n, (0 : Int), (16777215 : Int))].all inB = false := by simp [inB]; omega
  have Hf := Lib.hid (packM_bad (n := n) (size := 3) (by simp; omega))
  go_enter Tryd.func33, Tryd.ntmps33
  go_wp2_with (go_at_call 59; refine (isWordSize_any _ _).mono ?_; rintro e w1 ⟨rfl, hb1⟩; have a1 := (At.new w _ _).below hb1 (by simp))
  have z1 := a1.lt
  have hB1 : Below w.heap.size w w1 := ((Below.refl _ _).alloc (Nat.le_refl _) _).trans (hb1.mono (by simp))
  refine (areWithin_any _ _ _ [(n, 0, 16777215)] _ (bnds_one (by simp)) (by simp) rfl (by simp)).mono ?_
  rintro e w2 ⟨rfl, hb2⟩
  have a2 := (a1.alloc _).below hb2 (by simp; omega)
  have hB2 : Below w.heap.size w w2 := (hB1.alloc (by omega) _).trans (hb2.mono (by simp; omega))
  obtain ⟨r0, r1, f0, f1⟩ := a2.two
  go_wp2
  refine bodyPost_ret (v := .agg #[.int .i64 3, .slice none 0 0]) (by simp [results, Tryd.results33, go_sem, r0, r1]) rfl ?_
  rw [Hf.out]
  exact ⟨none, 0, 0, rfl, Ow.nil, (hB2.setCell (Nat.le_refl _) _).setCell (Nat.le_refl _) _⟩

set_option maxRecDepth 100000 in
set_option maxHeartbeats 400000 in
theorem implPackWord_yes3 (m : Nat) (w : World) (hn : m ≤ 16777215) :
    Calls Tryd.prog 33 #[.int .i64 m, .int .i64 3] w fun e w' => RetBR (packM m 3) w e w' := by
  have hin : inB (3, 1, 4) = true := rfl
  have hno : [((m : Int), (0 : Int), (16777215 : Int))].all inB = true := by simp [inB]; omega
  have Hf := Lib.hid (show packM (m : Int) 3 = (0, packL m 3) from packM_nat (s := 3) (by omega) (by omega) (by omega))
  go_enter Tryd.func33, Tryd.ntmps33
  go_wp2_with (go_at_call 59; refine (isWordSize_any _ _).mono ?_; rintro e w1 ⟨rfl, hb1⟩; have a1 := (At.new w _ _).below hb1 (by simp))
  have z1 := a1.lt
  have hB1 : Below w.heap.size w w1 := ((Below.refl _ _).alloc (Nat.le_refl _) _).trans (hb1.mono (by simp))
  refine (areWithin_any _ _ _ [((m : Int), 0, 16777215)] _ (bnds_one (by simp)) (by simp) rfl (by simp)).mono ?_
  rintro e w2 ⟨rfl, hb2⟩
  have a2 := (a1.alloc _).below hb2 (by simp; omega)
  have hB2 : Below w.heap.size w w2 := (hB1.alloc (by omega) _).trans (hb2.mono (by simp; omega))
  have z2 := a2.lt
  go_wp2_with (refine wpList_make_ow okB _ rfl _ _ _ rfl w.heap.size info_u8 Tryd.underlying32 0 rfl .i64 .i64 3 3 3 rfl rfl rfl rfl (by omega) (by unfold maxLen; omega) (by omega) ?_; intro w3 hown hg3)
  have a3 := a2.grown hg3 (by simp)
  have hB3 : Below w.heap.size w w3 := hB2.grown hg3 (by omega) (by simp)
  have z3 := (hown.lt w2.heap.size rfl).2
  go_loopw [6, 26] (fun _ vi wr => ImplRel w m 3 w2.heap.size 34 vi wr) (fun _ vi _ => 3 - (intOf vi).toNat)
  case atStart => exact ⟨a3, 0, by omega, rfl, hown, hB3⟩
  case round =>
    obtain ⟨ar, j, hj, rfl, hown, hbel⟩ := hrel
    by_cases hlt : j < 3
    · have cb := hown.byteAt (part_at 0 (packL m 3) 3 j hlt (packL_len _ _))
      have fb := hown.frozenAt j
      have Hset := Lib.hid (set_next 0 (packL m 3) 3 j _ hlt (packL_len _ _) (packL_at hlt))
      have Hst := Lib.hid (hown.byteSet hlt (UInt8.ofNat (m / 256 ^ j))).1
      rcases (show j = 0 ∨ j = 1 ∨ j = 2 by omega) with rfl | rfl | rfl
      · go_wp2
        rw [show (m : Int) % 256 = ((UInt8.ofNat (m / 256 ^ 0)).toNat : Int) by rw [byte_num]; omega]
        exact ⟨⟨ar.far (by simp; omega) _, 1, by omega, by go_num, by rw [← Hset.out]; exact Hst.out, hbel.setCell (by simp; omega) _⟩, by simp [intOf]⟩
      · go_wp2
        rw [show (m : Int) / 256 % 256 = ((UInt8.ofNat (m / 256 ^ 1)).toNat : Int) by rw [byte_num]; omega]
        exact ⟨⟨ar.far (by simp; omega) _, 2, by omega, by go_num, by rw [← Hset.out]; exact Hst.out, hbel.setCell (by simp; omega) _⟩, by simp [intOf]⟩
      · go_wp2
        rw [show (m : Int) / 65536 = ((UInt8.ofNat (m / 256 ^ 2)).toNat : Int) by rw [byte_num]; omega]
        exact ⟨⟨ar.far (by simp; omega) _, 3, by omega, by go_num, by rw [← Hset.out]; exact Hst.out, hbel.setCell (by simp; omega) _⟩, by simp [intOf]⟩
    · have hall := toRel_end hown (by omega) (packL_len _ _)
      obtain ⟨r0, r1, f0, f1⟩ := ar.two
      obtain rfl : j = 3 := by omega
      clear hown
      go_wp2
      refine bodyPost_ret (v := .agg #[.int .i64 0, .slice (some ⟨w2.heap.size, 0, none⟩) 3 3]) (by simp [results, Tryd.results33, go_sem, r0, r1]) rfl ?_
      rw [Hf.out]
      exact ⟨_, _, _, rfl, ((hall.grown (grown_setCell _ ⟨w.heap.size, 0, none⟩ _) (by simp; omega)).grown (grown_setCell _ ⟨w.heap.size, 1, none⟩ _) (by simp; omega)), (hbel.setCell (Nat.le_refl _) _).setCell (Nat.le_refl _) _⟩
set_option maxHeartbeats 400000 in
theorem implPackWord_no4 (n : Int) (w : World) (hn : ¬ (0 ≤ n ∧ n ≤ 4294967295)) :
    Calls Tryd.prog 33 #[.int .i64 n, .int .i64 4] w fun e w' => RetBR (packM n 4) w e w' := by
  have hin : inB (4, 1, 4) = true := rfl
  have hno : [(n, (0 : Int), (4294967295 : Int))].all inB = false := by simp [inB]; omega
  have Hf := Lib.hid (packM_bad (n := n) (size := 4) (by simp; omega))
  go_enter Tryd.func33, Tryd.ntmps33
  go_wp2_with (go_at_call 59; refine (isWordSize_any _ _).mono ?_; rintro e w1 ⟨rfl, hb1⟩; have a1 := (At.new w _ _).below hb1 (by simp))
  have z1 := a1.lt
  have hB1 : Below w.heap.size w w1 := ((Below.refl _ _).alloc (Nat.le_refl _) _).trans (hb1.mono (by simp))
  refine (areWithin_any _ _ _ [(n, 0, 4294967295)] _ (bnds_one (by simp)) (by simp) rfl (by simp)).mono ?_
  rintro e w2 ⟨rfl, hb2⟩
  have a2 := (a1.alloc _).below hb2 (by simp; omega)
  have hB2 : Below w.heap.size w w2 := (hB1.alloc (by omega) _).trans (hb2.mono (by simp; omega))
  obtain ⟨r0, r1, f0, f1⟩ := a2.two
  go_wp2
  refine bodyPost_ret (v := .agg #[.int .i64 3, .slice none 0 0]) (by simp [results, Tryd.results33, go_sem, r0, r1]) rfl ?_
  rw [Hf.out]
  exact ⟨none, 0, 0, rfl, Ow.nil, (hB2.setCell (Nat.le_refl _) _).setCell (Nat.le_refl _) _⟩

set_option maxRecDepth 100000 in
set_option maxHeartbeats 400000 in
theorem implPackWord_yes4 (m : Nat) (w : World) (hn : m ≤ 4294967295) :
    Calls Tryd.prog 33 #[.int .i64 m, .int .i64 4] w fun e w' => RetBR (packM m 4) w e w' := by
  have hin : inB (4, 1, 4) = true := rfl
  have hno : [((m : Int), (0 : Int), (4294967295 : Int))].all inB = true := by simp [inB]; omega
  have Hf := Lib.hid (show packM (m : Int) 4 = (0, packL m 4) from packM_nat (s := 4) (by omega) (by omega) (by omega))
  go_enter Tryd.func33, Tryd.ntmps33
  go_wp2_with (go_at_call 59; refine (isWordSize_any _ _).mono ?_; rintro e w1 ⟨rfl, hb1⟩; have a1 := (At.new w _ _).below hb1 (by simp))
  have z1 := a1.lt
  have hB1 : Below w.heap.size w w1 := ((Below.refl _ _).alloc (Nat.le_refl _) _).trans (hb1.mono (by simp))
  refine (areWithin_any _ _ _ [((m : Int), 0, 4294967295)] _ (bnds_one (by simp)) (by simp) rfl (by simp)).mono ?_
  rintro e w2 ⟨rfl, hb2⟩
  have a2 := (a1.alloc _).below hb2 (by simp; omega)
  have hB2 : Below w.heap.size w w2 := (hB1.alloc (by omega) _).trans (hb2.mono (by simp; omega))
  have z2 := a2.lt
  go_wp2_with (refine wpList_make_ow okB _ rfl _ _ _ rfl w.heap.size info_u8 Tryd.underlying32 0 rfl .i64 .i64 4 4 4 rfl rfl rfl rfl (by omega) (by unfold maxLen; omega) (by omega) ?_; intro w3 hown hg3)
  have a3 := a2.grown hg3 (by simp)
  have hB3 : Below w.heap.size w w3 := hB2.grown hg3 (by omega) (by simp)
  have z3 := (hown.lt w2.heap.size rfl).2
  go_loopw [6, 26] (fun _ vi wr => ImplRel w m 4 w2.heap.size 34 vi wr) (fun _ vi _ => 4 - (intOf vi).toNat)
  case atStart => exact ⟨a3, 0, by omega, rfl, hown, hB3⟩
  case round =>
    obtain ⟨ar, j, hj, rfl, hown, hbel⟩ := hrel
    by_cases hlt : j < 4
    · have cb := hown.byteAt (part_at 0 (packL m 4) 4 j hlt (packL_len _ _))
      have fb := hown.frozenAt j
      have Hset := Lib.hid (set_next 0 (packL m 4) 4 j _ hlt (packL_len _ _) (packL_at hlt))
      have Hst := Lib.hid (hown.byteSet hlt (UInt8.ofNat (m / 256 ^ j))).1
      rcases (show j = 0 ∨ j = 1 ∨ j = 2 ∨ j = 3 by omega) with rfl | rfl | rfl | rfl
      · go_wp2
        rw [show (m : Int) % 256 = ((UInt8.ofNat (m / 256 ^ 0)).toNat : Int) by rw [byte_num]; omega]
        exact ⟨⟨ar.far (by simp; omega) _, 1, by omega, by go_num, by rw [← Hset.out]; exact Hst.out, hbel.setCell (by simp; omega) _⟩, by simp [intOf]⟩
      · go_wp2
        rw [show (m : Int) / 256 % 256 = ((UInt8.ofNat (m / 256 ^ 1)).toNat : Int) by rw [byte_num]; omega]
        exact ⟨⟨ar.far (by simp; omega) _, 2, by omega, by go_num, by rw [← Hset.out]; exact Hst.out, hbel.setCell (by simp; omega) _⟩, by simp [intOf]⟩
      · go_wp2
        rw [show (m : Int) / 65536 % 256 = ((UInt8.ofNat (m / 256 ^ 2)).toNat : Int) by rw [byte_num]; omega]
        exact ⟨⟨ar.far (by simp; omega) _, 3, by omega, by go_num, by rw [← Hset.out]; exact Hst.out, hbel.setCell (by simp; omega) _⟩, by simp [intOf]⟩
      · go_wp2
        rw [show (m : Int) / 16777216 = ((UInt8.ofNat (m / 256 ^ 3)).toNat : Int) by rw [byte_num]; omega]
        exact ⟨⟨ar.far (by simp; omega) _, 4, by omega, by go_num, by rw [← Hset.out]; exact Hst.out, hbel.setCell (by simp; omega) _⟩, by simp [intOf]⟩
    · have hall := toRel_end hown (by omega) (packL_len _ _)
      obtain ⟨r0, r1, f0, f1⟩ := ar.two
      obtain rfl : j = 4 := by omega
      clear hown
      go_wp2
      refine bodyPost_ret (v := .agg #[.int .i64 0, .slice (some ⟨w2.heap.size, 0, none⟩) 4 4]) (by simp [results, Tryd.results33, go_sem, r0, r1]) rfl ?_
      rw [Hf.out]
      exact ⟨_, _, _, rfl, ((hall.grown (grown_setCell _ ⟨w.heap.size, 0, none⟩ _) (by simp; omega)).grown (grown_setCell _ ⟨w.heap.size, 1, none⟩ _) (by simp; omega)), (hbel.setCell (Nat.le_refl _) _).setCell (Nat.le_refl _) _⟩

theorem implPackWord (n size : Int) (w : World) :
    Calls Tryd.prog 33 #[.int .i64 n, .int .i64 size] w fun e w' => RetBR (packM n size) w e w' := by
  by_cases h : 1 ≤ size ∧ size ≤ 4
  · have h4 : size = 1 ∨ size = 2 ∨ size = 3 ∨ size = 4 := by omega
    rcases h4 with rfl | rfl | rfl | rfl
    · by_cases hn : 0 ≤ n ∧ n ≤ 255
      · obtain ⟨m, rfl⟩ := Int.eq_ofNat_of_zero_le hn.1
        exact implPackWord_yes1 m w (by omega)
      · exact implPackWord_no1 n w hn
    · by_cases hn : 0 ≤ n ∧ n ≤ 65535
      · obtain ⟨m, rfl⟩ := Int.eq_ofNat_of_zero_le hn.1
        exact implPackWord_yes2 m w (by omega)
      · exact implPackWord_no2 n w hn
    · by_cases hn : 0 ≤ n ∧ n ≤ 16777215
      · obtain ⟨m, rfl⟩ := Int.eq_ofNat_of_zero_le hn.1
        exact implPackWord_yes3 m w (by omega)
      · exact implPackWord_no3 n w hn
    · by_cases hn : 0 ≤ n ∧ n ≤ 4294967295
      · obtain ⟨m, rfl⟩ := Int.eq_ofNat_of_zero_le hn.1
        exact implPackWord_yes4 m w (by omega)
      · exact implPackWord_no4 n w hn
  · exact implPackWord_size n size w h
end Go.Proofs.YteiclanlhnccnaaDoor
