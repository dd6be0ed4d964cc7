/-
  Texts of one proof, joined: each has its own namespace.
-/
import Derived.Test.YtmaillakhhdkfaaGreatDoorBFnRecords0
import Derived.Laws.AppendOwn
namespace Go.Proofs.YtmaillakhhdkfaaGreatDoor
set_option maxRecDepth 20000
open Go.RowKit

/-- The first s bytes of a number, the lowest one first. -/
def packL (m s : Nat) : List UInt8 := (List.range s).map fun i => UInt8.ofNat (m / 256 ^ i)
theorem packL_len (m s : Nat) : (packL m s).length = s := by simp [packL]
theorem packL_succ (m s : Nat) : packL m (s + 1) = packL m s ++ [UInt8.ofNat (m / 256 ^ s)] := by simp [packL, List.range_succ]
theorem div_next (m k q : Nat) (h : q = m / 256 ^ k) : q / 256 = m / 256 ^ (k + 1) := by
  rw [h, Nat.div_div_eq_div_mul, Nat.pow_succ]

def PackRel (w : World) (m s : Nat) (vn vs out : Value) (wr : World) : Prop :=
  ∃ (k q : Nat) (A : Option Addr) (c : Nat), k ≤ s ∧ vn = .int .i64 q ∧ q = m / 256 ^ k ∧ vs = .int .i64 ((s : Int) - k) ∧ out = .slice A k c ∧ Ow eB wr w.heap.size A k c (packL m k) ∧ Below w.heap.size w wr

set_option maxHeartbeats 400000 in
theorem l1Pack (m s : Nat) (w : World) (hm : m ≤ 9223372036854775807) (hs : s ≤ 8) :
    Calls Tryz.prog 86 #[.int .i64 m, .int .i64 s] w fun e w' => ∃ A c, e = .returned (.slice A s c) ∧ Ow eB w' w.heap.size A s c (packL m s) ∧ Below w.heap.size w w' := by
  go_enter Tryz.func86, Tryz.ntmps86
  go_wp2
  have how : Ow eB (w.alloc (.cells #[] 5)) w.heap.size (some ⟨w.heap.size, 0, none⟩) 0 0 (packL m 0) := Ow.lit w [] #[] 0 (Nat.le_refl _) (Nat.zero_le _) rfl rfl
  have hbel0 : Below w.heap.size w (w.alloc (.cells #[] 5)) := (Below.refl _ _).alloc (Nat.le_refl _) _
  go_loopw [0, 1, 5] (fun vn vs out wr => PackRel w m s vn vs out wr) (fun _ vs _ _ => (intOf vs).toNat)
  case atStart => exact ⟨0, m, _, 0, Nat.zero_le _, rfl, by simp, by simp, rfl, how, hbel0⟩
  case round =>
    obtain ⟨k, q, A, c, hk, rfl, hq, rfl, rfl, hown, hbel⟩ := hrel
    have hql : q ≤ m := by rw [hq]; exact Nat.div_le_self _ _
    have Hq := Lib.hid hq
    clear hq
    by_cases hlt : k < s
    · have hg : decide ((s : Int) - (k : Int) > 0) = true := by simp; omega
      have hgt : (0 : Int) < (s : Int) - (k : Int) := by omega
      have hrd : Rd eB (wr.alloc (.cells #[.int .u8 ((q : Int) % 256)] 5)) (wr.heap.size + 1) (some ⟨wr.heap.size, 0, none⟩) [UInt8.ofNat q] := rd_lit okB wr 5 [UInt8.ofNat q] _ (by simp [Enc.row, eB])
      have Hbel := Lib.hid hbel
      go_wp2_with (at_builtin; refine wpList_append_ow okB _ rfl (.tmp 11) (.tmp 15) _ rfl w.heap.size info_u8 Tryz.underlying22 rfl A k c _ rfl (hown.alloc _) (some ⟨wr.heap.size, 0, none⟩) 1 1 (wr.heap.size + 1) [UInt8.ofNat q] rfl hrd rfl (by unfold maxLen; omega) (by omega) (by simp; have := Hbel.out.size; omega) ?_; intro A' c' w1 hown1 hgr1 hat1)
      have hb1 : Below w.heap.size w w1 := (Hbel.out.alloc Hbel.out.size _).grown hgr1 (by simp; have := Hbel.out.size; omega) (fun g hg => (hown.lt g hg).1)
      refine ⟨⟨k + 1, q / 256, A', c', by omega, by go_num, div_next m k q Hq.out, congrArg _ (by omega), rfl, ?_, hb1⟩, by simp [intOf]; omega⟩
      rw [packL_succ, ← Hq.out]
      exact hown1
    · obtain rfl : s = k := by omega
      have h0 : ((s : Int) - (s : Int)) = 0 := by omega
      rw [h0]
      go_wp2
      go_ret
      exact ⟨_, _, rfl, hown, hbel⟩

/-- What PackWord answers: the code and the bytes. -/
def packM (n size : Int) : Int × List UInt8 :=
  if 1 ≤ size ∧ size ≤ 4 ∧ 0 ≤ n ∧ n < 256 ^ size.toNat then (0, packL n.toNat size.toNat) else (3, [])

theorem packM_bad {n size : Int} (h : ¬ (1 ≤ size ∧ size ≤ 4 ∧ 0 ≤ n ∧ n < 256 ^ size.toNat)) : packM n size = (3, []) := if_neg h
theorem packM_nat {m s : Nat} (h1 : 1 ≤ s) (h4 : s ≤ 4) (hm : m < 256 ^ s) : packM m s = (0, packL m s) := by
  have h : (m : Int) < 256 ^ (s : Int).toNat := by
    rw [Int.toNat_natCast]
    have h := Int.ofNat_lt.2 hm
    rw [Int.natCast_pow] at h
    exact h
  unfold packM
  rw [if_pos ⟨by omega, by omega, by omega, h⟩, Int.toNat_natCast, Int.toNat_natCast]

/-! ### impl.PackWord -/
set_option maxHeartbeats 400000 in
theorem implPackWord_size (n size : Int) (w : World) (h : ¬ (1 ≤ size ∧ size ≤ 4)) :
    Calls Tryz.prog 36 #[.int .i64 n, .int .i64 size] w fun e w' => RetBR (packM n size) w e w' := by
  have Hf := Lib.hid (packM_bad (n := n) (size := size) (by omega))
  have hin : inB (size, 1, 4) = false := by simp only [inB, Bool.and_eq_false_iff, decide_eq_false_iff_not]; omega
  go_enter Tryz.func36, Tryz.ntmps36
  go_wp2_with (go_at_call 82; refine (isWordSize_any _ _).mono ?_; rintro e w1 ⟨rfl, hb1⟩; obtain ⟨hc1, hf1⟩ := bcell hb1; have hz1 : w.heap.size < w1.heap.size := by have := hb1.size; simp at this; omega)
  have hB1 : Below w.heap.size w w1 := ((Below.refl _ _).alloc (Nat.le_refl _) _).trans (hb1.mono (by simp))
  refine bodyPost_ret (v := .agg #[.int .i64 3, .slice none 0 0]) (by simp [results, Tryz.results36, go_sem, hc1]) rfl ?_
  rw [Hf.out]
  exact ⟨none, 0, 0, rfl, Ow.nil, (hB1.setCell (Nat.le_refl _) _).setCell (Nat.le_refl _) _⟩

theorem packL_at {m s k : Nat} (h : k < s) : (packL m s)[k]? = some (UInt8.ofNat (m / 256 ^ k)) := by simp [packL, h]
theorem shr_byte (m j : Nat) : (m : Int) / 2 ^ (8 * j) % 256 = ((UInt8.ofNat (m / 256 ^ j)).toNat : Int) := by
  rw [byte_num, Int.natCast_ediv, Int.natCast_pow]
  have h : (2 : Int) ^ (8 * j) = ((256 : Nat) : Int) ^ j := by rw [Int.pow_mul]; rfl
  rw [h]
def ImplRel (w : World) (m s g t : Nat) (vi : Value) (wr : World) : Prop :=
  At wr w.heap.size t #[.int .i64 0, .slice none 0 0] ∧ ToRel eB 0 w g (packL m s) s vi wr

set_option maxHeartbeats 400000 in
theorem implPackWord_no1 (n : Int) (w : World) (hn : ¬ (0 ≤ n ∧ n ≤ 255)) :
    Calls Tryz.prog 36 #[.int .i64 n, .int .i64 1] w fun e w' => RetBR (packM n 1) w e w' := by
  have hin : inB (1, 1, 4) = true := rfl
  have hno : [(n, (0 : Int), (255 : Int))].all inB = false := by simp [inB]; omega
  have Hf := Lib.hid (packM_bad (n := n) (size := 1) (by simp; omega))
  go_enter Tryz.func36, Tryz.ntmps36
  go_wp2_with (go_at_call 82; refine (isWordSize_any _ _).mono ?_; rintro e w1 ⟨rfl, hb1⟩; have a1 := (At.new w _ _).below hb1 (by simp))
  have z1 := a1.lt
  have hB1 : Below w.heap.size w w1 := ((Below.refl _ _).alloc (Nat.le_refl _) _).trans (hb1.mono (by simp))
  refine (areWithin_any _ _ _ [(n, 0, 255)] _ (bnds_one (by simp)) (by simp) rfl (by simp)).mono ?_
  rintro e w2 ⟨rfl, hb2⟩
  have a2 := (a1.alloc _).below hb2 (by simp; omega)
  have hB2 : Below w.heap.size w w2 := (hB1.alloc (by omega) _).trans (hb2.mono (by simp; omega))
  obtain ⟨r0, r1, f0, f1⟩ := a2.two
  go_wp2
  refine bodyPost_ret (v := .agg #[.int .i64 3, .slice none 0 0]) (by simp [results, Tryz.results36, go_sem, r0, r1]) rfl ?_
  rw [Hf.out]
  exact ⟨none, 0, 0, rfl, Ow.nil, (hB2.setCell (Nat.le_refl _) _).setCell (Nat.le_refl _) _⟩

set_option maxRecDepth 100000 in
set_option maxHeartbeats 400000 in
theorem implPackWord_yes1 (m : Nat) (w : World) (hn : m ≤ 255) :
    Calls Tryz.prog 36 #[.int .i64 m, .int .i64 1] w fun e w' => RetBR (packM m 1) w e w' := by
  have hin : inB (1, 1, 4) = true := rfl
  have hno : [((m : Int), (0 : Int), (255 : Int))].all inB = true := by simp [inB]; omega
  have Hf := Lib.hid (show packM (m : Int) 1 = (0, packL m 1) from packM_nat (s := 1) (by omega) (by omega) (by omega))
  go_enter Tryz.func36, Tryz.ntmps36
  go_wp2_with (go_at_call 82; refine (isWordSize_any _ _).mono ?_; rintro e w1 ⟨rfl, hb1⟩; have a1 := (At.new w _ _).below hb1 (by simp))
  have z1 := a1.lt
  have hB1 : Below w.heap.size w w1 := ((Below.refl _ _).alloc (Nat.le_refl _) _).trans (hb1.mono (by simp))
  refine (areWithin_any _ _ _ [((m : Int), 0, 255)] _ (bnds_one (by simp)) (by simp) rfl (by simp)).mono ?_
  rintro e w2 ⟨rfl, hb2⟩
  have a2 := (a1.alloc _).below hb2 (by simp; omega)
  have hB2 : Below w.heap.size w w2 := (hB1.alloc (by omega) _).trans (hb2.mono (by simp; omega))
  have z2 := a2.lt
  go_wp2_with (refine wpList_make_ow okB _ rfl _ _ _ rfl w.heap.size info_u8 Tryz.underlying22 0 rfl .i64 .i64 1 1 1 rfl rfl rfl rfl (by omega) (by unfold maxLen; omega) (by omega) ?_; intro w3 hown hg3)
  have a3 := a2.grown hg3 (by simp)
  have hB3 : Below w.heap.size w w3 := hB2.grown hg3 (by omega) (by simp)
  have z3 := (hown.lt w2.heap.size rfl).2
  go_loopw [6, 26] (fun _ vi wr => ImplRel w m 1 w2.heap.size 30 vi wr) (fun _ vi _ => 1 - (intOf vi).toNat)
  case atStart => exact ⟨a3, 0, by omega, rfl, hown, hB3⟩
  case round =>
    obtain ⟨ar, j, hj, rfl, hown, hbel⟩ := hrel
    by_cases hlt : j < 1
    · have cb := hown.byteAt (part_at 0 (packL m 1) 1 j hlt (packL_len _ _))
      have fb := hown.frozenAt j
      go_wp2
      rw [shr_byte]
      refine ⟨⟨ar.far (by simp; omega) _, j + 1, by omega, by go_num, ?_, hbel.setCell (by simp; omega) _⟩, by simp [intOf]; omega⟩
      rw [← set_next 0 (packL m 1) 1 j _ hlt (packL_len _ _) (packL_at hlt)]
      exact (hown.byteSet hlt _).1
    · have hall := toRel_end hown (by omega) (packL_len _ _)
      obtain ⟨r0, r1, f0, f1⟩ := ar.two
      obtain rfl : j = 1 := by omega
      clear hown
      go_wp2
      refine bodyPost_ret (v := .agg #[.int .i64 0, .slice (some ⟨w2.heap.size, 0, none⟩) 1 1]) (by simp [results, Tryz.results36, go_sem, r0, r1]) rfl ?_
      rw [Hf.out]
      exact ⟨_, _, _, rfl, ((hall.grown (grown_setCell _ ⟨w.heap.size, 0, none⟩ _) (by simp; omega)).grown (grown_setCell _ ⟨w.heap.size, 1, none⟩ _) (by simp; omega)), (hbel.setCell (Nat.le_refl _) _).setCell (Nat.le_refl _) _⟩
set_option maxHeartbeats 400000 in
theorem implPackWord_no2 (n : Int) (w : World) (hn : ¬ (0 ≤ n ∧ n ≤ 65535)) :
    Calls Tryz.prog 36 #[.int .i64 n, .int .i64 2] w fun e w' => RetBR (packM n 2) w e w' := by
  have hin : inB (2, 1, 4) = true := rfl
  have hno : [(n, (0 : Int), (65535 : Int))].all inB = false := by simp [inB]; omega
  have Hf := Lib.hid (packM_bad (n := n) (size := 2) (by simp; omega))
  go_enter Tryz.func36, Tryz.ntmps36
  go_wp2_with (go_at_call 82; refine (isWordSize_any _ _).mono ?_; rintro e w1 ⟨rfl, hb1⟩; have a1 := (At.new w _ _).below hb1 (by simp))
  have z1 := a1.lt
  have hB1 : Below w.heap.size w w1 := ((Below.refl _ _).alloc (Nat.le_refl _) _).trans (hb1.mono (by simp))
  refine (areWithin_any _ _ _ [(n, 0, 65535)] _ (bnds_one (by simp)) (by simp) rfl (by simp)).mono ?_
  rintro e w2 ⟨rfl, hb2⟩
  have a2 := (a1.alloc _).below hb2 (by simp; omega)
  have hB2 : Below w.heap.size w w2 := (hB1.alloc (by omega) _).trans (hb2.mono (by simp; omega))
  obtain ⟨r0, r1, f0, f1⟩ := a2.two
  go_wp2
  refine bodyPost_ret (v := .agg #[.int .i64 3, .slice none 0 0]) (by simp [results, Tryz.results36, go_sem, r0, r1]) rfl ?_
  rw [Hf.out]
  exact ⟨none, 0, 0, rfl, Ow.nil, (hB2.setCell (Nat.le_refl _) _).setCell (Nat.le_refl _) _⟩

set_option maxRecDepth 100000 in
set_option maxHeartbeats 400000 in
theorem implPackWord_yes2 (m : Nat) (w : World) (hn : m ≤ 65535) :
    Calls Tryz.prog 36 #[.int .i64 m, .int .i64 2] w fun e w' => RetBR (packM m 2) w e w' := by
  have hin : inB (2, 1, 4) = true := rfl
  have hno : [((m : Int), (0 : Int), (65535 : Int))].all inB = true := by simp [inB]; omega
  have Hf := Lib.hid (show packM (m : Int) 2 = (0, packL m 2) from packM_nat (s := 2) (by omega) (by omega) (by omega))
  go_enter Tryz.func36, Tryz.ntmps36
  go_wp2_with (go_at_call 82; refine (isWordSize_any _ _).mono ?_; rintro e w1 ⟨rfl, hb1⟩; have a1 := (At.new w _ _).below hb1 (by simp))
  have z1 := a1.lt
  have hB1 : Below w.heap.size w w1 := ((Below.refl _ _).alloc (Nat.le_refl _) _).trans (hb1.mono (by simp))
  refine (areWithin_any _ _ _ [((m : Int), 0, 65535)] _ (bnds_one (by simp)) (by simp) rfl (by simp)).mono ?_
  rintro e w2 ⟨rfl, hb2⟩
  have a2 := (a1.alloc _).below hb2 (by simp; omega)
  have hB2 : Below w.heap.size w w2 := (hB1.alloc (by omega) _).trans (hb2.mono (by simp; omega))
  have z2 := a2.lt
  go_wp2_with (refine wpList_make_ow okB _ rfl _ _ _ rfl w.heap.size info_u8 Tryz.underlying22 0 rfl .i64 .i64 2 2 2 rfl rfl rfl rfl (by omega) (by unfold maxLen; omega) (by omega) ?_; intro w3 hown hg3)
  have a3 := a2.grown hg3 (by simp)
  have hB3 : Below w.heap.size w w3 := hB2.grown hg3 (by omega) (by simp)
  have z3 := (hown.lt w2.heap.size rfl).2
  go_loopw [6, 26] (fun _ vi wr => ImplRel w m 2 w2.heap.size 30 vi wr) (fun _ vi _ => 2 - (intOf vi).toNat)
  case atStart => exact ⟨a3, 0, by omega, rfl, hown, hB3⟩
  case round =>
    obtain ⟨ar, j, hj, rfl, hown, hbel⟩ := hrel
    by_cases hlt : j < 2
    · have cb := hown.byteAt (part_at 0 (packL m 2) 2 j hlt (packL_len _ _))
      have fb := hown.frozenAt j
      have Hset := Lib.hid (set_next 0 (packL m 2) 2 j _ hlt (packL_len _ _) (packL_at hlt))
      have Hst := Lib.hid (hown.byteSet hlt (UInt8.ofNat (m / 256 ^ j))).1
      rcases (show j = 0 ∨ j = 1 by omega) with rfl | rfl
      · go_wp2
        rw [show (m : Int) % 256 = ((UInt8.ofNat (m / 256 ^ 0)).toNat : Int) by rw [byte_num]; omega]
        exact ⟨⟨ar.far (by simp; omega) _, 1, by omega, by go_num, by rw [← Hset.out]; exact Hst.out, hbel.setCell (by simp; omega) _⟩, by simp [intOf]⟩
      · go_wp2
        rw [show (m : Int) / 256 = ((UInt8.ofNat (m / 256 ^ 1)).toNat : Int) by rw [byte_num]; omega]
        exact ⟨⟨ar.far (by simp; omega) _, 2, by omega, by go_num, by rw [← Hset.out]; exact Hst.out, hbel.setCell (by simp; omega) _⟩, by simp [intOf]⟩
    · have hall := toRel_end hown (by omega) (packL_len _ _)
      obtain ⟨r0, r1, f0, f1⟩ := ar.two
      obtain rfl : j = 2 := by omega
      clear hown
      go_wp2
      refine bodyPost_ret (v := .agg #[.int .i64 0, .slice (some ⟨w2.heap.size, 0, none⟩) 2 2]) (by simp [results, Tryz.results36, go_sem, r0, r1]) rfl ?_
      rw [Hf.out]
      exact ⟨_, _, _, rfl, ((hall.grown (grown_setCell _ ⟨w.heap.size, 0, none⟩ _) (by simp; omega)).grown (grown_setCell _ ⟨w.heap.size, 1, none⟩ _) (by simp; omega)), (hbel.setCell (Nat.le_refl _) _).setCell (Nat.le_refl _) _⟩
set_option maxHeartbeats 400000 in
theorem implPackWord_no3 (n : Int) (w : World) (hn : ¬ (0 ≤ n ∧ n ≤ 16777215)) :
    Calls Tryz.prog 36 #[.int .i64 n, .int .i64 3] w fun e w' => RetBR (packM n 3) w e w' := by
  have hin : inB (3, 1, 4) = true := rfl
  have hno : [(n, (0 : Int), (16777215 : Int))].all inB = false := by simp [inB]; omega
  have Hf := Lib.hid (packM_bad (n := n) (size := 3) (by simp; omega))
  go_enter Tryz.func36, Tryz.ntmps36
  go_wp2_with (go_at_call 82; refine (isWordSize_any _ _).mono ?_; rintro e w1 ⟨rfl, hb1⟩; have a1 := (At.new w _ _).below hb1 (by simp))
  have z1 := a1.lt
  have hB1 : Below w.heap.size w w1 := ((Below.refl _ _).alloc (Nat.le_refl _) _).trans (hb1.mono (by simp))
  refine (areWithin_any _ _ _ [(n, 0, 16777215)] _ (bnds_one (by simp)) (by simp) rfl (by simp)).mono ?_
  rintro e w2 ⟨rfl, hb2⟩
  have a2 := (a1.alloc _).below hb2 (by simp; omega)
  have hB2 : Below w.heap.size w w2 := (hB1.alloc (by omega) _).trans (hb2.mono (by simp; omega))
  obtain ⟨r0, r1, f0, f1⟩ := a2.two
  go_wp2
  refine bodyPost_ret (v := .agg #[.int .i64 3, .slice none 0 0]) (by simp [results, Tryz.results36, go_sem, r0, r1]) rfl ?_
  rw [Hf.out]
  exact ⟨none, 0, 0, rfl, Ow.nil, (hB2.setCell (Nat.le_refl _) _).setCell (Nat.le_refl _) _⟩

set_option maxRecDepth 100000 in
set_option maxHeartbeats 400000 in
theorem implPackWord_yes3 (m : Nat) (w : World) (hn : m ≤ 16777215) :
    Calls Tryz.prog 36 #[.int .i64 m, .int .i64 3] w fun e w' => RetBR (packM m 3) w e w' := by
  have hin : inB (3, 1, 4) = true := rfl
  have hno : [((m : Int), (0 : Int), (16777215 : Int))].all inB = true := by simp [inB]; omega
  have Hf := Lib.hid (show packM (m : Int) 3 = (0, packL m 3) from packM_nat (s := 3) (by omega) (by omega) (by omega))
  go_enter Tryz.func36, Tryz.ntmps36
  go_wp2_with (go_at_call 82; refine (isWordSize_any _ _).mono ?_; rintro e w1 ⟨rfl, hb1⟩; have a1 := (At.new w _ _).below hb1 (by simp))
  have z1 := a1.lt
  have hB1 : Below w.heap.size w w1 := ((Below.refl _ _).alloc (Nat.le_refl _) _).trans (hb1.mono (by simp))
  refine (areWithin_any _ _ _ [((m : Int), 0, 16777215)] _ (bnds_one (by simp)) (by simp) rfl (by simp)).mono ?_
  rintro e w2 ⟨rfl, hb2⟩
  have a2 := (a1.alloc _).below hb2 (by simp; omega)
  have hB2 : Below w.heap.size w w2 := (hB1.alloc (by omega) _).trans (hb2.mono (by simp; omega))
  have z2 := a2.lt
  go_wp2_with (refine wpList_make_ow okB _ rfl _ _ _ rfl w.heap.size info_u8 Tryz.underlying22 0 rfl .i64 .i64 3 3 3 rfl rfl rfl rfl (by omega) (by unfold maxLen; omega) (by omega) ?_; intro w3 hown hg3)
  have a3 := a2.grown hg3 (by simp)
  have hB3 : Below w.heap.size w w3 := hB2.grown hg3 (by omega) (by simp)
  have z3 := (hown.lt w2.heap.size rfl).2
  go_loopw [6, 26] (fun _ vi wr => ImplRel w m 3 w2.heap.size 30 vi wr) (fun _ vi _ => 3 - (intOf vi).toNat)
  case atStart => exact ⟨a3, 0, by omega, rfl, hown, hB3⟩
  case round =>
    obtain ⟨ar, j, hj, rfl, hown, hbel⟩ := hrel
    by_cases hlt : j < 3
    · have cb := hown.byteAt (part_at 0 (packL m 3) 3 j hlt (packL_len _ _))
      have fb := hown.frozenAt j
      have Hset := Lib.hid (set_next 0 (packL m 3) 3 j _ hlt (packL_len _ _) (packL_at hlt))
      have Hst := Lib.hid (hown.byteSet hlt (UInt8.ofNat (m / 256 ^ j))).1
      rcases (show j = 0 ∨ j = 1 ∨ j = 2 by omega) with rfl | rfl | rfl
      · go_wp2
        rw [show (m : Int) % 256 = ((UInt8.ofNat (m / 256 ^ 0)).toNat : Int) by rw [byte_num]; omega]
        exact ⟨⟨ar.far (by simp; omega) _, 1, by omega, by go_num, by rw [← Hset.out]; exact Hst.out, hbel.setCell (by simp; omega) _⟩, by simp [intOf]⟩
      · go_wp2
        rw [show (m : Int) / 256 % 256 = ((UInt8.ofNat (m / 256 ^ 1)).toNat : Int) by rw [byte_num]; omega]
        exact ⟨⟨ar.far (by simp; omega) _, 2, by omega, by go_num, by rw [← Hset.out]; exact Hst.out, hbel.setCell (by simp; omega) _⟩, by simp [intOf]⟩
      · go_wp2
        rw [show (m : Int) / 65536 = ((UInt8.ofNat (m / 256 ^ 2)).toNat : Int) by rw [byte_num]; omega]
        exact ⟨⟨ar.far (by simp; omega) _, 3, by omega, by go_num, by rw [← Hset.out]; exact Hst.out, hbel.setCell (by simp; omega) _⟩, by simp [intOf]⟩
    · have hall := toRel_end hown (by omega) (packL_len _ _)
      obtain ⟨r0, r1, f0, f1⟩ := ar.two
      obtain rfl : j = 3 := by omega
      clear hown
      go_wp2
      refine bodyPost_ret (v := .agg #[.int .i64 0, .slice (some ⟨w2.heap.size, 0, none⟩) 3 3]) (by simp [results, Tryz.results36, go_sem, r0, r1]) rfl ?_
      rw [Hf.out]
      exact ⟨_, _, _, rfl, ((hall.grown (grown_setCell _ ⟨w.heap.size, 0, none⟩ _) (by simp; omega)).grown (grown_setCell _ ⟨w.heap.size, 1, none⟩ _) (by simp; omega)), (hbel.setCell (Nat.le_refl _) _).setCell (Nat.le_refl _) _⟩
set_option maxHeartbeats 400000 in
theorem implPackWord_no4 (n : Int) (w : World) (hn : ¬ (0 ≤ n ∧ n ≤ 4294967295)) :
    Calls Tryz.prog 36 #[.int .i64 n, .int .i64 4] w fun e w' => RetBR (packM n 4) w e w' := by
  have hin : inB (4, 1, 4) = true := rfl
  have hno : [(n, (0 : Int), (4294967295 : Int))].all inB = false := by simp [inB]; omega
  have Hf := Lib.hid (packM_bad (n := n) (size := 4) (by simp; omega))
  go_enter Tryz.func36, Tryz.ntmps36
  go_wp2_with (go_at_call 82; refine (isWordSize_any _ _).mono ?_; rintro e w1 ⟨rfl, hb1⟩; have a1 := (At.new w _ _).below hb1 (by simp))
  have z1 := a1.lt
  have hB1 : Below w.heap.size w w1 := ((Below.refl _ _).alloc (Nat.le_refl _) _).trans (hb1.mono (by simp))
  refine (areWithin_any _ _ _ [(n, 0, 4294967295)] _ (bnds_one (by simp)) (by simp) rfl (by simp)).mono ?_
  rintro e w2 ⟨rfl, hb2⟩
  have a2 := (a1.alloc _).below hb2 (by simp; omega)
  have hB2 : Below w.heap.size w w2 := (hB1.alloc (by omega) _).trans (hb2.mono (by simp; omega))
  obtain ⟨r0, r1, f0, f1⟩ := a2.two
  go_wp2
  refine bodyPost_ret (v := .agg #[.int .i64 3, .slice none 0 0]) (by simp [results, Tryz.results36, go_sem, r0, r1]) rfl ?_
  rw [Hf.out]
  exact ⟨none, 0, 0, rfl, Ow.nil, (hB2.setCell (Nat.le_refl _) _).setCell (Nat.le_refl _) _⟩

set_option maxRecDepth 100000 in
set_option maxHeartbeats 400000 in
theorem implPackWord_yes4 (m : Nat) (w : World) (hn : m ≤ 4294967295) :
    Calls Tryz.prog 36 #[.int .i64 m, .int .i64 4] w fun e w' => RetBR (packM m 4) w e w' := by
  have hin : inB (4, 1, 4) = true := rfl
  have hno : [((m : Int), (0 : Int), (4294967295 : Int))].all inB = true := by simp [inB]; omega
  have Hf := Lib.hid (show packM (m : Int) 4 = (0, packL m 4) from packM_nat (s := 4) (by omega) (by omega) (by omega))
  go_enter Tryz.func36, Tryz.ntmps36
  go_wp2_with (go_at_call 82; refine (isWordSize_any _ _).mono ?_; rintro e w1 ⟨rfl, hb1⟩; have a1 := (At.new w _ _).below hb1 (by simp))
  have z1 := a1.lt
  have hB1 : Below w.heap.size w w1 := ((Below.refl _ _).alloc (Nat.le_refl _) _).trans (hb1.mono (by simp))
  refine (areWithin_any _ _ _ [((m : Int), 0, 4294967295)] _ (bnds_one (by simp)) (by simp) rfl (by simp)).mono ?_
  rintro e w2 ⟨rfl, hb2⟩
  have a2 := (a1.alloc _).below hb2 (by simp; omega)
  have hB2 : Below w.heap.size w w2 := (hB1.alloc (by omega) _).trans (hb2.mono (by simp; omega))
  have z2 := a2.lt
  go_wp2_with (refine wpList_make_ow okB _ rfl _ _ _ rfl w.heap.size info_u8 Tryz.underlying22 0 rfl .i64 .i64 4 4 4 rfl rfl rfl rfl (by omega) (by unfold maxLen; omega) (by omega) ?_; intro w3 hown hg3)
  have a3 := a2.grown hg3 (by simp)
  have hB3 : Below w.heap.size w w3 := hB2.grown hg3 (by omega) (by simp)
  have z3 := (hown.lt w2.heap.size rfl).2
  go_loopw [6, 26] (fun _ vi wr => ImplRel w m 4 w2.heap.size 30 vi wr) (fun _ vi _ => 4 - (intOf vi).toNat)
  case atStart => exact ⟨a3, 0, by omega, rfl, hown, hB3⟩
  case round =>
    obtain ⟨ar, j, hj, rfl, hown, hbel⟩ := hrel
    by_cases hlt : j < 4
    · have cb := hown.byteAt (part_at 0 (packL m 4) 4 j hlt (packL_len _ _))
      have fb := hown.frozenAt j
      have Hset := Lib.hid (set_next 0 (packL m 4) 4 j _ hlt (packL_len _ _) (packL_at hlt))
      have Hst := Lib.hid (hown.byteSet hlt (UInt8.ofNat (m / 256 ^ j))).1
      rcases (show j = 0 ∨ j = 1 ∨ j = 2 ∨ j = 3 by omega) with rfl | rfl | rfl | rfl
      · go_wp2
        rw [show (m : Int) % 256 = ((UInt8.ofNat (m / 256 ^ 0)).toNat : Int) by rw [byte_num]; omega]
        exact ⟨⟨ar.far (by simp; omega) _, 1, by omega, by go_num, by rw [← Hset.out]; exact Hst.out, hbel.setCell (by simp; omega) _⟩, by simp [intOf]⟩
      · go_wp2
        rw [show (m : Int) / 256 % 256 = ((UInt8.ofNat (m / 256 ^ 1)).toNat : Int) by rw [byte_num]; omega]
        exact ⟨⟨ar.far (by simp; omega) _, 2, by omega, by go_num, by rw [← Hset.out]; exact Hst.out, hbel.setCell (by simp; omega) _⟩, by simp [intOf]⟩
      · go_wp2
        rw [show (m : Int) / 65536 % 256 = ((UInt8.ofNat (m / 256 ^ 2)).toNat : Int) by rw [byte_num]; omega]
        exact ⟨⟨ar.far (by simp; omega) _, 3, by omega, by go_num, by rw [← Hset.out]; exact Hst.out, hbel.setCell (by simp; omega) _⟩, by simp [intOf]⟩
      · go_wp2
        rw [show (m : Int) / 16777216 = ((UInt8.ofNat (m / 256 ^ 3)).toNat : Int) by rw [byte_num]; omega]
        exact ⟨⟨ar.far (by simp; omega) _, 4, by omega, by go_num, by rw [← Hset.out]; exact Hst.out, hbel.setCell (by simp; omega) _⟩, by simp [intOf]⟩
    · have hall := toRel_end hown (by omega) (packL_len _ _)
      obtain ⟨r0, r1, f0, f1⟩ := ar.two
      obtain rfl : j = 4 := by omega
      clear hown
      go_wp2
      refine bodyPost_ret (v := .agg #[.int .i64 0, .slice (some ⟨w2.heap.size, 0, none⟩) 4 4]) (by simp [results, Tryz.results36, go_sem, r0, r1]) rfl ?_
      rw [Hf.out]
      exact ⟨_, _, _, rfl, ((hall.grown (grown_setCell _ ⟨w.heap.size, 0, none⟩ _) (by simp; omega)).grown (grown_setCell _ ⟨w.heap.size, 1, none⟩ _) (by simp; omega)), (hbel.setCell (Nat.le_refl _) _).setCell (Nat.le_refl _) _⟩

theorem implPackWord (n size : Int) (w : World) :
    Calls Tryz.prog 36 #[.int .i64 n, .int .i64 size] w fun e w' => RetBR (packM n size) w e w' := by
  by_cases h : 1 ≤ size ∧ size ≤ 4
  · have h4 : size = 1 ∨ size = 2 ∨ size = 3 ∨ size = 4 := by omega
    rcases h4 with rfl | rfl | rfl | rfl
    · by_cases hn : 0 ≤ n ∧ n ≤ 255
      · obtain ⟨m, rfl⟩ := Int.eq_ofNat_of_zero_le hn.1
        exact implPackWord_yes1 m w (by omega)
      · exact implPackWord_no1 n w hn
    · by_cases hn : 0 ≤ n ∧ n ≤ 65535
      · obtain ⟨m, rfl⟩ := Int.eq_ofNat_of_zero_le hn.1
        exact implPackWord_yes2 m w (by omega)
      · exact implPackWord_no2 n w hn
    · by_cases hn : 0 ≤ n ∧ n ≤ 16777215
      · obtain ⟨m, rfl⟩ := Int.eq_ofNat_of_zero_le hn.1
        exact implPackWord_yes3 m w (by omega)
      · exact implPackWord_no3 n w hn
    · by_cases hn : 0 ≤ n ∧ n ≤ 4294967295
      · obtain ⟨m, rfl⟩ := Int.eq_ofNat_of_zero_le hn.1
        exact implPackWord_yes4 m w (by omega)
      · exact implPackWord_no4 n w hn
  · exact implPackWord_size n size w h
end Go.Proofs.YtmaillakhhdkfaaGreatDoor
/-
  A sample's bytes: the model's.
-/
namespace Go.Proofs.YtmaillakhhdkfaaGreatDoor
set_option maxRecDepth 20000
open Go.RowKit

/-- The bytes of four numbers, the last one above its low bound. -/
def encL (n0 n1 n2 n3 : Nat) : List UInt8 := [UInt8.ofNat n0] ++ packL n1 2 ++ packL n2 2 ++ packL n3 2
theorem pack1 (n : Nat) : packL n 1 = [UInt8.ofNat n] := by simp [packL]
theorem pack2 (n : Nat) : packL n 2 = [UInt8.ofNat n, UInt8.ofNat (n / 256)] := by simp [packL, List.range_succ]
theorem encL_eq (n0 n1 n2 n3 : Nat) : encL n0 n1 n2 n3 = [UInt8.ofNat n0, UInt8.ofNat n1, UInt8.ofNat (n1 / 256), UInt8.ofNat n2, UInt8.ofNat (n2 / 256), UInt8.ofNat n3, UInt8.ofNat (n3 / 256)] := by
  simp [encL, pack2]

theorem byte_small1 {n : Nat} (h : n < 256) : ((UInt8.ofNat n).toNat : Int) = (n : Int) := by
  rw [UInt8.toNat_ofNat']
  omega
theorem ow_byte (w : World) (b : UInt8) (v : Int) (hv : v = (b.toNat : Int)) : Ow eB ((w.alloc (.cells #[.int .u8 v] 5)).drew) w.heap.size (some ⟨w.heap.size, 0, none⟩) 1 1 [b] :=
  Ow.lit w [b] _ 1 (Nat.le_refl _) (by unfold maxLen; omega) (by simp [Enc.row, eB, hv]) rfl

/-- append as one step of a region: as 'wpList_append_ow'. -/
theorem wp_append_ow {P : Program} {α : Type} {E : Enc α} (hE : EncOk E) (w : World) {o : Oper} {a : Act} {K : Act → World → Prop} {Q : Exit → Act → World → Prop} (s x : Operand) (t : TypeId)
    (ho : o.op = .call { callee := .builtin .append, args := #[s, x], argTypes := #[t, t] })
    (base : Nat) {z : Value} {bytes : Nat} (hinfo : (P.info? E.tid).map (fun i => (i.zero, i.size, i.bytes)) = some (some z, E.size, bytes)) (ht : P.underlying t = some (.slice E.tid)) (hzs : z.cells.size = E.size)
    (A : Option Addr) (n c : Nat) (l : List α) (hs : a.eval s = .slice A n c) (hown : Ow E w base A n c l)
    (X : Option Addr) (m d hi' : Nat) (news : List α) (hx : a.eval x = .slice X m d) (hX : Rd E w hi' X news) (hm : news.length = m)
    (h63 : n + m ≤ maxLen) (hbytes : (n + m) * bytes ≤ 140737488355328) (hbase : base ≤ w.heap.size)
    (h : ∀ A' c' w', Ow E w' base A' (n + m) c' (l ++ news) → w.grownBy w' (A.map (·.block)) → (A'.map (·.block) = A.map (·.block) ∨ A'.map (·.block) = some w.heap.size) → K (a.put o.dst (.slice A' (n + m) c')) w') : o.wp P a w K Q := by
  obtain ⟨i, hi, hz, hsz, hby⟩ := info_parts hinfo
  obtain ⟨A', c', w', hrun, h2, h3, h4⟩ := run_append_ow (P := P) hE w base t o.type i z bytes ht hi hz hsz hby hzs A n c l hown X m d hi' news hX hm h63 hbytes hbase
  unfold Oper.wp execOp
  simp only [ho, resolve, invoke, builtin, Sem.run_bind, Sem.run_pure, Result.andThen_ok, List.map_toArray, List.map_cons, List.map_nil, hs, hx, hrun]
  exact h A' c' w' h2 h3 h4

/-- A sample's answer of code and bytes. -/
def encodeM (x : Smp) : Int × List UInt8 := if faultM x = 0 then (0, encL x.1.toNat x.2.1.toNat x.2.2.1.toNat (x.2.2.2 + 1000).toNat) else (3, [])
theorem faultM_in {a0 a1 a2 a3 : Int} (h : faultM (a0, a1, a2, a3) = 0) : (0 ≤ a0 ∧ a0 ≤ 9) ∧ (0 ≤ a1 ∧ a1 ≤ 999) ∧ (0 ≤ a2 ∧ a2 ≤ 9999) ∧ -1000 ≤ a3 ∧ a3 ≤ 1000 := by
  unfold faultM at h
  split at h
  · rename_i hh
    simpa [bndsM, inB] using hh
  · cases h
/-- No fault: the numbers. -/
theorem faultM_nat {a0 a1 a2 a3 : Int} (h : faultM (a0, a1, a2, a3) = 0) : ∃ n0 n1 n2 n3 : Nat, a0 = n0 ∧ a1 = n1 ∧ a2 = n2 ∧ a3 = (n3 : Int) - 1000 ∧ n0 ≤ 9 ∧ n1 ≤ 999 ∧ n2 ≤ 9999 ∧ n3 ≤ 2000 := by
  obtain ⟨h0, h1, h2, h3⟩ := faultM_in h
  exact ⟨a0.toNat, a1.toNat, a2.toNat, (a3 + 1000).toNat, by omega, by omega, by omega, by omega, by omega, by omega, by omega, by omega⟩
theorem encodeM_nat {n0 n1 n2 n3 : Nat} (h : faultM ((n0 : Int), (n1 : Int), (n2 : Int), (n3 : Int) - 1000) = 0) : encodeM ((n0 : Int), (n1 : Int), (n2 : Int), (n3 : Int) - 1000) = (0, encL n0 n1 n2 n3) := by
  unfold encodeM
  rw [if_pos h]
  simp only [Int.toNat_natCast, Int.sub_add_cancel]
theorem encodeM_no {x : Smp} (h : faultM x = 3) : encodeM x = (3, []) := by
  unfold encodeM
  rw [h]
  rfl

end Go.Proofs.YtmaillakhhdkfaaGreatDoor
/-
  Samples that are drawn, and bytes of samples.
-/
namespace Go.Proofs.YtmaillakhhdkfaaGreatDoor
set_option maxRecDepth 20000
open Go.RowKit
set_option linter.unusedSimpArgs false

theorem At.newAt {w : World} {g : Nat} {t : TypeId} {cs : Array Value} (h : w.heap.size = g) : At (w.alloc (.cells cs t)) g t cs := by
  subst h
  exact At.new w t cs
theorem pick_val {xs : List Int} {v : Int} (h : v ∈ xs) (ha : (xs.all fun x => decide (-1000 ≤ x ∧ x ≤ 1000)) = true) : ∃ q : Nat, v = (q : Int) - 1000 ∧ q ≤ 2000 := by
  have := List.all_eq_true.1 ha v h
  simp only [decide_eq_true_eq] at this
  exact ⟨(v + 1000).toNat, by omega, by omega⟩
theorem Within.put {a w : World} {lo hi : Nat} (h : Within lo hi w a) {p : Addr} (hp : w.heap.size ≤ p.block) (u : Value) : Within lo hi w (a.setCell p u) :=
  h.push (grown_setCell a p u) (fun g hg => by obtain rfl := Option.some.inj hg; exact hp)
theorem Src.put {w : World} {base g n c k : Nat} {A : Option Addr} {l : List UInt8} (h : Src w base g A n c k l) {p : Addr} (hp : g < p.block) (u : Value) : Src (w.setCell p u) base g A n c k l :=
  h.grown (grown_setCell w p u) (fun x hx => by obtain rfl := Option.some.inj hx; exact hp)

set_option maxHeartbeats 1000000 in
theorem l2Draw (w : World) (base g : Nat) (A : Option Addr) (m c k : Nat) (l : List UInt8) (h : Src w base g A m c k l) (hk : k < 1000000000) :
    Calls Tryz.prog 84 #[.pointer (some ⟨g, 0, none⟩)] w fun e w' => ∃ n0 n1 n2 n3 : Nat, e = .returned (.agg #[.int .i64 n0, .int .i64 n1, .int .i64 n2, .int .i64 ((n3 : Int) - 1000)]) ∧ n0 ≤ 9 ∧ n1 ≤ 999 ∧ n2 ≤ 9999 ∧ n3 ≤ 2000 ∧ Src w' base g A m c (k + 4) l ∧ Within g (g + 1) w w' := by
  have g0 := h.at_.lt
  have s0 := h.alloc (.cells #[.int .i64 0, .int .i64 0, .int .i64 0, .int .i64 0] 25)
  have WI0 := (Within.refl g (g + 1) w).alloc (.cells #[.int .i64 0, .int .i64 0, .int .i64 0, .int .i64 0] 25)
  have r0 := At.new w 25 #[.int .i64 0, .int .i64 0, .int .i64 0, .int .i64 0]
  go_enter Tryz.func84, Tryz.ntmps84
  go_wp2_with fail
  refine (l1Pick ((w.alloc (.cells #[.int .i64 0, .int .i64 0, .int .i64 0, .int .i64 0] 25)).alloc (.cells #[.int .i64 0, .int .i64 1, .int .i64 2, .int .i64 9] 2)) _ _ A m c k l (w.heap.size + 1) #[.int .i64 0, .int .i64 1, .int .i64 2, .int .i64 9] [0, 1, 2, 9] 4 4 (s0.alloc _) (by omega) (At.newAt (by first | rfl | simp)) (by simp [intCells]) (by omega) rfl (by omega) (by omega)).mono ?_
  rintro e w1 ⟨v1, hv1, rfl, s1, hw1, -⟩
  have g1 := s1.at_.lt
  have WI1 := (WI0.alloc (.cells #[.int .i64 0, .int .i64 1, .int .i64 2, .int .i64 9] 2)).trans hw1
  have z1 := WI1.size
  have r1 := (r0.alloc (.cells #[.int .i64 0, .int .i64 1, .int .i64 2, .int .i64 9] 2)).within hw1 (by omega)
  obtain ⟨q1, rfl, hq1⟩ := pick_nat 9 hv1 rfl
  clear hv1
  go_wp2_with fail
  refine (l1Pick (w1.alloc (.cells #[.int .i64 0, .int .i64 5, .int .i64 7, .int .i64 999, .int .i64 6] 2)) _ _ A m c (k + 1) l w1.heap.size #[.int .i64 0, .int .i64 5, .int .i64 7, .int .i64 999, .int .i64 6] [0, 5, 7, 999, 6] 5 5 (s1.alloc _) (by omega) (At.newAt (by first | rfl | simp)) (by simp [intCells]) (by omega) rfl (by omega) (by omega)).mono ?_
  rintro e w2 ⟨v2, hv2, rfl, s2, hw2, -⟩
  have g2 := s2.at_.lt
  have WI2 := (WI1.alloc (.cells #[.int .i64 0, .int .i64 5, .int .i64 7, .int .i64 999, .int .i64 6] 2)).trans hw2
  have z2 := WI2.size
  have r2 := (r1.alloc (.cells #[.int .i64 0, .int .i64 5, .int .i64 7, .int .i64 999, .int .i64 6] 2)).within hw2 (by omega)
  obtain ⟨q2, rfl, hq2⟩ := pick_nat 999 hv2 rfl
  clear hv2
  go_wp2_with fail
  refine (l1Pick (w2.alloc (.cells #[.int .i64 0, .int .i64 1, .int .i64 2, .int .i64 3, .int .i64 9999] 2)) _ _ A m c (k + 1 + 1) l w2.heap.size #[.int .i64 0, .int .i64 1, .int .i64 2, .int .i64 3, .int .i64 9999] [0, 1, 2, 3, 9999] 5 5 (s2.alloc _) (by omega) (At.newAt (by first | rfl | simp)) (by simp [intCells]) (by omega) rfl (by omega) (by omega)).mono ?_
  rintro e w3 ⟨v3, hv3, rfl, s3, hw3, -⟩
  have g3 := s3.at_.lt
  have WI3 := (WI2.alloc (.cells #[.int .i64 0, .int .i64 1, .int .i64 2, .int .i64 3, .int .i64 9999] 2)).trans hw3
  have z3 := WI3.size
  have r3 := (r2.alloc (.cells #[.int .i64 0, .int .i64 1, .int .i64 2, .int .i64 3, .int .i64 9999] 2)).within hw3 (by omega)
  obtain ⟨q3, rfl, hq3⟩ := pick_nat 9999 hv3 rfl
  clear hv3
  go_wp2_with fail
  refine (l1Pick (w3.alloc (.cells #[.int .i64 0, .int .i64 5, .int .i64 (-5), .int .i64 1000, .int .i64 (-1000)] 2)) _ _ A m c (k + 1 + 1 + 1) l w3.heap.size #[.int .i64 0, .int .i64 5, .int .i64 (-5), .int .i64 1000, .int .i64 (-1000)] [0, 5, (-5), 1000, (-1000)] 5 5 (s3.alloc _) (by omega) (At.newAt (by first | rfl | simp)) (by simp [intCells]) (by omega) rfl (by omega) (by omega)).mono ?_
  rintro e w4 ⟨v4, hv4, rfl, s4, hw4, -⟩
  have g4 := s4.at_.lt
  have WI4 := (WI3.alloc (.cells #[.int .i64 0, .int .i64 5, .int .i64 (-5), .int .i64 1000, .int .i64 (-1000)] 2)).trans hw4
  have z4 := WI4.size
  have r4 := (r3.alloc (.cells #[.int .i64 0, .int .i64 5, .int .i64 (-5), .int .i64 1000, .int .i64 (-1000)] 2)).within hw4 (by omega)
  obtain ⟨q4, rfl, hq4⟩ := pick_val hv4 rfl
  clear hv4
  obtain ⟨c0, c1, c2, c3, f0, f1, f2, f3⟩ := r4.four
  go_wp2_with fail
  refine bodyPost_ret (v := .agg #[.int .i64 q1, .int .i64 q2, .int .i64 q3, .int .i64 ((q4 : Int) - 1000)]) (by simp [results, Tryz.results84, go_sem, c0, c1, c2, c3]) rfl ?_
  exact ⟨q1, q2, q3, q4, rfl, hq1, hq2, hq3, hq4, (((s4.put (p := ⟨w.heap.size, 0, none⟩) g0 _).put (p := ⟨w.heap.size, 1, none⟩) g0 _).put (p := ⟨w.heap.size, 2, none⟩) g0 _).put (p := ⟨w.heap.size, 3, none⟩) g0 _, (((WI4.put (p := ⟨w.heap.size, 0, none⟩) (Nat.le_refl _) _).put (p := ⟨w.heap.size, 1, none⟩) (Nat.le_refl _) _).put (p := ⟨w.heap.size, 2, none⟩) (Nat.le_refl _) _).put (p := ⟨w.heap.size, 3, none⟩) (Nat.le_refl _) _⟩

set_option maxHeartbeats 2000000 in
theorem l2Bent (w : World) (base g : Nat) (A : Option Addr) (m c k : Nat) (l : List UInt8) (h : Src w base g A m c k l) (hk : k < 900000000) :
    Calls Tryz.prog 81 #[.pointer (some ⟨g, 0, none⟩)] w fun e w' => ∃ a0 a1 a2 a3 : Int, e = .returned (.agg #[.int .i64 a0, .int .i64 a1, .int .i64 a2, .int .i64 a3]) ∧ (∃ k' : Nat, k' ≤ k + 6 ∧ Src w' base g A m c k' l) ∧ Within g (g + 1) w w' := by
  have g0 := h.at_.lt
  have s0 := h.alloc (.cells #[.int .i64 0, .int .i64 0, .int .i64 0, .int .i64 0] 25)
  have WI0 := (Within.refl g (g + 1) w).alloc (.cells #[.int .i64 0, .int .i64 0, .int .i64 0, .int .i64 0] 25)
  have r0 := At.new w 25 #[.int .i64 0, .int .i64 0, .int .i64 0, .int .i64 0]
  go_enter Tryz.func81, Tryz.ntmps81
  go_wp2_with fail
  refine (l2Draw _ base g A m c k l s0 (by omega)).mono ?_
  rintro e w1 ⟨n0, n1, n2, n3, rfl, -, -, -, -, s1, hw1⟩
  have WI1 := WI0.trans hw1
  have z1 := WI1.size
  have r1 := r0.within hw1 (by omega)
  have l1 := r1.lt
  have x1 := At.new w1 25 #[.int .i64 n0, .int .i64 n1, .int .i64 n2, .int .i64 ((n3 : Int) - 1000)]
  have s1' := s1.alloc (.cells #[.int .i64 n0, .int .i64 n1, .int .i64 n2, .int .i64 ((n3 : Int) - 1000)] 25)
  have r1' := r1.alloc (.cells #[.int .i64 n0, .int .i64 n1, .int .i64 n2, .int .i64 ((n3 : Int) - 1000)] 25)
  have WI1' := WI1.alloc (.cells #[.int .i64 n0, .int .i64 n1, .int .i64 n2, .int .i64 ((n3 : Int) - 1000)] 25)
  go_wp2_with fail
  refine (l1Next _ base g A m c (k + 4) l 12 s1' (by omega) (by omega)).mono ?_
  rintro e w2 ⟨r, rfl, hr, -, s2, hw2, -⟩
  obtain ⟨hr0, hr1⟩ := hr (by omega)
  have WI2 := WI1'.trans hw2
  have r2 := r1'.within hw2 (by omega)
  have x2 := x1.within hw2 (by have := s1.at_.lt; omega)
  have gx : g < w1.heap.size := s1.at_.lt
  have lx := x2.lt
  have z2 := WI2.size
  generalize ((n3 : Int) - 1000) = y3 at *
  generalize (n0 : Int) = y0 at *
  generalize (n1 : Int) = y1 at *
  generalize (n2 : Int) = y2 at *
  clear hr x1 r1 r1' s1' WI1' WI1 s1 hw1 hw2 WI0 s0 r0
  have hne : ¬ w.heap.size = w1.heap.size := by omega
  obtain ⟨c0, c1, c2, c3, f0, f1, f2, f3⟩ := r2.four
  obtain ⟨d0, d1, d2, d3, e0, e1, e2, e3⟩ := x2.four
  rcases (show r = 0 ∨ r = 1 ∨ r = 2 ∨ r = 3 ∨ 4 ≤ r by omega) with rfl | rfl | rfl | rfl | hr4
  · go_wp2_with fail
    refine (l1Pick (w2.alloc (.cells #[.int .i64 (-1), .int .i64 10] 2)) _ _ A m c (k + 4 + 1) l w2.heap.size #[.int .i64 (-1), .int .i64 10] [(-1), 10] 2 2 (s2.alloc _) (by omega) (At.newAt (by first | rfl | simp)) (by simp [intCells]) (by omega) rfl (by omega) (by omega)).mono ?_
    rintro e w3 ⟨v3, hv3, rfl, s3, hw3, -⟩
    have g3 := s3.at_.lt
    have WI3 := (WI2.alloc (.cells #[.int .i64 (-1), .int .i64 10] 2)).trans hw3
    have z3 := WI3.size
    have r3 := (r2.alloc (.cells #[.int .i64 (-1), .int .i64 10] 2)).within hw3 (by omega)
    have x3 := (x2.alloc (.cells #[.int .i64 (-1), .int .i64 10] 2)).within hw3 (by omega)
    clear c0 c1 c2 c3 f0 f1 f2 f3 d0 d1 d2 d3 e0 e1 e2 e3
    obtain ⟨c0, c1, c2, c3, f0, f1, f2, f3⟩ := r3.four
    obtain ⟨d0, d1, d2, d3, e0, e1, e2, e3⟩ := x3.four
    go_wp2_with fail
    refine bodyPost_ret (v := .agg #[.int .i64 v3, .int .i64 y1, .int .i64 y2, .int .i64 y3]) (by simp [results, Tryz.results81, go_sem, c0, c1, c2, c3]) rfl ?_
    exact ⟨_, _, _, _, rfl, ⟨k + 4 + 1 + 1, by omega, ((((s3.put (p := ⟨w1.heap.size, 0, none⟩) gx _).put (p := ⟨w.heap.size, 0, none⟩) g0 _).put (p := ⟨w.heap.size, 1, none⟩) g0 _).put (p := ⟨w.heap.size, 2, none⟩) g0 _).put (p := ⟨w.heap.size, 3, none⟩) g0 _⟩, ((((WI3.put (p := ⟨w1.heap.size, 0, none⟩) (by show w.heap.size ≤ w1.heap.size; omega) _).put (p := ⟨w.heap.size, 0, none⟩) (Nat.le_refl _) _).put (p := ⟨w.heap.size, 1, none⟩) (Nat.le_refl _) _).put (p := ⟨w.heap.size, 2, none⟩) (Nat.le_refl _) _).put (p := ⟨w.heap.size, 3, none⟩) (Nat.le_refl _) _⟩
  · go_wp2_with fail
    refine (l1Pick (w2.alloc (.cells #[.int .i64 (-1), .int .i64 1000] 2)) _ _ A m c (k + 4 + 1) l w2.heap.size #[.int .i64 (-1), .int .i64 1000] [(-1), 1000] 2 2 (s2.alloc _) (by omega) (At.newAt (by first | rfl | simp)) (by simp [intCells]) (by omega) rfl (by omega) (by omega)).mono ?_
    rintro e w3 ⟨v3, hv3, rfl, s3, hw3, -⟩
    have g3 := s3.at_.lt
    have WI3 := (WI2.alloc (.cells #[.int .i64 (-1), .int .i64 1000] 2)).trans hw3
    have z3 := WI3.size
    have r3 := (r2.alloc (.cells #[.int .i64 (-1), .int .i64 1000] 2)).within hw3 (by omega)
    have x3 := (x2.alloc (.cells #[.int .i64 (-1), .int .i64 1000] 2)).within hw3 (by omega)
    clear c0 c1 c2 c3 f0 f1 f2 f3 d0 d1 d2 d3 e0 e1 e2 e3
    obtain ⟨c0, c1, c2, c3, f0, f1, f2, f3⟩ := r3.four
    obtain ⟨d0, d1, d2, d3, e0, e1, e2, e3⟩ := x3.four
    go_wp2_with fail
    refine bodyPost_ret (v := .agg #[.int .i64 y0, .int .i64 v3, .int .i64 y2, .int .i64 y3]) (by simp [results, Tryz.results81, go_sem, c0, c1, c2, c3]) rfl ?_
    exact ⟨_, _, _, _, rfl, ⟨k + 4 + 1 + 1, by omega, ((((s3.put (p := ⟨w1.heap.size, 1, none⟩) gx _).put (p := ⟨w.heap.size, 0, none⟩) g0 _).put (p := ⟨w.heap.size, 1, none⟩) g0 _).put (p := ⟨w.heap.size, 2, none⟩) g0 _).put (p := ⟨w.heap.size, 3, none⟩) g0 _⟩, ((((WI3.put (p := ⟨w1.heap.size, 1, none⟩) (by show w.heap.size ≤ w1.heap.size; omega) _).put (p := ⟨w.heap.size, 0, none⟩) (Nat.le_refl _) _).put (p := ⟨w.heap.size, 1, none⟩) (Nat.le_refl _) _).put (p := ⟨w.heap.size, 2, none⟩) (Nat.le_refl _) _).put (p := ⟨w.heap.size, 3, none⟩) (Nat.le_refl _) _⟩
  · go_wp2_with fail
    refine (l1Pick (w2.alloc (.cells #[.int .i64 (-1), .int .i64 10000] 2)) _ _ A m c (k + 4 + 1) l w2.heap.size #[.int .i64 (-1), .int .i64 10000] [(-1), 10000] 2 2 (s2.alloc _) (by omega) (At.newAt (by first | rfl | simp)) (by simp [intCells]) (by omega) rfl (by omega) (by omega)).mono ?_
    rintro e w3 ⟨v3, hv3, rfl, s3, hw3, -⟩
    have g3 := s3.at_.lt
    have WI3 := (WI2.alloc (.cells #[.int .i64 (-1), .int .i64 10000] 2)).trans hw3
    have z3 := WI3.size
    have r3 := (r2.alloc (.cells #[.int .i64 (-1), .int .i64 10000] 2)).within hw3 (by omega)
    have x3 := (x2.alloc (.cells #[.int .i64 (-1), .int .i64 10000] 2)).within hw3 (by omega)
    clear c0 c1 c2 c3 f0 f1 f2 f3 d0 d1 d2 d3 e0 e1 e2 e3
    obtain ⟨c0, c1, c2, c3, f0, f1, f2, f3⟩ := r3.four
    obtain ⟨d0, d1, d2, d3, e0, e1, e2, e3⟩ := x3.four
    go_wp2_with fail
    refine bodyPost_ret (v := .agg #[.int .i64 y0, .int .i64 y1, .int .i64 v3, .int .i64 y3]) (by simp [results, Tryz.results81, go_sem, c0, c1, c2, c3]) rfl ?_
    exact ⟨_, _, _, _, rfl, ⟨k + 4 + 1 + 1, by omega, ((((s3.put (p := ⟨w1.heap.size, 2, none⟩) gx _).put (p := ⟨w.heap.size, 0, none⟩) g0 _).put (p := ⟨w.heap.size, 1, none⟩) g0 _).put (p := ⟨w.heap.size, 2, none⟩) g0 _).put (p := ⟨w.heap.size, 3, none⟩) g0 _⟩, ((((WI3.put (p := ⟨w1.heap.size, 2, none⟩) (by show w.heap.size ≤ w1.heap.size; omega) _).put (p := ⟨w.heap.size, 0, none⟩) (Nat.le_refl _) _).put (p := ⟨w.heap.size, 1, none⟩) (Nat.le_refl _) _).put (p := ⟨w.heap.size, 2, none⟩) (Nat.le_refl _) _).put (p := ⟨w.heap.size, 3, none⟩) (Nat.le_refl _) _⟩
  · go_wp2_with fail
    refine (l1Pick (w2.alloc (.cells #[.int .i64 (-1001), .int .i64 1001] 2)) _ _ A m c (k + 4 + 1) l w2.heap.size #[.int .i64 (-1001), .int .i64 1001] [(-1001), 1001] 2 2 (s2.alloc _) (by omega) (At.newAt (by first | rfl | simp)) (by simp [intCells]) (by omega) rfl (by omega) (by omega)).mono ?_
    rintro e w3 ⟨v3, hv3, rfl, s3, hw3, -⟩
    have g3 := s3.at_.lt
    have WI3 := (WI2.alloc (.cells #[.int .i64 (-1001), .int .i64 1001] 2)).trans hw3
    have z3 := WI3.size
    have r3 := (r2.alloc (.cells #[.int .i64 (-1001), .int .i64 1001] 2)).within hw3 (by omega)
    have x3 := (x2.alloc (.cells #[.int .i64 (-1001), .int .i64 1001] 2)).within hw3 (by omega)
    clear c0 c1 c2 c3 f0 f1 f2 f3 d0 d1 d2 d3 e0 e1 e2 e3
    obtain ⟨c0, c1, c2, c3, f0, f1, f2, f3⟩ := r3.four
    obtain ⟨d0, d1, d2, d3, e0, e1, e2, e3⟩ := x3.four
    go_wp2_with fail
    refine bodyPost_ret (v := .agg #[.int .i64 y0, .int .i64 y1, .int .i64 y2, .int .i64 v3]) (by simp [results, Tryz.results81, go_sem, c0, c1, c2, c3]) rfl ?_
    exact ⟨_, _, _, _, rfl, ⟨k + 4 + 1 + 1, by omega, ((((s3.put (p := ⟨w1.heap.size, 3, none⟩) gx _).put (p := ⟨w.heap.size, 0, none⟩) g0 _).put (p := ⟨w.heap.size, 1, none⟩) g0 _).put (p := ⟨w.heap.size, 2, none⟩) g0 _).put (p := ⟨w.heap.size, 3, none⟩) g0 _⟩, ((((WI3.put (p := ⟨w1.heap.size, 3, none⟩) (by show w.heap.size ≤ w1.heap.size; omega) _).put (p := ⟨w.heap.size, 0, none⟩) (Nat.le_refl _) _).put (p := ⟨w.heap.size, 1, none⟩) (Nat.le_refl _) _).put (p := ⟨w.heap.size, 2, none⟩) (Nat.le_refl _) _).put (p := ⟨w.heap.size, 3, none⟩) (Nat.le_refl _) _⟩
  · have b0 : (r == 0) = false := by simp; omega
    have b1 : (r == 1) = false := by simp; omega
    have b2 : (r == 2) = false := by simp; omega
    have b3 : (r == 3) = false := by simp; omega
    go_wp2_with fail
    refine bodyPost_ret (v := .agg #[.int .i64 y0, .int .i64 y1, .int .i64 y2, .int .i64 y3]) (by simp [results, Tryz.results81, go_sem, c0, c1, c2, c3]) rfl ?_
    exact ⟨_, _, _, _, rfl, ⟨k + 4 + 1, by omega, (((s2.put (p := ⟨w.heap.size, 0, none⟩) g0 _).put (p := ⟨w.heap.size, 1, none⟩) g0 _).put (p := ⟨w.heap.size, 2, none⟩) g0 _).put (p := ⟨w.heap.size, 3, none⟩) g0 _⟩, (((WI2.put (p := ⟨w.heap.size, 0, none⟩) (Nat.le_refl _) _).put (p := ⟨w.heap.size, 1, none⟩) (Nat.le_refl _) _).put (p := ⟨w.heap.size, 2, none⟩) (Nat.le_refl _) _).put (p := ⟨w.heap.size, 3, none⟩) (Nat.le_refl _) _⟩

end Go.Proofs.YtmaillakhhdkfaaGreatDoor
/-
  Rows of samples: how they lie in memory; the law's own copying, comparing and marking of them.
-/
namespace Go.Proofs.YtmaillakhhdkfaaGreatDoor
set_option maxRecDepth 20000
open Go.RowKit
set_option linter.unusedSimpArgs false

def smpCells (x : Smp) : List Value := [.int .i64 x.1, .int .i64 x.2.1, .int .i64 x.2.2.1, .int .i64 x.2.2.2]
/-- Samples. -/
def eS : Enc Smp := ⟨25, 4, smpCells⟩
theorem okS : EncOk eS := ⟨fun _ => rfl, fun a u hu => by simp only [eS, smpCells, List.mem_cons, List.not_mem_nil, or_false] at hu; rcases hu with rfl | rfl | rfl | rfl <;> rfl, by decide⟩
theorem info_smp : (Tryz.prog.info? 25).map (fun i => (i.zero, i.size, i.bytes)) = some (some (.agg #[.int .i64 0, .int .i64 0, .int .i64 0, .int .i64 0]), 4, 32) := by kernel_rfl

/-- Four cells. -/
def S4 (u : World) (g p : Nat) (a0 a1 a2 a3 : Int) : Prop :=
  u.cell? ⟨g, p, none⟩ = some (.int .i64 a0) ∧ u.cell? ⟨g, p + 1, none⟩ = some (.int .i64 a1) ∧ u.cell? ⟨g, p + 2, none⟩ = some (.int .i64 a2) ∧ u.cell? ⟨g, p + 3, none⟩ = some (.int .i64 a3)
theorem S4.below {B : Nat} {w w' : World} {g p : Nat} {a0 a1 a2 a3 : Int} (h : S4 w g p a0 a1 a2 a3) (hb : Below B w w') (hg : g < B) : S4 w' g p a0 a1 a2 a3 :=
  ⟨(hb.cell (p := ⟨g, p, none⟩) hg).trans h.1, (hb.cell (p := ⟨g, p + 1, none⟩) hg).trans h.2.1, (hb.cell (p := ⟨g, p + 2, none⟩) hg).trans h.2.2.1, (hb.cell (p := ⟨g, p + 3, none⟩) hg).trans h.2.2.2⟩
theorem S4.drew {w : World} {g p : Nat} {a0 a1 a2 a3 : Int} (h : S4 w g p a0 a1 a2 a3) : S4 w.drew g p a0 a1 a2 a3 := h

section
variable {w w' : World} {base hi n c : Nat} {A : Option Addr} {l : List Smp}
theorem Rd.smp (h : Rd eS w hi A l) {k : Nat} (hk : k < l.length) : ∃ g o a0 a1 a2 a3, A = some ⟨g, o, none⟩ ∧ g < hi ∧ l[k]? = some (a0, a1, a2, a3) ∧ S4 w g (o + k * 4) a0 a1 a2 a3 := by
  obtain ⟨g, o, ⟨a0, a1, a2, a3⟩, e, hg, ha, hc⟩ := h.at_ hk
  exact ⟨g, o, a0, a1, a2, a3, e, hg, ha, hc 0 _ rfl, hc 1 _ rfl, hc 2 _ rfl, hc 3 _ rfl⟩
theorem Rd.smp_is {g o k : Nat} {a0 a1 a2 a3 : Int} (h : Rd eS w hi (some ⟨g, o, none⟩) l) (hk : l[k]? = some (a0, a1, a2, a3)) : S4 w g (o + k * 4) a0 a1 a2 a3 := by
  obtain ⟨g', o', e, _, hc⟩ := h (by intro e; subst e; simp at hk)
  obtain ⟨rfl, rfl⟩ : g = g' ∧ o = o' := by simpa using Option.some.inj e
  exact ⟨hc k 0 _ _ hk rfl, hc k 1 _ _ hk rfl, hc k 2 _ _ hk rfl, hc k 3 _ _ hk rfl⟩
end

theorem alike_all' {α : Type} {xs ys : List α} {n : Nat} (hx : xs.length = n) (hy : ys.length = n) (h : ∀ i, i < n → xs[i]? = ys[i]?) : xs = ys := by
  apply List.ext_getElem?
  intro i
  rcases Nat.lt_or_ge i n with h1 | h1
  · exact h i h1
  · rw [List.getElem?_eq_none (by omega), List.getElem?_eq_none (by omega)]
def EqRelS (xs ys : List Smp) (w : World) (n : Nat) (i : Value) (wr : World) : Prop :=
  ∃ k : Nat, k ≤ n ∧ i = .int .i64 k ∧ (∀ i, i < k → xs[i]? = ys[i]?) ∧ Below w.heap.size w wr

end Go.Proofs.YtmaillakhhdkfaaGreatDoor
/-
  Rows of hints: how they lie in memory; the law's own copying and comparing of them.
-/
namespace Go.Proofs.YtmaillakhhdkfaaGreatDoor
set_option maxRecDepth 20000
open Go.RowKit
set_option linter.unusedSimpArgs false

/-- A hint: its node, its sample, how often it was sent, when it is due. -/
abbrev Hnt := Int × Smp × Int × Int
def hntCells (x : Hnt) : List Value := [.int .i64 x.1, .int .i64 x.2.1.1, .int .i64 x.2.1.2.1, .int .i64 x.2.1.2.2.1, .int .i64 x.2.1.2.2.2, .int .i64 x.2.2.1, .int .i64 x.2.2.2]
theorem hnt_one (a : Hnt) (u : Value) (hu : u ∈ hntCells a) : u.oneCell' = true := by
  simp only [hntCells, List.mem_cons, List.not_mem_nil, or_false] at hu
  rcases hu with rfl | rfl | rfl | rfl | rfl | rfl | rfl <;> rfl
/-- Hints. -/
def eH : Enc Hnt := ⟨75, 7, hntCells⟩
theorem okH : EncOk eH := ⟨fun _ => rfl, hnt_one, by decide⟩
abbrev zeroH : Hnt := (0, (0, 0, 0, 0), 0, 0)
theorem info_hnt : (Tryz.prog.info? 75).map (fun i => (i.zero, i.size, i.bytes)) = some (some (.agg #[.int .i64 0, .int .i64 0, .int .i64 0, .int .i64 0, .int .i64 0, .int .i64 0, .int .i64 0]), 7, 56) := by kernel_rfl

/-- Seven cells. -/
def S7 (u : World) (g p : Nat) (a0 a1 a2 a3 a4 a5 a6 : Int) : Prop :=
  u.cell? ⟨g, p, none⟩ = some (.int .i64 a0) ∧ u.cell? ⟨g, p + 1, none⟩ = some (.int .i64 a1) ∧ u.cell? ⟨g, p + 2, none⟩ = some (.int .i64 a2) ∧ u.cell? ⟨g, p + 3, none⟩ = some (.int .i64 a3) ∧ u.cell? ⟨g, p + 4, none⟩ = some (.int .i64 a4) ∧ u.cell? ⟨g, p + 5, none⟩ = some (.int .i64 a5) ∧ u.cell? ⟨g, p + 6, none⟩ = some (.int .i64 a6)
theorem S7.below {B : Nat} {w w' : World} {g p : Nat} {a0 a1 a2 a3 a4 a5 a6 : Int} (h : S7 w g p a0 a1 a2 a3 a4 a5 a6) (hb : Below B w w') (hg : g < B) : S7 w' g p a0 a1 a2 a3 a4 a5 a6 :=
  ⟨(hb.cell (p := ⟨g, p, none⟩) hg).trans h.1, (hb.cell (p := ⟨g, p + 1, none⟩) hg).trans h.2.1, (hb.cell (p := ⟨g, p + 2, none⟩) hg).trans h.2.2.1, (hb.cell (p := ⟨g, p + 3, none⟩) hg).trans h.2.2.2.1, (hb.cell (p := ⟨g, p + 4, none⟩) hg).trans h.2.2.2.2.1, (hb.cell (p := ⟨g, p + 5, none⟩) hg).trans h.2.2.2.2.2.1, (hb.cell (p := ⟨g, p + 6, none⟩) hg).trans h.2.2.2.2.2.2⟩
theorem S7.drew {w : World} {g p : Nat} {a0 a1 a2 a3 a4 a5 a6 : Int} (h : S7 w g p a0 a1 a2 a3 a4 a5 a6) : S7 w.drew g p a0 a1 a2 a3 a4 a5 a6 := h
theorem S7.grown {w w' : World} {row : Option Nat} {g p : Nat} {a0 a1 a2 a3 a4 a5 a6 : Int} (h : S7 w g p a0 a1 a2 a3 a4 a5 a6) (hg : w.grownBy w' row) (hne : some g ≠ row) : S7 w' g p a0 a1 a2 a3 a4 a5 a6 :=
  ⟨hg.cell h.1 hne, hg.cell h.2.1 hne, hg.cell h.2.2.1 hne, hg.cell h.2.2.2.1 hne, hg.cell h.2.2.2.2.1 hne, hg.cell h.2.2.2.2.2.1 hne, hg.cell h.2.2.2.2.2.2 hne⟩
theorem At.seven {w : World} {g : Nat} {t : TypeId} {a b c d e f h : Value} (k : At w g t #[a, b, c, d, e, f, h]) : w.cell? ⟨g, 0, none⟩ = some a ∧ w.cell? ⟨g, 1, none⟩ = some b ∧ w.cell? ⟨g, 2, none⟩ = some c ∧ w.cell? ⟨g, 3, none⟩ = some d ∧ w.cell? ⟨g, 4, none⟩ = some e ∧ w.cell? ⟨g, 5, none⟩ = some f ∧ w.cell? ⟨g, 6, none⟩ = some h :=
  ⟨k.cell 0, k.cell 1, k.cell 2, k.cell 3, k.cell 4, k.cell 5, k.cell 6⟩
theorem At.sevenF {w : World} {g : Nat} {t : TypeId} {a b c d e f h : Value} (k : At w g t #[a, b, c, d, e, f, h]) : w.frozen? ⟨g, 0, none⟩ = false ∧ w.frozen? ⟨g, 1, none⟩ = false ∧ w.frozen? ⟨g, 2, none⟩ = false ∧ w.frozen? ⟨g, 3, none⟩ = false ∧ w.frozen? ⟨g, 4, none⟩ = false ∧ w.frozen? ⟨g, 5, none⟩ = false ∧ w.frozen? ⟨g, 6, none⟩ = false :=
  ⟨k.frozen 0, k.frozen 1, k.frozen 2, k.frozen 3, k.frozen 4, k.frozen 5, k.frozen 6⟩

section
variable {w w' : World} {base hi n c : Nat} {A : Option Addr} {l : List Hnt}
theorem Rd.hnt (h : Rd eH w hi A l) {k : Nat} (hk : k < l.length) : ∃ g o a0 a1 a2 a3 a4 a5 a6, A = some ⟨g, o, none⟩ ∧ g < hi ∧ l[k]? = some (a0, (a1, a2, a3, a4), a5, a6) ∧ S7 w g (o + k * 7) a0 a1 a2 a3 a4 a5 a6 := by
  obtain ⟨g, o, ⟨a0, ⟨a1, a2, a3, a4⟩, a5, a6⟩, e, hg, ha, hc⟩ := h.at_ hk
  exact ⟨g, o, a0, a1, a2, a3, a4, a5, a6, e, hg, ha, hc 0 _ rfl, hc 1 _ rfl, hc 2 _ rfl, hc 3 _ rfl, hc 4 _ rfl, hc 5 _ rfl, hc 6 _ rfl⟩
theorem Ow.hntAt {g : Nat} (h : Ow eH w base (some ⟨g, 0, none⟩) n c l) {k : Nat} {a0 a1 a2 a3 a4 a5 a6 : Int} (hk : l[k]? = some (a0, (a1, a2, a3, a4), a5, a6)) : S7 w g (k * 7) a0 a1 a2 a3 a4 a5 a6 :=
  ⟨h.cellAt okH hk (j := 0) rfl, h.cellAt okH hk (j := 1) rfl, h.cellAt okH hk (j := 2) rfl, h.cellAt okH hk (j := 3) rfl, h.cellAt okH hk (j := 4) rfl, h.cellAt okH hk (j := 5) rfl, h.cellAt okH hk (j := 6) rfl⟩
/-- One number of a hint. -/
theorem Ow.hntPut {g : Nat} (h : Ow eH w base (some ⟨g, 0, none⟩) n c l) {k j : Nat} {x y : Hnt} {u : Value} (hk : l[k]? = some x) (hj : j < 7) (hc : hntCells y = (hntCells x).set j u) :
    Ow eH (w.setCell ⟨g, k * 7 + j, none⟩ u) base (some ⟨g, 0, none⟩) n c (l.set k y) ∧ w.grownBy (w.setCell ⟨g, k * 7 + j, none⟩ u) (some g) :=
  h.stored okH (k := k) (j := j) (a' := y) hk hj hc
end

def EqRelH (xs ys : List Hnt) (w : World) (n : Nat) (i : Value) (wr : World) : Prop :=
  ∃ k : Nat, k ≤ n ∧ i = .int .i64 k ∧ (∀ i, i < k → xs[i]? = ys[i]?) ∧ Below w.heap.size w wr

end Go.Proofs.YtmaillakhhdkfaaGreatDoor
/-
  How long one waits: two to the power of the tries: the model's and the program's.
-/
namespace Go.Proofs.YtmaillakhhdkfaaGreatDoor
set_option maxRecDepth 20000
open Go.RowKit
set_option linter.unusedSimpArgs false

end Go.Proofs.YtmaillakhhdkfaaGreatDoor
/-
  What is asked of hints, of the pure answers: faults, one looked for, put, done, due, sent; a queue of hints by their keys.
-/
namespace Go.Proofs.YtmaillakhhdkfaaGreatDoor
set_option maxRecDepth 20000
open Go.RowKit
set_option linter.unusedSimpArgs false
set_option linter.unusedVariables false

abbrev idH (x : Hnt) : Int := x.2.1.2.2.1
def sameH (a b : Hnt) : Bool := decide (a.1 = b.1) && decide (idH a = idH b)
theorem sameH_iff (a b : Hnt) : sameH a b = true ↔ a.1 = b.1 ∧ idH a = idH b := by unfold sameH; simp
theorem sameH_comm (a b : Hnt) : sameH a b = sameH b a := by
  rw [Bool.eq_iff_iff, sameH_iff, sameH_iff]
  exact ⟨fun h => ⟨h.1.symm, h.2.symm⟩, fun h => ⟨h.1.symm, h.2.symm⟩⟩
def rangeH (h : Hnt) : Bool := inB (h.1, 0, 3) && (inB (h.2.2.1, 0, 4) && inB (h.2.2.2, 0, 200000))
def hfaultM (h : Hnt) : Int := if faultM h.2.1 ≠ 0 then 3 else if rangeH h then 0 else 3
theorem hfault_or (h : Hnt) : hfaultM h = 0 ∨ hfaultM h = 3 := by
  unfold hfaultM
  split
  · exact .inr rfl
  · split
    · exact .inl rfl
    · exact .inr rfl
theorem hfault_smp {h : Hnt} (k : faultM h.2.1 = 3) : hfaultM h = 3 := by unfold hfaultM; rw [if_pos (by simp [k])]
theorem hfault_yes {h : Hnt} (k : faultM h.2.1 = 0) (r : rangeH h = true) : hfaultM h = 0 := by unfold hfaultM; rw [if_neg (by simp [k]), if_pos r]
theorem hfault_no {h : Hnt} (k : faultM h.2.1 = 0) (r : rangeH h = false) : hfaultM h = 3 := by unfold hfaultM; rw [if_neg (by simp [k]), if_neg (by simp [r])]
def rightHM (l : List Hnt) : Bool := l.all fun x => decide (hfaultM x = 0)
/-- No two are for one node and have one Id. -/
def Dis (l : List Hnt) : Prop := l.Pairwise fun a b => sameH a b = false
instance (l : List Hnt) : Decidable (Dis l) := inferInstanceAs (Decidable (List.Pairwise _ l))
def hintsFaultM (l : List Hnt) : Int := if 8 < l.length then 2 else if rightHM l = false then 3 else if Dis l then 0 else 6
theorem hintsFault_many {l : List Hnt} (h : 8 < l.length) : hintsFaultM l = 2 := if_pos h
theorem hintsFault_wrong {l : List Hnt} {k : Nat} {x : Hnt} (h : ¬ 8 < l.length) (hx : l[k]? = some x) (hf : hfaultM x = 3) : hintsFaultM l = 3 := by
  have hr : rightHM l = false := by
    unfold rightHM
    rw [List.all_eq_false]
    exact ⟨x, List.mem_of_getElem? hx, by simp [hf]⟩
  unfold hintsFaultM
  rw [if_neg h, if_pos hr]
theorem rightHM_of {l : List Hnt} {n : Nat} (hn : l.length = n) (hal : ∀ j x, j < n → l[j]? = some x → hfaultM x = 0) : rightHM l = true := by
  unfold rightHM
  rw [List.all_eq_true]
  intro x hx
  obtain ⟨j, hj⟩ := List.mem_iff_getElem?.1 hx
  exact decide_eq_true (hal j x (by have := getElem?_some_lt hj; omega) hj)
theorem hintsFault_taken {l : List Hnt} (h : ¬ 8 < l.length) (hr : rightHM l = true) (hd : ¬ Dis l) : hintsFaultM l = 6 := by
  unfold hintsFaultM
  rw [if_neg h, if_neg (by simp [hr]), if_neg hd]
theorem hintsFault_ok {l : List Hnt} (h : ¬ 8 < l.length) (hr : rightHM l = true) (hd : Dis l) : hintsFaultM l = 0 := by
  unfold hintsFaultM
  rw [if_neg h, if_neg (by simp [hr]), if_pos hd]
theorem hintsFault_iff (l : List Hnt) : hintsFaultM l = 0 ↔ l.length ≤ 8 ∧ (∀ x ∈ l, hfaultM x = 0) ∧ Dis l := by
  constructor
  · intro h
    unfold hintsFaultM at h
    by_cases h1 : 8 < l.length
    · rw [if_pos h1] at h; cases h
    · rw [if_neg h1] at h
      by_cases h2 : rightHM l = false
      · rw [if_pos h2] at h; cases h
      · rw [if_neg h2] at h
        by_cases h3 : Dis l
        · refine ⟨by omega, fun x hx => ?_, h3⟩
          have : rightHM l = true := by simpa using h2
          unfold rightHM at this
          rw [List.all_eq_true] at this
          exact of_decide_eq_true (this x hx)
        · rw [if_neg h3] at h; cases h
  · rintro ⟨h1, h2, h3⟩
    refine hintsFault_ok (by omega) ?_ h3
    unfold rightHM
    rw [List.all_eq_true]
    exact fun x hx => decide_eq_true (h2 x hx)

/-- One is looked for. -/
def hitH (l : List Hnt) (p i : Int) (k : Nat) : Bool := match l[k]? with | some a => decide (a.1 = p) && decide (idH a = i) | none => false
theorem hitH_at {l : List Hnt} {p i : Int} {k : Nat} {a : Hnt} (h : l[k]? = some a) : hitH l p i k = (decide (a.1 = p) && decide (idH a = i)) := by
  unfold hitH
  rw [h]
def findH (l : List Hnt) (p i : Int) : Option Nat := (List.range l.length).find? (hitH l p i)
def findHI (l : List Hnt) (p i : Int) : Int := match findH l p i with | some k => (k : Int) | none => -1
theorem findH_some {l : List Hnt} {p i : Int} {k : Nat} (hk : k < l.length) (h : hitH l p i k = true) (hal : ∀ j, j < k → hitH l p i j = false) : findH l p i = some k := by
  unfold findH
  rw [List.find?_range_eq_some]
  exact ⟨h, by simpa using hk, fun j hj => by simp [hal j hj]⟩
theorem findH_none {l : List Hnt} {p i : Int} (hal : ∀ j, j < l.length → hitH l p i j = false) : findH l p i = none := by
  unfold findH
  rw [List.find?_range_eq_none]
  exact fun j hj => by simp [hal j hj]
theorem findH_is {l : List Hnt} {p i : Int} {k : Nat} (h : findH l p i = some k) : k < l.length ∧ hitH l p i k = true ∧ ∀ j, j < k → hitH l p i j = false := by
  unfold findH at h
  rw [List.find?_range_eq_some] at h
  refine ⟨by simpa using h.2.1, h.1, fun j hj => by simpa using h.2.2 j hj⟩
theorem findHI_some {l : List Hnt} {p i : Int} {k : Nat} (hk : k < l.length) (h : hitH l p i k = true) (hal : ∀ j, j < k → hitH l p i j = false) : findHI l p i = (k : Int) := by
  unfold findHI
  rw [findH_some hk h hal]
theorem findHI_none {l : List Hnt} {p i : Int} {n : Nat} (hn : l.length = n) (hal : ∀ j, j < n → hitH l p i j = false) : findHI l p i = -1 := by
  unfold findHI
  rw [findH_none (by rw [hn]; exact hal)]
theorem findHI_or (l : List Hnt) (p i : Int) : (findHI l p i = -1 ∧ findH l p i = none) ∨ ∃ k : Nat, findHI l p i = (k : Int) ∧ findH l p i = some k ∧ k < l.length := by
  unfold findHI
  rcases h : findH l p i with _ | k
  · exact .inl ⟨rfl, rfl⟩
  · exact .inr ⟨k, rfl, rfl, (findH_is h).1⟩
theorem findHI_self {l : List Hnt} (hd : Dis l) {k : Nat} {a : Hnt} (h : l[k]? = some a) : findHI l a.1 (idH a) = (k : Int) := by
  refine findHI_some (getElem?_some_lt h) (by rw [hitH_at h]; simp) fun j hj => ?_
  have hk := getElem?_some_lt h
  have hjl : j < l.length := by omega
  rw [hitH_at (List.getElem?_eq_getElem hjl)]
  have := (List.pairwise_iff_getElem.1 hd) j k hjl hk hj
  rw [List.getElem?_eq_getElem hk] at h
  rw [Option.some.inj h] at this
  exact this
/-- Whether each is found at its own place tells whether no two are alike. -/
theorem dis_of {l : List Hnt} (h : ∀ (k : Nat) (a : Hnt), l[k]? = some a → findHI l a.1 (idH a) = (k : Int)) : Dis l := by
  refine List.pairwise_iff_getElem.2 fun i j hi hj hij => ?_
  rcases hs : sameH l[i] l[j]
  · rfl
  · exfalso
    obtain ⟨h1, h2⟩ := (sameH_iff _ _).1 hs
    have hf := h j _ (List.getElem?_eq_getElem hj)
    rcases findHI_or l l[j].1 (idH l[j]) with ⟨h3, _⟩ | ⟨k, h3, h4, _⟩
    · omega
    · obtain rfl : k = j := by omega
      have := (findH_is h4).2.2 i hij
      rw [hitH_at (List.getElem?_eq_getElem hi), h1, h2] at this
      simp at this

/-- What AddHint, DoneHint, DueHints, SentHint answer. -/
def addM (l : List Hnt) (p : Int) (x : Smp) : Int × List Hnt :=
  if hintsFaultM l ≠ 0 then (hintsFaultM l, []) else if faultM x ≠ 0 then (3, []) else if inB (p, 0, 3) = false then (3, []) else if 0 ≤ findHI l p x.2.2.1 then (6, []) else if 8 ≤ l.length then (7, []) else (0, l ++ [(p, x, 0, 0)])
def doneM (l : List Hnt) (p i : Int) : Int × List Hnt :=
  if hintsFaultM l ≠ 0 then (hintsFaultM l, []) else match findH l p i with | none => (4, []) | some k => (0, l.take k ++ l.drop (k + 1))
theorem take_nextH {α : Type} {l : List α} {k : Nat} {a : α} (h : l[k]? = some a) : l.take (k + 1) = l.take k ++ [a] := by
  have hl := getElem?_some_lt h
  rw [List.take_succ_eq_append_getElem hl]
  rw [List.getElem?_eq_getElem hl] at h
  rw [Option.some.inj h]
/-- A queue: hints with their turns. -/
abbrev Qd := Int × Hnt
def putQ (t : Int) (h : Hnt) : List Qd → List Qd
  | [] => [(t, h)]
  | x :: L => if sameH h x.2 then (x.1, h) :: L else x :: putQ t h L
def firstQ (L : List Qd) (h : Hnt) : Option Qd := L.find? fun x => sameH h x.2
def eraseQ (h : Hnt) : List Qd → List Qd
  | [] => []
  | x :: L => if sameH h x.2 then L else x :: eraseQ h L
theorem putQ_new (t : Int) (h : Hnt) : ∀ {L : List Qd}, firstQ L h = none → putQ t h L = L ++ [(t, h)]
  | [], _ => rfl
  | x :: L, hn => by
    unfold firstQ at hn
    rw [List.find?_cons] at hn
    rcases hs : sameH h x.2
    · rw [hs] at hn
      have := putQ_new t h (L := L) hn
      unfold putQ
      rw [hs, this]
      rfl
    · rw [hs] at hn
      cases hn
theorem putQ_len (t : Int) (h : Hnt) : ∀ L : List Qd, (putQ t h L).length = if (firstQ L h).isSome then L.length else L.length + 1
  | [] => rfl
  | x :: L => by
    have ih := putQ_len t h L
    rcases hs : sameH h x.2
    · have e1 : putQ t h (x :: L) = x :: putQ t h L := by rw [putQ, hs]; rfl
      have e2 : firstQ (x :: L) h = firstQ L h := by unfold firstQ; rw [List.find?_cons, hs]
      rw [e1, e2, List.length_cons, ih, List.length_cons]
      split <;> rfl
    · have e1 : putQ t h (x :: L) = (x.1, h) :: L := by rw [putQ, hs]; rfl
      have e2 : firstQ (x :: L) h = some x := by unfold firstQ; rw [List.find?_cons, hs]
      rw [e1, e2]
      simp
theorem firstQ_none {L : List Qd} {h : Hnt} : firstQ L h = none ↔ ∀ x ∈ L.map Prod.snd, sameH h x = false := by
  unfold firstQ
  rw [List.find?_eq_none]
  constructor
  · intro k x hx
    obtain ⟨y, hy, rfl⟩ := List.mem_map.1 hx
    simpa using k y hy
  · intro k x hx
    have := k x.2 (List.mem_map.2 ⟨x, hx, rfl⟩)
    simp [this]
/-- One is laid at its key. -/
def setQ (x : Qd) : List Qd → List Qd
  | [] => [x]
  | a :: L => if sameH x.2 a.2 then x :: L else a :: setQ x L
def turnQ (t : Int) (h : Hnt) (L : List Qd) : Int := match firstQ L h with | some x => x.1 | none => t
theorem putQ_set (t : Int) (h : Hnt) : ∀ L : List Qd, putQ t h L = setQ (turnQ t h L, h) L
  | [] => rfl
  | x :: L => by
    have ih := putQ_set t h L
    rcases hs : sameH h x.2
    · have e2 : firstQ (x :: L) h = firstQ L h := by unfold firstQ; rw [List.find?_cons, hs]
      have e3 : turnQ t h (x :: L) = turnQ t h L := by unfold turnQ; rw [e2]
      rw [e3, putQ, setQ, hs, ih]
      rfl
    · have e2 : firstQ (x :: L) h = some x := by unfold firstQ; rw [List.find?_cons, hs]
      have e3 : turnQ t h (x :: L) = x.1 := by unfold turnQ; rw [e2]
      rw [e3, putQ, setQ, hs]
      rfl
/-- The queue of a list, turn by turn. -/
def queueN (L : List Qd) (t : Nat) : List Hnt → List Qd
  | [] => L
  | h :: l => queueN (putQ (t : Int) h L) (t + 1) l
def queueM (l : List Hnt) : List Qd := queueN [] 0 l
theorem queueN_append (h : Hnt) : ∀ (l : List Hnt) (L : List Qd) (t : Nat), queueN L t (l ++ [h]) = putQ ((t + l.length : Nat) : Int) h (queueN L t l)
  | [], L, t => rfl
  | x :: l, L, t => by
    have := queueN_append h l (putQ (t : Int) x L) (t + 1)
    simp only [List.cons_append, queueN, List.length_cons]
    rw [this]
    congr 2
    omega
theorem queue_next {l : List Hnt} {k : Nat} {a : Hnt} (h : l[k]? = some a) : queueM (l.take (k + 1)) = putQ (k : Int) a (queueM (l.take k)) := by
  have hl := getElem?_some_lt h
  unfold queueM
  rw [take_nextH h, queueN_append, Nat.zero_add, List.length_take, Nat.min_eq_left (by omega)]
/-- A list turn by turn. -/
def zipQ (l : List Hnt) : List Qd := (List.range l.length).map fun (i : Nat) => ((i : Int), (l[i]?).getD zeroH)
theorem zipQ_append (l : List Hnt) (h : Hnt) : zipQ (l ++ [h]) = zipQ l ++ [((l.length : Int), h)] := by
  unfold zipQ
  rw [List.length_append, List.length_singleton, List.range_succ, List.map_append]
  congr 1
  · apply List.map_congr_left
    intro i hi
    have := List.mem_range.1 hi
    rw [List.getElem?_append_left this]
  · simp
theorem zipQ_snd (l : List Hnt) : (zipQ l).map Prod.snd = l := by
  apply List.ext_getElem?
  intro i
  unfold zipQ
  rw [List.map_map, List.getElem?_map]
  rcases Nat.lt_or_ge i l.length with h | h
  · rw [List.getElem?_range h, Option.map_some]
    simp [List.getElem?_eq_getElem h]
  · rw [List.getElem?_eq_none (by simpa using h), List.getElem?_eq_none h]
    rfl
theorem dis_append {l : List Hnt} {h : Hnt} : Dis (l ++ [h]) ↔ Dis l ∧ ∀ x ∈ l, sameH x h = false := by
  unfold Dis
  rw [List.pairwise_append]
  simp
theorem queue_all (l : List Hnt) : (Dis l → queueM l = zipQ l) ∧ (¬ Dis l → (queueM l).length < l.length) ∧ (queueM l).length ≤ l.length := by
  have step : ∀ k, k ≤ l.length → (Dis (l.take k) → queueM (l.take k) = zipQ (l.take k)) ∧ (¬ Dis (l.take k) → (queueM (l.take k)).length < k) ∧ (queueM (l.take k)).length ≤ k := by
    intro k
    induction k with
    | zero => intro _; exact ⟨fun _ => rfl, fun h => absurd List.Pairwise.nil h, Nat.le_refl _⟩
    | succ k ih =>
      intro hk
      obtain ⟨h1, h2, h3⟩ := ih (by omega)
      have ha : l[k]? = some l[k] := List.getElem?_eq_getElem (by omega)
      have hlen : (l.take k).length = k := by rw [List.length_take]; omega
      rw [queue_next ha, putQ_len]
      refine ⟨fun hd => ?_, fun hd => ?_, by split <;> omega⟩
      · rw [take_nextH ha, dis_append] at hd
        have hz := h1 hd.1
        have hf : firstQ (queueM (l.take k)) l[k] = none := by
          rw [firstQ_none, hz, zipQ_snd]
          exact fun x hx => by rw [sameH_comm]; exact hd.2 x hx
        rw [putQ_new _ _ hf, hz, take_nextH ha, zipQ_append, hlen]
      · by_cases hd' : Dis (l.take k)
        · have hz := h1 hd'
          have hf : (firstQ (queueM (l.take k)) l[k]).isSome = true := by
            rw [Option.isSome_iff_ne_none]
            intro hn
            refine hd ?_
            rw [take_nextH ha, dis_append]
            refine ⟨hd', fun x hx => ?_⟩
            rw [firstQ_none, hz, zipQ_snd] at hn
            rw [sameH_comm]
            exact hn x hx
          rw [if_pos hf]
          rw [hz] 
          unfold zipQ
          rw [List.length_map, List.length_range, hlen]
          omega
        · have := h2 hd'
          split <;> omega
  have := step l.length (Nat.le_refl _)
  rwa [List.take_length] at this
/-- Turns rise. -/
def Rises (L : List Qd) : Prop := L.Pairwise fun x y => x.1 < y.1
theorem rises_zip (l : List Hnt) : Rises (zipQ l) := by
  unfold Rises zipQ
  rw [List.pairwise_map]
  exact (List.pairwise_lt_range).imp fun {a b} h => by simpa using h
theorem zipQ_len (l : List Hnt) : (zipQ l).length = l.length := by simp [zipQ]
end Go.Proofs.YtmaillakhhdkfaaGreatDoor
/-
  Rows of hints marked and held, as the law does it; answers that hold hints.
-/
namespace Go.Proofs.YtmaillakhhdkfaaGreatDoor
set_option maxRecDepth 20000
open Go.RowKit
set_option linter.unusedSimpArgs false

/-- A code and hints of the call's own. -/
def RetHs (r : Int × List Hnt) (w : World) (e : Ending) (w' : World) : Prop :=
  ∃ A n c, e = .returned (.agg #[.int .i64 r.1, .slice A n c]) ∧ Ow eH w' w.heap.size A n c r.2 ∧ Below w.heap.size w w'

end Go.Proofs.YtmaillakhhdkfaaGreatDoor
/-
  The model's functions on hints.
-/
namespace Go.Proofs.YtmaillakhhdkfaaGreatDoor
set_option maxRecDepth 20000
open Go.RowKit
set_option linter.unusedSimpArgs false
set_option linter.unusedVariables false

theorem l4Node (p : Int) (w : World) : Calls Tryz.prog 117 #[.int .i64 p] w fun e w' => e = .returned (.bool (inB (p, 0, 3))) ∧ w = w' := by
  go_enter Tryz.func117, Tryz.ntmps117
  go_wp2_with (go_at_call 67; refine (l1In_any p 0 3 _).mono ?_; rintro e w' ⟨rfl, rfl⟩)
  go_ret
  exact ⟨by simp, rfl⟩

def FindRelH (w : World) (l : List Hnt) (p i : Int) (n : Nat) (v : Value) (wr : World) : Prop :=
  ∃ k : Nat, k ≤ n ∧ v = .int .i64 k ∧ (∀ j, j < k → hitH l p i j = false) ∧ wr = w

set_option maxHeartbeats 2000000 in
theorem l4Find (A : Option Addr) (n c : Nat) (l : List Hnt) (p i : Int) (w : World) (ha : Rd eH w w.heap.size A l) (hn : l.length = n) (hm : n ≤ maxLen) :
    Calls Tryz.prog 99 #[.slice A n c, .int .i64 p, .int .i64 i] w fun e w' => e = .returned (.int .i64 (findHI l p i)) ∧ w = w' := by
  have Hn := Lib.hid hn
  clear hn
  unfold maxLen at hm
  go_enter Tryz.func99, Tryz.ntmps99
  go_wp2
  go_loopw [7] (fun v wr => FindRelH w l p i n v wr) (fun v _ => n - (intOf v).toNat)
  case atStart => exact ⟨0, Nat.zero_le _, rfl, fun _ h => absurd h (by omega), rfl⟩
  case round =>
    obtain ⟨k, hk, rfl, hal, rfl⟩ := hrel
    have Hal := Lib.hid hal
    clear hal
    by_cases hlt : k < n
    · obtain ⟨g, o, a0, a1, a2, a3, a4, a5, a6, rfl, hg, hx, ca⟩ := ha.hnt (k := k) (by rw [Hn.out]; exact hlt)
      have Hh := Lib.hid (hitH_at (p := p) (i := i) hx)
      clear hx
      obtain ⟨c0, c1, c2, c3, c4, c5, c6⟩ := ca
      by_cases h0 : a0 = p
      · by_cases h3 : a3 = i
        · have hb0 : (a0 == p) = true := by simpa using h0
          have hb3 : (a3 == i) = true := by simpa using h3
          have Hf := Lib.hid (findHI_some (p := p) (i := i) (by rw [Hn.out]; exact hlt) (by rw [Hh.out]; simp [h0, h3]) Hal.out)
          clear h0 h3
          go_wp2
          go_ret
          exact ⟨by rw [Hf.out]; rfl, by first | rfl | trivial⟩
        · have hb0 : (a0 == p) = true := by simpa using h0
          have hb3 : (a3 == i) = false := by simpa using h3
          have Hs := Lib.hid (show hitH l p i k = false by rw [Hh.out]; simp [h3])
          clear h0 h3
          go_wp2
          refine ⟨⟨k + 1, by omega, by go_num, fun j hj => ?_, by first | rfl | trivial⟩, by simp [intOf]; omega⟩
          rcases Nat.lt_or_ge j k with h | h
          · exact Hal.out j h
          · obtain rfl : j = k := by omega
            exact Hs.out
      · have hb0 : (a0 == p) = false := by simpa using h0
        have Hs := Lib.hid (show hitH l p i k = false by rw [Hh.out]; simp [h0])
        clear h0
        go_wp2
        refine ⟨⟨k + 1, by omega, by go_num, fun j hj => ?_, by first | rfl | trivial⟩, by simp [intOf]; omega⟩
        rcases Nat.lt_or_ge j k with h | h
        · exact Hal.out j h
        · obtain rfl : j = k := by omega
          exact Hs.out
    · obtain rfl : n = k := by omega
      have Hf := Lib.hid (findHI_none Hn.out Hal.out)
      go_wp2
      go_ret
      exact ⟨by rw [Hf.out]; rfl, by first | rfl | trivial⟩

def RightRelH (w : World) (l : List Hnt) (n : Nat) (i : Value) (wr : World) : Prop :=
  ∃ k : Nat, k ≤ n ∧ i = .int .i64 k ∧ (∀ j x, j < k → l[j]? = some x → hfaultM x = 0) ∧ Below w.heap.size w wr
def DisRel (w : World) (l : List Hnt) (n : Nat) (i : Value) (wr : World) : Prop :=
  ∃ k : Nat, k ≤ n ∧ i = .int .i64 k ∧ (∀ j x, j < k → l[j]? = some x → findHI l x.1 (idH x) = (j : Int)) ∧ Below w.heap.size w wr

set_option maxHeartbeats 4000000 in
theorem specHintsFault (A : Option Addr) (n c : Nat) (l : List Hnt) (w : World) (ha : Rd eH w w.heap.size A l) (hn : l.length = n) :
    Calls Tryz.prog 66 #[.slice A n c] w fun e w' => e = .returned (.int .i64 (hintsFaultM l)) ∧ Below w.heap.size w w' := by
  by_cases hbig : 8 < n
  · have hb : (8 : Int) < (n : Int) := by omega
    rw [hintsFault_many (by omega)]
    go_enter Tryz.func66, Tryz.ntmps66
    go_wp2
    go_ret
    exact ⟨rfl, Below.refl _ _⟩
  have hb : (n : Int) ≤ 8 := by omega
  have Hbig := Lib.hid (show ¬ 8 < l.length by omega)
  have Hn := Lib.hid hn
  clear hn hbig
  go_enter Tryz.func66, Tryz.ntmps66
  go_wp2
  go_loopw [3] (fun i wr => RightRelH w l n i wr) (fun i _ => n - (intOf i).toNat)
  case atStart => exact ⟨0, Nat.zero_le _, rfl, fun _ _ h => absurd h (by omega), Below.refl _ _⟩
  case round =>
    obtain ⟨k, hk, rfl, hal, hbel⟩ := hrel
    have Hal := Lib.hid hal
    clear hal
    by_cases hlt : k < n
    · obtain ⟨g, o, a0, a1, a2, a3, a4, a5, a6, rfl, hg, hx, ca⟩ := (ha.below hbel (Nat.le_refl _)).hnt (k := k) (by rw [Hn.out]; exact hlt)
      have Ca := Lib.hid ca
      obtain ⟨c0, c1, c2, c3, c4, c5, c6⟩ := ca
      rcases faultM_or (a1, a2, a3, a4) with hf | hf
      · have hq := specSampleFault a1 a2 a3 a4 wr
        rw [hf] at hq
        have Hx := Lib.hid hx
        have Hf := Lib.hid hf
        clear hx hf
        go_wp2_with fail
        refine hq.mono ?_
        rintro e w2 ⟨rfl, hb2⟩
        have hB2 := hbel.trans (hb2.mono hbel.size)
        clear c0 c1 c2 c3 c4 c5 c6
        obtain ⟨c0, c1, c2, c3, c4, c5, c6⟩ := Ca.out.below hb2 (Nat.lt_of_lt_of_le hg hbel.size)
        rcases h0 : inB (a0, 0, 3)
        · have Hr := Lib.hid (hintsFault_wrong Hbig.out Hx.out (hfault_no Hf.out (by unfold rangeH; simp [h0])))
          go_wp2_with (first | (go_at_call 117; refine (l4Node _ _).mono ?_; rintro e w8 ⟨rfl, rfl⟩) | (go_at_call 67; refine (l1In_any _ _ _ _).mono ?_; rintro e w9 ⟨rfl, rfl⟩))
          go_ret
          exact ⟨by rw [Hr.out]; rfl, hB2⟩
        rcases h5 : inB (a5, 0, 4)
        · have Hr := Lib.hid (hintsFault_wrong Hbig.out Hx.out (hfault_no Hf.out (by unfold rangeH; simp [h5])))
          go_wp2_with (first | (go_at_call 117; refine (l4Node _ _).mono ?_; rintro e w8 ⟨rfl, rfl⟩) | (go_at_call 67; refine (l1In_any _ _ _ _).mono ?_; rintro e w9 ⟨rfl, rfl⟩))
          go_ret
          exact ⟨by rw [Hr.out]; rfl, hB2⟩
        rcases h6 : inB (a6, 0, 200000)
        · have Hr := Lib.hid (hintsFault_wrong Hbig.out Hx.out (hfault_no Hf.out (by unfold rangeH; simp [h6])))
          go_wp2_with (first | (go_at_call 117; refine (l4Node _ _).mono ?_; rintro e w8 ⟨rfl, rfl⟩) | (go_at_call 67; refine (l1In_any _ _ _ _).mono ?_; rintro e w9 ⟨rfl, rfl⟩))
          go_ret
          exact ⟨by rw [Hr.out]; rfl, hB2⟩
        have Hr := Lib.hid (hfault_yes (h := (a0, (a1, a2, a3, a4), a5, a6)) Hf.out (by unfold rangeH; simp [h0, h5, h6]))
        go_wp2_with (first | (go_at_call 117; refine (l4Node _ _).mono ?_; rintro e w8 ⟨rfl, rfl⟩) | (go_at_call 67; refine (l1In_any _ _ _ _).mono ?_; rintro e w9 ⟨rfl, rfl⟩))
        refine ⟨⟨k + 1, by omega, by go_num, fun j x hj hx => ?_, hB2⟩, by simp [intOf]; omega⟩
        rcases Nat.lt_or_ge j k with h | h
        · exact Hal.out j x h hx
        · obtain rfl : j = k := by omega
          obtain rfl := Option.some.inj (Hx.out.symm.trans hx)
          exact Hr.out
      · have hq := specSampleFault a1 a2 a3 a4 wr
        rw [hf] at hq
        have Hr := Lib.hid (hintsFault_wrong Hbig.out hx (hfault_smp (h := (a0, (a1, a2, a3, a4), a5, a6)) hf))
        clear hx hf
        go_wp2_with fail
        refine hq.mono ?_
        rintro e w2 ⟨rfl, hb2⟩
        have hB2 := hbel.trans (hb2.mono hbel.size)
        go_wp2
        go_ret
        exact ⟨by rw [Hr.out]; rfl, hB2⟩
    · obtain rfl : n = k := by omega
      have Hright := Lib.hid (rightHM_of Hn.out Hal.out)
      clear Hal
      go_wp2
      go_loopw [6] (fun i wr => DisRel w l n i wr) (fun i _ => n - (intOf i).toNat)
      case atStart => exact ⟨0, Nat.zero_le _, rfl, fun _ _ h => absurd h (by omega), hbel⟩
      case round =>
        obtain ⟨k, hk, rfl, hal, hbel⟩ := hrel
        have Hal := Lib.hid hal
        clear hal
        by_cases hlt : k < n
        · obtain ⟨g, o, a0, a1, a2, a3, a4, a5, a6, rfl, hg, hx, ca⟩ := (ha.below hbel (Nat.le_refl _)).hnt (k := k) (by rw [Hn.out]; exact hlt)
          have Hx := Lib.hid hx
          clear hx
          have hbd := hbel.drew
          have had := ha.lift hbd
          have hF := l4Find (some ⟨g, o, none⟩) n c l a0 a3 _ had Hn.out (by unfold maxLen; omega)
          obtain ⟨f, hf⟩ : ∃ f, findHI l a0 a3 = f := ⟨_, rfl⟩
          rw [hf] at hF
          have Hf := Lib.hid hf
          clear hf had
          go_wp2
          refine wp_region_mix [(0, false), (1, false), (2, false), (3, false), (4, false), (5, false), (6, false), (7, false), (8, false), (9, false), (10, false), (11, false), (13, false), (12, true), (14, false)] (fun u => S7 u g (o + k * 7) a0 a1 a2 a3 a4 a5 a6) (by kernel_rfl) (by kernel_rfl) (fun _ _ _ _ _ h => h) ca.drew ?_
          simp only [mixOps, List.map_cons, List.map_nil, List.getElem?_cons_succ, List.getElem?_cons_zero, Option.getD_some]
          iterate 13 (
            refine mix_pure (v := ?_) (by rfl) (fun u hu => ?_) ?_
            rotate_left
            · obtain ⟨_, _, _, _, _, _, _⟩ := hu
              go_simp
              (with_reducible rfl)
            (try simp only [Act.put, List.setIfInBounds_toArray, List.set_cons_zero, List.set_cons_succ]))
          refine mix_call (by rfl) (fun K hK => ?_)
          go_simp
          refine hF.mono ?_
          rintro e w1 ⟨rfl, rfl⟩
          refine hK _ _ _ (fun _ h => h) ca.drew ?_
          (try simp only [Act.put, List.setIfInBounds_toArray, List.set_cons_zero, List.set_cons_succ])
          by_cases hfk : f = (k : Int)
          · have hne : (f != (k : Int)) = false := by simpa using hfk
            have Hfk := Lib.hid hfk
            clear hfk
            iterate 1 (
              refine mix_pure (v := ?_) (by rfl) (fun u hu => ?_) ?_
              rotate_left
              · skip
                go_simp
                (with_reducible rfl)
              (try simp only [Act.put, List.setIfInBounds_toArray, List.set_cons_zero, List.set_cons_succ]))
            refine mix_nil ?_
            go_wp2
            refine ⟨⟨k + 1, by omega, by go_num, fun j x hj hx => ?_, hbd⟩, by simp [intOf]; omega⟩
            rcases Nat.lt_or_ge j k with h | h
            · exact Hal.out j x h hx
            · obtain rfl : j = k := by omega
              obtain rfl := Option.some.inj (Hx.out.symm.trans hx)
              exact Hf.out.trans Hfk.out
          · have hne : (f != (k : Int)) = true := by rw [bne_iff_ne]; exact hfk
            have Hr := Lib.hid (hintsFault_taken Hbig.out Hright.out (fun hd => hfk (Hf.out.symm.trans (findHI_self hd Hx.out))))
            clear hfk
            iterate 1 (
              refine mix_pure (v := ?_) (by rfl) (fun u hu => ?_) ?_
              rotate_left
              · skip
                go_simp
                (with_reducible rfl)
              (try simp only [Act.put, List.setIfInBounds_toArray, List.set_cons_zero, List.set_cons_succ]))
            refine mix_nil ?_
            go_wp2
            go_ret
            exact ⟨by rw [Hr.out]; rfl, hbd⟩
        · obtain rfl : n = k := by omega
          have Hr := Lib.hid (hintsFault_ok Hbig.out Hright.out (dis_of fun j x hx => Hal.out j x (by have := getElem?_some_lt hx; have := Hn.out; omega) hx))
          go_wp2
          go_ret
          exact ⟨by rw [Hr.out]; rfl, hbel⟩

set_option maxHeartbeats 1000000 in
theorem l4Copy (A : Option Addr) (n c : Nat) (l : List Hnt) (w : World) (ha : Rd eH w w.heap.size A l) (hn : l.length = n) (hm : n ≤ 1048576) :
    Calls Tryz.prog 98 #[.slice A n c] w fun e w' => ∃ A' c', e = .returned (.slice A' n c') ∧ Ow eH w' w.heap.size A' n c' l ∧ Below w.heap.size w w' := by
  have Hn := Lib.hid hn
  clear hn
  have B1 := (Below.refl w.heap.size w).alloc (Nat.le_refl _) (.cells #[] 75)
  have a1 := ha.lift B1
  have o1 : Ow eH (w.alloc (.cells #[] 75)) w.heap.size (some ⟨w.heap.size, 0, none⟩) 0 0 [] := Ow.lit w [] #[] 0 (Nat.le_refl _) (by unfold maxLen; omega) rfl rfl
  go_enter Tryz.func98, Tryz.ntmps98
  go_wp2_with (at_builtin; refine wpList_append_ow okH _ rfl (.tmp 3) (.tmp 4) _ rfl w.heap.size info_hnt Tryz.underlying37 rfl (some ⟨w.heap.size, 0, none⟩) 0 0 [] rfl o1 A n c _ l rfl a1 Hn.out (by unfold maxLen; omega) (by omega) (by simp) ?_; intro A2 c2 w2 ow2 hg2 _)
  have B2 : Below w.heap.size w w2 := B1.grown hg2 (by simp) (fun g hg => by simp at hg; omega)
  rw [Nat.zero_add, List.nil_append] at ow2
  go_ret
  refine ⟨A2, c2, ?_, ow2, B2⟩
  simp
end Go.Proofs.YtmaillakhhdkfaaGreatDoor
/-
  Rows of hints that are drawn, and some that have faults.
-/
namespace Go.Proofs.YtmaillakhhdkfaaGreatDoor
set_option maxRecDepth 20000
open Go.RowKit
set_option linter.unusedSimpArgs false
set_option linter.unusedVariables false

def DrawHRel (base g : Nat) (A : Option Addr) (m c k : Nat) (l : List UInt8) (n : Nat) (w : World) (out vn : Value) (wr : World) : Prop :=
  ∃ (j : Nat) (A' : Option Addr) (L c' : Nat) (xs : List Hnt), j ≤ n ∧ vn = .int .i64 ((n : Int) - (j : Int)) ∧ out = .slice A' L c' ∧ L ≤ 8 ∧ Ow eH wr w.heap.size A' L c' xs ∧ Src wr base g A m c (k + 1 + 7 * j) l ∧ Within g (g + 1) w wr

set_option maxHeartbeats 4000000 in
theorem l4Draw (w : World) (base g : Nat) (A : Option Addr) (m c k : Nat) (l : List UInt8) (h : Src w base g A m c k l) (hk : k < 700000000) :
    Calls Tryz.prog 51 #[.pointer (some ⟨g, 0, none⟩)] w fun e w' => ∃ (k' : Nat) (A' : Option Addr) (L c' : Nat) (xs : List Hnt), e = .returned (.slice A' L c') ∧ L ≤ 8 ∧ Ow eH w' w.heap.size A' L c' xs ∧ k' ≤ k + 80 ∧ Src w' base g A m c k' l ∧ Within g (g + 1) w w' := by
  have hgl := h.at_.lt
  go_enter Tryz.func51, Tryz.ntmps51
  go_wp2_with fail
  refine (l1Next _ base g A m c k l 10 (h.alloc _) (by omega) (by omega)).mono ?_
  rintro e w1 ⟨r, rfl, hr, -, s1, hw1, -⟩
  obtain ⟨hr0, hr1⟩ := hr (by omega)
  obtain ⟨n, rfl⟩ := Int.eq_ofNat_of_zero_le hr0
  have hn : n < 10 := by omega
  have hwi0 := ((Within.refl g (g + 1) w).alloc (.cells #[] 75)).trans hw1
  have how00 : Ow eH (w.alloc (.cells #[] 75)) w.heap.size (some ⟨w.heap.size, 0, none⟩) 0 0 [] := Ow.lit (E := eH) w [] #[] 0 (Nat.le_refl _) (by unfold maxLen; omega) rfl rfl
  have how0 := how00.within hw1 how00.lt (.inr hgl)
  clear how00 hr hr0 hr1
  go_wp2_with fail
  have g1 := s1.at_.lt
  go_loopw [3, 4] (fun out vn wr => DrawHRel base g A m c k l n w out vn wr) (fun _ vn _ => (intOf vn).toNat)
  case atStart => exact ⟨0, _, 0, 0, [], Nat.zero_le _, by simp, rfl, by omega, how0, s1, hwi0⟩
  case round =>
    obtain ⟨j, A1, L, c1, xs, hj, rfl, rfl, hL, how, hsrc, hwi⟩ := hrel
    have Hs := Lib.hid hsrc
    by_cases hlt : j < n
    · go_wp2_with fail
      refine (l1Next _ base g A m c _ l 4 hsrc (by omega) (by omega)).mono ?_
      rintro e w2 ⟨y0, rfl, -, -, s2, hw2, -⟩
      have ow2 := how.within hw2 how.lt (.inr hgl)
      have wi2 := hwi.trans hw2
      go_wp2_with fail
      refine (l2Draw _ base g A m c _ l s2 (by omega)).mono ?_
      rintro e w3 ⟨n0, n1, n2, n3, rfl, -, -, -, -, s3, hw3⟩
      have ow3 := ow2.within hw3 ow2.lt (.inr hgl)
      have wi3 := wi2.trans hw3
      generalize ((n3 : Int) - 1000) = y4 at *
      generalize (n0 : Int) = y1 at *
      generalize (n1 : Int) = y2 at *
      generalize (n2 : Int) = y3 at *
      go_wp2_with fail
      refine (l1Next _ base g A m c _ l 5 s3 (by omega) (by omega)).mono ?_
      rintro e w4 ⟨y5, rfl, -, -, s4, hw4, -⟩
      have ow4 := ow3.within hw4 ow3.lt (.inr hgl)
      have wi4 := wi3.trans hw4
      have g4 := s4.at_.lt
      go_wp2_with fail
      refine (l1Pick (w4.alloc (.cells #[.int .i64 0, .int .i64 5, .int .i64 7, .int .i64 100] 2)) _ _ A m c _ l w4.heap.size #[.int .i64 0, .int .i64 5, .int .i64 7, .int .i64 100] [0, 5, 7, 100] 4 4 (s4.alloc _) (by omega) (At.newAt (by first | rfl | simp)) (by simp [intCells]) (by omega) rfl (by omega) (by omega)).mono ?_
      rintro e w5 ⟨v5, hv5, rfl, s5, hw5, -⟩
      have g5 := s5.at_.lt
      have ow5' := ow4.alloc (.cells #[.int .i64 0, .int .i64 5, .int .i64 7, .int .i64 100] 2)
      have ow5 := ow5'.within hw5 ow5'.lt (.inr hgl)
      have wi5 := (wi4.alloc (.cells #[.int .i64 0, .int .i64 5, .int .i64 7, .int .i64 100] 2)).trans hw5
      obtain ⟨y6, hy6⟩ : ∃ y, v5 = y := ⟨_, rfl⟩
      subst hy6
      clear hv5 ow5'
      generalize v5 = y6 at *
      have hat := At.new w5 75 #[.int .i64 y0, .int .i64 y1, .int .i64 y2, .int .i64 y3, .int .i64 y4, .int .i64 y5, .int .i64 y6]
      have ow6 := ow5.alloc (.cells #[.int .i64 y0, .int .i64 y1, .int .i64 y2, .int .i64 y3, .int .i64 y4, .int .i64 y5, .int .i64 y6] 75)
      have wi6 := wi5.alloc (.cells #[.int .i64 y0, .int .i64 y1, .int .i64 y2, .int .i64 y3, .int .i64 y4, .int .i64 y5, .int .i64 y6] 75)
      have s6 := s5.alloc (.cells #[.int .i64 y0, .int .i64 y1, .int .i64 y2, .int .i64 y3, .int .i64 y4, .int .i64 y5, .int .i64 y6] 75)
      have hl6 := ow6.len okH
      have hfi := l4Find A1 L c1 xs y0 y3 _ (ow6.rd okH) hl6 (by unfold maxLen; omega)
      have hkk : k + 1 + 7 * j + 1 + 4 + 1 + 1 = k + 1 + 7 * (j + 1) := by omega
      rw [hkk] at s6
      have S6 := Lib.hid s6
      clear s2 s3 s4 s5 s6 hw2 hw3 hw4 hw5 how hwi hsrc ow2 ow3 ow4 ow5 wi2 wi3 wi4
      obtain ⟨f, hf⟩ : ∃ f, findHI xs y0 y3 = f := ⟨_, rfl⟩
      rw [hf] at hfi
      clear hf
      by_cases hneg : f < 0
      · by_cases h8 : L < 8
        · have h8i : (L : Int) < 8 := by omega
          have ob : Rd eH ((w5.alloc (.cells #[.int .i64 y0, .int .i64 y1, .int .i64 y2, .int .i64 y3, .int .i64 y4, .int .i64 y5, .int .i64 y6] 75)).alloc (.cells #[.int .i64 y0, .int .i64 y1, .int .i64 y2, .int .i64 y3, .int .i64 y4, .int .i64 y5, .int .i64 y6] 75)) (w5.heap.size + 1 + 1) (some ⟨w5.heap.size + 1, 0, none⟩) [(y0, (y1, y2, y3, y4), y5, y6)] := by
            have := rd_lit okH (w5.alloc (.cells #[.int .i64 y0, .int .i64 y1, .int .i64 y2, .int .i64 y3, .int .i64 y4, .int .i64 y5, .int .i64 y6] 75)) 75 [(y0, (y1, y2, y3, y4), y5, y6)] #[.int .i64 y0, .int .i64 y1, .int .i64 y2, .int .i64 y3, .int .i64 y4, .int .i64 y5, .int .i64 y6] rfl
            simpa using this
          have ow7 := ow6.alloc (.cells #[.int .i64 y0, .int .i64 y1, .int .i64 y2, .int .i64 y3, .int .i64 y4, .int .i64 y5, .int .i64 y6] 75)
          have wi7 := wi6.alloc (.cells #[.int .i64 y0, .int .i64 y1, .int .i64 y2, .int .i64 y3, .int .i64 y4, .int .i64 y5, .int .i64 y6] 75)
          have s7 := S6.out.alloc (.cells #[.int .i64 y0, .int .i64 y1, .int .i64 y2, .int .i64 y3, .int .i64 y4, .int .i64 y5, .int .i64 y6] 75)
          have S7' := Lib.hid s7
          clear s7
          have hr5 : ∀ x, A1.map (·.block) = some x → w.heap.size ≤ x := fun x hx => (ow6.lt x hx).1
          go_wp2_with fail
          refine hfi.mono ?_
          rintro e w99 ⟨rfl, rfl⟩
          go_wp2_with (at_builtin; refine wpList_append_ow okH _ rfl (.tmp 36) (.tmp 38) _ rfl w.heap.size info_hnt Tryz.underlying37 rfl A1 L c1 xs rfl ow7 _ 1 1 _ [(y0, (y1, y2, y3, y4), y5, y6)] rfl ob rfl (by unfold maxLen; omega) (by omega) wi7.size ?_; intro A5 c5 w8 ow8 hg8 _)
          exact ⟨⟨j + 1, A5, L + 1, c5, _, by omega, by go_num, rfl, by omega, ow8, S7'.out.grown hg8 (fun x hx => Nat.lt_of_lt_of_le hgl (hr5 x hx)), wi7.push hg8 hr5⟩, by simp [intOf]; omega⟩
        · have h8i : ¬ (L : Int) < 8 := by omega
          go_wp2_with fail
          refine hfi.mono ?_
          rintro e w99 ⟨rfl, rfl⟩
          go_wp2
          exact ⟨⟨j + 1, A1, L, c1, xs, by omega, by go_num, rfl, by omega, ow6, S6.out, wi6⟩, by simp [intOf]; omega⟩
      · go_wp2_with fail
        refine hfi.mono ?_
        rintro e w99 ⟨rfl, rfl⟩
        go_wp2
        exact ⟨⟨j + 1, A1, L, c1, xs, by omega, by go_num, rfl, by omega, ow6, S6.out, wi6⟩, by simp [intOf]; omega⟩
    · obtain rfl : n = j := by omega
      go_wp2
      go_ret
      exact ⟨_, A1, L, c1, xs, rfl, by omega, how, by omega, Hs.out, hwi⟩

set_option maxHeartbeats 8000000 in
theorem l4Bent (w : World) (base g : Nat) (A : Option Addr) (m c k : Nat) (l : List UInt8) (h : Src w base g A m c k l) (hk : k < 600000000) :
    Calls Tryz.prog 91 #[.pointer (some ⟨g, 0, none⟩)] w fun e w' => ∃ (k' : Nat) (A' : Option Addr) (L c' : Nat) (xs : List Hnt), e = .returned (.slice A' L c') ∧ L ≤ 16 ∧ Ow eH w' w.heap.size A' L c' xs ∧ k' ≤ k + 100 ∧ Src w' base g A m c k' l ∧ Within g (g + 1) w w' := by
  have hgl := h.at_.lt
  go_enter Tryz.func91, Tryz.ntmps91
  go_wp2_with fail
  refine (l4Draw w base g A m c k l h (by omega)).mono ?_
  rintro e w1 ⟨k1, A1, L1, c1, xs, rfl, hL, ow1, hk1, s1, wi1⟩
  have g1 := s1.at_.lt
  have hl1 := ow1.len okH
  by_cases h0 : 0 < L1
  rotate_left
  · have h0i : ¬ (0 : Int) < (L1 : Int) := by omega
    go_wp2_with fail
    go_ret
    first | exact ⟨k1, A1, L1, c1, xs, rfl, by omega, ow1, by omega, s1, wi1⟩ | exact ⟨k1, A1, L1, c1, rfl, by omega, ⟨xs, ow1⟩, by omega, s1, wi1⟩
  have h0i : (0 : Int) < (L1 : Int) := by omega
  obtain ⟨gO, rfl, hgO, hgO'⟩ := ow1.form h0
  go_wp2_with fail
  refine (l1Next _ base g A m c k1 l (L1 : Int) s1 (by omega) (by omega)).mono ?_
  rintro e w2 ⟨r2, rfl, hr2, -, s2, hw2, -⟩
  obtain ⟨hr20, hr21⟩ := hr2 (by omega)
  obtain ⟨q, rfl⟩ := Int.eq_ofNat_of_zero_le hr20
  have hq : q < L1 := by omega
  have ow2 := ow1.within hw2 ow1.lt (.inr hgl)
  have wi2 := wi1.trans hw2
  have g2 := s2.at_.lt
  have hqi : (q : Int) < (L1 : Int) := by omega
  have hqn : (0 : Int) ≤ (q : Int) := by omega
  clear hr2 hr20 hr21
  go_wp2_with fail
  refine (l1Next _ base g A m c _ l 18 s2 (by omega) (by omega)).mono ?_
  rintro e w3 ⟨r, rfl, hr, -, s3, hw3, -⟩
  obtain ⟨hr0, hr1⟩ := hr (by omega)
  have ow3 := ow2.within hw3 ow2.lt (.inr hgl)
  have wi3 := wi2.trans hw3
  have g3 := s3.at_.lt
  have z3 := wi3.size
  have hgs : gO < w3.heap.size := (ow3.lt gO rfl).2
  clear hr ow1 ow2 s1 s2 hw2 hw3 wi1 wi2
  obtain ⟨⟨a0, ⟨a1, a2, a3, a4⟩, a5, a6⟩, hx⟩ : ∃ x, xs[q]? = some x := ⟨xs[q], List.getElem?_eq_getElem (by omega)⟩
  have Hx := Lib.hid hx
  clear hx
  rcases (show r = 0 ∨ r = 1 ∨ r = 2 ∨ r = 3 ∨ r = 4 ∨ 5 ≤ r by omega) with rfl | rfl | rfl | rfl | rfl | hr5
  · go_wp2_with fail
    refine (l1Pick (w3.alloc (.cells #[.int .i64 (-1), .int .i64 4] 2)) _ _ A m c _ l w3.heap.size #[.int .i64 (-1), .int .i64 4] [(-1), 4] 2 2 (s3.alloc _) (by omega) (At.newAt (by first | rfl | simp)) (by simp [intCells]) (by omega) rfl (by omega) (by omega)).mono ?_
    rintro e w4 ⟨v4, hv4, rfl, s4, hw4, -⟩
    have g4 := s4.at_.lt
    have ow4' := ow3.alloc (.cells #[.int .i64 (-1), .int .i64 4] 2)
    have ow4 := ow4'.within hw4 ow4'.lt (.inr hgl)
    have wi4 := (wi3.alloc (.cells #[.int .i64 (-1), .int .i64 4] 2)).trans hw4
    clear hv4 ow4'
    obtain ⟨d0, d1, d2, d3, d4, d5, d6⟩ := ow4.hntAt Hx.out
    have fz := ow4.frozenAt (q * 7)
    have hp := ow4.hntPut (j := 0) (y := (v4, (a1, a2, a3, a4), a5, a6)) (u := .int .i64 v4) Hx.out (by omega) rfl
    have Hp := Lib.hid hp.1
    have s5 := s4.grown hp.2 (fun x hx => by cases hx; omega)
    have wi5 := wi4.push hp.2 (fun x hx => by cases hx; exact hgO)
    have S5 := Lib.hid s5
    have W5 := Lib.hid wi5
    clear hp s5 wi5
    go_wp2_with fail
    go_ret
    first | exact ⟨_, some ⟨gO, 0, none⟩, L1, c1, _, rfl, by omega, Hp.out, by omega, S5.out, W5.out⟩ | exact ⟨_, some ⟨gO, 0, none⟩, L1, c1, rfl, by omega, ⟨_, Hp.out⟩, by omega, S5.out, W5.out⟩
  · go_wp2_with fail
    refine (l1Pick (w3.alloc (.cells #[.int .i64 (-1), .int .i64 5] 2)) _ _ A m c _ l w3.heap.size #[.int .i64 (-1), .int .i64 5] [(-1), 5] 2 2 (s3.alloc _) (by omega) (At.newAt (by first | rfl | simp)) (by simp [intCells]) (by omega) rfl (by omega) (by omega)).mono ?_
    rintro e w4 ⟨v4, hv4, rfl, s4, hw4, -⟩
    have g4 := s4.at_.lt
    have ow4' := ow3.alloc (.cells #[.int .i64 (-1), .int .i64 5] 2)
    have ow4 := ow4'.within hw4 ow4'.lt (.inr hgl)
    have wi4 := (wi3.alloc (.cells #[.int .i64 (-1), .int .i64 5] 2)).trans hw4
    clear hv4 ow4'
    obtain ⟨d0, d1, d2, d3, d4, d5, d6⟩ := ow4.hntAt Hx.out
    have fz := ow4.frozenAt (q * 7 + 5)
    have hp := ow4.hntPut (j := 5) (y := (a0, (a1, a2, a3, a4), v4, a6)) (u := .int .i64 v4) Hx.out (by omega) rfl
    have Hp := Lib.hid hp.1
    have s5 := s4.grown hp.2 (fun x hx => by cases hx; omega)
    have wi5 := wi4.push hp.2 (fun x hx => by cases hx; exact hgO)
    have S5 := Lib.hid s5
    have W5 := Lib.hid wi5
    clear hp s5 wi5
    go_wp2_with fail
    go_ret
    first | exact ⟨_, some ⟨gO, 0, none⟩, L1, c1, _, rfl, by omega, Hp.out, by omega, S5.out, W5.out⟩ | exact ⟨_, some ⟨gO, 0, none⟩, L1, c1, rfl, by omega, ⟨_, Hp.out⟩, by omega, S5.out, W5.out⟩
  · go_wp2_with fail
    refine (l1Pick (w3.alloc (.cells #[.int .i64 (-1), .int .i64 200000, .int .i64 200001] 2)) _ _ A m c _ l w3.heap.size #[.int .i64 (-1), .int .i64 200000, .int .i64 200001] [(-1), 200000, 200001] 3 3 (s3.alloc _) (by omega) (At.newAt (by first | rfl | simp)) (by simp [intCells]) (by omega) rfl (by omega) (by omega)).mono ?_
    rintro e w4 ⟨v4, hv4, rfl, s4, hw4, -⟩
    have g4 := s4.at_.lt
    have ow4' := ow3.alloc (.cells #[.int .i64 (-1), .int .i64 200000, .int .i64 200001] 2)
    have ow4 := ow4'.within hw4 ow4'.lt (.inr hgl)
    have wi4 := (wi3.alloc (.cells #[.int .i64 (-1), .int .i64 200000, .int .i64 200001] 2)).trans hw4
    clear hv4 ow4'
    obtain ⟨d0, d1, d2, d3, d4, d5, d6⟩ := ow4.hntAt Hx.out
    have fz := ow4.frozenAt (q * 7 + 6)
    have hp := ow4.hntPut (j := 6) (y := (a0, (a1, a2, a3, a4), a5, v4)) (u := .int .i64 v4) Hx.out (by omega) rfl
    have Hp := Lib.hid hp.1
    have s5 := s4.grown hp.2 (fun x hx => by cases hx; omega)
    have wi5 := wi4.push hp.2 (fun x hx => by cases hx; exact hgO)
    have S5 := Lib.hid s5
    have W5 := Lib.hid wi5
    clear hp s5 wi5
    go_wp2_with fail
    go_ret
    first | exact ⟨_, some ⟨gO, 0, none⟩, L1, c1, _, rfl, by omega, Hp.out, by omega, S5.out, W5.out⟩ | exact ⟨_, some ⟨gO, 0, none⟩, L1, c1, rfl, by omega, ⟨_, Hp.out⟩, by omega, S5.out, W5.out⟩
  · go_wp2_with fail
    refine (l2Bent _ base g A m c _ l s3 (by omega)).mono ?_
    rintro e w4 ⟨b1, b2, b3, b4, rfl, ⟨k4, hk4, s4⟩, hw4⟩
    have ow4 := ow3.within hw4 ow3.lt (.inr hgl)
    have wi4 := wi3.trans hw4
    obtain ⟨d0, d1, d2, d3, d4, d5, d6⟩ := ow4.hntAt Hx.out
    have fz1 := ow4.frozenAt (q * 7 + 1)
    have fz2 := ow4.frozenAt (q * 7 + 2)
    have fz3 := ow4.frozenAt (q * 7 + 3)
    have fz4 := ow4.frozenAt (q * 7 + 4)
    have lx : q < xs.length := by omega
    have p1 := ow4.hntPut (j := 1) (y := (a0, (b1, a2, a3, a4), a5, a6)) (u := .int .i64 b1) Hx.out (by omega) rfl
    have p2 := p1.1.hntPut (j := 2) (x := (a0, (b1, a2, a3, a4), a5, a6)) (y := (a0, (b1, b2, a3, a4), a5, a6)) (u := .int .i64 b2) (by rw [List.getElem?_set_self lx]) (by omega) rfl
    rw [List.set_set] at p2
    have p3 := p2.1.hntPut (j := 3) (x := (a0, (b1, b2, a3, a4), a5, a6)) (y := (a0, (b1, b2, b3, a4), a5, a6)) (u := .int .i64 b3) (by rw [List.getElem?_set_self lx]) (by omega) rfl
    rw [List.set_set] at p3
    have p4 := p3.1.hntPut (j := 4) (x := (a0, (b1, b2, b3, a4), a5, a6)) (y := (a0, (b1, b2, b3, b4), a5, a6)) (u := .int .i64 b4) (by rw [List.getElem?_set_self lx]) (by omega) rfl
    rw [List.set_set] at p4
    have hg := grown_trans (grown_trans (grown_trans p1.2 p2.2) p3.2) p4.2
    have Hp := Lib.hid p4.1
    have S5 := Lib.hid (s4.grown hg (fun x hx => by cases hx; omega))
    have W5 := Lib.hid (wi4.push hg (fun x hx => by cases hx; exact hgO))
    clear p1 p2 p3 p4 hg
    go_wp2_with fail
    go_ret
    first | exact ⟨_, some ⟨gO, 0, none⟩, L1, c1, _, rfl, by omega, Hp.out, by omega, S5.out, W5.out⟩ | exact ⟨_, some ⟨gO, 0, none⟩, L1, c1, rfl, by omega, ⟨_, Hp.out⟩, by omega, S5.out, W5.out⟩
  · have hr5 : ∀ x, (some (⟨gO, 0, none⟩ : Addr)).map (·.block) = some x → w.heap.size ≤ x := fun x hx => (ow3.lt x hx).1
    go_wp2_with (at_builtin; refine wpList_append_ow okH _ rfl (.tmp 52) (.tmp 53) _ rfl w.heap.size info_hnt Tryz.underlying37 rfl (some ⟨gO, 0, none⟩) L1 c1 xs rfl ow3 (some ⟨gO, 0, none⟩) L1 c1 _ xs rfl (ow3.rd okH) hl1 (by unfold maxLen; omega) (by omega) wi3.size ?_; intro A5 c5 w5 ow5 hg5 _)
    go_ret
    first | exact ⟨_, A5, L1 + L1, c5, _, rfl, by omega, ow5, by omega, s3.grown hg5 (fun x hx => Nat.lt_of_lt_of_le hgl (hr5 x hx)), wi3.push hg5 hr5⟩ | exact ⟨_, A5, L1 + L1, c5, rfl, by omega, ⟨_, ow5⟩, by omega, s3.grown hg5 (fun x hx => Nat.lt_of_lt_of_le hgl (hr5 x hx)), wi3.push hg5 hr5⟩
  · have b0 : (r == 0) = false := by simp; omega
    have b1 : (r == 1) = false := by simp; omega
    have b2 : (r == 2) = false := by simp; omega
    have b3 : (r == 3) = false := by simp; omega
    have b4 : (r == 4) = false := by simp; omega
    go_wp2_with fail
    go_ret
    first | exact ⟨_, some ⟨gO, 0, none⟩, L1, c1, xs, rfl, by omega, ow3, by omega, s3, wi3⟩ | exact ⟨_, some ⟨gO, 0, none⟩, L1, c1, rfl, by omega, ⟨xs, ow3⟩, by omega, s3, wi3⟩
end Go.Proofs.YtmaillakhhdkfaaGreatDoor
/-
  What the law of hints draws: the arguments of each function.
-/
namespace Go.Proofs.YtmaillakhhdkfaaGreatDoor
set_option maxRecDepth 20000
open Go.RowKit
set_option linter.unusedSimpArgs false
set_option linter.unusedVariables false

theorem Ow.farH {α : Type} {E : Enc α} {w : World} {base n c : Nat} {A : Option Addr} {l : List α} (h : Ow E w base A n c l) {p : Addr} (hne : ∀ g, A.map (·.block) = some g → g ≠ p.block) (u : Value) : Ow E (w.setCell p u) base A n c l :=
  h.grown (grown_setCell w p u) (fun g hg he => hne g hg (Option.some.inj he).symm)

end Go.Proofs.YtmaillakhhdkfaaGreatDoor
/-
  A store's bounds and order: the model's StoreFault.
-/
namespace Go.Proofs.YtmaillakhhdkfaaGreatDoor
set_option maxRecDepth 20000
open Go.RowKit
set_option linter.unusedSimpArgs false

/-- The i-th is ahead of the next one. -/
def stepM (l : List Smp) (i : Nat) : Bool := match l[i]?, l[i + 1]? with | some a, some b => aheadM a b | _, _ => true
theorem stepM_at {l : List Smp} {i : Nat} {a b : Smp} (ha : l[i]? = some a) (hb : l[i + 1]? = some b) : stepM l i = aheadM a b := by
  unfold stepM
  rw [ha, hb]
def risesM (l : List Smp) : Bool := (List.range l.length).all (stepM l)
def rightM (l : List Smp) : Bool := l.all fun x => decide (faultM x = 0)
def storeFaultM (l : List Smp) : Int := if 160 < l.length then 2 else if rightM l = false then 3 else if risesM l = false then 1 else 0
theorem storeFault_many {l : List Smp} (h : 160 < l.length) : storeFaultM l = 2 := if_pos h
theorem storeFault_wrong {l : List Smp} {k : Nat} {x : Smp} (h : ¬ 160 < l.length) (hx : l[k]? = some x) (hf : faultM x = 3) : storeFaultM l = 3 := by
  have hr : rightM l = false := by
    unfold rightM
    rw [List.all_eq_false]
    exact ⟨x, List.mem_of_getElem? hx, by simp [hf]⟩
  unfold storeFaultM
  rw [if_neg h, if_pos hr]
theorem rightM_of {l : List Smp} {n : Nat} (hn : l.length = n) (hal : ∀ j x, j < n → l[j]? = some x → faultM x = 0) : rightM l = true := by
  unfold rightM
  rw [List.all_eq_true]
  intro x hx
  obtain ⟨j, hj⟩ := List.mem_iff_getElem?.1 hx
  exact decide_eq_true (hal j x (by have := getElem?_some_lt hj; omega) hj)
theorem storeFault_form {l : List Smp} {k : Nat} (h : ¬ 160 < l.length) (hr : rightM l = true) (hk : k < l.length) (hs : stepM l k = false) : storeFaultM l = 1 := by
  have hq : risesM l = false := by
    unfold risesM
    rw [List.all_eq_false]
    exact ⟨k, List.mem_range.2 hk, by simp [hs]⟩
  unfold storeFaultM
  rw [if_neg h, if_neg (by simp [hr]), if_pos hq]
theorem storeFault_ok {l : List Smp} {n : Nat} (hn : l.length = n) (h : ¬ 160 < l.length) (hr : rightM l = true) (hal : ∀ j, j + 1 < n → stepM l j = true) : storeFaultM l = 0 := by
  have hq : risesM l = true := by
    unfold risesM
    rw [List.all_eq_true]
    intro j hj
    have hj' := List.mem_range.1 hj
    rcases Nat.lt_or_ge (j + 1) n with h1 | h1
    · exact hal j h1
    · unfold stepM
      rw [List.getElem?_eq_none (l := l) (i := j + 1) (by omega)]
      cases l[j]? <;> rfl
  unfold storeFaultM
  rw [if_neg h, if_neg (by simp [hr]), if_neg (by simp [hq])]

def RightRel (w : World) (l : List Smp) (n : Nat) (i : Value) (wr : World) : Prop :=
  ∃ k : Nat, k ≤ n ∧ i = .int .i64 k ∧ (∀ j x, j < k → l[j]? = some x → faultM x = 0) ∧ Below w.heap.size w wr
def RiseRel (w : World) (l : List Smp) (n : Nat) (i : Value) (wr : World) : Prop :=
  ∃ k : Nat, (k + 1 ≤ n ∨ k = 0) ∧ i = .int .i64 ((k + 1 : Nat) : Int) ∧ (∀ j, j < k → stepM l j = true) ∧ Below w.heap.size w wr

set_option maxHeartbeats 2000000 in
theorem specStoreFault (A : Option Addr) (n c : Nat) (l : List Smp) (w : World) (ha : Rd eS w w.heap.size A l) (hn : l.length = n) :
    Calls Tryz.prog 65 #[.slice A n c] w fun e w' => e = .returned (.int .i64 (storeFaultM l)) ∧ Below w.heap.size w w' := by
  by_cases hbig : 160 < n
  · have hb : (160 : Int) < (n : Int) := by omega
    rw [storeFault_many (by omega)]
    go_enter Tryz.func65, Tryz.ntmps65
    go_wp2
    go_ret
    exact ⟨rfl, Below.refl _ _⟩
  have hb : (n : Int) ≤ 160 := by omega
  have Hbig := Lib.hid (show ¬ 160 < l.length by omega)
  have Hn := Lib.hid hn
  clear hn hbig
  go_enter Tryz.func65, Tryz.ntmps65
  go_wp2
  go_loopw [3] (fun i wr => RightRel w l n i wr) (fun i _ => n - (intOf i).toNat)
  case atStart => exact ⟨0, Nat.zero_le _, rfl, fun _ _ h => absurd h (by omega), Below.refl _ _⟩
  case round =>
    obtain ⟨k, hk, rfl, hal, hbel⟩ := hrel
    have Hal := Lib.hid hal
    clear hal
    by_cases hlt : k < n
    · obtain ⟨g, o, a0, a1, a2, a3, rfl, hg, hx, c0, c1, c2, c3⟩ := (ha.below hbel (Nat.le_refl _)).smp (k := k) (by rw [Hn.out]; exact hlt)
      rcases faultM_or (a0, a1, a2, a3) with hf | hf
      · have hq := specSampleFault a0 a1 a2 a3 wr
        rw [hf] at hq
        have Hx := Lib.hid hx
        have Hf := Lib.hid hf
        clear hx hf
        go_wp2_with fail
        refine hq.mono ?_
        rintro e w2 ⟨rfl, hb2⟩
        have hB2 := hbel.trans (hb2.mono hbel.size)
        go_wp2
        refine ⟨⟨k + 1, by omega, by go_num, fun j x hj hx => ?_, hB2⟩, by simp [intOf]; omega⟩
        rcases Nat.lt_or_ge j k with h | h
        · exact Hal.out j x h hx
        · obtain rfl : j = k := by omega
          obtain rfl := Option.some.inj (Hx.out.symm.trans hx)
          exact Hf.out
      · have hq := specSampleFault a0 a1 a2 a3 wr
        rw [hf] at hq
        have Hr := Lib.hid (storeFault_wrong Hbig.out hx hf)
        clear hx hf
        go_wp2_with fail
        refine hq.mono ?_
        rintro e w2 ⟨rfl, hb2⟩
        have hB2 := hbel.trans (hb2.mono hbel.size)
        go_wp2
        go_ret
        exact ⟨by rw [Hr.out]; rfl, hB2⟩
    · obtain rfl : n = k := by omega
      have Hright := Lib.hid (rightM_of Hn.out Hal.out)
      clear Hal
      go_wp2
      go_loopw [5] (fun i wr => RiseRel w l n i wr) (fun i _ => n - (intOf i).toNat)
      case atStart => exact ⟨0, .inr rfl, rfl, fun _ h => absurd h (by omega), hbel⟩
      case round =>
        obtain ⟨k, hk, rfl, hal, hbel⟩ := hrel
        have Hal := Lib.hid hal
        clear hal
        by_cases hlt : k + 1 < n
        · obtain ⟨g, o, a0, a1, a2, a3, rfl, hg, hx, ca⟩ := (ha.below hbel (Nat.le_refl _)).smp (k := k) (by rw [Hn.out]; omega)
          obtain ⟨g', o', b0, b1, b2, b3, e', hg', hy, cb⟩ := (ha.below hbel (Nat.le_refl _)).smp (k := k + 1) (by rw [Hn.out]; omega)
          obtain ⟨rfl, rfl⟩ : g = g' ∧ o = o' := by simpa using Option.some.inj e'
          have Hst := Lib.hid (stepM_at hx hy)
          clear hx hy e'
          have hbd := hbel.drew
          have hw : IntKind.i64.wrap (k : Int) = (k : Int) := IntWalk.i64_in _ (by omega)
          have i1 : (k : Int) < (n : Int) := by omega
          have i2 : (k : Int) + 1 < (n : Int) := by omega
          have i3 : (0 : Int) ≤ (k : Int) + 1 := by omega
          have i4 : ((k : Int) + 1).toNat = k + 1 := by omega
          go_wp2
          refine wp_region_mix [(0, false), (1, false), (2, false), (3, false), (4, false), (5, false), (6, false), (7, false), (8, false), (9, true), (10, false)] (fun u => S4 u g (o + k * 4) a0 a1 a2 a3 ∧ S4 u g (o + (k + 1) * 4) b0 b1 b2 b3) (by kernel_rfl) (by kernel_rfl) (fun _ _ _ _ _ h => h) ⟨ca.drew, cb.drew⟩ ?_
          simp only [mixOps, List.map_cons, List.map_nil, List.getElem?_cons_succ, List.getElem?_cons_zero, Option.getD_some]
          repeat (first
            | (refine mix_skip (by rfl) ?_
               (try simp only [Act.put, List.setIfInBounds_toArray, List.set_cons_zero, List.set_cons_succ]))
            | (refine mix_pure (v := ?_) (by rfl) (fun u hu => ?_) ?_
               rotate_left
               · obtain ⟨⟨_, _, _, _⟩, _, _, _, _⟩ := hu
                 go_simp
                 (with_reducible rfl)
               (try simp only [Act.put, List.setIfInBounds_toArray, List.set_cons_zero, List.set_cons_succ])))
          refine mix_call (by rfl) (fun K hK => ?_)
          go_simp
          refine (specIsAhead a0 a1 a2 a3 b0 b1 b2 b3 _).mono ?_
          rintro e w1 ⟨rfl, hb1⟩
          have hB1 := hbd.trans (hb1.mono hbd.size)
          refine hK _ _ _ (fun _ h => h) ⟨ca.drew.below hb1 (Nat.lt_of_lt_of_le hg hbd.size), cb.drew.below hb1 (Nat.lt_of_lt_of_le hg hbd.size)⟩ ?_
          (try simp only [Act.put, List.setIfInBounds_toArray, List.set_cons_zero, List.set_cons_succ])
          rw [← Hst.out]
          rcases hs : stepM l k
          · have Hf := Lib.hid (storeFault_form Hbig.out Hright.out (show k < l.length by rw [Hn.out]; omega) hs)
            clear hs
            refine mix_pure (v := ?_) (by rfl) (fun u hu => ?_) ?_
            rotate_left
            · go_simp
              (with_reducible rfl)
            (try simp only [Act.put, List.setIfInBounds_toArray, List.set_cons_zero, List.set_cons_succ])
            refine mix_nil ?_
            go_wp2
            go_ret
            exact ⟨by rw [Hf.out]; rfl, hB1⟩
          · have Hs := Lib.hid hs
            clear hs
            refine mix_pure (v := ?_) (by rfl) (fun u hu => ?_) ?_
            rotate_left
            · go_simp
              (with_reducible rfl)
            (try simp only [Act.put, List.setIfInBounds_toArray, List.set_cons_zero, List.set_cons_succ])
            refine mix_nil ?_
            go_wp2
            refine ⟨⟨k + 1, .inl (by omega), by go_num, fun j hj => ?_, hB1⟩, by simp [intOf]; omega⟩
            rcases Nat.lt_or_ge j k with h | h
            · exact Hal.out j h
            · obtain rfl : j = k := by omega
              exact Hs.out
        · have hq := storeFault_ok Hn.out Hbig.out Hright.out (fun j hj => Hal.out j (by omega))
          have Hq := Lib.hid hq
          clear hq
          have i5 : ¬ (k : Int) + 1 < (n : Int) := by omega
          go_wp2
          go_ret
          exact ⟨by rw [Hq.out]; rfl, hbel⟩
end Go.Proofs.YtmaillakhhdkfaaGreatDoor
/-
  A key looked for in a store, a store copied: the model's.
-/
namespace Go.Proofs.YtmaillakhhdkfaaGreatDoor
set_option maxRecDepth 20000
open Go.RowKit
set_option linter.unusedSimpArgs false

def hitM (l : List Smp) (x : Smp) (i : Nat) : Bool := match l[i]? with | some a => sameKeyM a x | none => false
theorem hitM_at {l : List Smp} {x a : Smp} {i : Nat} (h : l[i]? = some a) : hitM l x i = sameKeyM a x := by
  unfold hitM
  rw [h]
/-- Where the key stands. -/
def findM (l : List Smp) (x : Smp) : Option Nat := (List.range l.length).find? (hitM l x)
def findI (l : List Smp) (x : Smp) : Int := match findM l x with | some i => (i : Int) | none => -1
theorem findI_some {l : List Smp} {x : Smp} {k : Nat} (hk : k < l.length) (h : hitM l x k = true) (hal : ∀ j, j < k → hitM l x j = false) : findI l x = (k : Int) := by
  have : findM l x = some k := by
    unfold findM
    rw [List.find?_range_eq_some]
    exact ⟨h, by simpa using hk, fun j hj => by simp [hal j hj]⟩
  unfold findI
  rw [this]
theorem findI_none {l : List Smp} {x : Smp} {n : Nat} (hn : l.length = n) (hal : ∀ j, j < n → hitM l x j = false) : findI l x = -1 := by
  have : findM l x = none := by
    unfold findM
    rw [List.find?_range_eq_none]
    exact fun j hj => by simp [hal j (by omega)]
  unfold findI
  rw [this]

def FindRel (w : World) (l : List Smp) (x : Smp) (n : Nat) (i : Value) (wr : World) : Prop :=
  ∃ k : Nat, k ≤ n ∧ i = .int .i64 k ∧ (∀ j, j < k → hitM l x j = false) ∧ Below w.heap.size w wr

set_option maxHeartbeats 2000000 in
theorem l3Find (A : Option Addr) (n c : Nat) (l : List Smp) (gk pk : Nat) (k0 k1 k2 k3 : Int) (w : World) (ha : Rd eS w w.heap.size A l) (hn : l.length = n) (hm : n ≤ maxLen) (hk : S4 w gk pk k0 k1 k2 k3) (hgk : gk < w.heap.size) :
    Calls Tryz.prog 100 #[.slice A n c, .pointer (some ⟨gk, pk, none⟩)] w fun e w' => e = .returned (.int .i64 (findI l (k0, k1, k2, k3))) ∧ Below w.heap.size w w' := by
  have Hn := Lib.hid hn
  clear hn
  unfold maxLen at hm
  go_enter Tryz.func100, Tryz.ntmps100
  go_wp2
  go_loopw [5] (fun i wr => FindRel w l (k0, k1, k2, k3) n i wr) (fun i _ => n - (intOf i).toNat)
  case atStart => exact ⟨0, Nat.zero_le _, rfl, fun _ h => absurd h (by omega), Below.refl _ _⟩
  case round =>
    obtain ⟨k, hkn, rfl, hal, hbel⟩ := hrel
    have Hal := Lib.hid hal
    clear hal
    by_cases hlt : k < n
    · obtain ⟨g, o, a0, a1, a2, a3, rfl, hg, hx, ca⟩ := (ha.below hbel (Nat.le_refl _)).smp (k := k) (by rw [Hn.out]; exact hlt)
      have cb := hk.below hbel hgk
      have Hh := Lib.hid (hitM_at (x := (k0, k1, k2, k3)) hx)
      clear hx
      have hbd := hbel.drew
      go_wp2
      refine wp_region_mix [(0, false), (1, false), (2, false), (3, false), (4, false), (5, false), (6, false), (7, true)] (fun u => S4 u g (o + k * 4) a0 a1 a2 a3 ∧ S4 u gk pk k0 k1 k2 k3) (by kernel_rfl) (by kernel_rfl) (fun _ _ _ _ _ h => h) ⟨ca.drew, cb.drew⟩ ?_
      simp only [mixOps, List.map_cons, List.map_nil, List.getElem?_cons_succ, List.getElem?_cons_zero, Option.getD_some]
      repeat (first
        | (refine mix_skip (by rfl) ?_
           (try simp only [Act.put, List.setIfInBounds_toArray, List.set_cons_zero, List.set_cons_succ]))
        | (refine mix_pure (v := ?_) (by rfl) (fun u hu => ?_) ?_
           rotate_left
           · obtain ⟨⟨_, _, _, _⟩, _, _, _, _⟩ := hu
             go_simp
             (with_reducible rfl)
           (try simp only [Act.put, List.setIfInBounds_toArray, List.set_cons_zero, List.set_cons_succ])))
      refine mix_call (by rfl) (fun K hK => ?_)
      go_simp
      refine (specIsSameKey a0 a1 a2 a3 k0 k1 k2 k3 _).mono ?_
      rintro e w1 ⟨rfl, hb1⟩
      have hB1 := hbd.trans (hb1.mono hbd.size)
      refine hK _ _ _ (fun _ h => h) ⟨ca.drew.below hb1 (Nat.lt_of_lt_of_le hg hbd.size), cb.drew.below hb1 (Nat.lt_of_lt_of_le hgk hbd.size)⟩ ?_
      (try simp only [Act.put, List.setIfInBounds_toArray, List.set_cons_zero, List.set_cons_succ])
      rw [← Hh.out]
      refine mix_nil ?_
      rcases hs : hitM l (k0, k1, k2, k3) k
      · have Hs := Lib.hid hs
        clear hs
        go_wp2
        refine ⟨⟨k + 1, by omega, by go_num, fun j hj => ?_, hB1⟩, by simp [intOf]; omega⟩
        rcases Nat.lt_or_ge j k with h | h
        · exact Hal.out j h
        · obtain rfl : j = k := by omega
          exact Hs.out
      · have Hf := Lib.hid (findI_some (by rw [Hn.out]; exact hlt) hs Hal.out)
        clear hs
        go_wp2
        go_ret
        exact ⟨by rw [Hf.out]; rfl, hB1⟩
    · obtain rfl : n = k := by omega
      have Hf := Lib.hid (findI_none Hn.out Hal.out)
      go_wp2
      go_ret
      exact ⟨by rw [Hf.out]; rfl, hbel⟩

set_option maxHeartbeats 1000000 in
theorem l3Copy (A : Option Addr) (n c : Nat) (l : List Smp) (w : World) (ha : Rd eS w w.heap.size A l) (hn : l.length = n) (hm : n ≤ 1048576) :
    Calls Tryz.prog 97 #[.slice A n c] w fun e w' => ∃ A' c', e = .returned (.slice A' n c') ∧ Ow eS w' w.heap.size A' n c' l ∧ Below w.heap.size w w' := by
  have Hn := Lib.hid hn
  clear hn
  have B1 := (Below.refl w.heap.size w).alloc (Nat.le_refl _) (.cells #[] 25)
  have a1 := ha.lift B1
  have o1 : Ow eS (w.alloc (.cells #[] 25)) w.heap.size (some ⟨w.heap.size, 0, none⟩) 0 0 [] := Ow.lit w [] #[] 0 (Nat.le_refl _) (by unfold maxLen; omega) rfl rfl
  go_enter Tryz.func97, Tryz.ntmps97
  go_wp2_with (at_builtin; refine wpList_append_ow okS _ rfl (.tmp 3) (.tmp 4) _ rfl w.heap.size info_smp Tryz.underlying36 rfl (some ⟨w.heap.size, 0, none⟩) 0 0 [] rfl o1 A n c _ l rfl a1 Hn.out (by unfold maxLen; omega) (by omega) (by simp) ?_; intro A2 c2 w2 ow2 hg2 _)
  have B2 : Below w.heap.size w w2 := B1.grown hg2 (by simp) (fun g hg => by simp at hg; omega)
  rw [Nat.zero_add, List.nil_append] at ow2
  go_ret
  refine ⟨A2, c2, ?_, ow2, B2⟩
  simp
end Go.Proofs.YtmaillakhhdkfaaGreatDoor
