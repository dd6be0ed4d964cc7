/-
  Texts of one proof, joined: each has its own namespace.
-/
import Derived.Test.YteiclanlhnccnaaGreatDoorBExApplyRecord0
import Derived.Test.YteiclanlhnccnaaGreatDoorBExApplyRecord2
import Derived.Test.YteiclanlhnccnaaGreatDoorBExApplyRecord7
import Derived.Test.YteiclanlhnccnaaGreatDoorBExApplyRecord1
namespace Go.Proofs.YteiclanlhnccnaaGreatDoor
set_option maxRecDepth 20000
open Go.RowKit

/-- The number of some bytes, the lowest one first. -/
def readV : List UInt8 → Nat
  | [] => 0
  | b :: l => readV l * 256 + b.toNat
theorem readV_lt (l : List UInt8) : readV l < 256 ^ l.length := by
  induction l with
  | nil => simp [readV]
  | cons b l ih =>
    have hb := b.toNat_lt
    rw [readV, List.length_cons, Nat.pow_succ]
    omega
def readAt (l : List UInt8) (p s i : Nat) : Nat := readV ((l.drop (p + i)).take (s - i))
theorem readAt_step {l : List UInt8} {p s j : Nat} {x : UInt8} (hj : j < s) (hx : l[p + j]? = some x) : readAt l p s j = readAt l p s (j + 1) * 256 + x.toNat := by
  unfold readAt
  have h : (l.drop (p + j)).take (s - j) = x :: (l.drop (p + (j + 1))).take (s - (j + 1)) := by
    have hl := getElem?_some_lt hx
    rw [List.drop_eq_getElem_cons hl, show s - j = (s - (j + 1)) + 1 by omega, List.take_succ_cons, show p + j + 1 = p + (j + 1) by omega]
    rw [List.getElem?_eq_getElem hl] at hx
    rw [Option.some.inj hx]
  rw [h, readV]
theorem readAt_end (l : List UInt8) (p s : Nat) : readAt l p s s = 0 := by simp [readAt, readV]
theorem readAt_lt (l : List UInt8) (p s i : Nat) (hs : s ≤ 4) : readAt l p s i < 4294967296 := by
  refine Nat.lt_of_lt_of_le (readV_lt _) ?_
  refine Nat.le_trans (Nat.pow_le_pow_right (by omega) (show ((l.drop (p + i)).take (s - i)).length ≤ 4 by rw [List.length_take]; omega)) (by omega)
theorem readAt_lt' (l : List UInt8) (p s j : Nat) (hs : s ≤ 4) : readAt l p s (j + 1) < 16777216 := by
  refine Nat.lt_of_lt_of_le (readV_lt _) ?_
  refine Nat.le_trans (Nat.pow_le_pow_right (by omega) (show ((l.drop (p + (j + 1))).take (s - (j + 1))).length ≤ 3 by rw [List.length_take]; omega)) (by omega)

/-- What ReadWord answers. -/
def readM (l : List UInt8) (a s : Int) : Int × Int :=
  if 1 ≤ s ∧ s ≤ 4 ∧ 0 ≤ a ∧ a ≤ (l.length : Int) - s then (0, (readAt l a.toNat s.toNat 0 : Nat)) else (3, 0)
theorem readM_bad {l : List UInt8} {a s : Int} (h : ¬ (1 ≤ s ∧ s ≤ 4 ∧ 0 ≤ a ∧ a ≤ (l.length : Int) - s)) : readM l a s = (3, 0) := if_neg h
theorem readM_nat {l : List UInt8} {p s : Nat} (h : 1 ≤ s ∧ s ≤ 4 ∧ p + s ≤ l.length) : readM l p s = (0, ((readAt l p s 0 : Nat) : Int)) := by
  unfold readM
  rw [if_pos (by omega), Int.toNat_natCast, Int.toNat_natCast]

set_option maxHeartbeats 400000 in
theorem l1Read (A : Option Addr) (n c p s : Nat) (l : List UInt8) (w : World) (ha : Rd eB w w.heap.size A l) (hn : l.length = n) (hs : s ≤ 4) (hp : p + s ≤ n) (hm : n ≤ maxLen) :
    Calls Tryz.prog 121 #[.slice A n c, .int .i64 p, .int .i64 s] w fun e w' => e = .returned (.int .i64 (readAt l p s 0 : Nat)) ∧ w = w' := by
  have Hn := Lib.hid hn
  clear hn
  unfold maxLen at hm
  go_enter Tryz.func121, Tryz.ntmps121
  go_wp2
  go_loop [7, 8] (fun vq vi => ∃ i q : Nat, i ≤ s ∧ vi = .int .i64 ((i : Int) - 1) ∧ vq = .int .i64 q ∧ Hid (q = readAt l p s i)) (fun _ vi => (intOf vi + 1).toNat)
  case atStart => exact ⟨s, 0, Nat.le_refl _, rfl, rfl, Lib.hid (readAt_end l p s).symm⟩
  case round =>
    obtain ⟨i, q, hi, rfl, rfl, Hq⟩ := hrel
    match i, hi, Hq with
    | 0, hi, Hq =>
      go_wp2
      go_ret
      exact ⟨by rw [Hq.out]; rfl, rfl⟩
    | j + 1, hi, Hq =>
      obtain ⟨g, o, x, rfl, hg, hx, ca⟩ := ha.byte (k := p + j) (by rw [Hn.out]; omega)
      have hx8 := x.toNat_lt
      have Hst := Lib.hid (readAt_step (s := s) (by omega) hx)
      have hql : q < 16777216 := by rw [Hq.out]; exact readAt_lt' l p s j hs
      clear hx
      rw [show (((j + 1 : Nat) : Int) - 1) = (j : Int) by omega]
      go_wp2
      exact ⟨⟨j, q * 256 + x.toNat, by omega, rfl, by go_num, Lib.hid (by rw [Hst.out, ← Hq.out])⟩, by simp [intOf]⟩

/-! ### impl.ReadWord -/
set_option maxHeartbeats 400000 in
theorem implReadWord_size (A : Option Addr) (n c : Nat) (l : List UInt8) (a s : Int) (w : World) (h : ¬ (1 ≤ s ∧ s ≤ 4)) :
    Calls Tryz.prog 103 #[.slice A n c, .int .i64 a, .int .i64 s] w fun e w' => RetIR (readM l a s) w e w' := by
  have Hf := Lib.hid (readM_bad (l := l) (a := a) (s := s) (by omega))
  have hin : inB (s, 1, 4) = false := by simp only [inB, Bool.and_eq_false_iff, decide_eq_false_iff_not]; omega
  go_enter Tryz.func103, Tryz.ntmps103
  go_wp2_with (go_at_call 98; refine (isWordSize_any _ _).mono ?_; rintro e w1 ⟨rfl, hb1⟩; have a1 := (At.new w _ _).below hb1 (by simp); obtain ⟨r0, r1, f0, f1⟩ := a1.two)
  have hB1 : Below w.heap.size w w1 := ((Below.refl _ _).alloc (Nat.le_refl _) _).trans (hb1.mono (by simp))
  refine bodyPost_ret (v := .agg #[.int .i64 3, .int .i64 0]) (by simp [results, Tryz.results103, go_sem, r0, r1]) rfl ?_
  rw [Hf.out]
  exact ⟨rfl, (hB1.setCell (Nat.le_refl _) _).setCell (Nat.le_refl _) _⟩

set_option maxHeartbeats 400000 in
theorem implReadWord_no (A : Option Addr) (n c : Nat) (l : List UInt8) (a s : Int) (w : World) (hn : l.length = n) (hm : n ≤ maxLen) (hs1 : 1 ≤ s) (hs4 : s ≤ 4) (h : ¬ (0 ≤ a ∧ a ≤ (n : Int) - s)) :
    Calls Tryz.prog 103 #[.slice A n c, .int .i64 a, .int .i64 s] w fun e w' => RetIR (readM l a s) w e w' := by
  have Hf := Lib.hid (readM_bad (l := l) (a := a) (s := s) (by rw [hn]; omega))
  clear hn
  unfold maxLen at hm
  have hin : inB (s, 1, 4) = true := by simp only [inB, Bool.and_eq_true, decide_eq_true_eq]; omega
  have hno : [(a, (0 : Int), (n : Int) - s)].all inB = false := by simp [inB]; omega
  go_enter Tryz.func103, Tryz.ntmps103
  go_wp2_with (go_at_call 98; refine (isWordSize_any _ _).mono ?_; rintro e w1 ⟨rfl, hb1⟩; have a1 := (At.new w _ _).below hb1 (by simp))
  have z1 := a1.lt
  have hB1 : Below w.heap.size w w1 := ((Below.refl _ _).alloc (Nat.le_refl _) _).trans (hb1.mono (by simp))
  refine (areWithin_any _ _ _ [(a, 0, (n : Int) - s)] _ (bnds_one (by simp)) (by simp) rfl (by simp)).mono ?_
  rintro e w2 ⟨rfl, hb2⟩
  have a2 := (a1.alloc _).below hb2 (by simp; omega)
  have hB2 : Below w.heap.size w w2 := (hB1.alloc (by omega) _).trans (hb2.mono (by simp; omega))
  obtain ⟨r0, r1, f0, f1⟩ := a2.two
  go_wp2
  refine bodyPost_ret (v := .agg #[.int .i64 3, .int .i64 0]) (by simp [results, Tryz.results103, go_sem, r0, r1]) rfl ?_
  rw [Hf.out]
  exact ⟨rfl, (hB2.setCell (Nat.le_refl _) _).setCell (Nat.le_refl _) _⟩
/-- 'n<<8 | b': the byte stands in the room that the shift leaves. -/
theorem shl_or (q b : Nat) (hq : q < 16777216) (hb : b < 256) : bits .or .i64 ((q : Int) * 256) (b : Int) = ((q * 256 + b : Nat) : Int) := by
  have h1 : ((q : Int) * 256) = ((q * 256 : Nat) : Int) := by omega
  have h2 : q * 256 ||| b = q * 256 + b := by
    have := Nat.two_pow_add_eq_or_of_lt (i := 8) (by simpa using hb) q
    rw [Nat.mul_comm]
    simpa using this.symm
  rw [h1]
  show IntKind.i64.wrap ((BitVec.ofInt 64 ((q * 256 : Nat) : Int) ||| BitVec.ofInt 64 ((b : Nat) : Int)).toNat : Int) = _
  have o1 : (BitVec.ofInt 64 ((q * 256 : Nat) : Int)).toNat = q * 256 := by rw [BitVec.ofInt_natCast, BitVec.toNat_ofNat]; exact Nat.mod_eq_of_lt (by omega)
  have o2 : (BitVec.ofInt 64 ((b : Nat) : Int)).toNat = b := by rw [BitVec.ofInt_natCast, BitVec.toNat_ofNat]; exact Nat.mod_eq_of_lt (by omega)
  rw [BitVec.toNat_or, o1, o2, h2, IntKind.wrap_i64]
  omega

set_option maxHeartbeats 800000 in
theorem implReadWord_yes (A : Option Addr) (n c p s : Nat) (l : List UInt8) (w : World) (ha : Rd eB w w.heap.size A l) (hn : l.length = n) (hm : n ≤ maxLen) (hs1 : 1 ≤ s) (hs4 : s ≤ 4) (h1 : p + s ≤ n) :
    Calls Tryz.prog 103 #[.slice A n c, .int .i64 p, .int .i64 s] w fun e w' => RetIR (readM l p s) w e w' := by
  have Hf := Lib.hid (readM_nat (l := l) (p := p) (s := s) ⟨hs1, hs4, by omega⟩)
  have Hn := Lib.hid hn
  clear hn
  unfold maxLen at hm
  have hin : inB ((s : Int), 1, 4) = true := by simp only [inB, Bool.and_eq_true, decide_eq_true_eq]; omega
  have hno : [((p : Int), (0 : Int), (n : Int) - s)].all inB = true := by simp [inB]; omega
  go_enter Tryz.func103, Tryz.ntmps103
  go_wp2_with (go_at_call 98; refine (isWordSize_any _ _).mono ?_; rintro e w1 ⟨rfl, hb1⟩; have a1 := (At.new w _ _).below hb1 (by simp))
  have z1 := a1.lt
  have hB1 : Below w.heap.size w w1 := ((Below.refl _ _).alloc (Nat.le_refl _) _).trans (hb1.mono (by simp))
  refine (areWithin_any _ _ _ [((p : Int), 0, (n : Int) - s)] _ (bnds_one (by simp)) (by simp) rfl (by simp)).mono ?_
  rintro e w2 ⟨rfl, hb2⟩
  have a2 := (a1.alloc _).below hb2 (by simp; omega)
  have hB2 : Below w.heap.size w w2 := (hB1.alloc (by omega) _).trans (hb2.mono (by simp; omega))
  have ha2 := ha.lift hB2
  obtain ⟨r0, r1, f0, f1⟩ := a2.two
  go_wp2
  go_loop [7, 8] (fun vq vi => ∃ i q : Nat, i ≤ s ∧ vi = .int .i64 ((i : Int) - 1) ∧ vq = .int .i64 q ∧ Hid (q = readAt l p s i)) (fun _ vi => (intOf vi + 1).toNat)
  case atStart => exact ⟨s, 0, Nat.le_refl _, rfl, rfl, Lib.hid (readAt_end l p s).symm⟩
  case round =>
    obtain ⟨i, q, hi, rfl, rfl, Hq⟩ := hrel
    match i, hi, Hq with
    | 0, hi, Hq =>
      go_wp2
      refine bodyPost_ret (v := .agg #[.int .i64 0, .int .i64 (q : Nat)]) (by simp [results, Tryz.results103, go_sem, r0, r1]) rfl ?_
      rw [Hf.out, ← Hq.out]
      exact ⟨rfl, (hB2.setCell (Nat.le_refl _) _).setCell (Nat.le_refl _) _⟩
    | j + 1, hi, Hq =>
      obtain ⟨g, o, x, rfl, hg, hx, ca⟩ := ha2.byte (k := p + j) (by rw [Hn.out]; omega)
      have hx8 := x.toNat_lt
      have Hst := Lib.hid (readAt_step (s := s) (by omega) hx)
      have hql : q < 16777216 := by rw [Hq.out]; exact readAt_lt' l p s j hs4
      have hor := shl_or q x.toNat hql hx8
      clear hx
      rw [show (((j + 1 : Nat) : Int) - 1) = (j : Int) by omega]
      go_wp2
      exact ⟨⟨j, q * 256 + x.toNat, by omega, rfl, by go_num, Lib.hid (by rw [Hst.out, ← Hq.out])⟩, by simp [intOf]⟩

theorem implReadWord (A : Option Addr) (n c : Nat) (l : List UInt8) (a s : Int) (w : World) (ha : Rd eB w w.heap.size A l) (hn : l.length = n) (hm : n ≤ maxLen) :
    Calls Tryz.prog 103 #[.slice A n c, .int .i64 a, .int .i64 s] w fun e w' => RetIR (readM l a s) w e w' := by
  by_cases h : 1 ≤ s ∧ s ≤ 4
  · by_cases h0 : 0 ≤ a ∧ a ≤ (n : Int) - s
    · obtain ⟨p, rfl⟩ := Int.eq_ofNat_of_zero_le h0.1
      obtain ⟨t, rfl⟩ := Int.eq_ofNat_of_zero_le (show 0 ≤ s by omega)
      exact implReadWord_yes A n c p t l w ha hn hm (by omega) (by omega) (by omega)
    · exact implReadWord_no A n c l a s w hn hm h.1 h.2 h0
  · exact implReadWord_size A n c l a s w h
end Go.Proofs.YteiclanlhnccnaaGreatDoor
/-
  A sample out of its bytes: the model's, and what the law compares.
-/
namespace Go.Proofs.YteiclanlhnccnaaGreatDoor
set_option maxRecDepth 20000
open Go.RowKit
set_option linter.unusedSimpArgs false

/-- The sample of so many bytes, right or not. -/
def unpM (l : List UInt8) : Smp := (((readAt l 0 1 0 : Nat) : Int), ((readAt l 1 2 0 : Nat) : Int), ((readAt l 3 2 0 : Nat) : Int), ((readAt l 5 2 0 : Nat) : Int) - 1000)
def decodeM (l : List UInt8) : Int × Smp := if l.length = 7 then (if faultM (unpM l) = 0 then (0, unpM l) else (5, (0, 0, 0, 0))) else (2, (0, 0, 0, 0))
theorem read_one {l : List UInt8} {x : UInt8} (h : l[0]? = some x) : readAt l 0 1 0 = x.toNat := by
  have := readAt_step (l := l) (p := 0) (s := 1) (j := 0) (by omega) h
  rw [this, readAt_end]
  omega

set_option maxHeartbeats 2000000 in
theorem l2Decode (A : Option Addr) (c : Nat) (l : List UInt8) (w : World) (ha : Rd eB w w.heap.size A l) (hn : l.length = 7) :
    Calls Tryz.prog 120 #[.slice A 7 c] w fun e w' => RetS (unpM l) w e w' := by
  obtain ⟨g, o, x, rfl, hg, hx, cx⟩ := ha.byte (k := 0) (by omega)
  have cx0 : w.cell? ⟨g, o, none⟩ = some (.int .u8 (x.toNat : Int)) := by simpa using cx
  have Hu := Lib.hid (show unpM l = ((x.toNat : Int), ((readAt l 1 2 0 : Nat) : Int), ((readAt l 3 2 0 : Nat) : Int), ((readAt l 5 2 0 : Nat) : Int) - 1000) by rw [unpM, read_one hx])
  have hxb : x.toNat < 256 := x.toNat_lt
  have b3 : readAt l 5 2 0 < 4294967296 := readAt_lt l 5 2 0 (by omega)
  have R1 := fun W (hW : Below w.heap.size w W) => l1Read (some ⟨g, o, none⟩) 7 c 1 2 l W (ha.lift hW) hn (by omega) (by omega) (by unfold maxLen; omega)
  have R2 := fun W (hW : Below w.heap.size w W) => l1Read (some ⟨g, o, none⟩) 7 c 3 2 l W (ha.lift hW) hn (by omega) (by omega) (by unfold maxLen; omega)
  have R3 := fun W (hW : Below w.heap.size w W) => l1Read (some ⟨g, o, none⟩) 7 c 5 2 l W (ha.lift hW) hn (by omega) (by omega) (by unfold maxLen; omega)
  rw [Hu.out]
  generalize readAt l 1 2 0 = v1 at *
  generalize readAt l 3 2 0 = v2 at *
  generalize readAt l 5 2 0 = v3 at *
  clear hn hx cx Hu ha
  generalize x.toNat = x0 at *
  have r0 := At.new w 25 #[.int .i64 0, .int .i64 0, .int .i64 0, .int .i64 0]
  have hB0 : Below w.heap.size w ((w.alloc (.cells #[.int .i64 0, .int .i64 0, .int .i64 0, .int .i64 0] 25)).drew) := ((Below.refl _ _).alloc (Nat.le_refl _) _).drew
  have hw0 : IntKind.i64.wrap (x0 : Int) = (x0 : Int) := IntWalk.i64_in _ (by omega)
  have hw3 : IntKind.i64.wrap ((v3 : Int) - 1000) = (v3 : Int) - 1000 := IntWalk.i64_in _ (by omega)
  have p7 : (0 : Int) < 7 := by omega
  go_enter Tryz.func120, Tryz.ntmps120
  go_wp2
  refine wp_region_mix [(0, false), (1, false), (2, false), (3, false), (4, false), (6, false), (8, false), (5, true), (7, true), (9, true), (10, false), (11, false), (12, true)] (fun u => u.cell? ⟨g, o, none⟩ = some (.int .u8 (x0 : Int))) (by kernel_rfl) (by kernel_rfl) (fun _ _ _ _ _ h => h) (by go_simp) ?_
  simp only [mixOps, List.map_cons, List.map_nil, List.getElem?_cons_succ, List.getElem?_cons_zero, Option.getD_some]
  repeat (first
    | (refine mix_skip (by rfl) ?_
       (try simp only [Act.put, List.setIfInBounds_toArray, List.set_cons_zero, List.set_cons_succ]))
    | (refine mix_pure (v := ?_) (by rfl) (fun u hu => ?_) ?_
       rotate_left
       · (try dsimp only at hu)
         go_simp
         (with_reducible rfl)
       (try simp only [Act.put, List.setIfInBounds_toArray, List.set_cons_zero, List.set_cons_succ])))
  refine mix_call (by rfl) (fun K hK => ?_)
  go_simp
  refine (R1 _ hB0).mono ?_
  rintro e w1 ⟨rfl, rfl⟩
  refine hK _ _ _ (fun _ h => h) (by go_simp) ?_
  (try simp only [Act.put, List.setIfInBounds_toArray, List.set_cons_zero, List.set_cons_succ])
  refine mix_call (by rfl) (fun K hK => ?_)
  go_simp
  refine (R2 _ hB0).mono ?_
  rintro e w1 ⟨rfl, rfl⟩
  refine hK _ _ _ (fun _ h => h) (by go_simp) ?_
  (try simp only [Act.put, List.setIfInBounds_toArray, List.set_cons_zero, List.set_cons_succ])
  refine mix_call (by rfl) (fun K hK => ?_)
  go_simp
  refine (R3 _ hB0).mono ?_
  rintro e w1 ⟨rfl, rfl⟩
  refine hK _ _ _ (fun _ h => h) (by go_simp) ?_
  (try simp only [Act.put, List.setIfInBounds_toArray, List.set_cons_zero, List.set_cons_succ])
  repeat (first
    | (refine mix_pure (v := ?_) (by rfl) (fun u hu => ?_) ?_
       rotate_left
       · go_simp
         (with_reducible rfl)
       (try simp only [Act.put, List.setIfInBounds_toArray, List.set_cons_zero, List.set_cons_succ])))
  refine mix_call (by rfl) (fun K hK => ?_)
  go_simp
  refine hK _ _ _ (fun _ h => h) (by go_simp) ?_
  (try simp only [Act.put, List.setIfInBounds_toArray, List.set_cons_zero, List.set_cons_succ])
  refine mix_nil ?_
  go_wp2
  refine bodyPost_ret (v := .agg #[.int .i64 x0, .int .i64 v1, .int .i64 v2, .int .i64 ((v3 : Int) - 1000)]) (by simp [results, Tryz.results120, go_sem]) rfl ?_
  exact ⟨rfl, ((Below.refl _ _).alloc (Nat.le_refl _) _).drew⟩

theorem decodeM_len {l : List UInt8} (h : l.length ≠ 7) : decodeM l = (2, (0, 0, 0, 0)) := if_neg h
theorem decodeM_no {l : List UInt8} {x : Smp} (h : l.length = 7) (hx : unpM l = x) (hf : faultM x = 3) : decodeM l = (5, (0, 0, 0, 0)) := by
  unfold decodeM
  rw [if_pos h, hx, hf]
  rfl
theorem decodeM_yes {l : List UInt8} {x : Smp} (h : l.length = 7) (hx : unpM l = x) (hf : faultM x = 0) : decodeM l = (0, x) := by
  unfold decodeM
  rw [if_pos h, hx, hf]
  rfl

end Go.Proofs.YteiclanlhnccnaaGreatDoor
/-
  A sample out of its bytes: the program's.
-/
namespace Go.Proofs.YteiclanlhnccnaaGreatDoor
set_option maxRecDepth 20000
open Go.RowKit
set_option linter.unusedSimpArgs false

theorem eqSample_same (a0 a1 a2 a3 : Int) (w : World) :
    Calls Tryz.prog 141 #[.agg #[.int .i64 a0, .int .i64 a1, .int .i64 a2, .int .i64 a3], .agg #[.int .i64 a0, .int .i64 a1, .int .i64 a2, .int .i64 a3]] w fun e w' => e = .returned (.bool true) ∧ Below w.heap.size w w' := by
  go_enter Tryz.func141, Tryz.ntmps141
  go_wp2
  go_ret
  exact ⟨rfl, ((Below.refl _ _).alloc (Nat.le_refl _) _).alloc (by simp) _⟩

theorem sampleOf (a0 a1 a2 a3 : Int) (w : World) :
    Calls Tryz.prog 170 #[.agg #[.int .i64 a0, .int .i64 a1, .int .i64 a2, .int .i64 a3]] w fun e w' => e = .returned (.agg #[.int .i64 a0, .int .i64 a1, .int .i64 a2, .int .i64 a3]) ∧ Below w.heap.size w w' := by
  go_enter Tryz.func170, Tryz.ntmps170
  go_wp2
  refine bodyPost_ret (v := .agg #[.int .i64 a0, .int .i64 a1, .int .i64 a2, .int .i64 a3]) (by simp [results, Tryz.results170, go_sem]) rfl ?_
  exact ⟨rfl, ((Below.refl _ _).alloc (Nat.le_refl _) _).alloc (by simp) _⟩

theorem fldI1 (a b : Int) (u : World) : (Instr.field 151 (.agg #[.int .i64 a, .int .i64 b]) 1).run Tryz.prog u = .ok (.int .i64 b) u := by kernel_rfl

/-- The bytes of an array's block read as a list. -/
theorem rd_array {w : World} {g : Nat} {t : TypeId} {cs : Array Value} {l : List UInt8} (h : At w g t cs) (hc : cs.toList = eB.row l) : Rd eB w w.heap.size (some ⟨g, 0, none⟩) l := fun _ => by
  refine ⟨g, 0, rfl, h.lt, fun k j a u hk hu => ?_⟩
  have hj : j < eB.size := by rw [← okB.len a]; exact getElem?_some_lt hu
  rw [h.cell, Nat.zero_add, ← Array.getElem?_toList, hc, okB.row_at l k j a hk hj, hu]

theorem reads {w : World} {A : Option Addr} {l : List UInt8} (p s : Nat) (ha : Rd eB w w.heap.size A l) (hn : l.length = 7) (hs : 1 ≤ s) (hs2 : s ≤ 4) (hp : p + s ≤ 7) :
    Calls Tryz.prog 103 #[.slice A 7 7, .int .i64 p, .int .i64 s] w fun e w' => e = .returned (.agg #[.int .i64 0, .int .i64 ((readAt l p s 0 : Nat) : Int)]) ∧ Below w.heap.size w w' := by
  have h := implReadWord A 7 7 l p s w ha hn (by unfold maxLen; omega)
  rw [readM_nat ⟨hs, hs2, by omega⟩] at h
  exact h

def numRow (v0 v1 v2 v3 : Nat) : Nat → Array Value
  | 0 => #[.int .i64 0, .int .i64 0, .int .i64 0, .int .i64 0]
  | 1 => #[.int .i64 (v0 : Int), .int .i64 0, .int .i64 0, .int .i64 0]
  | 2 => #[.int .i64 (v0 : Int), .int .i64 (v1 : Int), .int .i64 0, .int .i64 0]
  | 3 => #[.int .i64 (v0 : Int), .int .i64 (v1 : Int), .int .i64 (v2 : Int), .int .i64 0]
  | _ => #[.int .i64 (v0 : Int), .int .i64 (v1 : Int), .int .i64 (v2 : Int), .int .i64 ((v3 : Int) - 1000)]

def UnpRel (w : World) (gb gR gN : Nat) (box : Array Value) (v0 v1 v2 v3 : Nat) (i : Value) (wr : World) : Prop :=
  ∃ k : Nat, k ≤ 4 ∧ i = .int .i64 k ∧ At wr gb 199 box ∧ At wr gR 25 #[.int .i64 0, .int .i64 0, .int .i64 0, .int .i64 0] ∧ At wr gN 171 (numRow v0 v1 v2 v3 k) ∧ Below w.heap.size w wr

set_option maxHeartbeats 4000000 in
theorem unpackSample (x0 x1 x2 x3 x4 x5 x6 : UInt8) (w : World) (hF : Flds w) :
    Calls Tryz.prog 161 #[.agg #[.int .u8 (x0.toNat : Int), .int .u8 (x1.toNat : Int), .int .u8 (x2.toNat : Int), .int .u8 (x3.toNat : Int), .int .u8 (x4.toNat : Int), .int .u8 (x5.toNat : Int), .int .u8 (x6.toNat : Int)]] w fun e w' => RetS (unpM [x0, x1, x2, x3, x4, x5, x6]) w e w' := by
  obtain ⟨L, hL⟩ : ∃ L : List UInt8, L = [x0, x1, x2, x3, x4, x5, x6] := ⟨_, rfl⟩
  have hLn : L.length = 7 := by rw [hL]; rfl
  have hLr := Lib.hid (show (#[.int .u8 (x0.toNat : Int), .int .u8 (x1.toNat : Int), .int .u8 (x2.toNat : Int), .int .u8 (x3.toNat : Int), .int .u8 (x4.toNat : Int), .int .u8 (x5.toNat : Int), .int .u8 (x6.toNat : Int)] : Array Value).toList = eB.row L by rw [hL]; rfl)
  rw [← hL]
  have hb0 : readAt L 0 1 0 < 4294967296 := readAt_lt L 0 1 0 (by omega)
  have hb1 : readAt L 1 2 0 < 4294967296 := readAt_lt L 1 2 0 (by omega)
  have hb2 : readAt L 3 2 0 < 4294967296 := readAt_lt L 3 2 0 (by omega)
  have hb3 : readAt L 5 2 0 < 4294967296 := readAt_lt L 5 2 0 (by omega)
  have R0 := fun W A (h : Rd eB W W.heap.size A L) => reads 0 1 h hLn (by omega) (by omega) (by omega)
  have R1 := fun W A (h : Rd eB W W.heap.size A L) => reads 1 2 h hLn (by omega) (by omega) (by omega)
  have R2 := fun W A (h : Rd eB W W.heap.size A L) => reads 3 2 h hLn (by omega) (by omega) (by omega)
  have R3 := fun W A (h : Rd eB W W.heap.size A L) => reads 5 2 h hLn (by omega) (by omega) (by omega)
  unfold unpM
  generalize readAt L 0 1 0 = v0 at *
  generalize readAt L 1 2 0 = v1 at *
  generalize readAt L 3 2 0 = v2 at *
  generalize readAt L 5 2 0 = v3 at *
  clear hL
  obtain ⟨box, hbox⟩ : ∃ box : Array Value, box = #[.int .u8 (x0.toNat : Int), .int .u8 (x1.toNat : Int), .int .u8 (x2.toNat : Int), .int .u8 (x3.toNat : Int), .int .u8 (x4.toNat : Int), .int .u8 (x5.toNat : Int), .int .u8 (x6.toNat : Int)] := ⟨_, rfl⟩
  have HR := Lib.hid (show ∀ W g, At W g 199 box → Rd eB W W.heap.size (some ⟨g, 0, none⟩) L from fun W g h => rd_array h (by rw [hbox]; exact hLr.out))
  have Hp0 := At.new w 199 #[.int .u8 (x0.toNat : Int), .int .u8 (x1.toNat : Int), .int .u8 (x2.toNat : Int), .int .u8 (x3.toNat : Int), .int .u8 (x4.toNat : Int), .int .u8 (x5.toNat : Int), .int .u8 (x6.toNat : Int)]
  have hS0 : (w.alloc (.cells #[.int .u8 (x0.toNat : Int), .int .u8 (x1.toNat : Int), .int .u8 (x2.toNat : Int), .int .u8 (x3.toNat : Int), .int .u8 (x4.toNat : Int), .int .u8 (x5.toNat : Int), .int .u8 (x6.toNat : Int)] 199)).heap.size = w.heap.size + 1 := by simp
  have hB0 : Below w.heap.size w (w.alloc (.cells #[.int .u8 (x0.toNat : Int), .int .u8 (x1.toNat : Int), .int .u8 (x2.toNat : Int), .int .u8 (x3.toNat : Int), .int .u8 (x4.toNat : Int), .int .u8 (x5.toNat : Int), .int .u8 (x6.toNat : Int)] 199)) := (Below.refl _ _).alloc (Nat.le_refl _) _
  have Hr0 := At.new (w.alloc (.cells #[.int .u8 (x0.toNat : Int), .int .u8 (x1.toNat : Int), .int .u8 (x2.toNat : Int), .int .u8 (x3.toNat : Int), .int .u8 (x4.toNat : Int), .int .u8 (x5.toNat : Int), .int .u8 (x6.toNat : Int)] 199)) 25 #[.int .i64 0, .int .i64 0, .int .i64 0, .int .i64 0]
  rw [hS0] at Hr0
  have hB1 := hB0.alloc hB0.size (.cells #[.int .i64 0, .int .i64 0, .int .i64 0, .int .i64 0] 25)
  have Hp1 := Hp0.alloc (.cells #[.int .i64 0, .int .i64 0, .int .i64 0, .int .i64 0] 25)
  have Hn2 := At.new ((w.alloc (.cells #[.int .u8 (x0.toNat : Int), .int .u8 (x1.toNat : Int), .int .u8 (x2.toNat : Int), .int .u8 (x3.toNat : Int), .int .u8 (x4.toNat : Int), .int .u8 (x5.toNat : Int), .int .u8 (x6.toNat : Int)] 199)).alloc (.cells #[.int .i64 0, .int .i64 0, .int .i64 0, .int .i64 0] 25)) 171 #[.int .i64 0, .int .i64 0, .int .i64 0, .int .i64 0]
  rw [show ((w.alloc (.cells #[.int .u8 (x0.toNat : Int), .int .u8 (x1.toNat : Int), .int .u8 (x2.toNat : Int), .int .u8 (x3.toNat : Int), .int .u8 (x4.toNat : Int), .int .u8 (x5.toNat : Int), .int .u8 (x6.toNat : Int)] 199)).alloc (.cells #[.int .i64 0, .int .i64 0, .int .i64 0, .int .i64 0] 25)).heap.size = w.heap.size + 1 + 1 by simp] at Hn2
  have hB2 := hB1.alloc hB1.size (.cells #[.int .i64 0, .int .i64 0, .int .i64 0, .int .i64 0] 171)
  have Hp2 := Hp1.alloc (.cells #[.int .i64 0, .int .i64 0, .int .i64 0, .int .i64 0] 171)
  have Hr2 := Hr0.alloc (.cells #[.int .i64 0, .int .i64 0, .int .i64 0, .int .i64 0] 171)
  clear Hp0 Hp1 hS0 hLr
  have hz := hF.pos
  obtain ⟨c0, c1, c2, c3, c4, c5, c6, c7, c8, c9, c10, c11, c12, c13, c14, c15⟩ := (hF.below hB2).all
  go_enter Tryz.func161, Tryz.ntmps161
  go_wp2_with fail
  clear c0 c1 c2 c3 c4 c5 c6 c7 c8 c9 c10 c11 c12 c13 c14 c15
  go_loopw [7] (fun i wr => UnpRel w w.heap.size (w.heap.size + 1) (w.heap.size + 1 + 1) box v0 v1 v2 v3 i wr) (fun i _ => 4 - (intOf i).toNat)
  case atStart => exact ⟨0, by omega, rfl, by rw [hbox]; exact Hp2, Hr2, Hn2, hB2⟩
  case round =>
    obtain ⟨k, hk, rfl, hP, hR, hN, hbel⟩ := hrel
    have lP := hP.lt
    have lN := hN.lt
    have lR := hR.lt
    rcases (show k = 0 ∨ k = 1 ∨ k = 2 ∨ k = 3 ∨ k = 4 by omega) with rfl | rfl | rfl | rfl | rfl
    · have hidx := fldAt0 wr
      have hsl := slAll w.heap.size
      have hw1 : IntKind.i64.wrap (v0 : Int) = (v0 : Int) := by exact IntWalk.i64_in _ (by omega)
      obtain ⟨m0, m1, m2, m3, f0, f1, f2, f3⟩ := (show At wr (w.heap.size + 1 + 1) 171 #[.int .i64 0, .int .i64 0, .int .i64 0, .int .i64 0] from hN).four
      go_wp2
      refine wp_region_mix [(0, false), (1, false), (2, false), (3, false), (4, false), (5, false), (6, false), (7, false), (8, true), (9, false), (10, false), (11, false), (12, true)] (fun u => u.cell? ⟨wr.heap.size, 0, none⟩ = some (.int .i64 0) ∧ u.cell? ⟨wr.heap.size, 1, none⟩ = some (.int .i64 1) ∧ u.cell? ⟨wr.heap.size, 2, none⟩ = some (.int .i64 0)) (by kernel_rfl) (by kernel_rfl) (fun _ _ _ _ _ h => h) (by go_simp) ?_
      simp only [mixOps, List.map_cons, List.map_nil, List.getElem?_cons_succ, List.getElem?_cons_zero, Option.getD_some]
      repeat (first
        | (refine mix_skip (by rfl) ?_
           (try simp only [Act.put, List.setIfInBounds_toArray, List.set_cons_zero, List.set_cons_succ]))
        | (refine mix_pure (v := ?_) (by rfl) (fun u hu => ?_) ?_
           rotate_left
           · obtain ⟨_, _, _⟩ := hu
             go_simp
             (with_reducible rfl)
           (try simp only [Act.put, List.setIfInBounds_toArray, List.set_cons_zero, List.set_cons_succ])))
      have F5 := (hbel.alloc hbel.size (.cells #[.int .i64 0, .int .i64 1, .int .i64 0, .int .i64 9] 174)).drew
      have P4 := (hP.alloc (.cells #[.int .i64 0, .int .i64 1, .int .i64 0, .int .i64 9] 174)).drew
      refine mix_call (by rfl) (fun K hK => ?_)
      go_simp
      refine (R0 _ _ (HR.out _ _ P4)).mono ?_
      rintro e w5 ⟨rfl, hb5⟩
      have fI := fldI1 0 (v0 : Int)
      have P5 := P4.below hb5 P4.lt
      have N5 := ((hN.alloc (.cells #[.int .i64 0, .int .i64 1, .int .i64 0, .int .i64 9] 174)).drew).below hb5 (by simp; omega)
      have R5 := ((hR.alloc (.cells #[.int .i64 0, .int .i64 1, .int .i64 0, .int .i64 9] 174)).drew).below hb5 (by simp; omega)
      have hB5 := F5.trans (hb5.mono F5.size)
      refine hK _ _ _ (fun _ h => h) ⟨(hb5.cell (p := ⟨wr.heap.size, 0, none⟩) (by simp)).trans (by go_simp), (hb5.cell (p := ⟨wr.heap.size, 1, none⟩) (by simp)).trans (by go_simp), (hb5.cell (p := ⟨wr.heap.size, 2, none⟩) (by simp)).trans (by go_simp)⟩ ?_
      (try simp only [Act.put, List.setIfInBounds_toArray, List.set_cons_zero, List.set_cons_succ])
      iterate 3
        refine mix_pure (v := ?_) (by rfl) (fun u hu => ?_) ?_
        rotate_left
        · go_simp
          (with_reducible rfl)
        (try simp only [Act.put, List.setIfInBounds_toArray, List.set_cons_zero, List.set_cons_succ])
      clear m0 m1 m2 m3 f0 f1 f2 f3
      obtain ⟨m0, m1, m2, m3, f0, f1, f2, f3⟩ := (show At w5 (w.heap.size + 1 + 1) 171 #[.int .i64 0, .int .i64 0, .int .i64 0, .int .i64 0] from N5).four
      have S0 : w5.cell? ⟨wr.heap.size, 0, none⟩ = some (.int .i64 0) := (hb5.cell (p := ⟨wr.heap.size, 0, none⟩) (by simp)).trans (by go_simp)
      have S1 : w5.cell? ⟨wr.heap.size, 1, none⟩ = some (.int .i64 1) := (hb5.cell (p := ⟨wr.heap.size, 1, none⟩) (by simp)).trans (by go_simp)
      have S2 : w5.cell? ⟨wr.heap.size, 2, none⟩ = some (.int .i64 0) := (hb5.cell (p := ⟨wr.heap.size, 2, none⟩) (by simp)).trans (by go_simp)
      have N6 := N5.set 0 (.int .i64 (v0 : Int))
      have P6 := P5.far (p := ⟨w.heap.size + 1 + 1, 0, none⟩) (by show w.heap.size ≠ w.heap.size + 1 + 1; omega) (.int .i64 (v0 : Int))
      have R6 := R5.far (p := ⟨w.heap.size + 1 + 1, 0, none⟩) (by show w.heap.size + 1 ≠ w.heap.size + 1 + 1; omega) (.int .i64 (v0 : Int))
      have hB6 := hB5.setCell (p := ⟨w.heap.size + 1 + 1, 0, none⟩) (by show w.heap.size ≤ w.heap.size + 1 + 1; omega) (.int .i64 (v0 : Int))
      have hne : wr.heap.size ≠ w.heap.size + 1 + 1 := by omega
      refine mix_call (by rfl) (fun K hK => ?_)
      go_simp
      refine hK _ _ _ (fun _ h => h) ⟨(cell_same (Below.heap_setCell _ _ _ _ hne)).trans S0, (cell_same (Below.heap_setCell _ _ _ _ hne)).trans S1, (cell_same (Below.heap_setCell _ _ _ _ hne)).trans S2⟩ ?_
      (try simp only [Act.put, List.setIfInBounds_toArray, List.set_cons_zero, List.set_cons_succ])
      refine mix_nil ?_
      go_wp2
      exact ⟨⟨0 + 1, by omega, by go_num, P6, R6, N6, hB6⟩, by simp [intOf]⟩
    · have hidx := fldAt1 wr
      have hsl := slAll w.heap.size
      have hw1 : IntKind.i64.wrap (v1 : Int) = (v1 : Int) := by exact IntWalk.i64_in _ (by omega)
      obtain ⟨m0, m1, m2, m3, f0, f1, f2, f3⟩ := (show At wr (w.heap.size + 1 + 1) 171 #[.int .i64 (v0 : Int), .int .i64 0, .int .i64 0, .int .i64 0] from hN).four
      go_wp2
      refine wp_region_mix [(0, false), (1, false), (2, false), (3, false), (4, false), (5, false), (6, false), (7, false), (8, true), (9, false), (10, false), (11, false), (12, true)] (fun u => u.cell? ⟨wr.heap.size, 0, none⟩ = some (.int .i64 1) ∧ u.cell? ⟨wr.heap.size, 1, none⟩ = some (.int .i64 2) ∧ u.cell? ⟨wr.heap.size, 2, none⟩ = some (.int .i64 0)) (by kernel_rfl) (by kernel_rfl) (fun _ _ _ _ _ h => h) (by go_simp) ?_
      simp only [mixOps, List.map_cons, List.map_nil, List.getElem?_cons_succ, List.getElem?_cons_zero, Option.getD_some]
      repeat (first
        | (refine mix_skip (by rfl) ?_
           (try simp only [Act.put, List.setIfInBounds_toArray, List.set_cons_zero, List.set_cons_succ]))
        | (refine mix_pure (v := ?_) (by rfl) (fun u hu => ?_) ?_
           rotate_left
           · obtain ⟨_, _, _⟩ := hu
             go_simp
             (with_reducible rfl)
           (try simp only [Act.put, List.setIfInBounds_toArray, List.set_cons_zero, List.set_cons_succ])))
      have F5 := (hbel.alloc hbel.size (.cells #[.int .i64 1, .int .i64 2, .int .i64 0, .int .i64 999] 174)).drew
      have P4 := (hP.alloc (.cells #[.int .i64 1, .int .i64 2, .int .i64 0, .int .i64 999] 174)).drew
      refine mix_call (by rfl) (fun K hK => ?_)
      go_simp
      refine (R1 _ _ (HR.out _ _ P4)).mono ?_
      rintro e w5 ⟨rfl, hb5⟩
      have fI := fldI1 0 (v1 : Int)
      have P5 := P4.below hb5 P4.lt
      have N5 := ((hN.alloc (.cells #[.int .i64 1, .int .i64 2, .int .i64 0, .int .i64 999] 174)).drew).below hb5 (by simp; omega)
      have R5 := ((hR.alloc (.cells #[.int .i64 1, .int .i64 2, .int .i64 0, .int .i64 999] 174)).drew).below hb5 (by simp; omega)
      have hB5 := F5.trans (hb5.mono F5.size)
      refine hK _ _ _ (fun _ h => h) ⟨(hb5.cell (p := ⟨wr.heap.size, 0, none⟩) (by simp)).trans (by go_simp), (hb5.cell (p := ⟨wr.heap.size, 1, none⟩) (by simp)).trans (by go_simp), (hb5.cell (p := ⟨wr.heap.size, 2, none⟩) (by simp)).trans (by go_simp)⟩ ?_
      (try simp only [Act.put, List.setIfInBounds_toArray, List.set_cons_zero, List.set_cons_succ])
      iterate 3
        refine mix_pure (v := ?_) (by rfl) (fun u hu => ?_) ?_
        rotate_left
        · go_simp
          (with_reducible rfl)
        (try simp only [Act.put, List.setIfInBounds_toArray, List.set_cons_zero, List.set_cons_succ])
      clear m0 m1 m2 m3 f0 f1 f2 f3
      obtain ⟨m0, m1, m2, m3, f0, f1, f2, f3⟩ := (show At w5 (w.heap.size + 1 + 1) 171 #[.int .i64 (v0 : Int), .int .i64 0, .int .i64 0, .int .i64 0] from N5).four
      have S0 : w5.cell? ⟨wr.heap.size, 0, none⟩ = some (.int .i64 1) := (hb5.cell (p := ⟨wr.heap.size, 0, none⟩) (by simp)).trans (by go_simp)
      have S1 : w5.cell? ⟨wr.heap.size, 1, none⟩ = some (.int .i64 2) := (hb5.cell (p := ⟨wr.heap.size, 1, none⟩) (by simp)).trans (by go_simp)
      have S2 : w5.cell? ⟨wr.heap.size, 2, none⟩ = some (.int .i64 0) := (hb5.cell (p := ⟨wr.heap.size, 2, none⟩) (by simp)).trans (by go_simp)
      have N6 := N5.set 1 (.int .i64 (v1 : Int))
      have P6 := P5.far (p := ⟨w.heap.size + 1 + 1, 1, none⟩) (by show w.heap.size ≠ w.heap.size + 1 + 1; omega) (.int .i64 (v1 : Int))
      have R6 := R5.far (p := ⟨w.heap.size + 1 + 1, 1, none⟩) (by show w.heap.size + 1 ≠ w.heap.size + 1 + 1; omega) (.int .i64 (v1 : Int))
      have hB6 := hB5.setCell (p := ⟨w.heap.size + 1 + 1, 1, none⟩) (by show w.heap.size ≤ w.heap.size + 1 + 1; omega) (.int .i64 (v1 : Int))
      have hne : wr.heap.size ≠ w.heap.size + 1 + 1 := by omega
      refine mix_call (by rfl) (fun K hK => ?_)
      go_simp
      refine hK _ _ _ (fun _ h => h) ⟨(cell_same (Below.heap_setCell _ _ _ _ hne)).trans S0, (cell_same (Below.heap_setCell _ _ _ _ hne)).trans S1, (cell_same (Below.heap_setCell _ _ _ _ hne)).trans S2⟩ ?_
      (try simp only [Act.put, List.setIfInBounds_toArray, List.set_cons_zero, List.set_cons_succ])
      refine mix_nil ?_
      go_wp2
      exact ⟨⟨1 + 1, by omega, by go_num, P6, R6, N6, hB6⟩, by simp [intOf]⟩
    · have hidx := fldAt2 wr
      have hsl := slAll w.heap.size
      have hw1 : IntKind.i64.wrap (v2 : Int) = (v2 : Int) := by exact IntWalk.i64_in _ (by omega)
      obtain ⟨m0, m1, m2, m3, f0, f1, f2, f3⟩ := (show At wr (w.heap.size + 1 + 1) 171 #[.int .i64 (v0 : Int), .int .i64 (v1 : Int), .int .i64 0, .int .i64 0] from hN).four
      go_wp2
      refine wp_region_mix [(0, false), (1, false), (2, false), (3, false), (4, false), (5, false), (6, false), (7, false), (8, true), (9, false), (10, false), (11, false), (12, true)] (fun u => u.cell? ⟨wr.heap.size, 0, none⟩ = some (.int .i64 3) ∧ u.cell? ⟨wr.heap.size, 1, none⟩ = some (.int .i64 2) ∧ u.cell? ⟨wr.heap.size, 2, none⟩ = some (.int .i64 0)) (by kernel_rfl) (by kernel_rfl) (fun _ _ _ _ _ h => h) (by go_simp) ?_
      simp only [mixOps, List.map_cons, List.map_nil, List.getElem?_cons_succ, List.getElem?_cons_zero, Option.getD_some]
      repeat (first
        | (refine mix_skip (by rfl) ?_
           (try simp only [Act.put, List.setIfInBounds_toArray, List.set_cons_zero, List.set_cons_succ]))
        | (refine mix_pure (v := ?_) (by rfl) (fun u hu => ?_) ?_
           rotate_left
           · obtain ⟨_, _, _⟩ := hu
             go_simp
             (with_reducible rfl)
           (try simp only [Act.put, List.setIfInBounds_toArray, List.set_cons_zero, List.set_cons_succ])))
      have F5 := (hbel.alloc hbel.size (.cells #[.int .i64 3, .int .i64 2, .int .i64 0, .int .i64 9999] 174)).drew
      have P4 := (hP.alloc (.cells #[.int .i64 3, .int .i64 2, .int .i64 0, .int .i64 9999] 174)).drew
      refine mix_call (by rfl) (fun K hK => ?_)
      go_simp
      refine (R2 _ _ (HR.out _ _ P4)).mono ?_
      rintro e w5 ⟨rfl, hb5⟩
      have fI := fldI1 0 (v2 : Int)
      have P5 := P4.below hb5 P4.lt
      have N5 := ((hN.alloc (.cells #[.int .i64 3, .int .i64 2, .int .i64 0, .int .i64 9999] 174)).drew).below hb5 (by simp; omega)
      have R5 := ((hR.alloc (.cells #[.int .i64 3, .int .i64 2, .int .i64 0, .int .i64 9999] 174)).drew).below hb5 (by simp; omega)
      have hB5 := F5.trans (hb5.mono F5.size)
      refine hK _ _ _ (fun _ h => h) ⟨(hb5.cell (p := ⟨wr.heap.size, 0, none⟩) (by simp)).trans (by go_simp), (hb5.cell (p := ⟨wr.heap.size, 1, none⟩) (by simp)).trans (by go_simp), (hb5.cell (p := ⟨wr.heap.size, 2, none⟩) (by simp)).trans (by go_simp)⟩ ?_
      (try simp only [Act.put, List.setIfInBounds_toArray, List.set_cons_zero, List.set_cons_succ])
      iterate 3
        refine mix_pure (v := ?_) (by rfl) (fun u hu => ?_) ?_
        rotate_left
        · go_simp
          (with_reducible rfl)
        (try simp only [Act.put, List.setIfInBounds_toArray, List.set_cons_zero, List.set_cons_succ])
      clear m0 m1 m2 m3 f0 f1 f2 f3
      obtain ⟨m0, m1, m2, m3, f0, f1, f2, f3⟩ := (show At w5 (w.heap.size + 1 + 1) 171 #[.int .i64 (v0 : Int), .int .i64 (v1 : Int), .int .i64 0, .int .i64 0] from N5).four
      have S0 : w5.cell? ⟨wr.heap.size, 0, none⟩ = some (.int .i64 3) := (hb5.cell (p := ⟨wr.heap.size, 0, none⟩) (by simp)).trans (by go_simp)
      have S1 : w5.cell? ⟨wr.heap.size, 1, none⟩ = some (.int .i64 2) := (hb5.cell (p := ⟨wr.heap.size, 1, none⟩) (by simp)).trans (by go_simp)
      have S2 : w5.cell? ⟨wr.heap.size, 2, none⟩ = some (.int .i64 0) := (hb5.cell (p := ⟨wr.heap.size, 2, none⟩) (by simp)).trans (by go_simp)
      have N6 := N5.set 2 (.int .i64 (v2 : Int))
      have P6 := P5.far (p := ⟨w.heap.size + 1 + 1, 2, none⟩) (by show w.heap.size ≠ w.heap.size + 1 + 1; omega) (.int .i64 (v2 : Int))
      have R6 := R5.far (p := ⟨w.heap.size + 1 + 1, 2, none⟩) (by show w.heap.size + 1 ≠ w.heap.size + 1 + 1; omega) (.int .i64 (v2 : Int))
      have hB6 := hB5.setCell (p := ⟨w.heap.size + 1 + 1, 2, none⟩) (by show w.heap.size ≤ w.heap.size + 1 + 1; omega) (.int .i64 (v2 : Int))
      have hne : wr.heap.size ≠ w.heap.size + 1 + 1 := by omega
      refine mix_call (by rfl) (fun K hK => ?_)
      go_simp
      refine hK _ _ _ (fun _ h => h) ⟨(cell_same (Below.heap_setCell _ _ _ _ hne)).trans S0, (cell_same (Below.heap_setCell _ _ _ _ hne)).trans S1, (cell_same (Below.heap_setCell _ _ _ _ hne)).trans S2⟩ ?_
      (try simp only [Act.put, List.setIfInBounds_toArray, List.set_cons_zero, List.set_cons_succ])
      refine mix_nil ?_
      go_wp2
      exact ⟨⟨2 + 1, by omega, by go_num, P6, R6, N6, hB6⟩, by simp [intOf]⟩
    · have hidx := fldAt3 wr
      have hsl := slAll w.heap.size
      have hw1 : IntKind.i64.wrap ((v3 : Int) - 1000) = ((v3 : Int) - 1000) := by exact IntWalk.i64_in _ (by omega)
      obtain ⟨m0, m1, m2, m3, f0, f1, f2, f3⟩ := (show At wr (w.heap.size + 1 + 1) 171 #[.int .i64 (v0 : Int), .int .i64 (v1 : Int), .int .i64 (v2 : Int), .int .i64 0] from hN).four
      go_wp2
      refine wp_region_mix [(0, false), (1, false), (2, false), (3, false), (4, false), (5, false), (6, false), (7, false), (8, true), (9, false), (10, false), (11, false), (12, true)] (fun u => u.cell? ⟨wr.heap.size, 0, none⟩ = some (.int .i64 5) ∧ u.cell? ⟨wr.heap.size, 1, none⟩ = some (.int .i64 2) ∧ u.cell? ⟨wr.heap.size, 2, none⟩ = some (.int .i64 (-1000))) (by kernel_rfl) (by kernel_rfl) (fun _ _ _ _ _ h => h) (by go_simp) ?_
      simp only [mixOps, List.map_cons, List.map_nil, List.getElem?_cons_succ, List.getElem?_cons_zero, Option.getD_some]
      repeat (first
        | (refine mix_skip (by rfl) ?_
           (try simp only [Act.put, List.setIfInBounds_toArray, List.set_cons_zero, List.set_cons_succ]))
        | (refine mix_pure (v := ?_) (by rfl) (fun u hu => ?_) ?_
           rotate_left
           · obtain ⟨_, _, _⟩ := hu
             go_simp
             (with_reducible rfl)
           (try simp only [Act.put, List.setIfInBounds_toArray, List.set_cons_zero, List.set_cons_succ])))
      have F5 := (hbel.alloc hbel.size (.cells #[.int .i64 5, .int .i64 2, .int .i64 (-1000), .int .i64 1000] 174)).drew
      have P4 := (hP.alloc (.cells #[.int .i64 5, .int .i64 2, .int .i64 (-1000), .int .i64 1000] 174)).drew
      refine mix_call (by rfl) (fun K hK => ?_)
      go_simp
      refine (R3 _ _ (HR.out _ _ P4)).mono ?_
      rintro e w5 ⟨rfl, hb5⟩
      have fI := fldI1 0 (v3 : Int)
      have P5 := P4.below hb5 P4.lt
      have N5 := ((hN.alloc (.cells #[.int .i64 5, .int .i64 2, .int .i64 (-1000), .int .i64 1000] 174)).drew).below hb5 (by simp; omega)
      have R5 := ((hR.alloc (.cells #[.int .i64 5, .int .i64 2, .int .i64 (-1000), .int .i64 1000] 174)).drew).below hb5 (by simp; omega)
      have hB5 := F5.trans (hb5.mono F5.size)
      refine hK _ _ _ (fun _ h => h) ⟨(hb5.cell (p := ⟨wr.heap.size, 0, none⟩) (by simp)).trans (by go_simp), (hb5.cell (p := ⟨wr.heap.size, 1, none⟩) (by simp)).trans (by go_simp), (hb5.cell (p := ⟨wr.heap.size, 2, none⟩) (by simp)).trans (by go_simp)⟩ ?_
      (try simp only [Act.put, List.setIfInBounds_toArray, List.set_cons_zero, List.set_cons_succ])
      iterate 3
        refine mix_pure (v := ?_) (by rfl) (fun u hu => ?_) ?_
        rotate_left
        · go_simp
          (with_reducible rfl)
        (try simp only [Act.put, List.setIfInBounds_toArray, List.set_cons_zero, List.set_cons_succ])
      clear m0 m1 m2 m3 f0 f1 f2 f3
      obtain ⟨m0, m1, m2, m3, f0, f1, f2, f3⟩ := (show At w5 (w.heap.size + 1 + 1) 171 #[.int .i64 (v0 : Int), .int .i64 (v1 : Int), .int .i64 (v2 : Int), .int .i64 0] from N5).four
      have S0 : w5.cell? ⟨wr.heap.size, 0, none⟩ = some (.int .i64 5) := (hb5.cell (p := ⟨wr.heap.size, 0, none⟩) (by simp)).trans (by go_simp)
      have S1 : w5.cell? ⟨wr.heap.size, 1, none⟩ = some (.int .i64 2) := (hb5.cell (p := ⟨wr.heap.size, 1, none⟩) (by simp)).trans (by go_simp)
      have S2 : w5.cell? ⟨wr.heap.size, 2, none⟩ = some (.int .i64 (-1000)) := (hb5.cell (p := ⟨wr.heap.size, 2, none⟩) (by simp)).trans (by go_simp)
      have N6 := N5.set 3 (.int .i64 ((v3 : Int) - 1000))
      have P6 := P5.far (p := ⟨w.heap.size + 1 + 1, 3, none⟩) (by show w.heap.size ≠ w.heap.size + 1 + 1; omega) (.int .i64 ((v3 : Int) - 1000))
      have R6 := R5.far (p := ⟨w.heap.size + 1 + 1, 3, none⟩) (by show w.heap.size + 1 ≠ w.heap.size + 1 + 1; omega) (.int .i64 ((v3 : Int) - 1000))
      have hB6 := hB5.setCell (p := ⟨w.heap.size + 1 + 1, 3, none⟩) (by show w.heap.size ≤ w.heap.size + 1 + 1; omega) (.int .i64 ((v3 : Int) - 1000))
      have hne : wr.heap.size ≠ w.heap.size + 1 + 1 := by omega
      refine mix_call (by rfl) (fun K hK => ?_)
      go_simp
      refine hK _ _ _ (fun _ h => h) ⟨(cell_same (Below.heap_setCell _ _ _ _ hne)).trans S0, (cell_same (Below.heap_setCell _ _ _ _ hne)).trans S1, (cell_same (Below.heap_setCell _ _ _ _ hne)).trans S2⟩ ?_
      (try simp only [Act.put, List.setIfInBounds_toArray, List.set_cons_zero, List.set_cons_succ])
      refine mix_nil ?_
      go_wp2
      exact ⟨⟨3 + 1, by omega, by go_num, P6, R6, N6, hB6⟩, by simp [intOf]⟩
    · obtain ⟨m0, m1, m2, m3, _, _, _, _⟩ := (show At wr (w.heap.size + 1 + 1) 171 #[.int .i64 (v0 : Int), .int .i64 (v1 : Int), .int .i64 (v2 : Int), .int .i64 ((v3 : Int) - 1000)] from hN).four
      go_wp2_with fail
      refine (sampleOf _ _ _ _ _).mono ?_
      rintro e w5 ⟨rfl, hb5⟩
      have R5 := hR.below hb5 lR
      have hB5 := hbel.trans (hb5.mono hbel.size)
      obtain ⟨r0, r1, r2, r3, f0, f1, f2, f3⟩ := R5.four
      go_wp2_with fail
      refine bodyPost_ret (v := .agg #[.int .i64 v0, .int .i64 v1, .int .i64 v2, .int .i64 ((v3 : Int) - 1000)]) (by simp [results, Tryz.results161, go_sem, r0, r1, r2, r3]) rfl ?_
      exact ⟨rfl, (((hB5.setCell (by simp) _).setCell (by simp) _).setCell (by simp) _).setCell (by simp) _⟩

theorem seven_of {l : List UInt8} (h : l.length = 7) : ∃ x0 x1 x2 x3 x4 x5 x6, l = [x0, x1, x2, x3, x4, x5, x6] := by
  match l, h with
  | [x0, x1, x2, x3, x4, x5, x6], _ => exact ⟨x0, x1, x2, x3, x4, x5, x6, rfl⟩

set_option maxHeartbeats 2000000 in
theorem implDecodeSample (A : Option Addr) (n c : Nat) (l : List UInt8) (w : World) (ha : Rd eB w w.heap.size A l) (hn : l.length = n) (hm : n ≤ maxLen) (hF : Flds w) :
    Calls Tryz.prog 146 #[.slice A n c] w fun e w' => RetSR (decodeM l) w e w' := by
  have hB0 : Below w.heap.size w (w.alloc (.cells #[.int .i64 0, .int .i64 0, .int .i64 0, .int .i64 0, .int .i64 0] 201)) := (Below.refl _ _).alloc (Nat.le_refl _) _
  by_cases h7 : n = 7
  · subst h7
    obtain ⟨x0, x1, x2, x3, x4, x5, x6, hl⟩ := seven_of hn
    have hS0 : (w.alloc (.cells #[.int .i64 0, .int .i64 0, .int .i64 0, .int .i64 0, .int .i64 0] 201)).heap.size = w.heap.size + 1 := by simp
    have z0 := (At.new w 201 #[.int .i64 0, .int .i64 0, .int .i64 0, .int .i64 0, .int .i64 0]).alloc (.cells #[.int .u8 0, .int .u8 0, .int .u8 0, .int .u8 0, .int .u8 0, .int .u8 0, .int .u8 0] 199)
    have p0 := At.new (w.alloc (.cells #[.int .i64 0, .int .i64 0, .int .i64 0, .int .i64 0, .int .i64 0] 201)) 199 #[.int .u8 0, .int .u8 0, .int .u8 0, .int .u8 0, .int .u8 0, .int .u8 0, .int .u8 0]
    rw [hS0] at p0
    have hB1 := hB0.alloc hB0.size (.cells #[.int .u8 0, .int .u8 0, .int .u8 0, .int .u8 0, .int .u8 0, .int .u8 0, .int .u8 0] 199)
    obtain ⟨g, o, rfl, hg, _⟩ := ha (by rw [hl]; simp)
    have hsrc := Rd.src (ha.lift hB1)
    obtain ⟨u0, u1, u2, u3, hu⟩ : ∃ u0 u1 u2 u3, unpM l = (u0, u1, u2, u3) := ⟨_, _, _, _, rfl⟩
    have e7 : (((7 : Nat) : Int) != 7) = false := by decide
    have hsl := slAll (w.heap.size + 1)
    have hun := fun W (h : Flds W) => unpackSample x0 x1 x2 x3 x4 x5 x6 W h
    rw [← hl, hu] at hun
    have hcs : (eB.row l).length = 7 := by rw [okB.row_len, hn]; rfl
    have Hsp := Lib.hid (show (splice [.int .u8 0, .int .u8 0, .int .u8 0, .int .u8 0, .int .u8 0, .int .u8 0, .int .u8 0] 0 (eB.row l)).toArray = #[.int .u8 (x0.toNat : Int), .int .u8 (x1.toNat : Int), .int .u8 (x2.toNat : Int), .int .u8 (x3.toNat : Int), .int .u8 (x4.toNat : Int), .int .u8 (x5.toNat : Int), .int .u8 (x6.toNat : Int)] by rw [hl]; rfl)
    rcases faultM_or (u0, u1, u2, u3) with hf | hf
    all_goals
      have hq := implSampleFault u0 u1 u2 u3
      rw [hf] at hq
      first | rw [decodeM_yes hn hu hf] | rw [decodeM_no hn hu hf]
      clear hf hu hn hl ha
      go_enter Tryz.func146, Tryz.ntmps146
      go_wp2_with (refine wpList_copy_splice rfl (.tmp 9) (.tmp 10) 22 22 rfl 5 Tryz.underlying22 u8_size _ _ _ _ _ _ rfl rfl (w.heap.size + 1) 0 [.int .u8 0, .int .u8 0, .int .u8 0, .int .u8 0, .int .u8 0, .int .u8 0, .int .u8 0] 199 p0 (eB.row l) (by rw [hcs]; rfl) (fun _ => ⟨rfl, _, rfl, hsrc⟩) (by rw [hcs]; decide) (okB.row_one _) (w.heap.size + 1) _ (Below.refl _ _) (Nat.le_refl _) ?_
                   intro w5 hP5 hB5
                   have P5 : At w5 (w.heap.size + 1) 199 #[.int .u8 (x0.toNat : Int), .int .u8 (x1.toNat : Int), .int .u8 (x2.toNat : Int), .int .u8 (x3.toNat : Int), .int .u8 (x4.toNat : Int), .int .u8 (x5.toNat : Int), .int .u8 (x6.toNat : Int)] := by rw [← Hsp.out]; exact hP5.out
                   have R5 := z0.below hB5 (Nat.lt_succ_self _)
                   have hBw := hB1.trans (hB5.mono (Nat.le_succ _))
                   have q0 := P5.cell 0
                   have q1 := P5.cell 1
                   have q2 := P5.cell 2
                   have q3 := P5.cell 3
                   have q4 := P5.cell 4
                   have q5 := P5.cell 5
                   have q6 := P5.cell 6)
      refine (hun _ (hF.below hBw)).mono ?_
      rintro e w6 ⟨rfl, hb6⟩
      clear q0 q1 q2 q3 q4 q5 q6
      have hB6 := hBw.trans (hb6.mono hBw.size)
      have R6 := (R5.below hb6 R5.lt).alloc (.cells #[.int .i64 u0, .int .i64 u1, .int .i64 u2, .int .i64 u3] 25)
      have x6' := At.new w6 25 #[.int .i64 u0, .int .i64 u1, .int .i64 u2, .int .i64 u3]
      have hB7 := hB6.alloc hB6.size (.cells #[.int .i64 u0, .int .i64 u1, .int .i64 u2, .int .i64 u3] 25)
      go_wp2_with fail
      refine (hq _ (hF.below hB7)).mono ?_
      rintro e w8 ⟨rfl, hb8⟩
      have hB8 := hB7.trans (hb8.mono hB7.size)
      have R8 := R6.below hb8 R6.lt
      have x8 := x6'.below hb8 x6'.lt
      obtain ⟨r0, r1, r2, r3, r4, f0, f1, f2, f3, f4⟩ := R8.five
      obtain ⟨d0, d1, d2, d3, _, _, _, _⟩ := x8.four
      have hne : ¬ w.heap.size = w6.heap.size := by have := R5.lt; have := hb6.size; omega
      go_wp2_with fail
    · refine bodyPost_ret (v := .agg #[.int .i64 0, .int .i64 u0, .int .i64 u1, .int .i64 u2, .int .i64 u3]) (by simp [results, Tryz.results146, go_sem, r0, r1, r2, r3, r4]) rfl ?_
      exact ⟨rfl, ((((hB8.setCell (by simp) _).setCell (by simp) _).setCell (by simp) _).setCell (by simp) _).setCell (by simp) _⟩
    · refine bodyPost_ret (v := .agg #[.int .i64 5, .int .i64 0, .int .i64 0, .int .i64 0, .int .i64 0]) (by simp [results, Tryz.results146, go_sem, r0, r1, r2, r3, r4]) rfl ?_
      exact ⟨rfl, ((((hB8.setCell (by simp) _).setCell (by simp) _).setCell (by simp) _).setCell (by simp) _).setCell (by simp) _⟩
  · have hne : ((n : Int) != 7) = true := by rw [bne_iff_ne]; omega
    rw [decodeM_len (by omega)]
    clear hn ha
    go_enter Tryz.func146, Tryz.ntmps146
    go_wp2
    refine bodyPost_ret (v := .agg #[.int .i64 2, .int .i64 0, .int .i64 0, .int .i64 0, .int .i64 0]) (by simp [results, Tryz.results146, go_sem]) rfl ?_
    exact ⟨rfl, by repeat (first | exact Below.refl _ _ | refine Below.setCell ?_ (Nat.le_refl _) _ | refine Below.alloc ?_ (Nat.le_refl _) _)⟩
end Go.Proofs.YteiclanlhnccnaaGreatDoor
/-
  What the law of samples says, of the pure answers.
-/
namespace Go.Proofs.YteiclanlhnccnaaGreatDoor
set_option maxRecDepth 20000
open Go.RowKit

theorem keys_three (a b : Smp) : (aheadM a b = true ∧ aheadM b a = false ∧ sameKeyM a b = false) ∨ (aheadM a b = false ∧ aheadM b a = true ∧ sameKeyM a b = false) ∨ (aheadM a b = false ∧ aheadM b a = false ∧ sameKeyM a b = true) := by
  obtain ⟨a0, a1, a2, a3⟩ := a
  obtain ⟨b0, b1, b2, b3⟩ := b
  unfold aheadM sameKeyM
  simp only
  rcases Int.lt_trichotomy a0 b0 with h | h | h
  · have h1 : ¬ a0 = b0 := by omega
    have h2 : ¬ b0 = a0 := by omega
    have h3 : ¬ b0 < a0 := by omega
    exact .inl ⟨by simp [h1, h], by simp [h2, h3], by simp [h1]⟩
  · subst h
    rcases Int.lt_trichotomy a1 b1 with h | h | h
    · have h1 : ¬ a1 = b1 := by omega
      have h2 : ¬ b1 = a1 := by omega
      have h3 : ¬ b1 < a1 := by omega
      exact .inl ⟨by simp [h], by simp [h2]; omega, by simp [h1]⟩
    · subst h
      rcases Int.lt_trichotomy a2 b2 with h | h | h
      · exact .inl ⟨by simp [h], by simp; omega, by simp; omega⟩
      · subst h
        exact .inr (.inr ⟨by simp, by simp, by simp⟩)
      · exact .inr (.inl ⟨by simp; omega, by simp [h], by simp; omega⟩)
    · have h1 : ¬ a1 = b1 := by omega
      exact .inr (.inl ⟨by simp [h1]; omega, by simp [h], by simp [h1]⟩)
  · have h1 : ¬ a0 = b0 := by omega
    have h2 : ¬ b0 = a0 := by omega
    exact .inr (.inl ⟨by simp [h1]; omega, by simp [h2, h], by simp [h1]⟩)

theorem encodeM_code (x : Smp) : (encodeM x).1 = faultM x := by
  unfold encodeM
  rcases faultM_or x with h | h <;> rw [h] <;> rfl

theorem readAt_two {l : List UInt8} {p : Nat} {a b : UInt8} (ha : l[p]? = some a) (hb : l[p + 1]? = some b) : readAt l p 2 0 = a.toNat + 256 * b.toNat := by
  rw [readAt_step (l := l) (p := p) (s := 2) (j := 0) (by omega) (by simpa using ha), readAt_step (l := l) (p := p) (s := 2) (j := 1) (by omega) hb, readAt_end]
  omega

theorem byte_lo (a b : UInt8) : UInt8.ofNat (a.toNat + 256 * b.toNat) = a := by
  apply UInt8.toNat.inj
  rw [UInt8.toNat_ofNat']
  have := a.toNat_lt
  omega
theorem byte_hi (a b : UInt8) : UInt8.ofNat ((a.toNat + 256 * b.toNat) / 256) = b := by
  apply UInt8.toNat.inj
  rw [UInt8.toNat_ofNat']
  have := a.toNat_lt
  have := b.toNat_lt
  omega
theorem byte_self (a : UInt8) : UInt8.ofNat a.toNat = a := by
  apply UInt8.toNat.inj
  rw [UInt8.toNat_ofNat']
  have := a.toNat_lt
  omega

/-- What is read is what was written. -/
theorem decode_encode {l : List UInt8} (h : (decodeM l).1 = 0) : encodeM (decodeM l).2 = (0, l) := by
  by_cases h7 : l.length = 7
  · rcases faultM_or (unpM l) with hf | hf
    · rw [decodeM_yes h7 rfl hf]
      show encodeM (unpM l) = (0, l)
      unfold encodeM
      rw [if_pos hf]
      obtain ⟨x0, x1, x2, x3, x4, x5, x6, rfl⟩ := seven_of h7
      unfold unpM
      rw [read_one (x := x0) rfl, readAt_two (p := 1) (a := x1) (b := x2) rfl rfl, readAt_two (p := 3) (a := x3) (b := x4) rfl rfl, readAt_two (p := 5) (a := x5) (b := x6) rfl rfl]
      simp only [Int.toNat_natCast, Int.sub_add_cancel]
      rw [encL_eq, byte_self, byte_lo, byte_hi, byte_lo, byte_hi, byte_lo, byte_hi]
    · rw [decodeM_no h7 rfl hf] at h
      cases h
  · rw [decodeM_len h7] at h
    cases h

theorem small_two {n : Nat} (h : n ≤ 9999) : (UInt8.ofNat n).toNat + 256 * (UInt8.ofNat (n / 256)).toNat = n := by
  rw [UInt8.toNat_ofNat', UInt8.toNat_ofNat']
  omega
/-- What is written is read. -/
theorem encode_decode {x : Smp} (h : faultM x = 0) : (encodeM x).2.length = 7 ∧ decodeM (encodeM x).2 = (0, x) := by
  obtain ⟨a0, a1, a2, a3⟩ := x
  obtain ⟨n0, n1, n2, n3, rfl, rfl, rfl, rfl, k0, k1, k2, k3⟩ := faultM_nat h
  rw [encodeM_nat h]
  have hl : (encL n0 n1 n2 n3).length = 7 := by rw [encL_eq]; rfl
  refine ⟨hl, ?_⟩
  have hu : unpM (encL n0 n1 n2 n3) = ((n0 : Int), (n1 : Int), (n2 : Int), (n3 : Int) - 1000) := by
    rw [encL_eq]
    unfold unpM
    rw [read_one (x := UInt8.ofNat n0) rfl, readAt_two (p := 1) (a := UInt8.ofNat n1) (b := UInt8.ofNat (n1 / 256)) rfl rfl, readAt_two (p := 3) (a := UInt8.ofNat n2) (b := UInt8.ofNat (n2 / 256)) rfl rfl, readAt_two (p := 5) (a := UInt8.ofNat n3) (b := UInt8.ofNat (n3 / 256)) rfl rfl,
      small_two (by omega), small_two (by omega), small_two (by omega)]
    rw [show (UInt8.ofNat n0).toNat = n0 by rw [UInt8.toNat_ofNat']; omega]
  exact decodeM_yes hl hu h
end Go.Proofs.YteiclanlhnccnaaGreatDoor
