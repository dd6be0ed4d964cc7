/-
  Texts of one proof, joined: each has its own namespace.
-/
import Derived.Test.YtmaillakhhdkfaaGreatDoorBFnRecovers0
import Derived.IntWalk
namespace Go.Proofs.YtmaillakhhdkfaaGreatDoor
set_option maxRecDepth 20000
open Go.RowKit

/-- The number of some bytes, the lowest one first. -/
def readV : List UInt8 → Nat
  | [] => 0
  | b :: l => readV l * 256 + b.toNat
theorem readV_lt (l : List UInt8) : readV l < 256 ^ l.length := by
  induction l with
  | nil => simp [readV]
  | cons b l ih =>
    have hb := b.toNat_lt
    rw [readV, List.length_cons, Nat.pow_succ]
    omega
def readAt (l : List UInt8) (p s i : Nat) : Nat := readV ((l.drop (p + i)).take (s - i))
theorem readAt_step {l : List UInt8} {p s j : Nat} {x : UInt8} (hj : j < s) (hx : l[p + j]? = some x) : readAt l p s j = readAt l p s (j + 1) * 256 + x.toNat := by
  unfold readAt
  have h : (l.drop (p + j)).take (s - j) = x :: (l.drop (p + (j + 1))).take (s - (j + 1)) := by
    have hl := getElem?_some_lt hx
    rw [List.drop_eq_getElem_cons hl, show s - j = (s - (j + 1)) + 1 by omega, List.take_succ_cons, show p + j + 1 = p + (j + 1) by omega]
    rw [List.getElem?_eq_getElem hl] at hx
    rw [Option.some.inj hx]
  rw [h, readV]
theorem readAt_end (l : List UInt8) (p s : Nat) : readAt l p s s = 0 := by simp [readAt, readV]
theorem readAt_lt (l : List UInt8) (p s i : Nat) (hs : s ≤ 4) : readAt l p s i < 4294967296 := by
  refine Nat.lt_of_lt_of_le (readV_lt _) ?_
  refine Nat.le_trans (Nat.pow_le_pow_right (by omega) (show ((l.drop (p + i)).take (s - i)).length ≤ 4 by rw [List.length_take]; omega)) (by omega)
theorem readAt_lt' (l : List UInt8) (p s j : Nat) (hs : s ≤ 4) : readAt l p s (j + 1) < 16777216 := by
  refine Nat.lt_of_lt_of_le (readV_lt _) ?_
  refine Nat.le_trans (Nat.pow_le_pow_right (by omega) (show ((l.drop (p + (j + 1))).take (s - (j + 1))).length ≤ 3 by rw [List.length_take]; omega)) (by omega)

/-- What ReadWord answers. -/
def readM (l : List UInt8) (a s : Int) : Int × Int :=
  if 1 ≤ s ∧ s ≤ 4 ∧ 0 ≤ a ∧ a ≤ (l.length : Int) - s then (0, (readAt l a.toNat s.toNat 0 : Nat)) else (3, 0)
theorem readM_bad {l : List UInt8} {a s : Int} (h : ¬ (1 ≤ s ∧ s ≤ 4 ∧ 0 ≤ a ∧ a ≤ (l.length : Int) - s)) : readM l a s = (3, 0) := if_neg h
theorem readM_nat {l : List UInt8} {p s : Nat} (h : 1 ≤ s ∧ s ≤ 4 ∧ p + s ≤ l.length) : readM l p s = (0, ((readAt l p s 0 : Nat) : Int)) := by
  unfold readM
  rw [if_pos (by omega), Int.toNat_natCast, Int.toNat_natCast]

set_option maxHeartbeats 400000 in
theorem l1Read (A : Option Addr) (n c p s : Nat) (l : List UInt8) (w : World) (ha : Rd eB w w.heap.size A l) (hn : l.length = n) (hs : s ≤ 4) (hp : p + s ≤ n) (hm : n ≤ maxLen) :
    Calls Tryz.prog 105 #[.slice A n c, .int .i64 p, .int .i64 s] w fun e w' => e = .returned (.int .i64 (readAt l p s 0 : Nat)) ∧ w = w' := by
  have Hn := Lib.hid hn
  clear hn
  unfold maxLen at hm
  go_enter Tryz.func105, Tryz.ntmps105
  go_wp2
  go_loop [7, 8] (fun vq vi => ∃ i q : Nat, i ≤ s ∧ vi = .int .i64 ((i : Int) - 1) ∧ vq = .int .i64 q ∧ Hid (q = readAt l p s i)) (fun _ vi => (intOf vi + 1).toNat)
  case atStart => exact ⟨s, 0, Nat.le_refl _, rfl, rfl, Lib.hid (readAt_end l p s).symm⟩
  case round =>
    obtain ⟨i, q, hi, rfl, rfl, Hq⟩ := hrel
    match i, hi, Hq with
    | 0, hi, Hq =>
      go_wp2
      go_ret
      exact ⟨by rw [Hq.out]; rfl, rfl⟩
    | j + 1, hi, Hq =>
      obtain ⟨g, o, x, rfl, hg, hx, ca⟩ := ha.byte (k := p + j) (by rw [Hn.out]; omega)
      have hx8 := x.toNat_lt
      have Hst := Lib.hid (readAt_step (s := s) (by omega) hx)
      have hql : q < 16777216 := by rw [Hq.out]; exact readAt_lt' l p s j hs
      clear hx
      rw [show (((j + 1 : Nat) : Int) - 1) = (j : Int) by omega]
      go_wp2
      exact ⟨⟨j, q * 256 + x.toNat, by omega, rfl, by go_num, Lib.hid (by rw [Hst.out, ← Hq.out])⟩, by simp [intOf]⟩

/-! ### impl.ReadWord -/
set_option maxHeartbeats 400000 in
theorem implReadWord_size (A : Option Addr) (n c : Nat) (l : List UInt8) (a s : Int) (w : World) (h : ¬ (1 ≤ s ∧ s ≤ 4)) :
    Calls Tryz.prog 87 #[.slice A n c, .int .i64 a, .int .i64 s] w fun e w' => RetIR (readM l a s) w e w' := by
  have Hf := Lib.hid (readM_bad (l := l) (a := a) (s := s) (by omega))
  have hin : inB (s, 1, 4) = false := by simp only [inB, Bool.and_eq_false_iff, decide_eq_false_iff_not]; omega
  go_enter Tryz.func87, Tryz.ntmps87
  go_wp2_with (go_at_call 82; refine (isWordSize_any _ _).mono ?_; rintro e w1 ⟨rfl, hb1⟩; have a1 := (At.new w _ _).below hb1 (by simp); obtain ⟨r0, r1, f0, f1⟩ := a1.two)
  have hB1 : Below w.heap.size w w1 := ((Below.refl _ _).alloc (Nat.le_refl _) _).trans (hb1.mono (by simp))
  refine bodyPost_ret (v := .agg #[.int .i64 3, .int .i64 0]) (by simp [results, Tryz.results87, go_sem, r0, r1]) rfl ?_
  rw [Hf.out]
  exact ⟨rfl, (hB1.setCell (Nat.le_refl _) _).setCell (Nat.le_refl _) _⟩

set_option maxHeartbeats 400000 in
theorem implReadWord_no (A : Option Addr) (n c : Nat) (l : List UInt8) (a s : Int) (w : World) (hn : l.length = n) (hm : n ≤ maxLen) (hs1 : 1 ≤ s) (hs4 : s ≤ 4) (h : ¬ (0 ≤ a ∧ a ≤ (n : Int) - s)) :
    Calls Tryz.prog 87 #[.slice A n c, .int .i64 a, .int .i64 s] w fun e w' => RetIR (readM l a s) w e w' := by
  have Hf := Lib.hid (readM_bad (l := l) (a := a) (s := s) (by rw [hn]; omega))
  clear hn
  unfold maxLen at hm
  have hin : inB (s, 1, 4) = true := by simp only [inB, Bool.and_eq_true, decide_eq_true_eq]; omega
  have hno : [(a, (0 : Int), (n : Int) - s)].all inB = false := by simp [inB]; omega
  go_enter Tryz.func87, Tryz.ntmps87
  go_wp2_with (go_at_call 82; refine (isWordSize_any _ _).mono ?_; rintro e w1 ⟨rfl, hb1⟩; have a1 := (At.new w _ _).below hb1 (by simp))
  have z1 := a1.lt
  have hB1 : Below w.heap.size w w1 := ((Below.refl _ _).alloc (Nat.le_refl _) _).trans (hb1.mono (by simp))
  refine (areWithin_any _ _ _ [(a, 0, (n : Int) - s)] _ (bnds_one (by simp)) (by simp) rfl (by simp)).mono ?_
  rintro e w2 ⟨rfl, hb2⟩
  have a2 := (a1.alloc _).below hb2 (by simp; omega)
  have hB2 : Below w.heap.size w w2 := (hB1.alloc (by omega) _).trans (hb2.mono (by simp; omega))
  obtain ⟨r0, r1, f0, f1⟩ := a2.two
  go_wp2
  refine bodyPost_ret (v := .agg #[.int .i64 3, .int .i64 0]) (by simp [results, Tryz.results87, go_sem, r0, r1]) rfl ?_
  rw [Hf.out]
  exact ⟨rfl, (hB2.setCell (Nat.le_refl _) _).setCell (Nat.le_refl _) _⟩
/-- 'n<<8 | b': the byte stands in the room that the shift leaves. -/
theorem shl_or (q b : Nat) (hq : q < 16777216) (hb : b < 256) : bits .or .i64 ((q : Int) * 256) (b : Int) = ((q * 256 + b : Nat) : Int) := by
  have h1 : ((q : Int) * 256) = ((q * 256 : Nat) : Int) := by omega
  have h2 : q * 256 ||| b = q * 256 + b := by
    have := Nat.two_pow_add_eq_or_of_lt (i := 8) (by simpa using hb) q
    rw [Nat.mul_comm]
    simpa using this.symm
  rw [h1]
  show IntKind.i64.wrap ((BitVec.ofInt 64 ((q * 256 : Nat) : Int) ||| BitVec.ofInt 64 ((b : Nat) : Int)).toNat : Int) = _
  have o1 : (BitVec.ofInt 64 ((q * 256 : Nat) : Int)).toNat = q * 256 := by rw [BitVec.ofInt_natCast, BitVec.toNat_ofNat]; exact Nat.mod_eq_of_lt (by omega)
  have o2 : (BitVec.ofInt 64 ((b : Nat) : Int)).toNat = b := by rw [BitVec.ofInt_natCast, BitVec.toNat_ofNat]; exact Nat.mod_eq_of_lt (by omega)
  rw [BitVec.toNat_or, o1, o2, h2, IntKind.wrap_i64]
  omega

set_option maxHeartbeats 800000 in
theorem implReadWord_yes (A : Option Addr) (n c p s : Nat) (l : List UInt8) (w : World) (ha : Rd eB w w.heap.size A l) (hn : l.length = n) (hm : n ≤ maxLen) (hs1 : 1 ≤ s) (hs4 : s ≤ 4) (h1 : p + s ≤ n) :
    Calls Tryz.prog 87 #[.slice A n c, .int .i64 p, .int .i64 s] w fun e w' => RetIR (readM l p s) w e w' := by
  have Hf := Lib.hid (readM_nat (l := l) (p := p) (s := s) ⟨hs1, hs4, by omega⟩)
  have Hn := Lib.hid hn
  clear hn
  unfold maxLen at hm
  have hin : inB ((s : Int), 1, 4) = true := by simp only [inB, Bool.and_eq_true, decide_eq_true_eq]; omega
  have hno : [((p : Int), (0 : Int), (n : Int) - s)].all inB = true := by simp [inB]; omega
  go_enter Tryz.func87, Tryz.ntmps87
  go_wp2_with (go_at_call 82; refine (isWordSize_any _ _).mono ?_; rintro e w1 ⟨rfl, hb1⟩; have a1 := (At.new w _ _).below hb1 (by simp))
  have z1 := a1.lt
  have hB1 : Below w.heap.size w w1 := ((Below.refl _ _).alloc (Nat.le_refl _) _).trans (hb1.mono (by simp))
  refine (areWithin_any _ _ _ [((p : Int), 0, (n : Int) - s)] _ (bnds_one (by simp)) (by simp) rfl (by simp)).mono ?_
  rintro e w2 ⟨rfl, hb2⟩
  have a2 := (a1.alloc _).below hb2 (by simp; omega)
  have hB2 : Below w.heap.size w w2 := (hB1.alloc (by omega) _).trans (hb2.mono (by simp; omega))
  have ha2 := ha.lift hB2
  obtain ⟨r0, r1, f0, f1⟩ := a2.two
  go_wp2
  go_loop [7, 8] (fun vq vi => ∃ i q : Nat, i ≤ s ∧ vi = .int .i64 ((i : Int) - 1) ∧ vq = .int .i64 q ∧ Hid (q = readAt l p s i)) (fun _ vi => (intOf vi + 1).toNat)
  case atStart => exact ⟨s, 0, Nat.le_refl _, rfl, rfl, Lib.hid (readAt_end l p s).symm⟩
  case round =>
    obtain ⟨i, q, hi, rfl, rfl, Hq⟩ := hrel
    match i, hi, Hq with
    | 0, hi, Hq =>
      go_wp2
      refine bodyPost_ret (v := .agg #[.int .i64 0, .int .i64 (q : Nat)]) (by simp [results, Tryz.results87, go_sem, r0, r1]) rfl ?_
      rw [Hf.out, ← Hq.out]
      exact ⟨rfl, (hB2.setCell (Nat.le_refl _) _).setCell (Nat.le_refl _) _⟩
    | j + 1, hi, Hq =>
      obtain ⟨g, o, x, rfl, hg, hx, ca⟩ := ha2.byte (k := p + j) (by rw [Hn.out]; omega)
      have hx8 := x.toNat_lt
      have Hst := Lib.hid (readAt_step (s := s) (by omega) hx)
      have hql : q < 16777216 := by rw [Hq.out]; exact readAt_lt' l p s j hs4
      have hor := shl_or q x.toNat hql hx8
      clear hx
      rw [show (((j + 1 : Nat) : Int) - 1) = (j : Int) by omega]
      go_wp2
      exact ⟨⟨j, q * 256 + x.toNat, by omega, rfl, by go_num, Lib.hid (by rw [Hst.out, ← Hq.out])⟩, by simp [intOf]⟩

theorem implReadWord (A : Option Addr) (n c : Nat) (l : List UInt8) (a s : Int) (w : World) (ha : Rd eB w w.heap.size A l) (hn : l.length = n) (hm : n ≤ maxLen) :
    Calls Tryz.prog 87 #[.slice A n c, .int .i64 a, .int .i64 s] w fun e w' => RetIR (readM l a s) w e w' := by
  by_cases h : 1 ≤ s ∧ s ≤ 4
  · by_cases h0 : 0 ≤ a ∧ a ≤ (n : Int) - s
    · obtain ⟨p, rfl⟩ := Int.eq_ofNat_of_zero_le h0.1
      obtain ⟨t, rfl⟩ := Int.eq_ofNat_of_zero_le (show 0 ≤ s by omega)
      exact implReadWord_yes A n c p t l w ha hn hm (by omega) (by omega) (by omega)
    · exact implReadWord_no A n c l a s w hn hm h.1 h.2 h0
  · exact implReadWord_size A n c l a s w h
end Go.Proofs.YtmaillakhhdkfaaGreatDoor
/-
  The choice that the bytes make.
-/
namespace Go.Proofs.YtmaillakhhdkfaaGreatDoor
set_option maxRecDepth 20000
open Go.RowKit

/-- A choice out of n, and nothing has turned. -/
def RetAt (n : Int) (w : World) (e : Ending) (w' : World) : Prop :=
  ∃ (r : Int) (d : Nat), e = .returned (.int .i64 r) ∧ (1 ≤ n → 0 ≤ r ∧ r < n) ∧ w' = w.drewN d

theorem lwAt_one (A : Option Addr) (m c : Nat) (l : List UInt8) (i n : Int) (w : World) (_ha : Rd eB w w.heap.size A l) (_hn : l.length = m) (h1 : n ≤ 1) :
    Calls Tryz.prog 27 #[.slice A m c, .int .i64 i, .int .i64 n] w (RetAt n w) := by
  go_enter Tryz.func27, Tryz.ntmps27
  go_wp2
  go_ret
  exact ⟨0, 0, rfl, fun _ => ⟨by omega, by omega⟩, rfl⟩

theorem lwAt_zero (A : Option Addr) (m c : Nat) (l : List UInt8) (i n : Int) (w : World) (_ha : Rd eB w w.heap.size A l) (_hn : l.length = m) (h1 : 1 < n) (h0 : m = 0) (hi : 0 ≤ i) (hi' : i ≤ 100) :
    Calls Tryz.prog 27 #[.slice A m c, .int .i64 i, .int .i64 n] w (RetAt n w) := by
  subst h0
  have m0 : 0 ≤ (i * 7) % n := Int.emod_nonneg _ (by omega)
  have m1 : (i * 7) % n < n := Int.emod_lt_of_pos _ (by omega)
  go_enter Tryz.func27, Tryz.ntmps27
  go_wp2
  go_ret
  exact ⟨_, 0, rfl, fun _ => ⟨m0, m1⟩, rfl⟩

set_option maxHeartbeats 800000 in
theorem lwAt_small (A : Option Addr) (m c k : Nat) (l : List UInt8) (n : Int) (w : World) (ha : Rd eB w w.heap.size A l) (hn : l.length = m) (h1 : 1 < n) (h2 : n ≤ 200) (h0 : m ≠ 0) (hm : m ≤ 1048576) (hk : k ≤ 100) :
    Calls Tryz.prog 27 #[.slice A m c, .int .i64 (k : Nat), .int .i64 n] w (RetAt n w) := by
  have hlt : k % m < m := Nat.mod_lt _ (by omega)
  obtain ⟨g', o', x, rfl, hg', _, ca⟩ := ha.byte (k := k % m) (by rw [hn]; exact hlt)
  have hx := x.toNat_lt
  have hm1 : (1 : Int) ≤ (m : Int) := by omega
  have i0 : 0 ≤ (k : Int) % (m : Int) := Int.emod_nonneg _ (by omega)
  have i1 : (k : Int) % (m : Int) < (m : Int) := Int.emod_lt_of_pos _ (by omega)
  have q0 : 0 ≤ (k : Int) / (m : Int) := Int.ediv_nonneg (by omega) (by omega)
  have q1 : (k : Int) / (m : Int) ≤ (k : Int) := Int.ediv_le_self _ (by omega)
  have m0 : 0 ≤ ((x.toNat : Int) + (k : Int) / (m : Int) * 3) % n := Int.emod_nonneg _ (by omega)
  have m1 : ((x.toNat : Int) + (k : Int) / (m : Int) * 3) % n < n := Int.emod_lt_of_pos _ (by omega)
  go_enter Tryz.func27, Tryz.ntmps27
  go_wp2
  go_quiet (fail)
  go_wp2
  go_ret
  exact ⟨_, _, rfl, fun _ => ⟨m0, m1⟩, rfl⟩

theorem lwAt (A : Option Addr) (m c : Nat) (l : List UInt8) (i n : Int) (w : World) (ha : Rd eB w w.heap.size A l) (hn : l.length = m) (h2 : n ≤ 200) (hm : m ≤ 1048576) (hi : 0 ≤ i) (hi' : i ≤ 100) :
    Calls Tryz.prog 27 #[.slice A m c, .int .i64 i, .int .i64 n] w (RetAt n w) := by
  by_cases h1 : n ≤ 1
  · exact lwAt_one A m c l i n w ha hn h1
  · by_cases h0 : m = 0
    · exact lwAt_zero A m c l i n w ha hn (by omega) h0 hi hi'
    · obtain ⟨k, rfl⟩ := Int.eq_ofNat_of_zero_le hi
      exact lwAt_small A m c k l n w ha hn (by omega) h2 h0 hm (by omega)
end Go.Proofs.YtmaillakhhdkfaaGreatDoor
