/-
  The law's draws of arguments.
-/
import Derived.Test.YtkdfbaiolgndeaaDraw
import Derived.OwnWalk
namespace Go.Proofs.Ytkdfbaiolgndeaa
open Go.RowKit

/-- Bytes of the draw's own. -/
def RetOwn (N : Nat) (w : World) (e : Ending) (w' : World) : Prop :=
  ∃ (A : Option Addr) (n c : Nat) (xs : List UInt8), e = .returned (.slice A n c) ∧ n ≤ N ∧ Ow eB w' w.heap.size A n c xs ∧ Below w.heap.size w w'

/-- Two numbers of a draw. -/
def RetInts (w : World) (e : Ending) (w' : World) : Prop :=
  ∃ a b : Int, e = .returned (.tuple #[.int .i64 a, .int .i64 b]) ∧ a ≤ 9223372036854775807 ∧ Below w.heap.size w w'
/-- Bytes of the draw's own, and two numbers. -/
def RetOwnInts (N : Nat) (w : World) (e : Ending) (w' : World) : Prop :=
  ∃ (A : Option Addr) (n c : Nat) (xs : List UInt8) (a b : Int), e = .returned (.tuple #[.slice A n c, .int .i64 a, .int .i64 b]) ∧ n ≤ N ∧ Ow eB w' w.heap.size A n c xs ∧ Below w.heap.size w w'

theorem pick_le {xs : List Int} {v : Int} (h : v ∈ xs) (ha : (xs.all fun x => decide (x ≤ 9223372036854775807)) = true) : v ≤ 9223372036854775807 := by
  have := List.all_eq_true.1 ha v h
  simpa using this
theorem Ow.past {α : Type} {E : Enc α} {w w' : World} {base n c lo hi : Nat} {A : Option Addr} {l : List α} (h : Ow E w base A n c l) (k : Within lo hi w w') (hd : hi ≤ base) : Ow E w' base A n c l := h.within k h.lt (.inr hd)
theorem pick_nat {xs : List Int} {v : Int} (N : Nat) (h : v ∈ xs) (ha : (xs.all fun x => decide (0 ≤ x ∧ x ≤ (N : Int))) = true) : ∃ q : Nat, v = (q : Int) ∧ q ≤ N := by
  have := List.all_eq_true.1 ha v h
  simp only [decide_eq_true_eq] at this
  exact ⟨v.toNat, by omega, by omega⟩
theorem Src.alloc {w : World} {base g n c k : Nat} {A : Option Addr} {l : List UInt8} (h : Src w base g A n c k l) (o : Obj) : Src (w.alloc o) base g A n c k l := h.below ((Below.refl _ _).alloc (Nat.le_refl _) o) h.at_.lt

set_option maxHeartbeats 400000 in
theorem drawPackFrame (A : Option Addr) (m c : Nat) (l : List UInt8) (w : World) (ha : Rd eB w w.heap.size A l) (hn : l.length = m) (hm : m ≤ 1048576) :
    Calls Try.prog 14 #[.slice A m c] w (RetOwn 41 w) := by
  have Hm := Lib.hid hm
  clear hm
  go_enter Try.func14, Try.ntmps14
  go_wp2_with fail
  refine (l1Source A m c l w ha hn Hm.out).mono ?_
  rintro e w1 ⟨rfl, s1, hb1, -⟩
  have g1 := s1.at_.lt
  have hB1 := hb1
  go_wp2_with fail
  refine (l1Pick (w1.alloc (.cells #[.int .i64 1, .int .i64 2, .int .i64 9, .int .i64 40, .int .i64 0, .int .i64 41] 2)) _ _ A m c 0 l w1.heap.size #[.int .i64 1, .int .i64 2, .int .i64 9, .int .i64 40, .int .i64 0, .int .i64 41] [1, 2, 9, 40, 0, 41] 6 6 (s1.alloc _) (by omega) (At.new _ _ _) (by simp [intCells]) (by omega) rfl (by omega) (by omega)).mono ?_
  rintro e w2 ⟨v2, hv2, rfl, s2, hw2, -⟩
  have g2 := s2.at_.lt
  have hB2 := hw2.below (hB1.alloc hB1.size _) (hB1.alloc hB1.size _).size (Nat.le_refl _)
  obtain ⟨q2, rfl, hq2⟩ := pick_nat 41 hv2 rfl
  clear hv2
  go_wp2_with fail
  refine (l1Some w2 _ _ A m c (0 + 1) l q2 s2 (by omega) (by omega)).mono ?_
  rintro e w3 ⟨A3, c3, xs3, rfl, hl3, ow3, s3, hw3⟩
  have g3 := s3.at_.lt
  have hB3 := hw3.below hB2 hB2.size (Nat.le_refl _)
  have ow3_3 := ow3
  go_wp2
  go_ret
  exact ⟨_, _, _, xs3, rfl, hq2, ow3.from_ hB2.size, hB3⟩

set_option maxHeartbeats 400000 in
theorem drawPackWord (A : Option Addr) (m c : Nat) (l : List UInt8) (w : World) (ha : Rd eB w w.heap.size A l) (hn : l.length = m) (hm : m ≤ 1048576) :
    Calls Try.prog 16 #[.slice A m c] w (RetInts w) := by
  have Hm := Lib.hid hm
  clear hm
  go_enter Try.func16, Try.ntmps16
  go_wp2_with fail
  refine (l1Source A m c l w ha hn Hm.out).mono ?_
  rintro e w1 ⟨rfl, s1, hb1, -⟩
  have g1 := s1.at_.lt
  have hB1 := hb1
  go_wp2_with fail
  refine (l1Pick (w1.alloc (.cells #[.int .i64 0, .int .i64 1, .int .i64 255, .int .i64 256, .int .i64 65535, .int .i64 65536, .int .i64 4294967295, .int .i64 4294967296, .int .i64 (-1)] 2)) _ _ A m c 0 l w1.heap.size #[.int .i64 0, .int .i64 1, .int .i64 255, .int .i64 256, .int .i64 65535, .int .i64 65536, .int .i64 4294967295, .int .i64 4294967296, .int .i64 (-1)] [0, 1, 255, 256, 65535, 65536, 4294967295, 4294967296, (-1)] 9 9 (s1.alloc _) (by omega) (At.new _ _ _) (by simp [intCells]) (by omega) rfl (by omega) (by omega)).mono ?_
  rintro e w2 ⟨v2, hv2, rfl, s2, hw2, -⟩
  have g2 := s2.at_.lt
  have hB2 := hw2.below (hB1.alloc hB1.size _) (hB1.alloc hB1.size _).size (Nat.le_refl _)
  go_wp2_with fail
  refine (l1Pick (w2.alloc (.cells #[.int .i64 1, .int .i64 2, .int .i64 3, .int .i64 4, .int .i64 0, .int .i64 5] 2)) _ _ A m c (0 + 1) l w2.heap.size #[.int .i64 1, .int .i64 2, .int .i64 3, .int .i64 4, .int .i64 0, .int .i64 5] [1, 2, 3, 4, 0, 5] 6 6 (s2.alloc _) (by omega) (At.new _ _ _) (by simp [intCells]) (by omega) rfl (by omega) (by omega)).mono ?_
  rintro e w3 ⟨v3, hv3, rfl, s3, hw3, -⟩
  have g3 := s3.at_.lt
  have hB3 := hw3.below (hB2.alloc hB2.size _) (hB2.alloc hB2.size _).size (Nat.le_refl _)
  go_wp2
  go_ret2
  exact ⟨_, _, rfl, pick_le hv2 rfl, hB3⟩

set_option maxHeartbeats 400000 in
theorem drawReadWord (A : Option Addr) (m c : Nat) (l : List UInt8) (w : World) (ha : Rd eB w w.heap.size A l) (hn : l.length = m) (hm : m ≤ 1048576) :
    Calls Try.prog 18 #[.slice A m c] w (RetOwnInts 9 w) := by
  have Hm := Lib.hid hm
  clear hm
  go_enter Try.func18, Try.ntmps18
  go_wp2_with fail
  refine (l1Source A m c l w ha hn Hm.out).mono ?_
  rintro e w1 ⟨rfl, s1, hb1, -⟩
  have g1 := s1.at_.lt
  have hB1 := hb1
  go_wp2_with fail
  refine (l1Pick (w1.alloc (.cells #[.int .i64 0, .int .i64 1, .int .i64 3, .int .i64 4, .int .i64 9] 2)) _ _ A m c 0 l w1.heap.size #[.int .i64 0, .int .i64 1, .int .i64 3, .int .i64 4, .int .i64 9] [0, 1, 3, 4, 9] 5 5 (s1.alloc _) (by omega) (At.new _ _ _) (by simp [intCells]) (by omega) rfl (by omega) (by omega)).mono ?_
  rintro e w2 ⟨v2, hv2, rfl, s2, hw2, -⟩
  have g2 := s2.at_.lt
  have hB2 := hw2.below (hB1.alloc hB1.size _) (hB1.alloc hB1.size _).size (Nat.le_refl _)
  obtain ⟨q2, rfl, hq2⟩ := pick_nat 9 hv2 rfl
  clear hv2
  go_wp2_with fail
  refine (l1Some w2 _ _ A m c (0 + 1) l q2 s2 (by omega) (by omega)).mono ?_
  rintro e w3 ⟨A3, c3, xs3, rfl, hl3, ow3, s3, hw3⟩
  have g3 := s3.at_.lt
  have hB3 := hw3.below hB2 hB2.size (Nat.le_refl _)
  have ow3_3 := ow3
  go_wp2_with fail
  refine (l1Pick (w3.alloc (.cells #[.int .i64 0, .int .i64 0, .int .i64 1, .int .i64 3, .int .i64 (-1), .int .i64 9223372036854775807] 2)) _ _ A m c (0 + 1 + q2) l w3.heap.size #[.int .i64 0, .int .i64 0, .int .i64 1, .int .i64 3, .int .i64 (-1), .int .i64 9223372036854775807] [0, 0, 1, 3, (-1), 9223372036854775807] 6 6 (s3.alloc _) (by omega) (At.new _ _ _) (by simp [intCells]) (by omega) rfl (by omega) (by omega)).mono ?_
  rintro e w4 ⟨v4, hv4, rfl, s4, hw4, -⟩
  have g4 := s4.at_.lt
  have hB4 := hw4.below (hB3.alloc hB3.size _) (hB3.alloc hB3.size _).size (Nat.le_refl _)
  have ow3_4 := (ow3_3.alloc _).past hw4 (by omega)
  go_wp2_with fail
  refine (l1Pick (w4.alloc (.cells #[.int .i64 1, .int .i64 2, .int .i64 3, .int .i64 4, .int .i64 0, .int .i64 5] 2)) _ _ A m c (0 + 1 + q2 + 1) l w4.heap.size #[.int .i64 1, .int .i64 2, .int .i64 3, .int .i64 4, .int .i64 0, .int .i64 5] [1, 2, 3, 4, 0, 5] 6 6 (s4.alloc _) (by omega) (At.new _ _ _) (by simp [intCells]) (by omega) rfl (by omega) (by omega)).mono ?_
  rintro e w5 ⟨v5, hv5, rfl, s5, hw5, -⟩
  have g5 := s5.at_.lt
  have hB5 := hw5.below (hB4.alloc hB4.size _) (hB4.alloc hB4.size _).size (Nat.le_refl _)
  have ow3_5 := (ow3_4.alloc _).past hw5 (by omega)
  go_wp2
  go_ret3
  exact ⟨_, _, _, xs3, _, _, rfl, hq2, ow3_5.from_ hB2.size, hB5⟩

set_option maxHeartbeats 400000 in
theorem drawSumOf (A : Option Addr) (m c : Nat) (l : List UInt8) (w : World) (ha : Rd eB w w.heap.size A l) (hn : l.length = m) (hm : m ≤ 1048576) :
    Calls Try.prog 20 #[.slice A m c] w (RetOwn 20001 w) := by
  have Hm := Lib.hid hm
  clear hm
  go_enter Try.func20, Try.ntmps20
  go_wp2_with fail
  refine (l1Source A m c l w ha hn Hm.out).mono ?_
  rintro e w1 ⟨rfl, s1, hb1, -⟩
  have g1 := s1.at_.lt
  have hB1 := hb1
  go_wp2_with fail
  refine (l1Chance w1 _ _ A m c 0 l 60 s1 (by omega) (by omega)).mono ?_
  rintro e w2 ⟨b2, rfl, s2, hw2, -⟩
  have g2 := s2.at_.lt
  have hB2 := hw2.below hB1 hB1.size (Nat.le_refl _)
  cases b2
  · go_wp2_with fail
    refine (l1Pick (w2.alloc (.cells #[.int .i64 0, .int .i64 1, .int .i64 2, .int .i64 9, .int .i64 30] 2)) _ _ A m c (0 + 1) l w2.heap.size #[.int .i64 0, .int .i64 1, .int .i64 2, .int .i64 9, .int .i64 30] [0, 1, 2, 9, 30] 5 5 (s2.alloc _) (by omega) (At.new _ _ _) (by simp [intCells]) (by omega) rfl (by omega) (by omega)).mono ?_
    rintro e w3 ⟨v3, hv3, rfl, s3, hw3, -⟩
    have g3 := s3.at_.lt
    have hB3 := hw3.below (hB2.alloc hB2.size _) (hB2.alloc hB2.size _).size (Nat.le_refl _)
    obtain ⟨q3, rfl, hq3⟩ := pick_nat 30 hv3 rfl
    clear hv3
    go_wp2_with fail
    refine (l1Some w3 _ _ A m c (0 + 1 + 1) l q3 s3 (by omega) (by omega)).mono ?_
    rintro e w4 ⟨A4, c4, xs4, rfl, hl4, ow4, s4, hw4⟩
    have g4 := s4.at_.lt
    have hB4 := hw4.below hB3 hB3.size (Nat.le_refl _)
    have ow4_4 := ow4
    go_wp2
    go_ret
    exact ⟨_, _, _, xs4, rfl, by omega, ow4.from_ hB3.size, hB4⟩
  · go_wp2_with fail
    refine (l1Pick (w2.alloc (.cells #[.int .i64 20000, .int .i64 20001] 2)) _ _ A m c (0 + 1) l w2.heap.size #[.int .i64 20000, .int .i64 20001] [20000, 20001] 2 2 (s2.alloc _) (by omega) (At.new _ _ _) (by simp [intCells]) (by omega) rfl (by omega) (by omega)).mono ?_
    rintro e w3 ⟨v3, hv3, rfl, s3, hw3, -⟩
    have g3 := s3.at_.lt
    have hB3 := hw3.below (hB2.alloc hB2.size _) (hB2.alloc hB2.size _).size (Nat.le_refl _)
    obtain ⟨q3, rfl, hq3⟩ := pick_nat 20001 hv3 rfl
    clear hv3
    have hq' : (q3 : Int) ≤ 20001 := by omega
    clear hq3
    go_wp2_with (refine wpList_make_ow okB _ rfl _ _ _ rfl w.heap.size info_u8 Try.underlying22 0 rfl .i64 .i64 _ _ q3 rfl rfl rfl rfl (by omega) (by unfold maxLen; omega) hB3.size ?_; intro w9 how hg)
    go_ret
    exact ⟨_, _, _, _, rfl, by omega, how, hB3.grown hg hB3.size (by simp)⟩
end Go.Proofs.Ytkdfbaiolgndeaa
