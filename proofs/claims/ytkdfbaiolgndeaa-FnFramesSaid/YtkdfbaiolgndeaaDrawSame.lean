/-
  Two rows of bytes that are the same or nearly so.
-/
import Derived.Test.YtkdfbaiolgndeaaDraws1
import Derived.Test.YtkdfbaiolgndeaaFrames
namespace Go.Proofs.Ytkdfbaiolgndeaa
open Go.RowKit

theorem xor_u8 (x y : UInt8) : bits .xor .u8 (x.toNat : Int) (y.toNat : Int) = ((x ^^^ y).toNat : Int) := by
  have h : ∀ z : UInt8, BitVec.ofInt 8 (z.toNat : Int) = z.toBitVec := fun z => by
    rw [BitVec.ofInt_natCast]
    apply BitVec.eq_of_toNat_eq
    rw [BitVec.toNat_ofNat]
    exact Nat.mod_eq_of_lt z.toNat_lt
  show IntKind.u8.wrap ((BitVec.ofInt 8 (x.toNat : Int) ^^^ BitVec.ofInt 8 (y.toNat : Int)).toNat : Int) = _
  rw [h, h, IntKind.wrap_u8]
  have := (x ^^^ y).toNat_lt
  show ((x ^^^ y).toNat : Int) % 256 = _
  omega

/-- Two rows of the draw's own, of one length. -/
def RetOwnTwo (N : Nat) (w : World) (e : Ending) (w' : World) : Prop :=
  ∃ (A B : Option Addr) (n c d : Nat) (xs ys : List UInt8), e = .returned (.tuple #[.slice A n c, .slice B n d]) ∧ n ≤ N ∧ Ow eB w' w.heap.size A n c xs ∧ Ow eB w' w.heap.size B n d ys ∧ Below w.heap.size w w'

set_option maxHeartbeats 400000 in
theorem drawSameBytes (A : Option Addr) (m c : Nat) (l : List UInt8) (w : World) (ha : Rd eB w w.heap.size A l) (hn : l.length = m) (hm : m ≤ 1048576) :
    Calls Try.prog 19 #[.slice A m c] w (RetOwnTwo 8 w) := by
  have Hm := Lib.hid hm
  clear hm
  go_enter Try.func19, Try.ntmps19
  go_wp2_with fail
  refine (l1Source A m c l w ha hn Hm.out).mono ?_
  rintro e w1 ⟨rfl, s1, hb1, -⟩
  have g1 := s1.at_.lt
  have hB1 := hb1
  go_wp2_with fail
  refine (l1Next w1 _ _ A m c 0 l 9 s1 (by omega) (by omega)).mono ?_
  rintro e w2 ⟨r2, rfl, hr2, hz2, s2, hw2, -⟩
  have g2 := s2.at_.lt
  have hB2 := hw2.below hB1 hB1.size (Nat.le_refl _)
  obtain ⟨q2, rfl⟩ := Int.eq_ofNat_of_zero_le (hr2 (by omega)).1
  have hq2 : q2 ≤ 8 := by have := (hr2 (by omega)).2; omega
  clear hr2 hz2
  go_wp2_with fail
  refine (l1Some w2 _ _ A m c (0 + 1) l q2 s2 (by omega) (by omega)).mono ?_
  rintro e w3 ⟨A3, c3, xs3, rfl, hl3, ow3, s3, hw3⟩
  have g3 := s3.at_.lt
  have hB3 := hw3.below hB2 hB2.size (Nat.le_refl _)
  have ow3_3 := ow3
  go_wp2_with fail
  refine (l1Copy A3 q2 c3 xs3 w3 (ow3.rd okB) hl3 (by omega)).mono ?_
  rintro e w4 ⟨A4, c4, rfl, ow4, hb4⟩
  have s4 := s3.below hb4 g3
  have g4 := s4.at_.lt
  have ow3_4 := ow3.below hb4 (Nat.le_refl _)
  have hB4 := hB3.trans (hb4.mono hB3.size)
  have hz3 := hb4.size
  have ow4_4 := ow4
  by_cases hq : q2 = 0
  · subst hq
    go_wp2
    go_ret2
    exact ⟨_, _, 0, _, _, _, _, rfl, by omega, ow3_4.from_ (by omega), ow4.from_ (by omega), hB4⟩
  · have hlen : decide ((0 : Int) < (q2 : Int)) = true := decide_eq_true (by omega)
    obtain ⟨b4, rfl, hb4l, _⟩ := ow4.form (by omega)
    go_wp2_with fail
    refine (l1Chance w4 _ _ A m c (0 + 1 + q2) l 2 s4 (by omega) (by omega)).mono ?_
    rintro e w5 ⟨b5, rfl, s5, hw5, -⟩
    have g5 := s5.at_.lt
    have hB5 := hw5.below hB4 hB4.size (Nat.le_refl _)
    have ow3_5 := ow3_4.past hw5 (by omega)
    have ow4_5 := ow4_4.past hw5 (by omega)
    cases b5
    · go_wp2
      go_ret2
      exact ⟨_, _, q2, _, _, _, _, rfl, by omega, ow3_5.from_ (by omega), ow4_5.from_ (by omega), hB5⟩
    · go_wp2_with fail
      refine (l1Next w5 _ _ A m c (0 + 1 + q2 + 1) l q2 s5 (by omega) (by omega)).mono ?_
      rintro e w6 ⟨r6, rfl, hr6, hz6, s6, hw6, -⟩
      have g6 := s6.at_.lt
      have hB6 := hw6.below hB5 hB5.size (Nat.le_refl _)
      have ow3_6 := ow3_5.past hw6 (by omega)
      have ow4_6 := ow4_5.past hw6 (by omega)
      obtain ⟨i, rfl⟩ := Int.eq_ofNat_of_zero_le (hr6 (by omega)).1
      have hi : i < q2 := by have := (hr6 (by omega)).2; omega
      clear hr6 hz6
      have hx : xs3[i]? = some (xs3[i]'(by omega)) := List.getElem?_eq_getElem _
      generalize xs3[i]'(by omega) = x at hx
      have ca := ow4_6.byteAt hx
      have fa := ow4_6.frozenAt i
      have hxor := xor_u8 x 1
      have hset := ow4_6.byteSet hi (x ^^^ 1)
      rw [← hxor] at hset
      have Hset := Lib.hid hset
      have Hold := Lib.hid (ow3_6.grown hset.2 (fun g hg e => by have := (ow3.lt g hg).2; simp only [Option.some.injEq] at e; omega))
      clear hset hx
      go_wp2
      go_ret2
      exact ⟨_, _, q2, _, _, _, _, rfl, by omega, Hold.out.from_ (by omega), Hset.out.1.from_ (by omega), hB6.grown Hset.out.2 hB6.size (by simp; omega)⟩
end Go.Proofs.Ytkdfbaiolgndeaa
