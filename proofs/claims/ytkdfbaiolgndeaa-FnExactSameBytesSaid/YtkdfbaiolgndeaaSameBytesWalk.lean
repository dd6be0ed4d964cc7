import Derived.Test.YtkdfbaiolgndeaaSame
import Derived.Test.YtkdfbaiolgndeaaEq
import Derived.Test.YtkdfbaiolgndeaaTo
namespace Go.Proofs.Ytkdfbaiolgndeaa
open Go.RowKit

set_option maxHeartbeats 1000000 in
theorem fnExactSameBytes_walk (A : Option Addr) (n c : Nat) (l : List UInt8) (B : Option Addr) (m d : Nat) (k : List UInt8) (w : World) (ha : Rd eB w w.heap.size A l) (hn : l.length = n) (hb : Rd eB w w.heap.size B k) (hm : k.length = m) :
    Calls Try.prog 9 #[.slice A n c, .slice B m d] w fun e w' => e = .returned (.bool true) ∧ Below w.heap.size w w' := by
  have Hn := Lib.hid hn
  have Hm := Lib.hid hm
  clear hn hm
  by_cases hbig : 1048576 < n
  · go_enter Try.func9, Try.ntmps9
    go_wp2
    go_ret
    exact ⟨rfl, Below.refl _ _⟩
  by_cases hbig2 : 1048576 < m
  · go_enter Try.func9, Try.ntmps9
    go_wp2
    go_ret
    exact ⟨rfl, Below.refl _ _⟩
  have h1 : n ≤ 1048576 := by omega
  have h2 : m ≤ 1048576 := by omega
  have hM : n ≤ maxLen := by unfold maxLen; omega
  have hM2 : m ≤ maxLen := by unfold maxLen; omega
  clear hbig hbig2
  go_enter Try.func9, Try.ntmps9
  go_wp2_with fail
  refine (toByteS A n c l _ ha Hn.out h1).mono ?_
  rintro e w1 ⟨A1, c1, rfl, oa1, hb1⟩
  have hB1 := hb1
  have b1 := hb.lift hB1
  go_wp2_with fail
  refine (toByteS B m d k _ b1 Hm.out h2).mono ?_
  rintro e w2 ⟨B2, d2, rfl, ob2, hb2⟩
  have oa2 := oa1.below hb2 (Nat.le_refl _)
  have hB2 := hB1.trans (hb2.mono hB1.size)
  go_wp2_with fail
  refine (specSameBytes A1 B2 n m c1 d2 l k _ (oa2.rd okB) (ob2.rd okB) Hn.out Hm.out).mono ?_
  rintro e w3 ⟨rfl, rfl⟩
  have a3 := ha.lift hB2
  go_wp2_with fail
  refine (toByteS A n c l _ a3 Hn.out h1).mono ?_
  rintro e w4 ⟨A4, c4, rfl, oa4, hb4⟩
  have hB4 := hB2.trans (hb4.mono hB2.size)
  have b4 := hb.lift hB4
  go_wp2_with fail
  refine (toByteS B m d k _ b4 Hm.out h2).mono ?_
  rintro e w5 ⟨B5, d5, rfl, ob5, hb5⟩
  have oa5 := oa4.below hb5 (Nat.le_refl _)
  have hB5 := hB4.trans (hb5.mono hB4.size)
  go_wp2_with fail
  refine (implSameBytes A4 B5 n m c4 d5 l k _ (oa5.rd okB) (ob5.rd okB) Hn.out Hm.out).mono ?_
  rintro e w6 ⟨rfl, rfl⟩
  have a6 := ha.lift hB5
  have hself : (decide (l = k) != decide (l = k)) = false := by simp
  go_wp2_with fail
  refine (toByteS A n c l _ a6 Hn.out h1).mono ?_
  rintro e w7 ⟨A7, c7, rfl, oa7, hb7⟩
  have ox7 := oa5.below hb7 (Nat.le_refl _)
  have oy7 := ob5.below hb7 (Nat.le_refl _)
  have hB7 := hB5.trans (hb7.mono hB5.size)
  go_wp2_with fail
  refine (eqByteS A4 A7 n n c4 c7 l l _ (ox7.rd okB) (oa7.rd okB) Hn.out Hn.out hM).mono ?_
  rintro e w8 ⟨rfl, hb8⟩
  have oy8 := oy7.below hb8 (Nat.le_refl _)
  have hB8 := hB7.trans (hb8.mono hB7.size)
  have b8 := hb.lift hB8
  go_wp2_with fail
  refine (toByteS B m d k _ b8 Hm.out h2).mono ?_
  rintro e w9 ⟨B9, d9, rfl, ob9, hb9⟩
  have oy9 := oy8.below hb9 (Nat.le_refl _)
  have hB9 := hB8.trans (hb9.mono hB8.size)
  go_wp2_with fail
  refine (eqByteS B5 B9 m m d5 d9 k k _ (oy9.rd okB) (ob9.rd okB) Hm.out Hm.out hM2).mono ?_
  rintro e w10 ⟨rfl, hb10⟩
  have hB10 := hB9.trans (hb10.mono hB9.size)
  go_wp2_with fail
  go_ret
  exact ⟨rfl, hB10⟩
end Go.Proofs.Ytkdfbaiolgndeaa
