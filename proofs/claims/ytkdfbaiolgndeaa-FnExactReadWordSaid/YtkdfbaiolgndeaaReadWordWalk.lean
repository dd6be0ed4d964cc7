import Derived.Test.YtkdfbaiolgndeaaRead
import Derived.Test.YtkdfbaiolgndeaaIR
import Derived.Test.YtkdfbaiolgndeaaEq
import Derived.Test.YtkdfbaiolgndeaaTo
namespace Go.Proofs.Ytkdfbaiolgndeaa
open Go.RowKit

set_option maxHeartbeats 1000000 in
theorem fnExactReadWord_walk (A : Option Addr) (n c : Nat) (l : List UInt8) (a s : Int) (w : World) (ha : Rd eB w w.heap.size A l) (hn : l.length = n) (_h1 : -9223372036854775808 ≤ a ∧ a ≤ 9223372036854775807) (_h2 : -9223372036854775808 ≤ s ∧ s ≤ 9223372036854775807) :
    Calls Try.prog 5 #[.slice A n c, .int .i64 a, .int .i64 s] w fun e w' => e = .returned (.bool true) ∧ Below w.heap.size w w' := by
  by_cases hbig : 1048576 < n
  · clear hn
    go_enter Try.func5, Try.ntmps5
    go_wp2
    go_ret
    exact ⟨rfl, Below.refl _ _⟩
  · have hm : n ≤ 1048576 := by omega
    have hM : n ≤ maxLen := by unfold maxLen; omega
    have Hn := Lib.hid hn
    clear hn hbig
    go_enter Try.func5, Try.ntmps5
    go_wp2_with fail
    refine (toByteS A n c l _ ha Hn.out hm).mono ?_
    rintro e w1 ⟨A1, c1, rfl, ow1, hb1⟩
    have ha1 := ha.lift hb1
    go_wp2_with fail
    refine (specReadWord A1 n c1 l a s _ (ow1.rd okB) Hn.out hM).mono ?_
    rintro e w2 ⟨rfl, hb2⟩
    have hB2 := hb1.trans (hb2.mono hb1.size)
    have aw := At.new w2 40 #[.int .i64 (readM l a s).1, .int .i64 (readM l a s).2]
    have hB3 := hB2.alloc hB2.size (.cells #[.int .i64 (readM l a s).1, .int .i64 (readM l a s).2] 40)
    have ha3 := ha.lift hB3
    go_wp2_with fail
    refine (toByteS A n c l _ ha3 Hn.out hm).mono ?_
    rintro e w4 ⟨A4, c4, rfl, ox4, hb4⟩
    have aw4 := aw.below hb4 aw.lt
    have hB4 := hB3.trans (hb4.mono hB3.size)
    go_wp2_with fail
    refine (implReadWord A4 n c4 l a s _ (ox4.rd okB) Hn.out hM).mono ?_
    rintro e w5 ⟨rfl, hb5⟩
    have aw5 := aw4.below hb5 aw4.lt
    have ox5 := ox4.below hb5 (Nat.le_refl _)
    have hB5 := hB4.trans (hb5.mono hB4.size)
    have z5 := aw5.lt
    obtain ⟨r0, r1, _, _⟩ := aw5.two
    have hB6 := hB5.alloc hB5.size (.cells #[.int .i64 (readM l a s).1, .int .i64 (readM l a s).2] 40)
    have ox6 := ox5.alloc (.cells #[.int .i64 (readM l a s).1, .int .i64 (readM l a s).2] 40)
    go_wp2_with fail
    refine (eqIntResult _ _ _ _ _).mono ?_
    rintro e w7 ⟨rfl, hb7⟩
    have ox7 := ox6.below hb7 (Nat.le_refl _)
    have hB7 := hB6.trans (hb7.mono hB6.size)
    have ha7 := ha.lift hB7
    go_wp2_with fail
    refine (toByteS A n c l _ ha7 Hn.out hm).mono ?_
    rintro e w8 ⟨A8, c8, rfl, oy8, hb8⟩
    have ox8 := ox7.below hb8 (Nat.le_refl _)
    have hB8 := hB7.trans (hb8.mono hB7.size)
    go_wp2_with fail
    refine (eqByteS A4 A8 n n c4 c8 l l _ (ox8.rd okB) (oy8.rd okB) Hn.out Hn.out hM).mono ?_
    rintro e w9 ⟨rfl, hb9⟩
    have hB9 := hB8.trans (hb9.mono hB8.size)
    go_wp2_with fail
    go_ret
    exact ⟨rfl, hB9⟩
end Go.Proofs.Ytkdfbaiolgndeaa
