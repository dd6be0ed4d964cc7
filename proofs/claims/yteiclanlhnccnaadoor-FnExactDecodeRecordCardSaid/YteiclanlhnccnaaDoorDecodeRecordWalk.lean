import Derived.Test.YteiclanlhnccnaaDoorDecRP
import Derived.Test.YteiclanlhnccnaaDoorTo
namespace Go.Proofs.YteiclanlhnccnaaDoor
set_option maxRecDepth 20000
open Go.RowKit

set_option maxHeartbeats 2000000 in
theorem fnExactDecodeRecord_walk (X0 : Option Addr) (n0 d0 : Nat) (l0 : List UInt8) (w : World) (ha0 : Rd eB w w.heap.size X0 l0) (hn0 : l0.length = n0) (hF : Flds w) :
    Calls Tryd.prog 5 #[.slice X0 n0 d0] w fun e w' => e = .returned (.bool true) ∧ Below w.heap.size w w' := by
  have Hn0 := Lib.hid hn0
  clear hn0
  by_cases hbig0 : 1048576 < n0
  · go_enter Tryd.func5, Tryd.ntmps5
    go_wp2
    go_ret
    exact ⟨rfl, Below.refl _ _⟩
  have hm0 : n0 ≤ 1048576 := by omega
  have hM0 : n0 ≤ maxLen := by unfold maxLen; omega
  clear hbig0
  go_enter Tryd.func5, Tryd.ntmps5
  go_wp2_with fail
  refine (toByteS X0 n0 d0 l0 _ ha0 Hn0.out hm0).mono ?_
  rintro e w1 ⟨B1, e1, rfl, s0, hb1⟩
  have S1 := Lib.hid hb1.size
  have hB1 := hb1
  go_wp2_with fail
  refine (specDecodeRecord B1 n0 e1 l0 _ (s0.rd okB) Hn0.out s0.cap s0.capMax).mono ?_
  rintro e w2 ⟨rfl, hb2⟩
  have s0_2 := s0.below hb2 (Nat.le_refl _)
  have S2 := Lib.hid hb2.size
  have hB2 := hB1.trans (hb2.mono hB1.size)
  have aw := At.new w2 39 #[.int .i64 (decodeRecM l0).1, .int .i64 (decodeRecM l0).2.1, .int .i64 (decodeRecM l0).2.2.1, .int .i64 (decodeRecM l0).2.2.2.1.1, .int .i64 (decodeRecM l0).2.2.2.1.2.1, .int .i64 (decodeRecM l0).2.2.2.1.2.2.1, .int .i64 (decodeRecM l0).2.2.2.1.2.2.2, .int .i64 (decodeRecM l0).2.2.2.2]
  have S3 := Lib.hid (show (w2.alloc (.cells #[.int .i64 (decodeRecM l0).1, .int .i64 (decodeRecM l0).2.1, .int .i64 (decodeRecM l0).2.2.1, .int .i64 (decodeRecM l0).2.2.2.1.1, .int .i64 (decodeRecM l0).2.2.2.1.2.1, .int .i64 (decodeRecM l0).2.2.2.1.2.2.1, .int .i64 (decodeRecM l0).2.2.2.1.2.2.2, .int .i64 (decodeRecM l0).2.2.2.2] 39)).heap.size = w2.heap.size + 1 by simp)
  have hB3 := hB2.alloc hB2.size (.cells #[.int .i64 (decodeRecM l0).1, .int .i64 (decodeRecM l0).2.1, .int .i64 (decodeRecM l0).2.2.1, .int .i64 (decodeRecM l0).2.2.2.1.1, .int .i64 (decodeRecM l0).2.2.2.1.2.1, .int .i64 (decodeRecM l0).2.2.2.1.2.2.1, .int .i64 (decodeRecM l0).2.2.2.1.2.2.2, .int .i64 (decodeRecM l0).2.2.2.2] 39)
  have ha0_3 := ha0.lift hB3
  go_wp2_with fail
  refine (toByteS X0 n0 d0 l0 _ ha0_3 Hn0.out hm0).mono ?_
  rintro e w4 ⟨B4, e4, rfl, x0, hb4⟩
  have aw_4 := aw.below hb4 aw.lt
  have S4 := Lib.hid hb4.size
  have hB4 := hB3.trans (hb4.mono hB3.size)
  go_wp2_with fail
  refine (implDecodeRecord B4 n0 e4 l0 _ (x0.rd okB) Hn0.out x0.cap x0.capMax (hF.below hB4)).mono ?_
  rintro e w5 ⟨rfl, hb5⟩
  have aw_5 := aw_4.below hb5 aw_4.lt
  have x0_5 := x0.below hb5 (Nat.le_refl _)
  have S5 := Lib.hid hb5.size
  have hB5 := hB4.trans (hb5.mono hB4.size)
  have ag := At.new w5 39 #[.int .i64 (decodeRecM l0).1, .int .i64 (decodeRecM l0).2.1, .int .i64 (decodeRecM l0).2.2.1, .int .i64 (decodeRecM l0).2.2.2.1.1, .int .i64 (decodeRecM l0).2.2.2.1.2.1, .int .i64 (decodeRecM l0).2.2.2.1.2.2.1, .int .i64 (decodeRecM l0).2.2.2.1.2.2.2, .int .i64 (decodeRecM l0).2.2.2.2]
  have aw_6 := aw_5.alloc (.cells #[.int .i64 (decodeRecM l0).1, .int .i64 (decodeRecM l0).2.1, .int .i64 (decodeRecM l0).2.2.1, .int .i64 (decodeRecM l0).2.2.2.1.1, .int .i64 (decodeRecM l0).2.2.2.1.2.1, .int .i64 (decodeRecM l0).2.2.2.1.2.2.1, .int .i64 (decodeRecM l0).2.2.2.1.2.2.2, .int .i64 (decodeRecM l0).2.2.2.2] 39)
  have x0_6 := x0_5.alloc (.cells #[.int .i64 (decodeRecM l0).1, .int .i64 (decodeRecM l0).2.1, .int .i64 (decodeRecM l0).2.2.1, .int .i64 (decodeRecM l0).2.2.2.1.1, .int .i64 (decodeRecM l0).2.2.2.1.2.1, .int .i64 (decodeRecM l0).2.2.2.1.2.2.1, .int .i64 (decodeRecM l0).2.2.2.1.2.2.2, .int .i64 (decodeRecM l0).2.2.2.2] 39)
  have S6 := Lib.hid (show (w5.alloc (.cells #[.int .i64 (decodeRecM l0).1, .int .i64 (decodeRecM l0).2.1, .int .i64 (decodeRecM l0).2.2.1, .int .i64 (decodeRecM l0).2.2.2.1.1, .int .i64 (decodeRecM l0).2.2.2.1.2.1, .int .i64 (decodeRecM l0).2.2.2.1.2.2.1, .int .i64 (decodeRecM l0).2.2.2.1.2.2.2, .int .i64 (decodeRecM l0).2.2.2.2] 39)).heap.size = w5.heap.size + 1 by simp)
  have hB6 := hB5.alloc hB5.size (.cells #[.int .i64 (decodeRecM l0).1, .int .i64 (decodeRecM l0).2.1, .int .i64 (decodeRecM l0).2.2.1, .int .i64 (decodeRecM l0).2.2.2.1.1, .int .i64 (decodeRecM l0).2.2.2.1.2.1, .int .i64 (decodeRecM l0).2.2.2.1.2.2.1, .int .i64 (decodeRecM l0).2.2.2.1.2.2.2, .int .i64 (decodeRecM l0).2.2.2.2] 39)
  obtain ⟨aw0_6, aw1_6, aw2_6, aw3_6, aw4_6, aw5_6, aw6_6, aw7_6⟩ := aw_6.eightR
  obtain ⟨ag0_6, ag1_6, ag2_6, ag3_6, ag4_6, ag5_6, ag6_6, ag7_6⟩ := ag.eightR
  go_wp2_with fail
  refine (eqRecordResult_same (decodeRecM l0).1 (decodeRecM l0).2.1 (decodeRecM l0).2.2.1 (decodeRecM l0).2.2.2.1.1 (decodeRecM l0).2.2.2.1.2.1 (decodeRecM l0).2.2.2.1.2.2.1 (decodeRecM l0).2.2.2.1.2.2.2 (decodeRecM l0).2.2.2.2 _).mono ?_
  rintro e w7 ⟨rfl, hb7⟩
  have aw_7 := aw_6.below hb7 aw_6.lt
  have ag_7 := ag.below hb7 ag.lt
  have x0_7 := x0_6.below hb7 (Nat.le_refl _)
  have S7 := Lib.hid hb7.size
  have hB7 := hB6.trans (hb7.mono hB6.size)
  have ha0_7 := ha0.lift hB7
  go_wp2_with fail
  refine (toByteS X0 n0 d0 l0 _ ha0_7 Hn0.out hm0).mono ?_
  rintro e w8 ⟨B8, e8, rfl, y0, hb8⟩
  have x0_8 := x0_7.below hb8 (Nat.le_refl _)
  have S8 := Lib.hid hb8.size
  have hB8 := hB7.trans (hb8.mono hB7.size)
  go_wp2_with fail
  refine (eqByteS B4 B8 n0 n0 e4 e8 l0 l0 _ (x0_8.rd okB) (y0.rd okB) Hn0.out Hn0.out hM0).mono ?_
  rintro e w9 ⟨rfl, hb9⟩
  have x0_9 := x0_8.below hb9 (Nat.le_refl _)
  have y0_9 := y0.below hb9 (Nat.le_refl _)
  have S9 := Lib.hid hb9.size
  have hB9 := hB8.trans (hb9.mono hB8.size)
  go_wp2_with fail
  go_ret
  exact ⟨by simp, hB9⟩
end Go.Proofs.YteiclanlhnccnaaDoor
