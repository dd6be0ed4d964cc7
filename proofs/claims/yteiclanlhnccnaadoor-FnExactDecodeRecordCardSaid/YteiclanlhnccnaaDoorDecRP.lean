/-
  A record out of its bytes: the program's DecodeRecord.
-/
import Derived.Test.YteiclanlhnccnaaDoorDecUP
namespace Go.Proofs.YteiclanlhnccnaaDoor
set_option maxRecDepth 20000
open Go.RowKit
set_option linter.unusedSimpArgs false
set_option linter.unusedVariables false
attribute [local irreducible] mixW

set_option maxHeartbeats 4000000 in
theorem implDecodeRecord (A : Option Addr) (n c : Nat) (l : List UInt8) (w : World) (ha : Rd eB w w.heap.size A l) (hn : l.length = n) (hc : n ≤ c) (hcm : c ≤ maxLen) (hF : Flds w) :
    Calls Tryd.prog 17 #[.slice A n c] w fun e w' => RetRR (decodeRecM l) w e w' := by
  have hB0 : Below w.heap.size w (w.alloc (.cells #[.int .i64 0, .int .i64 0, .int .i64 0, .int .i64 0, .int .i64 0, .int .i64 0, .int .i64 0, .int .i64 0] 39)) := (Below.refl _ _).alloc (Nat.le_refl _) _
  have zb0 := At.new w 39 #[.int .i64 0, .int .i64 0, .int .i64 0, .int .i64 0, .int .i64 0, .int .i64 0, .int .i64 0, .int .i64 0]
  have U := unpackRecord A n c l _ (ha.lift hB0) hn hc hcm (hF.below hB0)
  unfold RetRc at U
  have hor := dec_or l
  unfold RetRR
  rcases hu : unpR l with ⟨a0, a1, ⟨a2, a3, a4, a5⟩, a6⟩
  rw [hu] at U hor
  have EN := fun W hW => implEncodeRecord a0 a1 a2 a3 a4 a5 a6 W hW
  have hcode := encRecM_code (a0, a1, (a2, a3, a4, a5), a6)
  have hbytes : recFaultM (a0, a1, (a2, a3, a4, a5), a6) = 0 → encRecM (a0, a1, (a2, a3, a4, a5), a6) = (0, encR (a0, a1, (a2, a3, a4, a5), a6)) := fun h => if_pos h
  by_cases hf : recFaultM (a0, a1, (a2, a3, a4, a5), a6) = 0
  rotate_left
  · have Hd := Lib.hid (show decodeRecM l = (5, zeroR) by
      rcases hor with ⟨-, h, -⟩ | ⟨h, -⟩
      · exact absurd h hf
      · exact h)
    obtain ⟨ec, eb, he⟩ : ∃ ec eb, encRecM (a0, a1, (a2, a3, a4, a5), a6) = (ec, eb) := ⟨_, _, rfl⟩
    rw [he] at hcode EN
    have hne5 : (ec != 0) = true := by rw [bne_iff_ne]; show ec ≠ 0; rw [show ec = recFaultM (a0, a1, (a2, a3, a4, a5), a6) from hcode]; exact hf
    clear hor hcode hbytes hf hu he
    go_enter Tryd.func17, Tryd.ntmps17
    go_wp2_with fail
    refine U.mono ?_
    rintro e w1 ⟨rfl, hb1⟩
    have hB1 := hB0.trans (hb1.mono hB0.size)
    have zb1 := (zb0.below hb1 zb0.lt).alloc (.cells #[.int .i64 a0, .int .i64 a1, .int .i64 a2, .int .i64 a3, .int .i64 a4, .int .i64 a5, .int .i64 a6] 29)
    have hne : ¬ w.heap.size = w1.heap.size := by have := hb1.size; simp at this; omega
    have xb1 := At.new w1 29 #[.int .i64 a0, .int .i64 a1, .int .i64 a2, .int .i64 a3, .int .i64 a4, .int .i64 a5, .int .i64 a6]
    have hB2 := hB1.alloc hB1.size (.cells #[.int .i64 a0, .int .i64 a1, .int .i64 a2, .int .i64 a3, .int .i64 a4, .int .i64 a5, .int .i64 a6] 29)
    obtain ⟨xc0, xc1, xc2, xc3, xc4, xc5, xc6⟩ := xb1.seven
    go_wp2_with fail
    refine (EN _ (hF.below hB2)).mono ?_
    rintro e w2 ⟨A2, n2, c2, rfl, o2, hb2⟩
    have hB3 := hB2.trans (hb2.mono hB2.size)
    have hne3 : ¬ w.heap.size = w2.heap.size := by have := hb1.size; have := hb2.size; simp at *; omega
    have hne4 : ¬ w1.heap.size = w2.heap.size := by have := hb2.size; simp at this; omega
    have zb3 := (zb1.below hb2 zb1.lt).alloc (.cells #[.int .i64 ec, .slice A2 n2 c2] 34)
    have xb3 := (xb1.below hb2 xb1.lt).alloc (.cells #[.int .i64 ec, .slice A2 n2 c2] 34)
    have eb3 := At.new w2 34 #[.int .i64 ec, .slice A2 n2 c2]
    have hB4 := hB3.alloc hB3.size (.cells #[.int .i64 ec, .slice A2 n2 c2] 34)
    have o3 := o2.alloc (.cells #[.int .i64 ec, .slice A2 n2 c2] 34)
    clear xc0 xc1 xc2 xc3 xc4 xc5 xc6
    obtain ⟨xc0, xc1, xc2, xc3, xc4, xc5, xc6⟩ := xb3.seven
    obtain ⟨zc0, zc1, zc2, zc3, zc4, zc5, zc6, zc7⟩ := zb3.eightR
    have zf0 := zb3.frozen 0
    have zf1 := zb3.frozen 1
    have zf2 := zb3.frozen 2
    have zf3 := zb3.frozen 3
    have zf4 := zb3.frozen 4
    have zf5 := zb3.frozen 5
    have zf6 := zb3.frozen 6
    have zf7 := zb3.frozen 7
    obtain ⟨ec0, ec1, _, _⟩ := eb3.two
    go_wp2_with fail
    refine bodyPost_ret (v := .agg #[.int .i64 5, .int .i64 0, .int .i64 0, .int .i64 0, .int .i64 0, .int .i64 0, .int .i64 0, .int .i64 0]) (by simp [results, Tryd.results17, go_sem, zc0, zc1, zc2, zc3, zc4, zc5, zc6, zc7]) rfl ?_
    rw [Hd.out]
    exact ⟨rfl, ((((((((hB4.setCell (by simp) _).setCell (by simp) _).setCell (by simp) _).setCell (by simp) _).setCell (by simp) _).setCell (by simp) _).setCell (by simp) _).setCell (by simp) _)⟩
  rw [hbytes hf] at EN
  clear hbytes hcode
  have hne0 : ((0 : Int) != 0) = false := by decide
  by_cases hs : encR (a0, a1, (a2, a3, a4, a5), a6) = l
  · have Hd := Lib.hid (show decodeRecM l = (0, (a0, a1, (a2, a3, a4, a5), a6)) by
      rcases hor with ⟨h, -, -⟩ | ⟨-, h⟩
      · exact h
      · exact absurd ⟨hf, hs⟩ h)
    have Hs := Lib.hid (decide_eq_true hs)
    clear hor hs hf hu
    go_enter Tryd.func17, Tryd.ntmps17
    go_wp2_with fail
    refine U.mono ?_
    rintro e w1 ⟨rfl, hb1⟩
    have hB1 := hB0.trans (hb1.mono hB0.size)
    have zb1 := (zb0.below hb1 zb0.lt).alloc (.cells #[.int .i64 a0, .int .i64 a1, .int .i64 a2, .int .i64 a3, .int .i64 a4, .int .i64 a5, .int .i64 a6] 29)
    have hne : ¬ w.heap.size = w1.heap.size := by have := hb1.size; simp at this; omega
    have xb1 := At.new w1 29 #[.int .i64 a0, .int .i64 a1, .int .i64 a2, .int .i64 a3, .int .i64 a4, .int .i64 a5, .int .i64 a6]
    have hB2 := hB1.alloc hB1.size (.cells #[.int .i64 a0, .int .i64 a1, .int .i64 a2, .int .i64 a3, .int .i64 a4, .int .i64 a5, .int .i64 a6] 29)
    obtain ⟨xc0, xc1, xc2, xc3, xc4, xc5, xc6⟩ := xb1.seven
    go_wp2_with fail
    refine (EN _ (hF.below hB2)).mono ?_
    rintro e w2 ⟨A2, n2, c2, rfl, o2, hb2⟩
    have hB3 := hB2.trans (hb2.mono hB2.size)
    have hne3 : ¬ w.heap.size = w2.heap.size := by have := hb1.size; have := hb2.size; simp at *; omega
    have hne4 : ¬ w1.heap.size = w2.heap.size := by have := hb2.size; simp at this; omega
    have zb3 := (zb1.below hb2 zb1.lt).alloc (.cells #[.int .i64 0, .slice A2 n2 c2] 34)
    have xb3 := (xb1.below hb2 xb1.lt).alloc (.cells #[.int .i64 0, .slice A2 n2 c2] 34)
    have eb3 := At.new w2 34 #[.int .i64 0, .slice A2 n2 c2]
    have hB4 := hB3.alloc hB3.size (.cells #[.int .i64 0, .slice A2 n2 c2] 34)
    have o3 := o2.alloc (.cells #[.int .i64 0, .slice A2 n2 c2] 34)
    clear xc0 xc1 xc2 xc3 xc4 xc5 xc6
    obtain ⟨xc0, xc1, xc2, xc3, xc4, xc5, xc6⟩ := xb3.seven
    obtain ⟨zc0, zc1, zc2, zc3, zc4, zc5, zc6, zc7⟩ := zb3.eightR
    have zf0 := zb3.frozen 0
    have zf1 := zb3.frozen 1
    have zf2 := zb3.frozen 2
    have zf3 := zb3.frozen 3
    have zf4 := zb3.frozen 4
    have zf5 := zb3.frozen 5
    have zf6 := zb3.frozen 6
    have zf7 := zb3.frozen 7
    obtain ⟨ec0, ec1, _, _⟩ := eb3.two
    go_wp2_with fail
    refine (implSameBytes A2 A n2 n c2 c _ l _ (o3.rd okB) (ha.lift hB4) (o3.len okB) hn).mono ?_
    rintro e w9 ⟨he9, rfl⟩
    obtain rfl : e = .returned (.bool true) := by rw [he9, Hs.out]
    clear he9
    go_wp2_with fail
    refine bodyPost_ret (v := .agg #[.int .i64 0, .int .i64 a0, .int .i64 a1, .int .i64 a2, .int .i64 a3, .int .i64 a4, .int .i64 a5, .int .i64 a6]) (by simp [results, Tryd.results17, go_sem, zc0, zc1, zc2, zc3, zc4, zc5, zc6, zc7]) rfl ?_
    rw [Hd.out]
    exact ⟨rfl, ((((((((hB4.setCell (by simp) _).setCell (by simp) _).setCell (by simp) _).setCell (by simp) _).setCell (by simp) _).setCell (by simp) _).setCell (by simp) _).setCell (by simp) _)⟩
  · have Hd := Lib.hid (show decodeRecM l = (5, zeroR) by
      rcases hor with ⟨-, -, h⟩ | ⟨h, -⟩
      · exact absurd h hs
      · exact h)
    have Hs := Lib.hid (decide_eq_false hs)
    clear hor hs hf hu
    go_enter Tryd.func17, Tryd.ntmps17
    go_wp2_with fail
    refine U.mono ?_
    rintro e w1 ⟨rfl, hb1⟩
    have hB1 := hB0.trans (hb1.mono hB0.size)
    have zb1 := (zb0.below hb1 zb0.lt).alloc (.cells #[.int .i64 a0, .int .i64 a1, .int .i64 a2, .int .i64 a3, .int .i64 a4, .int .i64 a5, .int .i64 a6] 29)
    have hne : ¬ w.heap.size = w1.heap.size := by have := hb1.size; simp at this; omega
    have xb1 := At.new w1 29 #[.int .i64 a0, .int .i64 a1, .int .i64 a2, .int .i64 a3, .int .i64 a4, .int .i64 a5, .int .i64 a6]
    have hB2 := hB1.alloc hB1.size (.cells #[.int .i64 a0, .int .i64 a1, .int .i64 a2, .int .i64 a3, .int .i64 a4, .int .i64 a5, .int .i64 a6] 29)
    obtain ⟨xc0, xc1, xc2, xc3, xc4, xc5, xc6⟩ := xb1.seven
    go_wp2_with fail
    refine (EN _ (hF.below hB2)).mono ?_
    rintro e w2 ⟨A2, n2, c2, rfl, o2, hb2⟩
    have hB3 := hB2.trans (hb2.mono hB2.size)
    have hne3 : ¬ w.heap.size = w2.heap.size := by have := hb1.size; have := hb2.size; simp at *; omega
    have hne4 : ¬ w1.heap.size = w2.heap.size := by have := hb2.size; simp at this; omega
    have zb3 := (zb1.below hb2 zb1.lt).alloc (.cells #[.int .i64 0, .slice A2 n2 c2] 34)
    have xb3 := (xb1.below hb2 xb1.lt).alloc (.cells #[.int .i64 0, .slice A2 n2 c2] 34)
    have eb3 := At.new w2 34 #[.int .i64 0, .slice A2 n2 c2]
    have hB4 := hB3.alloc hB3.size (.cells #[.int .i64 0, .slice A2 n2 c2] 34)
    have o3 := o2.alloc (.cells #[.int .i64 0, .slice A2 n2 c2] 34)
    clear xc0 xc1 xc2 xc3 xc4 xc5 xc6
    obtain ⟨xc0, xc1, xc2, xc3, xc4, xc5, xc6⟩ := xb3.seven
    obtain ⟨zc0, zc1, zc2, zc3, zc4, zc5, zc6, zc7⟩ := zb3.eightR
    have zf0 := zb3.frozen 0
    have zf1 := zb3.frozen 1
    have zf2 := zb3.frozen 2
    have zf3 := zb3.frozen 3
    have zf4 := zb3.frozen 4
    have zf5 := zb3.frozen 5
    have zf6 := zb3.frozen 6
    have zf7 := zb3.frozen 7
    obtain ⟨ec0, ec1, _, _⟩ := eb3.two
    go_wp2_with fail
    refine (implSameBytes A2 A n2 n c2 c _ l _ (o3.rd okB) (ha.lift hB4) (o3.len okB) hn).mono ?_
    rintro e w9 ⟨he9, rfl⟩
    obtain rfl : e = .returned (.bool false) := by rw [he9, Hs.out]
    clear he9
    go_wp2_with fail
    refine bodyPost_ret (v := .agg #[.int .i64 5, .int .i64 0, .int .i64 0, .int .i64 0, .int .i64 0, .int .i64 0, .int .i64 0, .int .i64 0]) (by simp [results, Tryd.results17, go_sem, zc0, zc1, zc2, zc3, zc4, zc5, zc6, zc7]) rfl ?_
    rw [Hd.out]
    exact ⟨rfl, ((((((((hB4.setCell (by simp) _).setCell (by simp) _).setCell (by simp) _).setCell (by simp) _).setCell (by simp) _).setCell (by simp) _).setCell (by simp) _).setCell (by simp) _)⟩
end Go.Proofs.YteiclanlhnccnaaDoor
