/-
  Texts of one proof, joined: each has its own namespace.
-/
import Derived.Test.YteiclanlhnccnaaGreatDoorBExApplyRecord10
import Derived.Shelf.Spec.SlicesGrow
import Derived.Shelf.SlSortCmp.NoneTotal
import Derived.Test.YteiclanlhnccnaaGreatDoorRows
import Derived.Test.YteiclanlhnccnaaGreatDoorBExApplyRecord2
import Derived.Test.YteiclanlhnccnaaGreatDoorBExApplyRecord5
import Derived.Test.YteiclanlhnccnaaGreatDoorBExApplyRecord3
import Derived.Test.YteiclanlhnccnaaGreatDoorBExApplyRecord7
/-
  A record put to a state: the model's ApplyRecord.
-/
namespace Go.Proofs.YteiclanlhnccnaaGreatDoor
set_option maxRecDepth 20000
open Go.RowKit
set_option linter.unusedSimpArgs false
set_option linter.unusedVariables false
attribute [local irreducible] mixW

/-- A code and a state of the call's own. -/
def RetSta (r : Int × Sta) (w : World) (e : Ending) (w' : World) : Prop := ∃ A n c B m d, e = .returned (.agg #[.int .i64 r.1, .slice A n c, .slice B m d, .int .i64 r.2.2.2]) ∧ Ow eS w' w.heap.size A n c r.2.1 ∧ Ow eH w' w.heap.size B m d r.2.2.1 ∧ Below w.heap.size w w'
theorem retSta_zero {w w' : World} {z : Int} (hb : Below w.heap.size w w') : RetSta (z, zeroSta) w (.returned (.agg #[.int .i64 z, .slice none 0 0, .slice none 0 0, .int .i64 0])) w' := ⟨none, 0, 0, none, 0, 0, rfl, Ow.nil, Ow.nil, hb⟩
set_option maxHeartbeats 8000000 in
theorem specApplyRecord (A B : Option Addr) (n c m d : Nat) (l : List Smp) (h : List Hnt) (x a0 a1 a2 a3 a4 a5 a6 : Int) (w : World) (ha : Rd eS w w.heap.size A l) (hb : Rd eH w w.heap.size B h) (hn : l.length = n) (hm : h.length = m) (hn1 : n ≤ 1048576) (hm1 : m ≤ 1048576) :
    Calls Tryz.prog 17 #[.agg #[.slice A n c, .slice B m d, .int .i64 x], .agg #[.int .i64 a0, .int .i64 a1, .int .i64 a2, .int .i64 a3, .int .i64 a4, .int .i64 a5, .int .i64 a6]] w (RetSta (applyM (l, h, x) (a0, a1, (a2, a3, a4, a5), a6)) w) := by
  have hB0 : Below w.heap.size w (((w.alloc (.cells #[.slice A n c, .slice B m d, .int .i64 x] 39)).alloc (.cells #[.int .i64 a0, .int .i64 a1, .int .i64 a2, .int .i64 a3, .int .i64 a4, .int .i64 a5, .int .i64 a6] 27)).alloc (.cells #[.int .i64 0, .slice none 0 0, .slice none 0 0, .int .i64 0] 43)) := (((Below.refl _ _).alloc (Nat.le_refl _) _).alloc (by simp) _).alloc (by simp; omega) _
  have sx := ((At.new w 39 #[.slice A n c, .slice B m d, .int .i64 x]).alloc (.cells #[.int .i64 a0, .int .i64 a1, .int .i64 a2, .int .i64 a3, .int .i64 a4, .int .i64 a5, .int .i64 a6] 27)).alloc (.cells #[.int .i64 0, .slice none 0 0, .slice none 0 0, .int .i64 0] 43)
  have rx : At (((w.alloc (.cells #[.slice A n c, .slice B m d, .int .i64 x] 39)).alloc (.cells #[.int .i64 a0, .int .i64 a1, .int .i64 a2, .int .i64 a3, .int .i64 a4, .int .i64 a5, .int .i64 a6] 27)).alloc (.cells #[.int .i64 0, .slice none 0 0, .slice none 0 0, .int .i64 0] 43)) (w.heap.size + 1) 27 #[.int .i64 a0, .int .i64 a1, .int .i64 a2, .int .i64 a3, .int .i64 a4, .int .i64 a5, .int .i64 a6] := by
    have := (At.new (w.alloc (.cells #[.slice A n c, .slice B m d, .int .i64 x] 39)) 27 #[.int .i64 a0, .int .i64 a1, .int .i64 a2, .int .i64 a3, .int .i64 a4, .int .i64 a5, .int .i64 a6]).alloc (.cells #[.int .i64 0, .slice none 0 0, .slice none 0 0, .int .i64 0] 43)
    simpa using this
  have zx : At (((w.alloc (.cells #[.slice A n c, .slice B m d, .int .i64 x] 39)).alloc (.cells #[.int .i64 a0, .int .i64 a1, .int .i64 a2, .int .i64 a3, .int .i64 a4, .int .i64 a5, .int .i64 a6] 27)).alloc (.cells #[.int .i64 0, .slice none 0 0, .slice none 0 0, .int .i64 0] 43)) (w.heap.size + 2) 43 #[.int .i64 0, .slice none 0 0, .slice none 0 0, .int .i64 0] := by
    have := At.new ((w.alloc (.cells #[.slice A n c, .slice B m d, .int .i64 x] 39)).alloc (.cells #[.int .i64 a0, .int .i64 a1, .int .i64 a2, .int .i64 a3, .int .i64 a4, .int .i64 a5, .int .i64 a6] 27)) 43 #[.int .i64 0, .slice none 0 0, .slice none 0 0, .int .i64 0]
    simpa using this
  have ha0 := ha.lift hB0
  have hb0 := hb.lift hB0
  have SF := specStateFault A B n c m d l h x _ ha0 hb0 hn hm
  have Hn := Lib.hid hn
  have Hm := Lib.hid hm
  clear hn hm ha hb
  obtain ⟨sc0, sc1, sc2, _, _, _⟩ := sx.three
  obtain ⟨zc0, zc1, zc2, zc3, zf0, zf1, zf2, zf3⟩ := zx.four
  by_cases hs : stateFaultM (l, h, x) = 0
  rotate_left
  · have Hr := Lib.hid (show applyM (l, h, x) (a0, a1, (a2, a3, a4, a5), a6) = (stateFaultM (l, h, x), zeroSta) from if_pos hs)
    have hne : (stateFaultM (l, h, x) != 0) = true := by rw [bne_iff_ne]; exact hs
    rw [Hr.out]
    clear Hr hs
    generalize stateFaultM (l, h, x) = sf at *
    go_enter Tryz.func17, Tryz.ntmps17
    go_wp2_with fail
    refine SF.mono ?_
    rintro e w1 ⟨rfl, hb1⟩
    have hB1 := hB0.trans (hb1.mono hB0.size)
    have zx1 := zx.below hb1 zx.lt
    clear zc0 zc1 zc2 zc3 zf0 zf1 zf2 zf3
    obtain ⟨zc0, zc1, zc2, zc3, zf0, zf1, zf2, zf3⟩ := zx1.four
    go_wp2_with fail
    refine bodyPost_ret (v := .agg #[.int .i64 sf, .slice none 0 0, .slice none 0 0, .int .i64 0]) (by simp [results, Tryz.results17, go_sem, zc0, zc1, zc2, zc3]) rfl ?_
    exact retSta_zero ((((hB1.setCell (by simp; omega) _).setCell (by simp; omega) _).setCell (by simp; omega) _).setCell (by simp; omega) _)
  rw [hs] at SF
  have hse : ((0 : Int) != 0) = false := by decide
  have RF := specRecordFault a0 a1 a2 a3 a4 a5 a6
  by_cases hr : recFaultM (a0, a1, (a2, a3, a4, a5), a6) = 0
  rotate_left
  · have Hr := Lib.hid (show applyM (l, h, x) (a0, a1, (a2, a3, a4, a5), a6) = (recFaultM (a0, a1, (a2, a3, a4, a5), a6), zeroSta) by unfold applyM; rw [if_neg (by simp [hs]), if_pos hr])
    have hne : (recFaultM (a0, a1, (a2, a3, a4, a5), a6) != 0) = true := by rw [bne_iff_ne]; exact hr
    rw [Hr.out]
    clear Hr hs hr
    generalize recFaultM (a0, a1, (a2, a3, a4, a5), a6) = sf at *
    go_enter Tryz.func17, Tryz.ntmps17
    go_wp2_with fail
    refine SF.mono ?_
    rintro e w1 ⟨rfl, hb1⟩
    have hB1 := hB0.trans (hb1.mono hB0.size)
    have zx1 := zx.below hb1 zx.lt
    have rx1 := rx.below hb1 rx.lt
    clear zc0 zc1 zc2 zc3 zf0 zf1 zf2 zf3
    obtain ⟨rc0, rc1, rc2, rc3, rc4, rc5, rc6⟩ := rx1.seven
    go_wp2_with fail
    refine (RF _).mono ?_
    rintro e w2 ⟨rfl, hb2⟩
    have hB2 := hB1.trans (hb2.mono hB1.size)
    have zx2 := zx1.below hb2 zx1.lt
    obtain ⟨zc0, zc1, zc2, zc3, zf0, zf1, zf2, zf3⟩ := zx2.four
    go_wp2_with fail
    refine bodyPost_ret (v := .agg #[.int .i64 sf, .slice none 0 0, .slice none 0 0, .int .i64 0]) (by simp [results, Tryz.results17, go_sem, zc0, zc1, zc2, zc3]) rfl ?_
    exact retSta_zero ((((hB2.setCell (by simp; omega) _).setCell (by simp; omega) _).setCell (by simp; omega) _).setCell (by simp; omega) _)
  rw [hr] at RF
  have Hr := Lib.hid (apply_right hs hr)
  rcases hq : stepR (l, h, x) (a0, a1, (a2, a3, a4, a5), a6) with ⟨tc, tl, th, tx⟩
  rw [hq] at Hr
  have LA := fun g gr base A B n c m d W hx hr oa ob hbase hn1 => l5Apply g gr base A B n c m d l h x a0 a1 a2 a3 a4 a5 a6 W hx hr oa ob hbase hn1
  rw [hq] at LA
  clear hq hs hr
  go_enter Tryz.func17, Tryz.ntmps17
  go_wp2_with fail
  refine SF.mono ?_
  rintro e w1 ⟨rfl, hb1⟩
  have hB1 := hB0.trans (hb1.mono hB0.size)
  have zx1 := zx.below hb1 zx.lt
  have rx1 := rx.below hb1 rx.lt
  have sx1 := sx.below hb1 sx.lt
  have ha1 := ha0.lift hb1
  have hbb1 := hb0.lift hb1
  clear zc0 zc1 zc2 zc3 zf0 zf1 zf2 zf3 sc0 sc1 sc2
  obtain ⟨rc0, rc1, rc2, rc3, rc4, rc5, rc6⟩ := rx1.seven
  go_wp2_with fail
  refine (RF _).mono ?_
  rintro e w2 ⟨rfl, hb2⟩
  have hB2 := hB1.trans (hb2.mono hB1.size)
  have zx2 := zx1.below hb2 zx1.lt
  have rx2 := rx1.below hb2 rx1.lt
  have sx2 := sx1.below hb2 sx1.lt
  go_wp2_with fail
  refine (l5Copy w.heap.size A B n c m d l h x _ sx2 (ha1.lift hb2) (hbb1.lift hb2) Hn.out Hm.out hn1 hm1).mono ?_
  rintro e w3 ⟨A1, c1, B1, d1, rfl, oa3, ob3, hb3⟩
  have hB3 := hB2.trans (hb3.mono hB2.size)
  have zx3 := zx2.below hb3 zx2.lt
  have rx3 := rx2.below hb3 rx2.lt
  have lz3 := zx3.lt
  have zx4 := zx3.alloc (.cells #[.slice A1 n c1, .slice B1 m d1, .int .i64 x] 39)
  have rx4 := rx3.alloc (.cells #[.slice A1 n c1, .slice B1 m d1, .int .i64 x] 39)
  have cx4 := At.new w3 39 #[.slice A1 n c1, .slice B1 m d1, .int .i64 x]
  have oa4 := oa3.alloc (.cells #[.slice A1 n c1, .slice B1 m d1, .int .i64 x] 39)
  have ob4 := ob3.alloc (.cells #[.slice A1 n c1, .slice B1 m d1, .int .i64 x] 39)
  have hB4 := hB3.alloc hB3.size (.cells #[.slice A1 n c1, .slice B1 m d1, .int .i64 x] 39)
  go_wp2_with fail
  refine (LA w3.heap.size (w.heap.size + 1) w2.heap.size A1 B1 n c1 m d1 _ cx4 rx4 oa4 ob4 (Nat.le_trans hb3.size (by simp)) hn1).mono ?_
  rintro e w5 ⟨rfl, ⟨A5, n5, c5, B5, m5, d5, cx5, oa5, ob5⟩, hg5⟩
  have zx5 := zx4.grown hg5 (by simp; omega)
  have hB5 : Below w.heap.size w w5 := hB4.grown hg5 hB4.size (fun k hk => by obtain rfl : w3.heap.size = k := (by simpa using hk); exact hB3.size)
  have lz2 := zx2.lt
  obtain ⟨zc0, zc1, zc2, zc3, zf0, zf1, zf2, zf3⟩ := zx5.four
  obtain ⟨cc0, cc1, cc2, _, _, _⟩ := cx5.three
  by_cases h0 : tc = 0
  · subst h0
    go_wp2_with fail
    refine bodyPost_ret (v := .agg #[.int .i64 0, .slice A5 n5 c5, .slice B5 m5 d5, .int .i64 tx]) (by simp [results, Tryz.results17, go_sem, zc0, zc1, zc2, zc3]) rfl ?_
    rw [Hr.out]
    first | rw [if_pos rfl] | rw [if_pos trivial]
    exact ⟨A5, n5, c5, B5, m5, d5, rfl, ((((oa5.under (p := ⟨w.heap.size + 2, 0, none⟩) lz2 _).under (p := ⟨w.heap.size + 2, 1, none⟩) lz2 _).under (p := ⟨w.heap.size + 2, 2, none⟩) lz2 _).under (p := ⟨w.heap.size + 2, 3, none⟩) lz2 _).from_ hB2.size, ((((ob5.under (p := ⟨w.heap.size + 2, 0, none⟩) lz2 _).under (p := ⟨w.heap.size + 2, 1, none⟩) lz2 _).under (p := ⟨w.heap.size + 2, 2, none⟩) lz2 _).under (p := ⟨w.heap.size + 2, 3, none⟩) lz2 _).from_ hB2.size, (((hB5.setCell (by simp; omega) _).setCell (by simp; omega) _).setCell (by simp; omega) _).setCell (by simp; omega) _⟩
  · have hne : (tc != 0) = true := by rw [bne_iff_ne]; exact h0
    have H0 := Lib.hid h0
    clear h0
    go_wp2_with fail
    refine bodyPost_ret (v := .agg #[.int .i64 tc, .slice none 0 0, .slice none 0 0, .int .i64 0]) (by simp [results, Tryz.results17, go_sem, zc0, zc1, zc2, zc3]) rfl ?_
    rw [Hr.out, if_neg H0.out]
    exact retSta_zero ((((hB5.setCell (by simp; omega) _).setCell (by simp; omega) _).setCell (by simp; omega) _).setCell (by simp; omega) _)
end Go.Proofs.YteiclanlhnccnaaGreatDoor
/-
  The shelf's contracts of slices.Grow and slices.SortFunc, laid at this seat, in plain words (made by the kit's own tool).
-/
namespace Go.Proofs.YteiclanlhnccnaaGreatDoor
set_option maxRecDepth 20000
open Go.Shelf
def growS_ren : Go.Shelf.Ren := ⟨fun | 4 => 152 | n => n, fun | 22 => 36 | 25 => 25 | 3 => 3 | 4 => 4 | 9 => 9 | 20 => 20 | 0 => 0 | n => n, fun | n => n⟩
theorem growS : Go.Proofs.Lays8.n4 Tryz.prog growS_ren := {
  mixed := by kernel_rfl
  f4 := ⟨Tryz.f152.name, by decide, Tryz.func152.trans (congrArg some (by kernel_rfl))⟩
  t0 := Tryz.underlying0
  a0 := Tryz.isAgg0
  z0 := Tryz.sizeOf0
  v0 := Tryz.zeroValue0
  t3 := Tryz.underlying3
  a3 := Tryz.isAgg3
  z3 := Tryz.sizeOf3
  v3 := Tryz.zeroValue3
  t4 := Tryz.underlying4
  a4 := Tryz.isAgg4
  z4 := Tryz.sizeOf4
  v4 := Tryz.zeroValue4
  t9 := Tryz.underlying9
  a9 := Tryz.isAgg9
  z9 := Tryz.sizeOf9
  v9 := Tryz.zeroValue9
  t20 := Tryz.underlying20
  a20 := Tryz.isAgg20
  z20 := Tryz.sizeOf20
  v20 := Tryz.zeroValue20
  t22 := Tryz.underlying36
  a22 := Tryz.isAgg36
  z22 := Tryz.sizeOf36
  v22 := Tryz.zeroValue36 }
def sortS_ren : Go.Shelf.Ren := ⟨fun | 6 => 173 | 15 => 182 | 14 => 181 | 28 => 193 | 29 => 194 | 20 => 185 | 21 => 186 | 22 => 187 | 23 => 188 | 24 => 189 | 25 => 190 | 26 => 191 | 27 => 192 | 46 => 203 | 47 => 204 | 48 => 205 | 49 => 206 | 50 => 207 | 57 => 211 | n => n, fun | 22 => 36 | 24 => 25 | 25 => 241 | 3 => 3 | 39 => 193 | 0 => 0 | 53 => 277 | 55 => 279 | 4 => 4 | 46 => 270 | 45 => 269 | 50 => 274 | 5 => 5 | 9 => 9 | 66 => 285 | 70 => 289 | 76 => 293 | 77 => 294 | n => n, fun | n => n⟩
theorem sortS : Go.Proofs.SlLaysF0.n6 Tryz.prog sortS_ren := {
  mixed := by kernel_rfl
  f6 := ⟨Tryz.f173.name, by decide, Tryz.func173.trans (congrArg some (by kernel_rfl))⟩
  f14 := ⟨Tryz.f181.name, by decide, Tryz.func181.trans (congrArg some (by kernel_rfl))⟩
  f15 := Tryz.func182.trans (congrArg some (by kernel_rfl))
  f20 := ⟨Tryz.f185.name, by decide, Tryz.func185.trans (congrArg some (by kernel_rfl))⟩
  f21 := ⟨Tryz.f186.name, by decide, Tryz.func186.trans (congrArg some (by kernel_rfl))⟩
  f22 := ⟨Tryz.f187.name, by decide, Tryz.func187.trans (congrArg some (by kernel_rfl))⟩
  f23 := ⟨Tryz.f188.name, by decide, Tryz.func188.trans (congrArg some (by kernel_rfl))⟩
  f24 := ⟨Tryz.f189.name, by decide, Tryz.func189.trans (congrArg some (by kernel_rfl))⟩
  f25 := ⟨Tryz.f190.name, by decide, Tryz.func190.trans (congrArg some (by kernel_rfl))⟩
  f26 := ⟨Tryz.f191.name, by decide, Tryz.func191.trans (congrArg some (by kernel_rfl))⟩
  f27 := ⟨Tryz.f192.name, by decide, Tryz.func192.trans (congrArg some (by kernel_rfl))⟩
  f28 := Tryz.func193.trans (congrArg some (by kernel_rfl))
  f29 := Tryz.func194.trans (congrArg some (by kernel_rfl))
  f46 := ⟨Tryz.f203.name, by decide, Tryz.func203.trans (congrArg some (by kernel_rfl))⟩
  f47 := Tryz.func204.trans (congrArg some (by kernel_rfl))
  f48 := Tryz.func205.trans (congrArg some (by kernel_rfl))
  f49 := ⟨Tryz.f206.name, by decide, Tryz.func206.trans (congrArg some (by kernel_rfl))⟩
  f50 := ⟨Tryz.f207.name, by decide, Tryz.func207.trans (congrArg some (by kernel_rfl))⟩
  f57 := ⟨Tryz.f211.name, by decide, Tryz.func211.trans (congrArg some (by kernel_rfl))⟩
  t0 := Tryz.underlying0
  a0 := Tryz.isAgg0
  z0 := Tryz.sizeOf0
  v0 := Tryz.zeroValue0
  t3 := Tryz.underlying3
  a3 := Tryz.isAgg3
  z3 := Tryz.sizeOf3
  v3 := Tryz.zeroValue3
  t4 := Tryz.underlying4
  a4 := Tryz.isAgg4
  z4 := Tryz.sizeOf4
  v4 := Tryz.zeroValue4
  t5 := Tryz.underlying5
  a5 := Tryz.isAgg5
  z5 := Tryz.sizeOf5
  v5 := Tryz.zeroValue5
  t9 := Tryz.underlying9
  a9 := Tryz.isAgg9
  z9 := Tryz.sizeOf9
  v9 := Tryz.zeroValue9
  t22 := Tryz.underlying36
  a22 := Tryz.isAgg36
  z22 := Tryz.sizeOf36
  v22 := Tryz.zeroValue36
  t25 := Tryz.underlying241
  a25 := Tryz.isAgg241
  z25 := Tryz.sizeOf241
  v25 := Tryz.zeroValue241
  t39 := Tryz.underlying193
  a39 := Tryz.isAgg193
  z39 := Tryz.sizeOf193
  v39 := Tryz.zeroValue193
  t45 := Tryz.underlying269
  a45 := Tryz.isAgg269
  z45 := Tryz.sizeOf269
  v45 := Tryz.zeroValue269
  t46 := Tryz.underlying270
  a46 := Tryz.isAgg270
  z46 := Tryz.sizeOf270
  v46 := Tryz.zeroValue270
  t50 := Tryz.underlying274
  a50 := Tryz.isAgg274
  z50 := Tryz.sizeOf274
  v50 := Tryz.zeroValue274
  t53 := Tryz.underlying277
  a53 := Tryz.isAgg277
  z53 := Tryz.sizeOf277
  v53 := Tryz.zeroValue277
  t55 := Tryz.underlying279
  a55 := Tryz.isAgg279
  z55 := Tryz.sizeOf279
  v55 := Tryz.zeroValue279
  t66 := Tryz.underlying285
  a66 := Tryz.isAgg285
  z66 := Tryz.sizeOf285
  v66 := Tryz.zeroValue285
  t70 := Tryz.underlying289
  a70 := Tryz.isAgg289
  z70 := Tryz.sizeOf289
  v70 := Tryz.zeroValue289
  t76 := Tryz.underlying293
  a76 := Tryz.isAgg293
  z76 := Tryz.sizeOf293
  v76 := Tryz.zeroValue293
  t77 := Tryz.underlying294
  a77 := Tryz.isAgg294
  z77 := Tryz.sizeOf294
  v77 := Tryz.zeroValue294 }
def growH_ren : Go.Shelf.Ren := ⟨fun | 4 => 153 | n => n, fun | 22 => 37 | 25 => 89 | 3 => 3 | 4 => 4 | 9 => 9 | 20 => 20 | 0 => 0 | n => n, fun | n => n⟩
theorem growH : Go.Proofs.Lays8.n4 Tryz.prog growH_ren := {
  mixed := by kernel_rfl
  f4 := ⟨Tryz.f153.name, by decide, Tryz.func153.trans (congrArg some (by kernel_rfl))⟩
  t0 := Tryz.underlying0
  a0 := Tryz.isAgg0
  z0 := Tryz.sizeOf0
  v0 := Tryz.zeroValue0
  t3 := Tryz.underlying3
  a3 := Tryz.isAgg3
  z3 := Tryz.sizeOf3
  v3 := Tryz.zeroValue3
  t4 := Tryz.underlying4
  a4 := Tryz.isAgg4
  z4 := Tryz.sizeOf4
  v4 := Tryz.zeroValue4
  t9 := Tryz.underlying9
  a9 := Tryz.isAgg9
  z9 := Tryz.sizeOf9
  v9 := Tryz.zeroValue9
  t20 := Tryz.underlying20
  a20 := Tryz.isAgg20
  z20 := Tryz.sizeOf20
  v20 := Tryz.zeroValue20
  t22 := Tryz.underlying37
  a22 := Tryz.isAgg37
  z22 := Tryz.sizeOf37
  v22 := Tryz.zeroValue37 }
def sortQ_ren : Go.Shelf.Ren := ⟨fun | 6 => 177 | 15 => 182 | 14 => 184 | 28 => 193 | 29 => 194 | 20 => 195 | 21 => 196 | 22 => 197 | 23 => 198 | 24 => 199 | 25 => 200 | 26 => 201 | 27 => 202 | 46 => 208 | 47 => 204 | 48 => 205 | 49 => 209 | 50 => 210 | 57 => 212 | n => n, fun | 22 => 245 | 24 => 243 | 25 => 251 | 3 => 3 | 39 => 193 | 0 => 0 | 53 => 277 | 55 => 279 | 4 => 4 | 46 => 270 | 45 => 269 | 50 => 274 | 5 => 5 | 9 => 9 | 66 => 285 | 70 => 289 | 76 => 293 | 77 => 294 | n => n, fun | n => n⟩
theorem sortQ : Go.Proofs.SlLaysF0.n6 Tryz.prog sortQ_ren := {
  mixed := by kernel_rfl
  f6 := ⟨Tryz.f177.name, by decide, Tryz.func177.trans (congrArg some (by kernel_rfl))⟩
  f14 := ⟨Tryz.f184.name, by decide, Tryz.func184.trans (congrArg some (by kernel_rfl))⟩
  f15 := Tryz.func182.trans (congrArg some (by kernel_rfl))
  f20 := ⟨Tryz.f195.name, by decide, Tryz.func195.trans (congrArg some (by kernel_rfl))⟩
  f21 := ⟨Tryz.f196.name, by decide, Tryz.func196.trans (congrArg some (by kernel_rfl))⟩
  f22 := ⟨Tryz.f197.name, by decide, Tryz.func197.trans (congrArg some (by kernel_rfl))⟩
  f23 := ⟨Tryz.f198.name, by decide, Tryz.func198.trans (congrArg some (by kernel_rfl))⟩
  f24 := ⟨Tryz.f199.name, by decide, Tryz.func199.trans (congrArg some (by kernel_rfl))⟩
  f25 := ⟨Tryz.f200.name, by decide, Tryz.func200.trans (congrArg some (by kernel_rfl))⟩
  f26 := ⟨Tryz.f201.name, by decide, Tryz.func201.trans (congrArg some (by kernel_rfl))⟩
  f27 := ⟨Tryz.f202.name, by decide, Tryz.func202.trans (congrArg some (by kernel_rfl))⟩
  f28 := Tryz.func193.trans (congrArg some (by kernel_rfl))
  f29 := Tryz.func194.trans (congrArg some (by kernel_rfl))
  f46 := ⟨Tryz.f208.name, by decide, Tryz.func208.trans (congrArg some (by kernel_rfl))⟩
  f47 := Tryz.func204.trans (congrArg some (by kernel_rfl))
  f48 := Tryz.func205.trans (congrArg some (by kernel_rfl))
  f49 := ⟨Tryz.f209.name, by decide, Tryz.func209.trans (congrArg some (by kernel_rfl))⟩
  f50 := ⟨Tryz.f210.name, by decide, Tryz.func210.trans (congrArg some (by kernel_rfl))⟩
  f57 := ⟨Tryz.f212.name, by decide, Tryz.func212.trans (congrArg some (by kernel_rfl))⟩
  t0 := Tryz.underlying0
  a0 := Tryz.isAgg0
  z0 := Tryz.sizeOf0
  v0 := Tryz.zeroValue0
  t3 := Tryz.underlying3
  a3 := Tryz.isAgg3
  z3 := Tryz.sizeOf3
  v3 := Tryz.zeroValue3
  t4 := Tryz.underlying4
  a4 := Tryz.isAgg4
  z4 := Tryz.sizeOf4
  v4 := Tryz.zeroValue4
  t5 := Tryz.underlying5
  a5 := Tryz.isAgg5
  z5 := Tryz.sizeOf5
  v5 := Tryz.zeroValue5
  t9 := Tryz.underlying9
  a9 := Tryz.isAgg9
  z9 := Tryz.sizeOf9
  v9 := Tryz.zeroValue9
  t22 := Tryz.underlying245
  a22 := Tryz.isAgg245
  z22 := Tryz.sizeOf245
  v22 := Tryz.zeroValue245
  t25 := Tryz.underlying251
  a25 := Tryz.isAgg251
  z25 := Tryz.sizeOf251
  v25 := Tryz.zeroValue251
  t39 := Tryz.underlying193
  a39 := Tryz.isAgg193
  z39 := Tryz.sizeOf193
  v39 := Tryz.zeroValue193
  t45 := Tryz.underlying269
  a45 := Tryz.isAgg269
  z45 := Tryz.sizeOf269
  v45 := Tryz.zeroValue269
  t46 := Tryz.underlying270
  a46 := Tryz.isAgg270
  z46 := Tryz.sizeOf270
  v46 := Tryz.zeroValue270
  t50 := Tryz.underlying274
  a50 := Tryz.isAgg274
  z50 := Tryz.sizeOf274
  v50 := Tryz.zeroValue274
  t53 := Tryz.underlying277
  a53 := Tryz.isAgg277
  z53 := Tryz.sizeOf277
  v53 := Tryz.zeroValue277
  t55 := Tryz.underlying279
  a55 := Tryz.isAgg279
  z55 := Tryz.sizeOf279
  v55 := Tryz.zeroValue279
  t66 := Tryz.underlying285
  a66 := Tryz.isAgg285
  z66 := Tryz.sizeOf285
  v66 := Tryz.zeroValue285
  t70 := Tryz.underlying289
  a70 := Tryz.isAgg289
  z70 := Tryz.sizeOf289
  v70 := Tryz.zeroValue289
  t76 := Tryz.underlying293
  a76 := Tryz.isAgg293
  z76 := Tryz.sizeOf293
  v76 := Tryz.zeroValue293
  t77 := Tryz.underlying294
  a77 := Tryz.isAgg294
  z77 := Tryz.sizeOf294
  v77 := Tryz.zeroValue294 }
end Go.Proofs.YteiclanlhnccnaaGreatDoor
/-
  slices.Grow of nothing, and slices.Concat of rows of samples.
-/
namespace Go.Proofs.YteiclanlhnccnaaGreatDoor
set_option maxRecDepth 20000
open Go.RowKit Go.Shelf
set_option linter.unusedSimpArgs false
set_option linter.unusedVariables false

theorem growNone (n : Nat) (hn : n ≤ 100000) (w : World) :
    Calls Tryz.prog 152 #[.slice none 0 0, .int .i64 (n : Int)] w fun e w' => ∃ A c, e = .returned (.slice A 0 c) ∧ Ow eS w' w.heap.size A 0 c [] ∧ Below w.heap.size w w' := by
  rcases Nat.eq_zero_or_pos n with h0 | h0
  · subst h0
    have h : Calls Tryz.prog 152 #[.slice none 0 0, .int .i64 ((0 : Nat) : Int)] w fun e w' => e = .returned (.slice none 0 0) ∧ w' = w :=
      Any8.slices_Grow_room growS none 0 0 0 w (by omega) (by omega) (by omega) (by omega)
    refine h.mono ?_
    rintro e w' ⟨rfl, rfl⟩
    exact ⟨none, 0, rfl, Ow.nil, Below.refl _ _⟩
  · obtain ⟨i, hi, hz, hsz, hby⟩ := info_parts info_smp
    have h : Calls Tryz.prog 152 #[.slice none 0 0, .int .i64 (n : Int)] w fun e w' => e = .returned (.slice (some ⟨w.heap.size, 0, none⟩) 0 (grownCap w (0 + n) 0 25)) ∧
        w' = w.drew.alloc (.cells (([] : List Value).toArray ++ Builtin.zeroCells (Value.agg #[.int .i64 0, .int .i64 0, .int .i64 0, .int .i64 0]).cells (0 + n - 0) ++ Builtin.zeroCells (Value.agg #[.int .i64 0, .int .i64 0, .int .i64 0, .int .i64 0]).cells (grownCap w (0 + n) 0 25 - (0 + n))) 25) :=
      Any8.slices_Grow_grow growS i _ hi hz (by omega) none 0 0 n [] w (by omega) (by omega) (by rw [hby]; omega) (by omega) (by simp) (fun _ => rfl) (fun a ha => by cases ha)
    refine h.mono ?_
    rintro e w' ⟨rfl, rfl⟩
    have hge := grownCap_ge w (0 + n) 0 25
    have hle := grownCap_le_maxLen w (0 + n) 0 25 (by unfold maxLen; omega)
    generalize grownCap w (0 + n) 0 25 = G at hge hle ⊢
    refine ⟨_, G, rfl, ?_, (Below.refl w.heap.size w).drew.alloc (Nat.le_refl _) _⟩
    have hm := World.ownsRow_made (base := w.heap.size) (e := 25) (size := 4) w.drew (([] : List Value).toArray ++ Builtin.zeroCells (Value.agg #[.int .i64 0, .int .i64 0, .int .i64 0, .int .i64 0]).cells (0 + n - 0) ++ Builtin.zeroCells (Value.agg #[.int .i64 0, .int .i64 0, .int .i64 0, .int .i64 0]).cells (G - (0 + n))) G (Nat.le_refl _) hle (by
      rw [Array.size_append, Array.size_append, size_zeroCells, size_zeroCells]
      simp [Value.cells]
      omega)
    exact hm

abbrev Row4 := Option Addr × Nat × Nat × List Smp
def flat (rows : List Row4) : List Smp := rows.flatMap (·.2.2.2)
theorem flat_next {rows : List Row4} {j : Nat} {r : Row4} (h : rows[j]? = some r) : flat (rows.take (j + 1)) = flat (rows.take j) ++ r.2.2.2 := by
  unfold flat
  rw [List.take_add_one, h, List.flatMap_append]
  simp
theorem flat_len : ∀ {rows : List Row4}, (∀ r, r ∈ rows → r.2.2.2.length ≤ 1000) → (flat rows).length ≤ rows.length * 1000
  | [], _ => by simp [flat]
  | r :: rows, h => by
    have h1 := flat_len (rows := rows) (fun x hx => h x (by simp [hx]))
    have h2 := h r (by simp)
    unfold flat at h1 ⊢
    rw [List.flatMap_cons, List.length_append, List.length_cons]
    omega

/-- Block G holds these slices, each of which reads its list. -/
def Rows4 (w : World) (G : Nat) (rows : List Row4) : Prop :=
  ∀ (i : Nat) (r : Row4), rows[i]? = some r → w.cell? ⟨G, i, none⟩ = some (.slice r.1 r.2.1 r.2.2.1) ∧ Rd eS w w.heap.size r.1 r.2.2.2 ∧ r.2.2.2.length = r.2.1 ∧ r.2.1 ≤ 1000
theorem Rows4.below {w w' : World} {G : Nat} {rows : List Row4} (h : Rows4 w G rows) (hb : Below w.heap.size w w') (hG : G < w.heap.size) : Rows4 w' G rows := fun i r hr => by
  obtain ⟨h1, h2, h3, h4⟩ := h i r hr
  exact ⟨(hb.cell (p := ⟨G, i, none⟩) hG).trans h1, h2.lift hb, h3, h4⟩

set_option maxHeartbeats 2000000 in
theorem concatS (G k c : Nat) (rows : List Row4) (w : World) (hR : Rows4 w G rows) (hG : G < w.heap.size) (hk : rows.length = k) (hk4 : k ≤ 4) :
    Calls Tryz.prog 111 #[.slice (some ⟨G, 0, none⟩) k c] w fun e w' => ∃ A n c', e = .returned (.slice A n c') ∧ Ow eS w' w.heap.size A n c' (flat rows) ∧ Below w.heap.size w w' := by
  have hlen : ∀ j, j ≤ k → (flat (rows.take j)).length ≤ 4000 := fun j hj => by
    have h1 := flat_len (rows := rows.take j) (fun r hr => by
      obtain ⟨i, hi⟩ := List.mem_iff_getElem?.1 (List.mem_of_mem_take hr)
      obtain ⟨_, _, h3, h4⟩ := hR i r hi
      omega)
    rw [List.length_take] at h1
    have : min j rows.length * 1000 ≤ 4000 := by
      have : min j rows.length ≤ 4 := by omega
      omega
    omega
  have Hlen := Lib.hid hlen
  have Hk := Lib.hid hk
  clear hk hlen
  go_enter Tryz.func111, Tryz.ntmps111
  go_wp2
  go_loopw [3, 11] (fun sz i wr => ∃ j : Nat, j ≤ k ∧ i = .int .i64 j ∧ sz = .int .i64 ((flat (rows.take j)).length : Int) ∧ w = wr) (fun _ i _ => k - (intOf i).toNat)
  case atStart => exact ⟨0, Nat.zero_le _, rfl, rfl, rfl⟩
  case round =>
    obtain ⟨j, hj, rfl, rfl, rfl⟩ := hrel
    by_cases hlt : j < k
    · obtain ⟨r, hr⟩ : ∃ r, rows[j]? = some r := ⟨rows[j]'(by rw [Hk.out]; exact hlt), List.getElem?_eq_getElem _⟩
      obtain ⟨hc, -, h3, -⟩ := hR j r hr
      have h5 := Hlen.out (j + 1) hlt
      have h6 : (flat (rows.take (j + 1))).length = (flat (rows.take j)).length + r.2.1 := by rw [flat_next hr, List.length_append, h3]
      have H6 := Lib.hid h6
      have hw : wrap64 (((flat (rows.take j)).length : Int) + (r.2.1 : Int)) = ((flat (rows.take j)).length : Int) + (r.2.1 : Int) := by unfold wrap64; omega
      have hneg : ¬ ((flat (rows.take j)).length : Int) + (r.2.1 : Int) < 0 := by omega
      clear h3 hr h6
      have Hw := Lib.hid hw
      go_wp2
      exact ⟨⟨j + 1, by omega, by go_num, by rw [Hw.out, H6.out]; simp, trivial⟩, by simp [intOf]; omega⟩
    · obtain rfl : j = k := by omega
      have hz := Hlen.out j (Nat.le_refl _)
      have hq := growNone (flat (rows.take j)).length (by omega) w
      go_wp2_with fail
      refine hq.mono ?_
      rintro e w1 ⟨A0, c0, rfl, ow0, hb0⟩
      go_wp2
      go_loopw [6, 27] (fun o i wr => ∃ (t : Nat) (A : Option Addr) (n c' : Nat), t ≤ j ∧ i = .int .i64 t ∧ o = .slice A n c' ∧ Ow eS wr w.heap.size A n c' (flat (rows.take t)) ∧ Below w.heap.size w wr) (fun _ i _ => j - (intOf i).toNat)
      case atStart => exact ⟨0, A0, 0, c0, Nat.zero_le _, rfl, rfl, ow0, hb0⟩
      case round =>
        obtain ⟨t, A, n, c', ht, rfl, rfl, how, hbel⟩ := hrel
        by_cases hlt : t < j
        · obtain ⟨r, hr⟩ : ∃ r, rows[t]? = some r := ⟨rows[t]'(by rw [Hk.out]; exact hlt), List.getElem?_eq_getElem _⟩
          obtain ⟨hc, hX, h3, h4⟩ := (hR.below hbel hG) t r hr
          have hn := Hlen.out t (by omega)
          have hnl := Ow.len okS how
          have Hf := Lib.hid (flat_next hr)
          have H3 := Lib.hid h3
          have hn4 : n ≤ 4000 := by omega
          clear hr h3 hn hnl
          go_wp2_with (at_builtin; refine wpList_append_ow okS _ rfl _ _ 36 rfl w.heap.size info_smp Tryz.underlying36 rfl A n c' (flat (rows.take t)) rfl how r.1 r.2.1 r.2.2.1 wr.heap.size r.2.2.2 rfl hX H3.out (by unfold maxLen; omega) (by omega) hbel.size ?_; intro A1 c1 w2 ow2 hg2 hA2)
          refine ⟨⟨t + 1, A1, n + r.2.1, c1, by omega, by go_num, rfl, by rw [Hf.out]; exact ow2, hbel.grown hg2 hbel.size (fun k e => (how.lt k e).1)⟩, by simp [intOf]; omega⟩
        · obtain rfl : t = j := by omega
          have Hq := Lib.hid (show flat (rows.take t) = flat rows by rw [List.take_of_length_le (by rw [Hk.out]; exact Nat.le_refl _)])
          go_wp2
          go_ret
          exact ⟨A, n, c', rfl, by rw [← Hq.out]; exact how, hbel⟩
end Go.Proofs.YteiclanlhnccnaaGreatDoor
/-
  slices.Grow of nothing, and slices.Concat of rows of hints.
-/
namespace Go.Proofs.YteiclanlhnccnaaGreatDoor
set_option maxRecDepth 20000
open Go.RowKit Go.Shelf
set_option linter.unusedSimpArgs false
set_option linter.unusedVariables false

theorem growNoneH (n : Nat) (hn : n ≤ 100000) (w : World) :
    Calls Tryz.prog 153 #[.slice none 0 0, .int .i64 (n : Int)] w fun e w' => ∃ A c, e = .returned (.slice A 0 c) ∧ Ow eH w' w.heap.size A 0 c [] ∧ Below w.heap.size w w' := by
  rcases Nat.eq_zero_or_pos n with h0 | h0
  · subst h0
    have h : Calls Tryz.prog 153 #[.slice none 0 0, .int .i64 ((0 : Nat) : Int)] w fun e w' => e = .returned (.slice none 0 0) ∧ w' = w :=
      Any8.slices_Grow_room growH none 0 0 0 w (by omega) (by omega) (by omega) (by omega)
    refine h.mono ?_
    rintro e w' ⟨rfl, rfl⟩
    exact ⟨none, 0, rfl, Ow.nil, Below.refl _ _⟩
  · obtain ⟨i, hi, hz, hsz, hby⟩ := info_parts info_hnt
    have h : Calls Tryz.prog 153 #[.slice none 0 0, .int .i64 (n : Int)] w fun e w' => e = .returned (.slice (some ⟨w.heap.size, 0, none⟩) 0 (grownCap w (0 + n) 0 89)) ∧
        w' = w.drew.alloc (.cells (([] : List Value).toArray ++ Builtin.zeroCells (Value.agg #[.int .i64 0, .int .i64 0, .int .i64 0, .int .i64 0, .int .i64 0, .int .i64 0, .int .i64 0]).cells (0 + n - 0) ++ Builtin.zeroCells (Value.agg #[.int .i64 0, .int .i64 0, .int .i64 0, .int .i64 0, .int .i64 0, .int .i64 0, .int .i64 0]).cells (grownCap w (0 + n) 0 89 - (0 + n))) 89) :=
      Any8.slices_Grow_grow growH i _ hi hz (by omega) none 0 0 n [] w (by omega) (by omega) (by rw [hby]; omega) (by omega) (by simp) (fun _ => rfl) (fun a ha => by cases ha)
    refine h.mono ?_
    rintro e w' ⟨rfl, rfl⟩
    have hge := grownCap_ge w (0 + n) 0 89
    have hle := grownCap_le_maxLen w (0 + n) 0 89 (by unfold maxLen; omega)
    generalize grownCap w (0 + n) 0 89 = G at hge hle ⊢
    refine ⟨_, G, rfl, ?_, (Below.refl w.heap.size w).drew.alloc (Nat.le_refl _) _⟩
    have hm := World.ownsRow_made (base := w.heap.size) (e := 89) (size := 7) w.drew (([] : List Value).toArray ++ Builtin.zeroCells (Value.agg #[.int .i64 0, .int .i64 0, .int .i64 0, .int .i64 0, .int .i64 0, .int .i64 0, .int .i64 0]).cells (0 + n - 0) ++ Builtin.zeroCells (Value.agg #[.int .i64 0, .int .i64 0, .int .i64 0, .int .i64 0, .int .i64 0, .int .i64 0, .int .i64 0]).cells (G - (0 + n))) G (Nat.le_refl _) hle (by
      rw [Array.size_append, Array.size_append, size_zeroCells, size_zeroCells]
      simp [Value.cells]
      omega)
    exact hm

abbrev Row4H := Option Addr × Nat × Nat × List Hnt
def flatH (rows : List Row4H) : List Hnt := rows.flatMap (·.2.2.2)
theorem flatH_next {rows : List Row4H} {j : Nat} {r : Row4H} (h : rows[j]? = some r) : flatH (rows.take (j + 1)) = flatH (rows.take j) ++ r.2.2.2 := by
  unfold flatH
  rw [List.take_add_one, h, List.flatMap_append]
  simp
theorem flatH_len : ∀ {rows : List Row4H}, (∀ r, r ∈ rows → r.2.2.2.length ≤ 1000) → (flatH rows).length ≤ rows.length * 1000
  | [], _ => by simp [flatH]
  | r :: rows, h => by
    have h1 := flatH_len (rows := rows) (fun x hx => h x (by simp [hx]))
    have h2 := h r (by simp)
    unfold flatH at h1 ⊢
    rw [List.flatMap_cons, List.length_append, List.length_cons]
    omega

/-- Block G holds these slices, each of which reads its list. -/
def Rows4H (w : World) (G : Nat) (rows : List Row4H) : Prop :=
  ∀ (i : Nat) (r : Row4H), rows[i]? = some r → w.cell? ⟨G, i, none⟩ = some (.slice r.1 r.2.1 r.2.2.1) ∧ Rd eH w w.heap.size r.1 r.2.2.2 ∧ r.2.2.2.length = r.2.1 ∧ r.2.1 ≤ 1000
theorem Rows4H.below {w w' : World} {G : Nat} {rows : List Row4H} (h : Rows4H w G rows) (hb : Below w.heap.size w w') (hG : G < w.heap.size) : Rows4H w' G rows := fun i r hr => by
  obtain ⟨h1, h2, h3, h4⟩ := h i r hr
  exact ⟨(hb.cell (p := ⟨G, i, none⟩) hG).trans h1, h2.lift hb, h3, h4⟩

set_option maxHeartbeats 2000000 in
theorem concatH (G k c : Nat) (rows : List Row4H) (w : World) (hR : Rows4H w G rows) (hG : G < w.heap.size) (hk : rows.length = k) (hk4 : k ≤ 4) :
    Calls Tryz.prog 112 #[.slice (some ⟨G, 0, none⟩) k c] w fun e w' => ∃ A n c', e = .returned (.slice A n c') ∧ Ow eH w' w.heap.size A n c' (flatH rows) ∧ Below w.heap.size w w' := by
  have hlen : ∀ j, j ≤ k → (flatH (rows.take j)).length ≤ 4000 := fun j hj => by
    have h1 := flatH_len (rows := rows.take j) (fun r hr => by
      obtain ⟨i, hi⟩ := List.mem_iff_getElem?.1 (List.mem_of_mem_take hr)
      obtain ⟨_, _, h3, h4⟩ := hR i r hi
      omega)
    rw [List.length_take] at h1
    have : min j rows.length * 1000 ≤ 4000 := by
      have : min j rows.length ≤ 4 := by omega
      omega
    omega
  have Hlen := Lib.hid hlen
  have Hk := Lib.hid hk
  clear hk hlen
  go_enter Tryz.func112, Tryz.ntmps112
  go_wp2
  go_loopw [3, 11] (fun sz i wr => ∃ j : Nat, j ≤ k ∧ i = .int .i64 j ∧ sz = .int .i64 ((flatH (rows.take j)).length : Int) ∧ w = wr) (fun _ i _ => k - (intOf i).toNat)
  case atStart => exact ⟨0, Nat.zero_le _, rfl, rfl, rfl⟩
  case round =>
    obtain ⟨j, hj, rfl, rfl, rfl⟩ := hrel
    by_cases hlt : j < k
    · obtain ⟨r, hr⟩ : ∃ r, rows[j]? = some r := ⟨rows[j]'(by rw [Hk.out]; exact hlt), List.getElem?_eq_getElem _⟩
      obtain ⟨hc, -, h3, -⟩ := hR j r hr
      have h5 := Hlen.out (j + 1) hlt
      have h6 : (flatH (rows.take (j + 1))).length = (flatH (rows.take j)).length + r.2.1 := by rw [flatH_next hr, List.length_append, h3]
      have H6 := Lib.hid h6
      have hw : wrap64 (((flatH (rows.take j)).length : Int) + (r.2.1 : Int)) = ((flatH (rows.take j)).length : Int) + (r.2.1 : Int) := by unfold wrap64; omega
      have hneg : ¬ ((flatH (rows.take j)).length : Int) + (r.2.1 : Int) < 0 := by omega
      clear h3 hr h6
      have Hw := Lib.hid hw
      go_wp2
      exact ⟨⟨j + 1, by omega, by go_num, by rw [Hw.out, H6.out]; simp, trivial⟩, by simp [intOf]; omega⟩
    · obtain rfl : j = k := by omega
      have hz := Hlen.out j (Nat.le_refl _)
      have hq := growNoneH (flatH (rows.take j)).length (by omega) w
      go_wp2_with fail
      refine hq.mono ?_
      rintro e w1 ⟨A0, c0, rfl, ow0, hb0⟩
      go_wp2
      go_loopw [6, 27] (fun o i wr => ∃ (t : Nat) (A : Option Addr) (n c' : Nat), t ≤ j ∧ i = .int .i64 t ∧ o = .slice A n c' ∧ Ow eH wr w.heap.size A n c' (flatH (rows.take t)) ∧ Below w.heap.size w wr) (fun _ i _ => j - (intOf i).toNat)
      case atStart => exact ⟨0, A0, 0, c0, Nat.zero_le _, rfl, rfl, ow0, hb0⟩
      case round =>
        obtain ⟨t, A, n, c', ht, rfl, rfl, how, hbel⟩ := hrel
        by_cases hlt : t < j
        · obtain ⟨r, hr⟩ : ∃ r, rows[t]? = some r := ⟨rows[t]'(by rw [Hk.out]; exact hlt), List.getElem?_eq_getElem _⟩
          obtain ⟨hc, hX, h3, h4⟩ := (hR.below hbel hG) t r hr
          have hn := Hlen.out t (by omega)
          have hnl := Ow.len okH how
          have Hf := Lib.hid (flatH_next hr)
          have H3 := Lib.hid h3
          have hn4 : n ≤ 4000 := by omega
          clear hr h3 hn hnl
          go_wp2_with (at_builtin; refine wpList_append_ow okH _ rfl _ _ 37 rfl w.heap.size info_hnt Tryz.underlying37 rfl A n c' (flatH (rows.take t)) rfl how r.1 r.2.1 r.2.2.1 wr.heap.size r.2.2.2 rfl hX H3.out (by unfold maxLen; omega) (by omega) hbel.size ?_; intro A1 c1 w2 ow2 hg2 hA2)
          refine ⟨⟨t + 1, A1, n + r.2.1, c1, by omega, by go_num, rfl, by rw [Hf.out]; exact ow2, hbel.grown hg2 hbel.size (fun k e => (how.lt k e).1)⟩, by simp [intOf]; omega⟩
        · obtain rfl : t = j := by omega
          have Hq := Lib.hid (show flatH (rows.take t) = flatH rows by rw [List.take_of_length_le (by rw [Hk.out]; exact Nat.le_refl _)])
          go_wp2
          go_ret
          exact ⟨A, n, c', rfl, by rw [← Hq.out]; exact how, hbel⟩
end Go.Proofs.YteiclanlhnccnaaGreatDoor
/-
  A state copied: the program's.
-/
namespace Go.Proofs.YteiclanlhnccnaaGreatDoor
set_option maxRecDepth 20000
open Go.RowKit
set_option linter.unusedSimpArgs false
set_option linter.unusedVariables false
attribute [local irreducible] mixW

theorem rowsOneS {w : World} {G n c : Nat} {A : Option Addr} {t : TypeId} {l : List Smp} (h : At w G t #[.slice A n c]) (ha : Rd eS w w.heap.size A l) (hn : l.length = n) (h1 : n ≤ 1000) : Rows4 w G [(A, n, c, l)] := by
  intro i r hr
  match i, hr with
  | 0, hr =>
    obtain rfl : (A, n, c, l) = r := by simpa using hr
    exact ⟨h.cell 0, ha, hn, h1⟩
  | i + 1, hr => simp at hr
theorem rowsOneH {w : World} {G n c : Nat} {A : Option Addr} {t : TypeId} {l : List Hnt} (h : At w G t #[.slice A n c]) (ha : Rd eH w w.heap.size A l) (hn : l.length = n) (h1 : n ≤ 1000) : Rows4H w G [(A, n, c, l)] := by
  intro i r hr
  match i, hr with
  | 0, hr =>
    obtain rfl : (A, n, c, l) = r := by simpa using hr
    exact ⟨h.cell 0, ha, hn, h1⟩
  | i + 1, hr => simp at hr
theorem concatOne (G n c d : Nat) (A : Option Addr) (t : TypeId) (l : List Smp) (w : World) (h : At w G t #[.slice A n c]) (ha : Rd eS w w.heap.size A l) (hn : l.length = n) (h1 : n ≤ 1000) :
    Calls Tryz.prog 111 #[.slice (some ⟨G, 0, none⟩) 1 d] w fun e w' => ∃ A' c', e = .returned (.slice A' n c') ∧ Ow eS w' w.heap.size A' n c' l ∧ Below w.heap.size w w' := by
  refine (concatS G 1 d [(A, n, c, l)] w (rowsOneS h ha hn h1) h.lt rfl (by omega)).mono ?_
  rintro e w' ⟨A', n', c', rfl, ow, hb⟩
  have hf : flat [(A, n, c, l)] = l := by simp [flat]
  rw [hf] at ow
  obtain rfl : n = n' := hn.symm.trans (ow.len okS)
  exact ⟨A', c', rfl, ow, hb⟩
theorem concatOneH (G n c d : Nat) (A : Option Addr) (t : TypeId) (l : List Hnt) (w : World) (h : At w G t #[.slice A n c]) (ha : Rd eH w w.heap.size A l) (hn : l.length = n) (h1 : n ≤ 1000) :
    Calls Tryz.prog 112 #[.slice (some ⟨G, 0, none⟩) 1 d] w fun e w' => ∃ A' c', e = .returned (.slice A' n c') ∧ Ow eH w' w.heap.size A' n c' l ∧ Below w.heap.size w w' := by
  refine (concatH G 1 d [(A, n, c, l)] w (rowsOneH h ha hn h1) h.lt rfl (by omega)).mono ?_
  rintro e w' ⟨A', n', c', rfl, ow, hb⟩
  have hf : flatH [(A, n, c, l)] = l := by simp [flatH]
  rw [hf] at ow
  obtain rfl : n = n' := hn.symm.trans (ow.len okH)
  exact ⟨A', c', rfl, ow, hb⟩

set_option maxHeartbeats 8000000 in
theorem copyState (A B : Option Addr) (n c m d : Nat) (l : List Smp) (h : List Hnt) (x : Int) (w : World) (ha : Rd eS w w.heap.size A l) (hb : Rd eH w w.heap.size B h) (hn : l.length = n) (hm : h.length = m) (hn1 : n ≤ 1000) (hm1 : m ≤ 1000) :
    Calls Tryz.prog 58 #[.agg #[.slice A n c, .slice B m d, .int .i64 x]] w fun e w' => ∃ A' c' B' d', e = .returned (.agg #[.slice A' n c', .slice B' m d', .int .i64 x]) ∧ Ow eS w' w.heap.size A' n c' l ∧ Ow eH w' w.heap.size B' m d' h ∧ Below w.heap.size w w' := by
  have hB0 : Below w.heap.size w ((w.alloc (.cells #[.slice A n c, .slice B m d, .int .i64 x] 39)).alloc (.cells #[.slice none 0 0, .slice none 0 0, .int .i64 0] 39)) := ((Below.refl _ _).alloc (Nat.le_refl _) _).alloc (by simp) _
  have x0 := (At.new w 39 #[.slice A n c, .slice B m d, .int .i64 x]).alloc (.cells #[.slice none 0 0, .slice none 0 0, .int .i64 0] 39)
  have zz : At ((w.alloc (.cells #[.slice A n c, .slice B m d, .int .i64 x] 39)).alloc (.cells #[.slice none 0 0, .slice none 0 0, .int .i64 0] 39)) (w.heap.size + 1) 39 #[.slice none 0 0, .slice none 0 0, .int .i64 0] := by
    have := At.new (w.alloc (.cells #[.slice A n c, .slice B m d, .int .i64 x] 39)) 39 #[.slice none 0 0, .slice none 0 0, .int .i64 0]
    simpa using this
  have ha0 := ha.lift hB0
  have hb0 := hb.lift hB0
  have Hn := Lib.hid hn
  have Hm := Lib.hid hm
  have lzz := zz.lt
  clear hn hm ha hb
  go_enter Tryz.func58, Tryz.ntmps58
  go_wp2
  refine any_start (fun u => At u w.heap.size 39 #[.slice A n c, .slice B m d, .int .i64 x]) (by kernel_rfl) x0.drew (fun _ => ?_)
  have bxd := x0.drew
  have hBd := hB0.drew
  have ha0d : _ := ha0.lift ((Below.refl _ _).drew)
  have hb0d : _ := hb0.lift ((Below.refl _ _).drew)
  have zzd := zz.drew
  refine any_pure (v := ?_) 0 rfl (by kernel_rfl) (fun _ _ _ _ _ h => h) (by rfl) (fun u hu => ?_) bxd ?_
  rotate_left
  · obtain ⟨_, _, _, _, _, _⟩ := At.three hu
    go_simp
    (with_reducible rfl)
  (try simp only [Act.put, List.setIfInBounds_toArray, List.set_cons_zero, List.set_cons_succ])
  refine any_pure (v := ?_) 1 rfl (by kernel_rfl) (fun _ _ _ _ _ h => h) (by rfl) (fun u hu => ?_) bxd ?_
  rotate_left
  · obtain ⟨_, _, _, _, _, _⟩ := At.three hu
    go_simp
    (with_reducible rfl)
  (try simp only [Act.put, List.setIfInBounds_toArray, List.set_cons_zero, List.set_cons_succ])
  refine any_pure (v := ?_) 4 rfl (by kernel_rfl) (fun _ _ _ _ _ h => h) (by rfl) (fun u hu => ?_) bxd ?_
  rotate_left
  · obtain ⟨_, _, _, _, _, _⟩ := At.three hu
    go_simp
    (with_reducible rfl)
  (try simp only [Act.put, List.setIfInBounds_toArray, List.set_cons_zero, List.set_cons_succ])
  refine any_pure (v := ?_) 5 rfl (by kernel_rfl) (fun _ _ _ _ _ h => h) (by rfl) (fun u hu => ?_) bxd ?_
  rotate_left
  · obtain ⟨_, _, _, _, _, _⟩ := At.three hu
    go_simp
    (with_reducible rfl)
  (try simp only [Act.put, List.setIfInBounds_toArray, List.set_cons_zero, List.set_cons_succ])
  refine any_pure (v := ?_) 8 rfl (by kernel_rfl) (fun _ _ _ _ _ h => h) (by rfl) (fun u hu => ?_) bxd ?_
  rotate_left
  · obtain ⟨_, _, _, _, _, _⟩ := At.three hu
    go_simp
    (with_reducible rfl)
  (try simp only [Act.put, List.setIfInBounds_toArray, List.set_cons_zero, List.set_cons_succ])
  refine any_pure (v := ?_) 9 rfl (by kernel_rfl) (fun _ _ _ _ _ h => h) (by rfl) (fun u hu => ?_) bxd ?_
  rotate_left
  · obtain ⟨_, _, _, _, _, _⟩ := At.three hu
    go_simp
    (with_reducible rfl)
  (try simp only [Act.put, List.setIfInBounds_toArray, List.set_cons_zero, List.set_cons_succ])
  refine any_two 2 6 rfl rfl (by kernel_rfl) (by rfl) (by rfl) ?_ ?_
  · go_simp
    have bs101 := At.newAt' (w := ((w.alloc (.cells #[.slice A n c, .slice B m d, .int .i64 x] 39)).alloc (.cells #[.slice none 0 0, .slice none 0 0, .int .i64 0] 39)).drew) (t := 36) (cs := #[.slice A n c]) (show ((w.alloc (.cells #[.slice A n c, .slice B m d, .int .i64 x] 39)).alloc (.cells #[.slice none 0 0, .slice none 0 0, .int .i64 0] 39)).drew.heap.size = w.heap.size + 1 + 1 by first | rfl | simp)
    have gl101 : w.heap.size ≤ w.heap.size + 1 + 1 := by first | exact hBd.size | exact Nat.le_refl _ | (have := hBd.size; simp at this ⊢; try omega)
    have hal101 := (Below.refl ((w.alloc (.cells #[.slice A n c, .slice B m d, .int .i64 x] 39)).alloc (.cells #[.slice none 0 0, .slice none 0 0, .int .i64 0] 39)).drew.heap.size ((w.alloc (.cells #[.slice A n c, .slice B m d, .int .i64 x] 39)).alloc (.cells #[.slice none 0 0, .slice none 0 0, .int .i64 0] 39)).drew).alloc (Nat.le_refl _) (.cells #[.slice A n c] 36)
    have hB101 := hBd.alloc hBd.size (.cells #[.slice A n c] 36)
    have bx101 := bxd.alloc (.cells #[.slice A n c] 36)
    have zz_101 := zzd.alloc (.cells #[.slice A n c] 36)
    have ha0_101 := ha0d.lift hal101
    have hb0_101 := hb0d.lift hal101
    refine ⟨(fun u => At u w.heap.size 39 #[.slice A n c, .slice B m d, .int .i64 x]), fun _ h => h, bx101, ?_⟩
    (try simp only [Act.put, List.setIfInBounds_toArray, List.set_cons_zero, List.set_cons_succ])
    refine any_two 3 6 rfl rfl (by kernel_rfl) (by rfl) (by rfl) ?_ ?_
    · go_simp
      refine (concatOne _ n c _ A _ l _ bs101 ha0_101 Hn.out hn1).mono ?_
      rintro e w102 ⟨A102, c102, rfl, oa102, hb102⟩
      have hB102 := hB101.trans (hb102.mono hB101.size)
      have bx102 := bx101.below hb102 bx101.lt
      have zz_102 := zz_101.below hb102 zz_101.lt
      have bs_102 := bs101.below hb102 bs101.lt
      have ha0_102 := ha0_101.lift hb102
      have hb0_102 := hb0_101.lift hb102
      refine ⟨(fun u => At u w.heap.size 39 #[.slice A n c, .slice B m d, .int .i64 x]), fun _ h => h, bx102, ?_⟩
      (try simp only [Act.put, List.setIfInBounds_toArray, List.set_cons_zero, List.set_cons_succ])
      refine any_one 6 rfl (by kernel_rfl) (by rfl) ?_
      go_simp
      have bh103 := At.newAt' (w := w102) (t := 37) (cs := #[.slice B m d]) (show w102.heap.size = w102.heap.size by first | rfl | simp)
      have gl103 : w.heap.size ≤ w102.heap.size := by first | exact hB102.size | exact Nat.le_refl _ | (have := hB102.size; simp at this ⊢; try omega)
      have hal103 := (Below.refl w102.heap.size w102).alloc (Nat.le_refl _) (.cells #[.slice B m d] 37)
      have hB103 := hB102.alloc hB102.size (.cells #[.slice B m d] 37)
      have bx103 := bx102.alloc (.cells #[.slice B m d] 37)
      have zz_103 := zz_102.alloc (.cells #[.slice B m d] 37)
      have bs_103 := bs_102.alloc (.cells #[.slice B m d] 37)
      have oa_103 := oa102.alloc (.cells #[.slice B m d] 37)
      have ha0_103 := ha0_102.lift hal103
      have hb0_103 := hb0_102.lift hal103
      refine ⟨(fun u => At u w.heap.size 39 #[.slice A n c, .slice B m d, .int .i64 x]), fun _ h => h, bx103, ?_⟩
      (try simp only [Act.put, List.setIfInBounds_toArray, List.set_cons_zero, List.set_cons_succ])
      refine any_one 7 rfl (by kernel_rfl) (by rfl) ?_
      go_simp
      refine (concatOneH _ m d _ B _ h _ bh103 hb0_103 Hm.out hm1).mono ?_
      rintro e w104 ⟨B104, d104, rfl, ob104, hb104⟩
      have hB104 := hB103.trans (hb104.mono hB103.size)
      have bx104 := bx103.below hb104 bx103.lt
      have zz_104 := zz_103.below hb104 zz_103.lt
      have bs_104 := bs_103.below hb104 bs_103.lt
      have bh_104 := bh103.below hb104 bh103.lt
      have oa_104 := oa_103.below hb104 (Nat.le_refl _)
      have ha0_104 := ha0_103.lift hb104
      have hb0_104 := hb0_103.lift hb104
      refine ⟨(fun u => At u w.heap.size 39 #[.slice A n c, .slice B m d, .int .i64 x]), fun _ h => h, bx104, ?_⟩
      (try simp only [Act.put, List.setIfInBounds_toArray, List.set_cons_zero, List.set_cons_succ])
      refine any_pure (v := ?_) 10 rfl (by kernel_rfl) (fun _ _ _ _ _ h => h) (by rfl) (fun u hu => ?_) bx104 ?_
      rotate_left
      · skip
        go_simp
        (with_reducible rfl)
      (try simp only [Act.put, List.setIfInBounds_toArray, List.set_cons_zero, List.set_cons_succ])
      obtain ⟨p0, p1, p2, f0, f1, f2⟩ := zz_104.three
      skip
      refine any_one 11 rfl (by kernel_rfl) (by rfl) ?_
      go_simp
      refine ⟨(fun u => At u w.heap.size 39 #[.slice A n c, .slice B m d, .int .i64 x]), fun _ h => h, (((bx104.far (p := ⟨w.heap.size + 1, 0, none⟩) (by simp) _).far (p := ⟨w.heap.size + 1, 1, none⟩) (by simp) _).far (p := ⟨w.heap.size + 1, 2, none⟩) (by simp) _), ?_⟩
      (try simp only [Act.put, List.setIfInBounds_toArray, List.set_cons_zero, List.set_cons_succ])
      refine any_done (by kernel_rfl) ?_
      go_wp2
      refine bodyPost_ret (v := .agg #[.slice A102 n c102, .slice B104 m d104, .int .i64 x]) (by simp [results, Tryz.results58, go_sem, p0, p1, p2]) rfl ?_
      exact ⟨A102, c102, B104, d104, rfl, (((oa_104.under (p := ⟨w.heap.size + 1, 0, none⟩) zz_101.lt _).under (p := ⟨w.heap.size + 1, 1, none⟩) zz_101.lt _).under (p := ⟨w.heap.size + 1, 2, none⟩) zz_101.lt _).from_ hB101.size, (((ob104.under (p := ⟨w.heap.size + 1, 0, none⟩) zz_103.lt _).under (p := ⟨w.heap.size + 1, 1, none⟩) zz_103.lt _).under (p := ⟨w.heap.size + 1, 2, none⟩) zz_103.lt _).from_ hB103.size, (((hB104.setCell (by simp) _).setCell (by simp) _).setCell (by simp) _)⟩
    · go_simp
      have bh105 := At.newAt' (w := (((w.alloc (.cells #[.slice A n c, .slice B m d, .int .i64 x] 39)).alloc (.cells #[.slice none 0 0, .slice none 0 0, .int .i64 0] 39)).drew.alloc (.cells #[.slice A n c] 36))) (t := 37) (cs := #[.slice B m d]) (show (((w.alloc (.cells #[.slice A n c, .slice B m d, .int .i64 x] 39)).alloc (.cells #[.slice none 0 0, .slice none 0 0, .int .i64 0] 39)).drew.alloc (.cells #[.slice A n c] 36)).heap.size = w.heap.size + 1 + 1 + 1 by first | rfl | simp)
      have gl105 : w.heap.size ≤ w.heap.size + 1 + 1 + 1 := by first | exact hB101.size | exact Nat.le_refl _ | (have := hB101.size; simp at this ⊢; try omega)
      have hal105 := (Below.refl (((w.alloc (.cells #[.slice A n c, .slice B m d, .int .i64 x] 39)).alloc (.cells #[.slice none 0 0, .slice none 0 0, .int .i64 0] 39)).drew.alloc (.cells #[.slice A n c] 36)).heap.size (((w.alloc (.cells #[.slice A n c, .slice B m d, .int .i64 x] 39)).alloc (.cells #[.slice none 0 0, .slice none 0 0, .int .i64 0] 39)).drew.alloc (.cells #[.slice A n c] 36))).alloc (Nat.le_refl _) (.cells #[.slice B m d] 37)
      have hB105 := hB101.alloc hB101.size (.cells #[.slice B m d] 37)
      have bx105 := bx101.alloc (.cells #[.slice B m d] 37)
      have zz_105 := zz_101.alloc (.cells #[.slice B m d] 37)
      have bs_105 := bs101.alloc (.cells #[.slice B m d] 37)
      have ha0_105 := ha0_101.lift hal105
      have hb0_105 := hb0_101.lift hal105
      refine ⟨(fun u => At u w.heap.size 39 #[.slice A n c, .slice B m d, .int .i64 x]), fun _ h => h, bx105, ?_⟩
      (try simp only [Act.put, List.setIfInBounds_toArray, List.set_cons_zero, List.set_cons_succ])
      refine any_one 3 rfl (by kernel_rfl) (by rfl) ?_
      go_simp
      refine (concatOne _ n c _ A _ l _ bs_105 ha0_105 Hn.out hn1).mono ?_
      rintro e w106 ⟨A106, c106, rfl, oa106, hb106⟩
      have hB106 := hB105.trans (hb106.mono hB105.size)
      have bx106 := bx105.below hb106 bx105.lt
      have zz_106 := zz_105.below hb106 zz_105.lt
      have bs_106 := bs_105.below hb106 bs_105.lt
      have bh_106 := bh105.below hb106 bh105.lt
      have ha0_106 := ha0_105.lift hb106
      have hb0_106 := hb0_105.lift hb106
      refine ⟨(fun u => At u w.heap.size 39 #[.slice A n c, .slice B m d, .int .i64 x]), fun _ h => h, bx106, ?_⟩
      (try simp only [Act.put, List.setIfInBounds_toArray, List.set_cons_zero, List.set_cons_succ])
      refine any_one 7 rfl (by kernel_rfl) (by rfl) ?_
      go_simp
      refine (concatOneH _ m d _ B _ h _ bh_106 hb0_106 Hm.out hm1).mono ?_
      rintro e w107 ⟨B107, d107, rfl, ob107, hb107⟩
      have hB107 := hB106.trans (hb107.mono hB106.size)
      have bx107 := bx106.below hb107 bx106.lt
      have zz_107 := zz_106.below hb107 zz_106.lt
      have bs_107 := bs_106.below hb107 bs_106.lt
      have bh_107 := bh_106.below hb107 bh_106.lt
      have oa_107 := oa106.below hb107 (Nat.le_refl _)
      have ha0_107 := ha0_106.lift hb107
      have hb0_107 := hb0_106.lift hb107
      refine ⟨(fun u => At u w.heap.size 39 #[.slice A n c, .slice B m d, .int .i64 x]), fun _ h => h, bx107, ?_⟩
      (try simp only [Act.put, List.setIfInBounds_toArray, List.set_cons_zero, List.set_cons_succ])
      refine any_pure (v := ?_) 10 rfl (by kernel_rfl) (fun _ _ _ _ _ h => h) (by rfl) (fun u hu => ?_) bx107 ?_
      rotate_left
      · skip
        go_simp
        (with_reducible rfl)
      (try simp only [Act.put, List.setIfInBounds_toArray, List.set_cons_zero, List.set_cons_succ])
      obtain ⟨p0, p1, p2, f0, f1, f2⟩ := zz_107.three
      skip
      refine any_one 11 rfl (by kernel_rfl) (by rfl) ?_
      go_simp
      refine ⟨(fun u => At u w.heap.size 39 #[.slice A n c, .slice B m d, .int .i64 x]), fun _ h => h, (((bx107.far (p := ⟨w.heap.size + 1, 0, none⟩) (by simp) _).far (p := ⟨w.heap.size + 1, 1, none⟩) (by simp) _).far (p := ⟨w.heap.size + 1, 2, none⟩) (by simp) _), ?_⟩
      (try simp only [Act.put, List.setIfInBounds_toArray, List.set_cons_zero, List.set_cons_succ])
      refine any_done (by kernel_rfl) ?_
      go_wp2
      refine bodyPost_ret (v := .agg #[.slice A106 n c106, .slice B107 m d107, .int .i64 x]) (by simp [results, Tryz.results58, go_sem, p0, p1, p2]) rfl ?_
      exact ⟨A106, c106, B107, d107, rfl, (((oa_107.under (p := ⟨w.heap.size + 1, 0, none⟩) zz_105.lt _).under (p := ⟨w.heap.size + 1, 1, none⟩) zz_105.lt _).under (p := ⟨w.heap.size + 1, 2, none⟩) zz_105.lt _).from_ hB105.size, (((ob107.under (p := ⟨w.heap.size + 1, 0, none⟩) zz_106.lt _).under (p := ⟨w.heap.size + 1, 1, none⟩) zz_106.lt _).under (p := ⟨w.heap.size + 1, 2, none⟩) zz_106.lt _).from_ hB106.size, (((hB107.setCell (by simp) _).setCell (by simp) _).setCell (by simp) _)⟩
  · go_simp
    have bh108 := At.newAt' (w := ((w.alloc (.cells #[.slice A n c, .slice B m d, .int .i64 x] 39)).alloc (.cells #[.slice none 0 0, .slice none 0 0, .int .i64 0] 39)).drew) (t := 37) (cs := #[.slice B m d]) (show ((w.alloc (.cells #[.slice A n c, .slice B m d, .int .i64 x] 39)).alloc (.cells #[.slice none 0 0, .slice none 0 0, .int .i64 0] 39)).drew.heap.size = w.heap.size + 1 + 1 by first | rfl | simp)
    have gl108 : w.heap.size ≤ w.heap.size + 1 + 1 := by first | exact hBd.size | exact Nat.le_refl _ | (have := hBd.size; simp at this ⊢; try omega)
    have hal108 := (Below.refl ((w.alloc (.cells #[.slice A n c, .slice B m d, .int .i64 x] 39)).alloc (.cells #[.slice none 0 0, .slice none 0 0, .int .i64 0] 39)).drew.heap.size ((w.alloc (.cells #[.slice A n c, .slice B m d, .int .i64 x] 39)).alloc (.cells #[.slice none 0 0, .slice none 0 0, .int .i64 0] 39)).drew).alloc (Nat.le_refl _) (.cells #[.slice B m d] 37)
    have hB108 := hBd.alloc hBd.size (.cells #[.slice B m d] 37)
    have bx108 := bxd.alloc (.cells #[.slice B m d] 37)
    have zz_108 := zzd.alloc (.cells #[.slice B m d] 37)
    have ha0_108 := ha0d.lift hal108
    have hb0_108 := hb0d.lift hal108
    refine ⟨(fun u => At u w.heap.size 39 #[.slice A n c, .slice B m d, .int .i64 x]), fun _ h => h, bx108, ?_⟩
    (try simp only [Act.put, List.setIfInBounds_toArray, List.set_cons_zero, List.set_cons_succ])
    refine any_one 2 rfl (by kernel_rfl) (by rfl) ?_
    go_simp
    have bs109 := At.newAt' (w := (((w.alloc (.cells #[.slice A n c, .slice B m d, .int .i64 x] 39)).alloc (.cells #[.slice none 0 0, .slice none 0 0, .int .i64 0] 39)).drew.alloc (.cells #[.slice B m d] 37))) (t := 36) (cs := #[.slice A n c]) (show (((w.alloc (.cells #[.slice A n c, .slice B m d, .int .i64 x] 39)).alloc (.cells #[.slice none 0 0, .slice none 0 0, .int .i64 0] 39)).drew.alloc (.cells #[.slice B m d] 37)).heap.size = w.heap.size + 1 + 1 + 1 by first | rfl | simp)
    have gl109 : w.heap.size ≤ w.heap.size + 1 + 1 + 1 := by first | exact hB108.size | exact Nat.le_refl _ | (have := hB108.size; simp at this ⊢; try omega)
    have hal109 := (Below.refl (((w.alloc (.cells #[.slice A n c, .slice B m d, .int .i64 x] 39)).alloc (.cells #[.slice none 0 0, .slice none 0 0, .int .i64 0] 39)).drew.alloc (.cells #[.slice B m d] 37)).heap.size (((w.alloc (.cells #[.slice A n c, .slice B m d, .int .i64 x] 39)).alloc (.cells #[.slice none 0 0, .slice none 0 0, .int .i64 0] 39)).drew.alloc (.cells #[.slice B m d] 37))).alloc (Nat.le_refl _) (.cells #[.slice A n c] 36)
    have hB109 := hB108.alloc hB108.size (.cells #[.slice A n c] 36)
    have bx109 := bx108.alloc (.cells #[.slice A n c] 36)
    have zz_109 := zz_108.alloc (.cells #[.slice A n c] 36)
    have bh_109 := bh108.alloc (.cells #[.slice A n c] 36)
    have ha0_109 := ha0_108.lift hal109
    have hb0_109 := hb0_108.lift hal109
    refine ⟨(fun u => At u w.heap.size 39 #[.slice A n c, .slice B m d, .int .i64 x]), fun _ h => h, bx109, ?_⟩
    (try simp only [Act.put, List.setIfInBounds_toArray, List.set_cons_zero, List.set_cons_succ])
    refine any_one 3 rfl (by kernel_rfl) (by rfl) ?_
    go_simp
    refine (concatOne _ n c _ A _ l _ bs109 ha0_109 Hn.out hn1).mono ?_
    rintro e w110 ⟨A110, c110, rfl, oa110, hb110⟩
    have hB110 := hB109.trans (hb110.mono hB109.size)
    have bx110 := bx109.below hb110 bx109.lt
    have zz_110 := zz_109.below hb110 zz_109.lt
    have bh_110 := bh_109.below hb110 bh_109.lt
    have bs_110 := bs109.below hb110 bs109.lt
    have ha0_110 := ha0_109.lift hb110
    have hb0_110 := hb0_109.lift hb110
    refine ⟨(fun u => At u w.heap.size 39 #[.slice A n c, .slice B m d, .int .i64 x]), fun _ h => h, bx110, ?_⟩
    (try simp only [Act.put, List.setIfInBounds_toArray, List.set_cons_zero, List.set_cons_succ])
    refine any_one 7 rfl (by kernel_rfl) (by rfl) ?_
    go_simp
    refine (concatOneH _ m d _ B _ h _ bh_110 hb0_110 Hm.out hm1).mono ?_
    rintro e w111 ⟨B111, d111, rfl, ob111, hb111⟩
    have hB111 := hB110.trans (hb111.mono hB110.size)
    have bx111 := bx110.below hb111 bx110.lt
    have zz_111 := zz_110.below hb111 zz_110.lt
    have bh_111 := bh_110.below hb111 bh_110.lt
    have bs_111 := bs_110.below hb111 bs_110.lt
    have oa_111 := oa110.below hb111 (Nat.le_refl _)
    have ha0_111 := ha0_110.lift hb111
    have hb0_111 := hb0_110.lift hb111
    refine ⟨(fun u => At u w.heap.size 39 #[.slice A n c, .slice B m d, .int .i64 x]), fun _ h => h, bx111, ?_⟩
    (try simp only [Act.put, List.setIfInBounds_toArray, List.set_cons_zero, List.set_cons_succ])
    refine any_pure (v := ?_) 10 rfl (by kernel_rfl) (fun _ _ _ _ _ h => h) (by rfl) (fun u hu => ?_) bx111 ?_
    rotate_left
    · skip
      go_simp
      (with_reducible rfl)
    (try simp only [Act.put, List.setIfInBounds_toArray, List.set_cons_zero, List.set_cons_succ])
    obtain ⟨p0, p1, p2, f0, f1, f2⟩ := zz_111.three
    skip
    refine any_one 11 rfl (by kernel_rfl) (by rfl) ?_
    go_simp
    refine ⟨(fun u => At u w.heap.size 39 #[.slice A n c, .slice B m d, .int .i64 x]), fun _ h => h, (((bx111.far (p := ⟨w.heap.size + 1, 0, none⟩) (by simp) _).far (p := ⟨w.heap.size + 1, 1, none⟩) (by simp) _).far (p := ⟨w.heap.size + 1, 2, none⟩) (by simp) _), ?_⟩
    (try simp only [Act.put, List.setIfInBounds_toArray, List.set_cons_zero, List.set_cons_succ])
    refine any_done (by kernel_rfl) ?_
    go_wp2
    refine bodyPost_ret (v := .agg #[.slice A110 n c110, .slice B111 m d111, .int .i64 x]) (by simp [results, Tryz.results58, go_sem, p0, p1, p2]) rfl ?_
    exact ⟨A110, c110, B111, d111, rfl, (((oa_111.under (p := ⟨w.heap.size + 1, 0, none⟩) zz_109.lt _).under (p := ⟨w.heap.size + 1, 1, none⟩) zz_109.lt _).under (p := ⟨w.heap.size + 1, 2, none⟩) zz_109.lt _).from_ hB109.size, (((ob111.under (p := ⟨w.heap.size + 1, 0, none⟩) zz_110.lt _).under (p := ⟨w.heap.size + 1, 1, none⟩) zz_110.lt _).under (p := ⟨w.heap.size + 1, 2, none⟩) zz_110.lt _).from_ hB110.size, (((hB111.setCell (by simp) _).setCell (by simp) _).setCell (by simp) _)⟩
end Go.Proofs.YteiclanlhnccnaaGreatDoor
