/-
  Texts of one proof, joined: each has its own namespace.
-/
import Derived.Test.YtmaillakhhdkfaaGreatDoorBExRecoverDisk10
import Derived.Test.YtmaillakhhdkfaaGreatDoorBExRecoverDisk6
import Derived.Test.YtmaillakhhdkfaaGreatDoorBExRecoverDisk3
import Derived.Test.YtmaillakhhdkfaaGreatDoorBExRecoverDisk4
import Derived.Test.YtmaillakhhdkfaaGreatDoorBExRecoverDisk9
import Derived.Test.YtmaillakhhdkfaaGreatDoorBExRecoverDisk0
import Derived.WalkKit
import Derived.LaidEql
import Derived.Stop.Asserts
import Derived.Test.YtmaillakhhdkfaaGreatDoorBExRecoverDisk5
import Derived.Test.YtmaillakhhdkfaaGreatDoorBExRecoverDisk1
/-
  What a disk says: the model's.
-/
namespace Go.Proofs.YtmaillakhhdkfaaGreatDoor
set_option maxRecDepth 20000
open Go.RowKit
set_option linter.unusedSimpArgs false
set_option linter.unusedVariables false

/-- A disk's code, state, records, size. -/
def RetDsk (r : Int × Sta × List Rcd × Nat) (w : World) (e : Ending) (w' : World) : Prop :=
  ∃ A n c B m d R k kc, e = .returned (.agg #[.int .i64 r.1, .slice A n c, .slice B m d, .int .i64 r.2.1.2.2, .slice R k kc, .int .i64 (r.2.2.2 : Nat)]) ∧ Ow eS w' w.heap.size A n c r.2.1.1 ∧ Ow eH w' w.heap.size B m d r.2.1.2.1 ∧ Ow eR w' w.heap.size R k kc r.2.2.1 ∧ Below w.heap.size w w'
theorem At.sixC {w : World} {g : Nat} {t : TypeId} {a b c d e f : Value} (h : At w g t #[a, b, c, d, e, f]) : (w.cell? ⟨g, 0, none⟩ = some a ∧ w.cell? ⟨g, 1, none⟩ = some b ∧ w.cell? ⟨g, 2, none⟩ = some c ∧ w.cell? ⟨g, 3, none⟩ = some d ∧ w.cell? ⟨g, 4, none⟩ = some e ∧ w.cell? ⟨g, 5, none⟩ = some f) ∧ (w.frozen? ⟨g, 0, none⟩ = false ∧ w.frozen? ⟨g, 1, none⟩ = false ∧ w.frozen? ⟨g, 2, none⟩ = false ∧ w.frozen? ⟨g, 3, none⟩ = false ∧ w.frozen? ⟨g, 4, none⟩ = false ∧ w.frozen? ⟨g, 5, none⟩ = false) :=
  ⟨⟨h.cell 0, h.cell 1, h.cell 2, h.cell 3, h.cell 4, h.cell 5⟩, h.frozen 0, h.frozen 1, h.frozen 2, h.frozen 3, h.frozen 4, h.frozen 5⟩
theorem recoverM_big {d : List UInt8} (h : ¬ d.length ≤ 20000) : recoverM d = (2, zeroSta, [], 0) := by unfold recoverM; rw [if_neg h]
theorem recoverM_ok {d : List UInt8} {J : Nat} (h : d.length ≤ 20000) (hJ : EndF d J) : recoverM d = (0, recF zeroSta [] 0 (bodF d J)) := by unfold recoverM; rw [if_pos h, framesM_ok h hJ]
set_option maxHeartbeats 1000000 in
theorem specRecoverDisk (A : Option Addr) (n c : Nat) (d : List UInt8) (w : World) (hr : Rd eB w w.heap.size A d) (hn : d.length = n) (hc : n ≤ c) (hcm : c ≤ maxLen) :
    Calls Tryz.prog 25 #[.slice A n c] w fun e w' => RetDsk (recoverM d) w e w' := by
  by_cases h : n ≤ 20000
  rotate_left
  · have Hf := Lib.hid (recoverM_big (d := d) (by omega))
    have hgt : (20000 : Int) < (n : Int) := by omega
    clear hn h hr
    go_enter Tryz.func25, Tryz.ntmps25
    go_wp2
    refine bodyPost_ret (v := .agg #[.int .i64 2, .slice none 0 0, .slice none 0 0, .int .i64 0, .slice none 0 0, .int .i64 0]) (by simp [results, Tryz.results25, go_sem]) rfl ?_
    rw [Hf.out]
    exact ⟨none, 0, 0, none, 0, 0, none, 0, 0, rfl, Ow.nil, Ow.nil, Ow.nil, (Below.refl _ _).alloc (Nat.le_refl _) _⟩
  · have B1 := (Below.refl w.heap.size w).alloc (Nat.le_refl _) (.cells #[.int .i64 0, .slice none 0 0, .slice none 0 0, .int .i64 0, .slice none 0 0, .int .i64 0] 53)
    have H := Lib.hid (l5Recover A n c d _ (hr.lift B1) hn hc (by omega) hcm)
    have Hf := Lib.hid fun (J : Nat) (hJ : EndF d J) => recoverM_ok (d := d) (J := J) (by omega) hJ
    have hle : (n : Int) ≤ 20000 := by omega
    clear hn h hr
    go_enter Tryz.func25, Tryz.ntmps25
    go_wp2_with (
      go_at_call 72
      refine H.out.mono ?_
      rintro e w1 ⟨J, hJ, SA, sn, sc, SB, sm, sd, R, k, kc, rfl, os, oh, or, hb1⟩
      have Hf1 := Lib.hid (Hf.out J hJ)
      have a1 := ((At.new w 53 #[.int .i64 0, .slice none 0 0, .slice none 0 0, .int .i64 0, .slice none 0 0, .int .i64 0]).below hb1 (by simp)).alloc (.cells #[.slice SA sn sc, .slice SB sm sd, .int .i64 (recF zeroSta [] 0 (bodF d J)).1.2.2] 39)
      have b1 := (At.new w1 39 #[.slice SA sn sc, .slice SB sm sd, .int .i64 (recF zeroSta [] 0 (bodF d J)).1.2.2])
      obtain ⟨y0, y1, y2, yf0, yf1, yf2⟩ := b1.three
      obtain ⟨⟨r0, r1, r2, r3, r4, r5⟩, rf0, rf1, rf2, rf3, rf4, rf5⟩ := a1.sixC)
    have HB0 := (B1.trans (hb1.mono B1.size)).alloc (B1.trans (hb1.mono B1.size)).size (.cells #[.slice SA sn sc, .slice SB sm sd, .int .i64 (recF zeroSta [] 0 (bodF d J)).1.2.2] 39)
    have os0 := os.alloc (.cells #[.slice SA sn sc, .slice SB sm sd, .int .i64 (recF zeroSta [] 0 (bodF d J)).1.2.2] 39)
    have oh0 := oh.alloc (.cells #[.slice SA sn sc, .slice SB sm sd, .int .i64 (recF zeroSta [] 0 (bodF d J)).1.2.2] 39)
    have or0 := or.alloc (.cells #[.slice SA sn sc, .slice SB sm sd, .int .i64 (recF zeroSta [] 0 (bodF d J)).1.2.2] 39)
    have g0 := a1
    have os1 := os0.apart (by decide) g0 0 (.int .i64 0)
    have oh1 := oh0.apart (by decide) g0 0 (.int .i64 0)
    have or1 := or0.apart (by decide) g0 0 (.int .i64 0)
    have HB1 := HB0.setCell (p := ⟨w.heap.size, 0, none⟩) (Nat.le_refl _) (.int .i64 0)
    have g1 := g0.set 0 (.int .i64 0)
    have os2 := os1.apart (by decide) g1 1 (.slice SA sn sc)
    have oh2 := oh1.apart (by decide) g1 1 (.slice SA sn sc)
    have or2 := or1.apart (by decide) g1 1 (.slice SA sn sc)
    have HB2 := HB1.setCell (p := ⟨w.heap.size, 1, none⟩) (Nat.le_refl _) (.slice SA sn sc)
    have g2 := g1.set 1 (.slice SA sn sc)
    have os3 := os2.apart (by decide) g2 2 (.slice SB sm sd)
    have oh3 := oh2.apart (by decide) g2 2 (.slice SB sm sd)
    have or3 := or2.apart (by decide) g2 2 (.slice SB sm sd)
    have HB3 := HB2.setCell (p := ⟨w.heap.size, 2, none⟩) (Nat.le_refl _) (.slice SB sm sd)
    have g3 := g2.set 2 (.slice SB sm sd)
    have os4 := os3.apart (by decide) g3 3 (.int .i64 (recF zeroSta [] 0 (bodF d J)).1.2.2)
    have oh4 := oh3.apart (by decide) g3 3 (.int .i64 (recF zeroSta [] 0 (bodF d J)).1.2.2)
    have or4 := or3.apart (by decide) g3 3 (.int .i64 (recF zeroSta [] 0 (bodF d J)).1.2.2)
    have HB4 := HB3.setCell (p := ⟨w.heap.size, 3, none⟩) (Nat.le_refl _) (.int .i64 (recF zeroSta [] 0 (bodF d J)).1.2.2)
    have g4 := g3.set 3 (.int .i64 (recF zeroSta [] 0 (bodF d J)).1.2.2)
    have os5 := os4.apart (by decide) g4 4 (.slice R k kc)
    have oh5 := oh4.apart (by decide) g4 4 (.slice R k kc)
    have or5 := or4.apart (by decide) g4 4 (.slice R k kc)
    have HB5 := HB4.setCell (p := ⟨w.heap.size, 4, none⟩) (Nat.le_refl _) (.slice R k kc)
    have g5 := g4.set 4 (.slice R k kc)
    have os6 := os5.apart (by decide) g5 5 (.int .i64 ((recF zeroSta [] 0 (bodF d J)).2.2 : Nat))
    have oh6 := oh5.apart (by decide) g5 5 (.int .i64 ((recF zeroSta [] 0 (bodF d J)).2.2 : Nat))
    have or6 := or5.apart (by decide) g5 5 (.int .i64 ((recF zeroSta [] 0 (bodF d J)).2.2 : Nat))
    have HB6 := HB5.setCell (p := ⟨w.heap.size, 5, none⟩) (Nat.le_refl _) (.int .i64 ((recF zeroSta [] 0 (bodF d J)).2.2 : Nat))
    have g6 := g5.set 5 (.int .i64 ((recF zeroSta [] 0 (bodF d J)).2.2 : Nat))
    refine bodyPost_ret (v := .agg #[.int .i64 0, .slice SA sn sc, .slice SB sm sd, .int .i64 (recF zeroSta [] 0 (bodF d J)).1.2.2, .slice R k kc, .int .i64 ((recF zeroSta [] 0 (bodF d J)).2.2 : Nat)]) (by simp [results, Tryz.results25, go_sem, r0, r1, r2, r3, r4, r5]) rfl ?_
    rw [Hf1.out]
    exact ⟨SA, sn, sc, SB, sm, sd, R, k, kc, rfl, os6.from_ (by simp), oh6.from_ (by simp), or6.from_ (by simp), HB6⟩
end Go.Proofs.YtmaillakhhdkfaaGreatDoor
/-
  What one body says, put behind what was said: the program's.
-/
namespace Go.Proofs.YtmaillakhhdkfaaGreatDoor
set_option maxRecDepth 20000
open Go.RowKit
set_option linter.unusedSimpArgs false
set_option linter.unusedVariables false
attribute [local irreducible] mixW

/-- The sentinel's variable. -/
def Sent (w : World) (a : Addr) : Prop := w.cell? ⟨0, 0, none⟩ = some (.iface 276 (.pointer (some a)))
theorem Sent.pos {w : World} {a : Addr} (h : Sent w a) : 0 < w.heap.size := World.block_lt_of_cell? w ⟨0, 0, none⟩ h
theorem Sent.below {w w' : World} {a : Addr} {B : Nat} (h : Sent w a) (hb : Below B w w') (hB : 0 < B) : Sent w' a := by
  unfold Sent
  rw [hb.cell (p := ⟨0, 0, none⟩) hB]
  exact h
/-- What a disk has said, in a block of its own and rows of its own. -/
def DskAt (w : World) (g : Nat) (s : Sta) (rs : List Rcd) (p : Nat) : Prop :=
  ∃ SA sn sc SB sm sd R k kc, At w g 53 #[.int .i64 0, .slice SA sn sc, .slice SB sm sd, .int .i64 s.2.2, .slice R k kc, .int .i64 (p : Nat)] ∧ Ow eS w g SA sn sc s.1 ∧ Ow eH w g SB sm sd s.2.1 ∧ Ow eR w g R k kc rs
theorem DskAt.lt {w : World} {g p : Nat} {s : Sta} {rs : List Rcd} (h : DskAt w g s rs p) : g < w.heap.size := by
  obtain ⟨_, _, _, _, _, _, _, _, _, h, _⟩ := h
  exact h.lt
theorem DskAt.below {w w' : World} {g p : Nat} {s : Sta} {rs : List Rcd} (h : DskAt w g s rs p) (hb : Below w.heap.size w w') : DskAt w' g s rs p := by
  obtain ⟨SA, sn, sc, SB, sm, sd, R, k, kc, h1, h2, h3, h4⟩ := h
  exact ⟨SA, sn, sc, SB, sm, sd, R, k, kc, h1.below hb h1.lt, h2.below hb (Nat.le_refl _), h3.below hb (Nat.le_refl _), h4.below hb (Nat.le_refl _)⟩

set_option maxHeartbeats 4000000 in
/-- A body that is no record. -/
theorem say_torn (g : Nat) (A : Option Addr) (n c : Nat) (b : List UInt8) (a : Addr) (w : World) (hg : g < w.heap.size) (ha : Rd eB w w.heap.size A b) (hn : b.length = n) (hc : n ≤ c) (hcm : c ≤ maxLen) (hF : Flds w) (hS : Sent w a) (hb : (decodeRecM b).1 ≠ 0) :
    Calls Tryz.prog 71 #[.pointer (some ⟨g, 0, none⟩), .slice A n c] w fun e w' => e = .returned (.iface 276 (.pointer (some a))) ∧ Below w.heap.size w w' := by
  have D := implDecodeRecord A n c b w ha hn hc hcm hF
  rcases hz : decodeRecM b with ⟨z, a0, a1, ⟨a2, a3, a4, a5⟩, a6⟩
  rw [hz] at D hb
  have hne : (z != 0) = true := by rw [bne_iff_ne]; exact hb
  clear hz hn hb ha
  go_enter Tryz.func71, Tryz.ntmps71
  go_wp2_with fail
  refine D.mono ?_
  rintro e w1 ⟨rfl, hb1⟩
  have x1 := At.new w1 34 #[.int .i64 z, .int .i64 a0, .int .i64 a1, .int .i64 a2, .int .i64 a3, .int .i64 a4, .int .i64 a5, .int .i64 a6]
  have hB := hb1.alloc hb1.size (.cells #[.int .i64 z, .int .i64 a0, .int .i64 a1, .int .i64 a2, .int .i64 a3, .int .i64 a4, .int .i64 a5, .int .i64 a6] 34)
  have s1 : World.cell? (w1.alloc (.cells #[.int .i64 z, .int .i64 a0, .int .i64 a1, .int .i64 a2, .int .i64 a3, .int .i64 a4, .int .i64 a5, .int .i64 a6] 34)) ⟨0, 0, none⟩ = some (.iface 276 (.pointer (some a))) := hS.below hB hS.pos
  obtain ⟨c0, c1, c2, c3, c4, c5, c6, c7⟩ := x1.eightR
  go_wp2
  go_ret
  exact ⟨rfl, hB⟩

set_option maxHeartbeats 8000000 in
/-- A record that cannot be applied. -/
theorem say_no_step (g : Nat) (A : Option Addr) (n c : Nat) (b : List UInt8) (a : Addr) (SA SB R : Option Addr) (sn sc sm sd k kc p : Nat) (l : List Smp) (h : List Hnt) (x : Int) (rs : List Rcd) (a0 a1 a2 a3 a4 a5 a6 : Int) (w : World)
    (hX : At w g 53 #[.int .i64 0, .slice SA sn sc, .slice SB sm sd, .int .i64 x, .slice R k kc, .int .i64 (p : Nat)]) (os : Ow eS w g SA sn sc l) (oh : Ow eH w g SB sm sd h) (or : Ow eR w g R k kc rs) (ha : Rd eB w w.heap.size A b) (hn : b.length = n) (hc : n ≤ c) (hcm : c ≤ maxLen) (hF : Flds w) (hS : Sent w a) (hd : decodeRecM b = (0, (a0, a1, (a2, a3, a4, a5), a6))) (hap : (applyM (l, h, x) (a0, a1, (a2, a3, a4, a5), a6)).1 ≠ 0) :
    Calls Tryz.prog 71 #[.pointer (some ⟨g, 0, none⟩), .slice A n c] w fun e w' => e = .returned (.iface 276 (.pointer (some a))) ∧ Below w.heap.size w w' := by
  have D := implDecodeRecord A n c b w ha hn hc hcm hF
  rw [hd] at D
  have lx := hX.lt
  have AP := fun W r1 r2 hFW => implApplyRecord SA SB sn sc sm sd l h x a0 a1 a2 a3 a4 a5 a6 W r1 r2 (os.len okS) (oh.len okH) hFW
  rcases hq : applyM (l, h, x) (a0, a1, (a2, a3, a4, a5), a6) with ⟨z, tl, th, tx⟩
  rw [hq] at AP hap
  clear hq hd hn ha
  have hne : (z != 0) = true := by rw [bne_iff_ne]; exact hap
  clear hap
  go_enter Tryz.func71, Tryz.ntmps71
  go_wp2_with fail
  refine D.mono ?_
  rintro e w1 ⟨rfl, hb1⟩
  have lx1 : g < w1.heap.size := Nat.lt_of_lt_of_le lx hb1.size
  have hB := hb1.alloc hb1.size (.cells #[.int .i64 0, .int .i64 a0, .int .i64 a1, .int .i64 a2, .int .i64 a3, .int .i64 a4, .int .i64 a5, .int .i64 a6] 34)
  have x2 : At2 (w1.alloc (.cells #[.int .i64 0, .int .i64 a0, .int .i64 a1, .int .i64 a2, .int .i64 a3, .int .i64 a4, .int .i64 a5, .int .i64 a6] 34)) g 53 #[.int .i64 0, .slice SA sn sc, .slice SB sm sd, .int .i64 x, .slice R k kc, .int .i64 (p : Nat)] w1.heap.size 34 #[.int .i64 0, .int .i64 a0, .int .i64 a1, .int .i64 a2, .int .i64 a3, .int .i64 a4, .int .i64 a5, .int .i64 a6] := ⟨(hX.below hb1 lx).alloc _, At.new w1 34 #[.int .i64 0, .int .i64 a0, .int .i64 a1, .int .i64 a2, .int .i64 a3, .int .i64 a4, .int .i64 a5, .int .i64 a6]⟩
  have os2 := (os.below hb1 (Nat.le_refl _)).alloc (.cells #[.int .i64 0, .int .i64 a0, .int .i64 a1, .int .i64 a2, .int .i64 a3, .int .i64 a4, .int .i64 a5, .int .i64 a6] 34)
  have oh2 := (oh.below hb1 (Nat.le_refl _)).alloc (.cells #[.int .i64 0, .int .i64 a0, .int .i64 a1, .int .i64 a2, .int .i64 a3, .int .i64 a4, .int .i64 a5, .int .i64 a6] 34)
  have or2 := (or.below hb1 (Nat.le_refl _)).alloc (.cells #[.int .i64 0, .int .i64 a0, .int .i64 a1, .int .i64 a2, .int .i64 a3, .int .i64 a4, .int .i64 a5, .int .i64 a6] 34)
  have hF2 := hF.below hB
  have hS2 := hS.below hB hS.pos
  have hgw := hS.pos
  obtain ⟨c0, c1, c2, c3, c4, c5, c6, c7⟩ := x2.2.eightR
  have rs2 := os2.rd okS
  have rh2 := oh2.rd okH
  have lx2 := x2.lt
  have lgr : w1.heap.size < (w1.alloc (.cells #[.int .i64 0, .int .i64 a0, .int .i64 a1, .int .i64 a2, .int .i64 a3, .int .i64 a4, .int .i64 a5, .int .i64 a6] 34)).heap.size := by simp
  clear D hX os oh or hF hS hb1
  go_upto_region 4 with fail
  go_cut [6] (fun s wx => ∃ gx A5 n5 e5 B5 m5 h5, s = .pointer (some ⟨gx, 0, none⟩) ∧ At wx gx 43 #[.int .i64 z, .slice A5 n5 e5, .slice B5 m5 h5, .int .i64 tx] ∧ Ow eS wx (w1.alloc (.cells #[.int .i64 0, .int .i64 a0, .int .i64 a1, .int .i64 a2, .int .i64 a3, .int .i64 a4, .int .i64 a5, .int .i64 a6] 34)).heap.size A5 n5 e5 tl ∧ Ow eH wx (w1.alloc (.cells #[.int .i64 0, .int .i64 a0, .int .i64 a1, .int .i64 a2, .int .i64 a3, .int .i64 a4, .int .i64 a5, .int .i64 a6] 34)).heap.size B5 m5 h5 th ∧ Below (w1.alloc (.cells #[.int .i64 0, .int .i64 a0, .int .i64 a1, .int .i64 a2, .int .i64 a3, .int .i64 a4, .int .i64 a5, .int .i64 a6] 34)).heap.size (w1.alloc (.cells #[.int .i64 0, .int .i64 a0, .int .i64 a1, .int .i64 a2, .int .i64 a3, .int .i64 a4, .int .i64 a5, .int .i64 a6] 34)) wx)
  case first =>
    refine any_start (fun u => At2 u g 53 #[.int .i64 0, .slice SA sn sc, .slice SB sm sd, .int .i64 x, .slice R k kc, .int .i64 (p : Nat)] w1.heap.size 34 #[.int .i64 0, .int .i64 a0, .int .i64 a1, .int .i64 a2, .int .i64 a3, .int .i64 a4, .int .i64 a5, .int .i64 a6]) (by kernel_rfl) x2.drew (fun _ => ?_)
    have bxd := x2.drew
    have hBd := (Below.refl (w1.alloc (.cells #[.int .i64 0, .int .i64 a0, .int .i64 a1, .int .i64 a2, .int .i64 a3, .int .i64 a4, .int .i64 a5, .int .i64 a6] 34)).heap.size (w1.alloc (.cells #[.int .i64 0, .int .i64 a0, .int .i64 a1, .int .i64 a2, .int .i64 a3, .int .i64 a4, .int .i64 a5, .int .i64 a6] 34))).drew
    have rs2d : _ := rs2.lift ((Below.refl _ _).drew)
    have rh2d : _ := rh2.lift ((Below.refl _ _).drew)
    have hF2d := hF2.below ((Below.refl _ _).drew)
    refine any_pure (v := ?_) 0 rfl (by kernel_rfl) (fun _ _ _ _ _ h => h) (by rfl) (fun u hu => ?_) bxd ?_
    rotate_left
    · (obtain ⟨hu1, hu2⟩ := hu; obtain ⟨⟨_, _, _, _, _, _⟩, _⟩ := At.sixC hu1; obtain ⟨_, _, _, _, _, _, _, _⟩ := At.eightR hu2)
      go_simp
      (with_reducible rfl)
    (try simp only [Act.put, List.setIfInBounds_toArray, List.set_cons_zero, List.set_cons_succ])
    refine any_pure (v := ?_) 1 rfl (by kernel_rfl) (fun _ _ _ _ _ h => h) (by rfl) (fun u hu => ?_) bxd ?_
    rotate_left
    · (obtain ⟨hu1, hu2⟩ := hu; obtain ⟨⟨_, _, _, _, _, _⟩, _⟩ := At.sixC hu1; obtain ⟨_, _, _, _, _, _, _, _⟩ := At.eightR hu2)
      go_simp
      (with_reducible rfl)
    (try simp only [Act.put, List.setIfInBounds_toArray, List.set_cons_zero, List.set_cons_succ])
    refine any_pure (v := ?_) 2 rfl (by kernel_rfl) (fun _ _ _ _ _ h => h) (by rfl) (fun u hu => ?_) bxd ?_
    rotate_left
    · (obtain ⟨hu1, hu2⟩ := hu; obtain ⟨⟨_, _, _, _, _, _⟩, _⟩ := At.sixC hu1; obtain ⟨_, _, _, _, _, _, _, _⟩ := At.eightR hu2)
      go_simp
      (with_reducible rfl)
    (try simp only [Act.put, List.setIfInBounds_toArray, List.set_cons_zero, List.set_cons_succ])
    refine any_pure (v := ?_) 3 rfl (by kernel_rfl) (fun _ _ _ _ _ h => h) (by rfl) (fun u hu => ?_) bxd ?_
    rotate_left
    · (obtain ⟨hu1, hu2⟩ := hu; obtain ⟨⟨_, _, _, _, _, _⟩, _⟩ := At.sixC hu1; obtain ⟨_, _, _, _, _, _, _, _⟩ := At.eightR hu2)
      go_simp
      (with_reducible rfl)
    (try simp only [Act.put, List.setIfInBounds_toArray, List.set_cons_zero, List.set_cons_succ])
    refine any_pure (v := ?_) 4 rfl (by kernel_rfl) (fun _ _ _ _ _ h => h) (by rfl) (fun u hu => ?_) bxd ?_
    rotate_left
    · (obtain ⟨hu1, hu2⟩ := hu; obtain ⟨⟨_, _, _, _, _, _⟩, _⟩ := At.sixC hu1; obtain ⟨_, _, _, _, _, _, _, _⟩ := At.eightR hu2)
      go_simp
      (with_reducible rfl)
    (try simp only [Act.put, List.setIfInBounds_toArray, List.set_cons_zero, List.set_cons_succ])
    refine any_pure (v := ?_) 5 rfl (by kernel_rfl) (fun _ _ _ _ _ h => h) (by rfl) (fun u hu => ?_) bxd ?_
    rotate_left
    · (obtain ⟨hu1, hu2⟩ := hu; obtain ⟨⟨_, _, _, _, _, _⟩, _⟩ := At.sixC hu1; obtain ⟨_, _, _, _, _, _, _, _⟩ := At.eightR hu2)
      go_simp
      (with_reducible rfl)
    (try simp only [Act.put, List.setIfInBounds_toArray, List.set_cons_zero, List.set_cons_succ])
    refine any_two 6 7 rfl rfl (by kernel_rfl) (by rfl) (by rfl) ?_ ?_
    · go_simp
      refine (AP _ rs2d rh2d hF2d).mono ?_
      rintro e w101 ⟨A101, n101, c101, B101, m101, d101, rfl, ws101, wh101, hb101⟩
      have hB101 := hBd.trans (hb101.mono hBd.size)
      have bx101 := bxd.below hb101 bxd.lt
      have rs2_101 := rs2d.lift hb101
      have rh2_101 := rh2d.lift hb101
      have hF2_101 := hF2d.below hb101
      refine ⟨(fun u => At2 u g 53 #[.int .i64 0, .slice SA sn sc, .slice SB sm sd, .int .i64 x, .slice R k kc, .int .i64 (p : Nat)] w1.heap.size 34 #[.int .i64 0, .int .i64 a0, .int .i64 a1, .int .i64 a2, .int .i64 a3, .int .i64 a4, .int .i64 a5, .int .i64 a6]), fun _ h => h, bx101, ?_⟩
      (try simp only [Act.put, List.setIfInBounds_toArray, List.set_cons_zero, List.set_cons_succ])
      refine any_one 7 rfl (by kernel_rfl) (by rfl) ?_
      go_simp
      have ag102 := At.newAt' (w := w101) (t := 43) (cs := #[.int .i64 0, .slice none 0 0, .slice none 0 0, .int .i64 0]) (show w101.heap.size = w101.heap.size by first | rfl | simp)
      have gl102 : (w1.alloc (.cells #[.int .i64 0, .int .i64 a0, .int .i64 a1, .int .i64 a2, .int .i64 a3, .int .i64 a4, .int .i64 a5, .int .i64 a6] 34)).heap.size ≤ w101.heap.size := by first | exact hB101.size | exact Nat.le_refl _ | (have := hB101.size; simp at this ⊢; try omega)
      have hal102 := (Below.refl w101.heap.size w101).alloc (Nat.le_refl _) (.cells #[.int .i64 0, .slice none 0 0, .slice none 0 0, .int .i64 0] 43)
      have hB102 := hB101.alloc hB101.size (.cells #[.int .i64 0, .slice none 0 0, .slice none 0 0, .int .i64 0] 43)
      have bx102 := bx101.alloc (.cells #[.int .i64 0, .slice none 0 0, .slice none 0 0, .int .i64 0] 43)
      have ws_102 := ws101.alloc (.cells #[.int .i64 0, .slice none 0 0, .slice none 0 0, .int .i64 0] 43)
      have wh_102 := wh101.alloc (.cells #[.int .i64 0, .slice none 0 0, .slice none 0 0, .int .i64 0] 43)
      have rs2_102 := rs2_101.lift hal102
      have rh2_102 := rh2_101.lift hal102
      have hF2_102 := hF2_101.below hal102
      refine ⟨(fun u => At2 u g 53 #[.int .i64 0, .slice SA sn sc, .slice SB sm sd, .int .i64 x, .slice R k kc, .int .i64 (p : Nat)] w1.heap.size 34 #[.int .i64 0, .int .i64 a0, .int .i64 a1, .int .i64 a2, .int .i64 a3, .int .i64 a4, .int .i64 a5, .int .i64 a6]), fun _ h => h, bx102, ?_⟩
      (try simp only [Act.put, List.setIfInBounds_toArray, List.set_cons_zero, List.set_cons_succ])
      refine any_one 8 rfl (by kernel_rfl) (by rfl) ?_
      go_simp
      have AG103 := At.newAt' (w := w101) (t := 43) (cs := #[.int .i64 z, .slice A101 n101 c101, .slice B101 m101 d101, .int .i64 tx]) (show w101.heap.size = w101.heap.size by first | rfl | simp)
      have hal103 := (Below.refl w101.heap.size w101).alloc (Nat.le_refl _) (.cells #[.int .i64 z, .slice A101 n101 c101, .slice B101 m101 d101, .int .i64 tx] 43)
      have hB103 := hB101.alloc hB101.size (.cells #[.int .i64 z, .slice A101 n101 c101, .slice B101 m101 d101, .int .i64 tx] 43)
      have bx103 := bx101.alloc (.cells #[.int .i64 z, .slice A101 n101 c101, .slice B101 m101 d101, .int .i64 tx] 43)
      have ws_103 := ws101.alloc (.cells #[.int .i64 z, .slice A101 n101 c101, .slice B101 m101 d101, .int .i64 tx] 43)
      have wh_103 := wh101.alloc (.cells #[.int .i64 z, .slice A101 n101 c101, .slice B101 m101 d101, .int .i64 tx] 43)
      have rs2_103 := rs2_101.lift hal103
      have rh2_103 := rh2_101.lift hal103
      have hF2_103 := hF2_101.below hal103
      refine ⟨(fun u => At2 u g 53 #[.int .i64 0, .slice SA sn sc, .slice SB sm sd, .int .i64 x, .slice R k kc, .int .i64 (p : Nat)] w1.heap.size 34 #[.int .i64 0, .int .i64 a0, .int .i64 a1, .int .i64 a2, .int .i64 a3, .int .i64 a4, .int .i64 a5, .int .i64 a6]), fun _ h => h, bx103, ?_⟩
      (try simp only [Act.put, List.setIfInBounds_toArray, List.set_cons_zero, List.set_cons_succ])
      refine any_done (by kernel_rfl) ?_
      go_wp2
      go_meet
      exact ⟨_, _, _, _, _, _, _, rfl, AG103, ws_103.from_ hBd.size, wh_103.from_ hBd.size, hB103⟩
    · go_simp
      have ag104 := At.newAt' (w := (w1.alloc (.cells #[.int .i64 0, .int .i64 a0, .int .i64 a1, .int .i64 a2, .int .i64 a3, .int .i64 a4, .int .i64 a5, .int .i64 a6] 34)).drew) (t := 43) (cs := #[.int .i64 0, .slice none 0 0, .slice none 0 0, .int .i64 0]) (show (w1.alloc (.cells #[.int .i64 0, .int .i64 a0, .int .i64 a1, .int .i64 a2, .int .i64 a3, .int .i64 a4, .int .i64 a5, .int .i64 a6] 34)).drew.heap.size = (w1.heap.size + 1) by first | rfl | simp)
      have gl104 : (w1.alloc (.cells #[.int .i64 0, .int .i64 a0, .int .i64 a1, .int .i64 a2, .int .i64 a3, .int .i64 a4, .int .i64 a5, .int .i64 a6] 34)).heap.size ≤ (w1.heap.size + 1) := by first | exact hBd.size | exact Nat.le_refl _ | (have := hBd.size; simp at this ⊢; try omega)
      have hal104 := (Below.refl (w1.alloc (.cells #[.int .i64 0, .int .i64 a0, .int .i64 a1, .int .i64 a2, .int .i64 a3, .int .i64 a4, .int .i64 a5, .int .i64 a6] 34)).drew.heap.size (w1.alloc (.cells #[.int .i64 0, .int .i64 a0, .int .i64 a1, .int .i64 a2, .int .i64 a3, .int .i64 a4, .int .i64 a5, .int .i64 a6] 34)).drew).alloc (Nat.le_refl _) (.cells #[.int .i64 0, .slice none 0 0, .slice none 0 0, .int .i64 0] 43)
      have hB104 := hBd.alloc hBd.size (.cells #[.int .i64 0, .slice none 0 0, .slice none 0 0, .int .i64 0] 43)
      have bx104 := bxd.alloc (.cells #[.int .i64 0, .slice none 0 0, .slice none 0 0, .int .i64 0] 43)
      have rs2_104 := rs2d.lift hal104
      have rh2_104 := rh2d.lift hal104
      have hF2_104 := hF2d.below hal104
      refine ⟨(fun u => At2 u g 53 #[.int .i64 0, .slice SA sn sc, .slice SB sm sd, .int .i64 x, .slice R k kc, .int .i64 (p : Nat)] w1.heap.size 34 #[.int .i64 0, .int .i64 a0, .int .i64 a1, .int .i64 a2, .int .i64 a3, .int .i64 a4, .int .i64 a5, .int .i64 a6]), fun _ h => h, bx104, ?_⟩
      (try simp only [Act.put, List.setIfInBounds_toArray, List.set_cons_zero, List.set_cons_succ])
      refine any_one 6 rfl (by kernel_rfl) (by rfl) ?_
      go_simp
      refine (AP _ rs2_104 rh2_104 hF2_104).mono ?_
      rintro e w105 ⟨A105, n105, c105, B105, m105, d105, rfl, ws105, wh105, hb105⟩
      have hB105 := hB104.trans (hb105.mono hB104.size)
      have bx105 := bx104.below hb105 bx104.lt
      have ag_105 := ag104.below hb105 ag104.lt
      have rs2_105 := rs2_104.lift hb105
      have rh2_105 := rh2_104.lift hb105
      have hF2_105 := hF2_104.below hb105
      refine ⟨(fun u => At2 u g 53 #[.int .i64 0, .slice SA sn sc, .slice SB sm sd, .int .i64 x, .slice R k kc, .int .i64 (p : Nat)] w1.heap.size 34 #[.int .i64 0, .int .i64 a0, .int .i64 a1, .int .i64 a2, .int .i64 a3, .int .i64 a4, .int .i64 a5, .int .i64 a6]), fun _ h => h, bx105, ?_⟩
      (try simp only [Act.put, List.setIfInBounds_toArray, List.set_cons_zero, List.set_cons_succ])
      refine any_one 8 rfl (by kernel_rfl) (by rfl) ?_
      obtain ⟨k0, k1, k2, k3, k4, k5, k6, k7⟩ := ag_105.four
      go_simp
      have hltg106 : (w1.heap.size + 1) < w105.heap.size := ag_105.lt
      have AG106 : At ((((w105.setCell ⟨(w1.heap.size + 1), 0, none⟩ (.int .i64 z)).setCell ⟨(w1.heap.size + 1), 1, none⟩ (.slice A105 n105 c105)).setCell ⟨(w1.heap.size + 1), 2, none⟩ (.slice B105 m105 d105)).setCell ⟨(w1.heap.size + 1), 3, none⟩ (.int .i64 tx)) (w1.heap.size + 1) 43 #[.int .i64 z, .slice A105 n105 c105, .slice B105 m105 d105, .int .i64 tx] := ((((ag_105.set 0 (.int .i64 z)).set 1 (.slice A105 n105 c105)).set 2 (.slice B105 m105 d105)).set 3 (.int .i64 tx))
      have bx106 := ((((bx105.far (p := ⟨(w1.heap.size + 1), 0, none⟩) (by show g ≠ (w1.heap.size + 1) ∧ w1.heap.size ≠ (w1.heap.size + 1); have := gl104; omega) (.int .i64 z)).far (p := ⟨(w1.heap.size + 1), 1, none⟩) (by show g ≠ (w1.heap.size + 1) ∧ w1.heap.size ≠ (w1.heap.size + 1); have := gl104; omega) (.slice A105 n105 c105)).far (p := ⟨(w1.heap.size + 1), 2, none⟩) (by show g ≠ (w1.heap.size + 1) ∧ w1.heap.size ≠ (w1.heap.size + 1); have := gl104; omega) (.slice B105 m105 d105)).far (p := ⟨(w1.heap.size + 1), 3, none⟩) (by show g ≠ (w1.heap.size + 1) ∧ w1.heap.size ≠ (w1.heap.size + 1); have := gl104; omega) (.int .i64 tx))
      have hB106 := ((((hB105.setCell (p := ⟨(w1.heap.size + 1), 0, none⟩) gl104 (.int .i64 z)).setCell (p := ⟨(w1.heap.size + 1), 1, none⟩) gl104 (.slice A105 n105 c105)).setCell (p := ⟨(w1.heap.size + 1), 2, none⟩) gl104 (.slice B105 m105 d105)).setCell (p := ⟨(w1.heap.size + 1), 3, none⟩) gl104 (.int .i64 tx))
      have ws_106 := ws105
      have ws_106 := ws_106.apart (by decide) ag_105 0 (.int .i64 z)
      have ws_106 := ws_106.apart (by decide) ((ag_105.set 0 (.int .i64 z))) 1 (.slice A105 n105 c105)
      have ws_106 := ws_106.apart (by decide) (((ag_105.set 0 (.int .i64 z)).set 1 (.slice A105 n105 c105))) 2 (.slice B105 m105 d105)
      have ws_106 := ws_106.apart (by decide) ((((ag_105.set 0 (.int .i64 z)).set 1 (.slice A105 n105 c105)).set 2 (.slice B105 m105 d105))) 3 (.int .i64 tx)
      have wh_106 := wh105
      have wh_106 := wh_106.apart (by decide) ag_105 0 (.int .i64 z)
      have wh_106 := wh_106.apart (by decide) ((ag_105.set 0 (.int .i64 z))) 1 (.slice A105 n105 c105)
      have wh_106 := wh_106.apart (by decide) (((ag_105.set 0 (.int .i64 z)).set 1 (.slice A105 n105 c105))) 2 (.slice B105 m105 d105)
      have wh_106 := wh_106.apart (by decide) ((((ag_105.set 0 (.int .i64 z)).set 1 (.slice A105 n105 c105)).set 2 (.slice B105 m105 d105))) 3 (.int .i64 tx)
      refine ⟨(fun u => At2 u g 53 #[.int .i64 0, .slice SA sn sc, .slice SB sm sd, .int .i64 x, .slice R k kc, .int .i64 (p : Nat)] w1.heap.size 34 #[.int .i64 0, .int .i64 a0, .int .i64 a1, .int .i64 a2, .int .i64 a3, .int .i64 a4, .int .i64 a5, .int .i64 a6]), fun _ h => h, bx106, ?_⟩
      (try simp only [Act.put, List.setIfInBounds_toArray, List.set_cons_zero, List.set_cons_succ])
      refine any_done (by kernel_rfl) ?_
      go_wp2
      go_meet
      exact ⟨_, _, _, _, _, _, _, rfl, AG106, ws_106.from_ hB104.size, wh_106.from_ hB104.size, hB106⟩
  case rest =>
    obtain ⟨gx, A5, n5, e5, B5, m5, h5, rfl, AX, OA, OB, HB⟩ := hcut
    rename World => wx
    have hSx : wx.cell? ⟨0, 0, none⟩ = some (.iface 276 (.pointer (some a))) := hS2.below HB hS2.pos
    obtain ⟨g0, g1, g2, g3, _, _, _, _⟩ := AX.four
    go_wp2
    go_ret
    exact ⟨rfl, hB.trans (HB.mono hB.size)⟩

set_option maxHeartbeats 8000000 in
/-- A record that is applied. -/
theorem say_done (g : Nat) (A : Option Addr) (n c : Nat) (b : List UInt8) (a : Addr) (SA SB R : Option Addr) (sn sc sm sd k kc p : Nat) (l : List Smp) (h : List Hnt) (x : Int) (rs : List Rcd) (a0 a1 a2 a3 a4 a5 a6 : Int) (w : World)
    (hX : At w g 53 #[.int .i64 0, .slice SA sn sc, .slice SB sm sd, .int .i64 x, .slice R k kc, .int .i64 (p : Nat)]) (os : Ow eS w g SA sn sc l) (oh : Ow eH w g SB sm sd h) (or : Ow eR w g R k kc rs) (ha : Rd eB w w.heap.size A b) (hn : b.length = n) (hc : n ≤ c) (hcm : c ≤ maxLen) (hF : Flds w) (hS : Sent w a) (hd : decodeRecM b = (0, (a0, a1, (a2, a3, a4, a5), a6))) (hap : (applyM (l, h, x) (a0, a1, (a2, a3, a4, a5), a6)).1 = 0) (hk : k ≤ 100000) (hp : p ≤ 100000000) (hn4 : n ≤ 1000) :
    Calls Tryz.prog 71 #[.pointer (some ⟨g, 0, none⟩), .slice A n c] w fun e w' => e = .returned .nilIface ∧ DskAt w' g (applyM (l, h, x) (a0, a1, (a2, a3, a4, a5), a6)).2 (rs ++ [(a0, a1, (a2, a3, a4, a5), a6)]) (p + n + 3) ∧ Below g w w' := by
  have D := implDecodeRecord A n c b w ha hn hc hcm hF
  rw [hd] at D
  have lx := hX.lt
  have AP := fun W r1 r2 hFW => implApplyRecord SA SB sn sc sm sd l h x a0 a1 a2 a3 a4 a5 a6 W r1 r2 (os.len okS) (oh.len okH) hFW
  rcases hq : applyM (l, h, x) (a0, a1, (a2, a3, a4, a5), a6) with ⟨z, tl, th, tx⟩
  rw [hq] at AP hap
  obtain rfl : z = 0 := hap
  clear hq hd hn ha
  go_enter Tryz.func71, Tryz.ntmps71
  go_wp2_with fail
  refine D.mono ?_
  rintro e w1 ⟨rfl, hb1⟩
  have lx1 : g < w1.heap.size := Nat.lt_of_lt_of_le lx hb1.size
  have hB := hb1.alloc hb1.size (.cells #[.int .i64 0, .int .i64 a0, .int .i64 a1, .int .i64 a2, .int .i64 a3, .int .i64 a4, .int .i64 a5, .int .i64 a6] 34)
  have x2 : At2 (w1.alloc (.cells #[.int .i64 0, .int .i64 a0, .int .i64 a1, .int .i64 a2, .int .i64 a3, .int .i64 a4, .int .i64 a5, .int .i64 a6] 34)) g 53 #[.int .i64 0, .slice SA sn sc, .slice SB sm sd, .int .i64 x, .slice R k kc, .int .i64 (p : Nat)] w1.heap.size 34 #[.int .i64 0, .int .i64 a0, .int .i64 a1, .int .i64 a2, .int .i64 a3, .int .i64 a4, .int .i64 a5, .int .i64 a6] := ⟨(hX.below hb1 lx).alloc _, At.new w1 34 #[.int .i64 0, .int .i64 a0, .int .i64 a1, .int .i64 a2, .int .i64 a3, .int .i64 a4, .int .i64 a5, .int .i64 a6]⟩
  have os2 := (os.below hb1 (Nat.le_refl _)).alloc (.cells #[.int .i64 0, .int .i64 a0, .int .i64 a1, .int .i64 a2, .int .i64 a3, .int .i64 a4, .int .i64 a5, .int .i64 a6] 34)
  have oh2 := (oh.below hb1 (Nat.le_refl _)).alloc (.cells #[.int .i64 0, .int .i64 a0, .int .i64 a1, .int .i64 a2, .int .i64 a3, .int .i64 a4, .int .i64 a5, .int .i64 a6] 34)
  have or2 := (or.below hb1 (Nat.le_refl _)).alloc (.cells #[.int .i64 0, .int .i64 a0, .int .i64 a1, .int .i64 a2, .int .i64 a3, .int .i64 a4, .int .i64 a5, .int .i64 a6] 34)
  have hF2 := hF.below hB
  have hS2 := hS.below hB hS.pos
  have hgw := hS.pos
  obtain ⟨c0, c1, c2, c3, c4, c5, c6, c7⟩ := x2.2.eightR
  have rs2 := os2.rd okS
  have rh2 := oh2.rd okH
  have lx2 := x2.lt
  have lgr : w1.heap.size < (w1.alloc (.cells #[.int .i64 0, .int .i64 a0, .int .i64 a1, .int .i64 a2, .int .i64 a3, .int .i64 a4, .int .i64 a5, .int .i64 a6] 34)).heap.size := by simp
  clear D hX os oh or hF hS hb1
  go_upto_region 4 with fail
  go_cut [6] (fun s wx => ∃ gx A5 n5 e5 B5 m5 h5, s = .pointer (some ⟨gx, 0, none⟩) ∧ At wx gx 43 #[.int .i64 0, .slice A5 n5 e5, .slice B5 m5 h5, .int .i64 tx] ∧ Ow eS wx (w1.alloc (.cells #[.int .i64 0, .int .i64 a0, .int .i64 a1, .int .i64 a2, .int .i64 a3, .int .i64 a4, .int .i64 a5, .int .i64 a6] 34)).heap.size A5 n5 e5 tl ∧ Ow eH wx (w1.alloc (.cells #[.int .i64 0, .int .i64 a0, .int .i64 a1, .int .i64 a2, .int .i64 a3, .int .i64 a4, .int .i64 a5, .int .i64 a6] 34)).heap.size B5 m5 h5 th ∧ Below (w1.alloc (.cells #[.int .i64 0, .int .i64 a0, .int .i64 a1, .int .i64 a2, .int .i64 a3, .int .i64 a4, .int .i64 a5, .int .i64 a6] 34)).heap.size (w1.alloc (.cells #[.int .i64 0, .int .i64 a0, .int .i64 a1, .int .i64 a2, .int .i64 a3, .int .i64 a4, .int .i64 a5, .int .i64 a6] 34)) wx)
  case first =>
    refine any_start (fun u => At2 u g 53 #[.int .i64 0, .slice SA sn sc, .slice SB sm sd, .int .i64 x, .slice R k kc, .int .i64 (p : Nat)] w1.heap.size 34 #[.int .i64 0, .int .i64 a0, .int .i64 a1, .int .i64 a2, .int .i64 a3, .int .i64 a4, .int .i64 a5, .int .i64 a6]) (by kernel_rfl) x2.drew (fun _ => ?_)
    have bxd := x2.drew
    have hBd := (Below.refl (w1.alloc (.cells #[.int .i64 0, .int .i64 a0, .int .i64 a1, .int .i64 a2, .int .i64 a3, .int .i64 a4, .int .i64 a5, .int .i64 a6] 34)).heap.size (w1.alloc (.cells #[.int .i64 0, .int .i64 a0, .int .i64 a1, .int .i64 a2, .int .i64 a3, .int .i64 a4, .int .i64 a5, .int .i64 a6] 34))).drew
    have rs2d : _ := rs2.lift ((Below.refl _ _).drew)
    have rh2d : _ := rh2.lift ((Below.refl _ _).drew)
    have hF2d := hF2.below ((Below.refl _ _).drew)
    refine any_pure (v := ?_) 0 rfl (by kernel_rfl) (fun _ _ _ _ _ h => h) (by rfl) (fun u hu => ?_) bxd ?_
    rotate_left
    · (obtain ⟨hu1, hu2⟩ := hu; obtain ⟨⟨_, _, _, _, _, _⟩, _⟩ := At.sixC hu1; obtain ⟨_, _, _, _, _, _, _, _⟩ := At.eightR hu2)
      go_simp
      (with_reducible rfl)
    (try simp only [Act.put, List.setIfInBounds_toArray, List.set_cons_zero, List.set_cons_succ])
    refine any_pure (v := ?_) 1 rfl (by kernel_rfl) (fun _ _ _ _ _ h => h) (by rfl) (fun u hu => ?_) bxd ?_
    rotate_left
    · (obtain ⟨hu1, hu2⟩ := hu; obtain ⟨⟨_, _, _, _, _, _⟩, _⟩ := At.sixC hu1; obtain ⟨_, _, _, _, _, _, _, _⟩ := At.eightR hu2)
      go_simp
      (with_reducible rfl)
    (try simp only [Act.put, List.setIfInBounds_toArray, List.set_cons_zero, List.set_cons_succ])
    refine any_pure (v := ?_) 2 rfl (by kernel_rfl) (fun _ _ _ _ _ h => h) (by rfl) (fun u hu => ?_) bxd ?_
    rotate_left
    · (obtain ⟨hu1, hu2⟩ := hu; obtain ⟨⟨_, _, _, _, _, _⟩, _⟩ := At.sixC hu1; obtain ⟨_, _, _, _, _, _, _, _⟩ := At.eightR hu2)
      go_simp
      (with_reducible rfl)
    (try simp only [Act.put, List.setIfInBounds_toArray, List.set_cons_zero, List.set_cons_succ])
    refine any_pure (v := ?_) 3 rfl (by kernel_rfl) (fun _ _ _ _ _ h => h) (by rfl) (fun u hu => ?_) bxd ?_
    rotate_left
    · (obtain ⟨hu1, hu2⟩ := hu; obtain ⟨⟨_, _, _, _, _, _⟩, _⟩ := At.sixC hu1; obtain ⟨_, _, _, _, _, _, _, _⟩ := At.eightR hu2)
      go_simp
      (with_reducible rfl)
    (try simp only [Act.put, List.setIfInBounds_toArray, List.set_cons_zero, List.set_cons_succ])
    refine any_pure (v := ?_) 4 rfl (by kernel_rfl) (fun _ _ _ _ _ h => h) (by rfl) (fun u hu => ?_) bxd ?_
    rotate_left
    · (obtain ⟨hu1, hu2⟩ := hu; obtain ⟨⟨_, _, _, _, _, _⟩, _⟩ := At.sixC hu1; obtain ⟨_, _, _, _, _, _, _, _⟩ := At.eightR hu2)
      go_simp
      (with_reducible rfl)
    (try simp only [Act.put, List.setIfInBounds_toArray, List.set_cons_zero, List.set_cons_succ])
    refine any_pure (v := ?_) 5 rfl (by kernel_rfl) (fun _ _ _ _ _ h => h) (by rfl) (fun u hu => ?_) bxd ?_
    rotate_left
    · (obtain ⟨hu1, hu2⟩ := hu; obtain ⟨⟨_, _, _, _, _, _⟩, _⟩ := At.sixC hu1; obtain ⟨_, _, _, _, _, _, _, _⟩ := At.eightR hu2)
      go_simp
      (with_reducible rfl)
    (try simp only [Act.put, List.setIfInBounds_toArray, List.set_cons_zero, List.set_cons_succ])
    refine any_two 6 7 rfl rfl (by kernel_rfl) (by rfl) (by rfl) ?_ ?_
    · go_simp
      refine (AP _ rs2d rh2d hF2d).mono ?_
      rintro e w101 ⟨A101, n101, c101, B101, m101, d101, rfl, ws101, wh101, hb101⟩
      have hB101 := hBd.trans (hb101.mono hBd.size)
      have bx101 := bxd.below hb101 bxd.lt
      have rs2_101 := rs2d.lift hb101
      have rh2_101 := rh2d.lift hb101
      have hF2_101 := hF2d.below hb101
      refine ⟨(fun u => At2 u g 53 #[.int .i64 0, .slice SA sn sc, .slice SB sm sd, .int .i64 x, .slice R k kc, .int .i64 (p : Nat)] w1.heap.size 34 #[.int .i64 0, .int .i64 a0, .int .i64 a1, .int .i64 a2, .int .i64 a3, .int .i64 a4, .int .i64 a5, .int .i64 a6]), fun _ h => h, bx101, ?_⟩
      (try simp only [Act.put, List.setIfInBounds_toArray, List.set_cons_zero, List.set_cons_succ])
      refine any_one 7 rfl (by kernel_rfl) (by rfl) ?_
      go_simp
      have ag102 := At.newAt' (w := w101) (t := 43) (cs := #[.int .i64 0, .slice none 0 0, .slice none 0 0, .int .i64 0]) (show w101.heap.size = w101.heap.size by first | rfl | simp)
      have gl102 : (w1.alloc (.cells #[.int .i64 0, .int .i64 a0, .int .i64 a1, .int .i64 a2, .int .i64 a3, .int .i64 a4, .int .i64 a5, .int .i64 a6] 34)).heap.size ≤ w101.heap.size := by first | exact hB101.size | exact Nat.le_refl _ | (have := hB101.size; simp at this ⊢; try omega)
      have hal102 := (Below.refl w101.heap.size w101).alloc (Nat.le_refl _) (.cells #[.int .i64 0, .slice none 0 0, .slice none 0 0, .int .i64 0] 43)
      have hB102 := hB101.alloc hB101.size (.cells #[.int .i64 0, .slice none 0 0, .slice none 0 0, .int .i64 0] 43)
      have bx102 := bx101.alloc (.cells #[.int .i64 0, .slice none 0 0, .slice none 0 0, .int .i64 0] 43)
      have ws_102 := ws101.alloc (.cells #[.int .i64 0, .slice none 0 0, .slice none 0 0, .int .i64 0] 43)
      have wh_102 := wh101.alloc (.cells #[.int .i64 0, .slice none 0 0, .slice none 0 0, .int .i64 0] 43)
      have rs2_102 := rs2_101.lift hal102
      have rh2_102 := rh2_101.lift hal102
      have hF2_102 := hF2_101.below hal102
      refine ⟨(fun u => At2 u g 53 #[.int .i64 0, .slice SA sn sc, .slice SB sm sd, .int .i64 x, .slice R k kc, .int .i64 (p : Nat)] w1.heap.size 34 #[.int .i64 0, .int .i64 a0, .int .i64 a1, .int .i64 a2, .int .i64 a3, .int .i64 a4, .int .i64 a5, .int .i64 a6]), fun _ h => h, bx102, ?_⟩
      (try simp only [Act.put, List.setIfInBounds_toArray, List.set_cons_zero, List.set_cons_succ])
      refine any_one 8 rfl (by kernel_rfl) (by rfl) ?_
      go_simp
      have AG103 := At.newAt' (w := w101) (t := 43) (cs := #[.int .i64 0, .slice A101 n101 c101, .slice B101 m101 d101, .int .i64 tx]) (show w101.heap.size = w101.heap.size by first | rfl | simp)
      have hal103 := (Below.refl w101.heap.size w101).alloc (Nat.le_refl _) (.cells #[.int .i64 0, .slice A101 n101 c101, .slice B101 m101 d101, .int .i64 tx] 43)
      have hB103 := hB101.alloc hB101.size (.cells #[.int .i64 0, .slice A101 n101 c101, .slice B101 m101 d101, .int .i64 tx] 43)
      have bx103 := bx101.alloc (.cells #[.int .i64 0, .slice A101 n101 c101, .slice B101 m101 d101, .int .i64 tx] 43)
      have ws_103 := ws101.alloc (.cells #[.int .i64 0, .slice A101 n101 c101, .slice B101 m101 d101, .int .i64 tx] 43)
      have wh_103 := wh101.alloc (.cells #[.int .i64 0, .slice A101 n101 c101, .slice B101 m101 d101, .int .i64 tx] 43)
      have rs2_103 := rs2_101.lift hal103
      have rh2_103 := rh2_101.lift hal103
      have hF2_103 := hF2_101.below hal103
      refine ⟨(fun u => At2 u g 53 #[.int .i64 0, .slice SA sn sc, .slice SB sm sd, .int .i64 x, .slice R k kc, .int .i64 (p : Nat)] w1.heap.size 34 #[.int .i64 0, .int .i64 a0, .int .i64 a1, .int .i64 a2, .int .i64 a3, .int .i64 a4, .int .i64 a5, .int .i64 a6]), fun _ h => h, bx103, ?_⟩
      (try simp only [Act.put, List.setIfInBounds_toArray, List.set_cons_zero, List.set_cons_succ])
      refine any_done (by kernel_rfl) ?_
      go_wp2
      go_meet
      exact ⟨_, _, _, _, _, _, _, rfl, AG103, ws_103.from_ hBd.size, wh_103.from_ hBd.size, hB103⟩
    · go_simp
      have ag104 := At.newAt' (w := (w1.alloc (.cells #[.int .i64 0, .int .i64 a0, .int .i64 a1, .int .i64 a2, .int .i64 a3, .int .i64 a4, .int .i64 a5, .int .i64 a6] 34)).drew) (t := 43) (cs := #[.int .i64 0, .slice none 0 0, .slice none 0 0, .int .i64 0]) (show (w1.alloc (.cells #[.int .i64 0, .int .i64 a0, .int .i64 a1, .int .i64 a2, .int .i64 a3, .int .i64 a4, .int .i64 a5, .int .i64 a6] 34)).drew.heap.size = (w1.heap.size + 1) by first | rfl | simp)
      have gl104 : (w1.alloc (.cells #[.int .i64 0, .int .i64 a0, .int .i64 a1, .int .i64 a2, .int .i64 a3, .int .i64 a4, .int .i64 a5, .int .i64 a6] 34)).heap.size ≤ (w1.heap.size + 1) := by first | exact hBd.size | exact Nat.le_refl _ | (have := hBd.size; simp at this ⊢; try omega)
      have hal104 := (Below.refl (w1.alloc (.cells #[.int .i64 0, .int .i64 a0, .int .i64 a1, .int .i64 a2, .int .i64 a3, .int .i64 a4, .int .i64 a5, .int .i64 a6] 34)).drew.heap.size (w1.alloc (.cells #[.int .i64 0, .int .i64 a0, .int .i64 a1, .int .i64 a2, .int .i64 a3, .int .i64 a4, .int .i64 a5, .int .i64 a6] 34)).drew).alloc (Nat.le_refl _) (.cells #[.int .i64 0, .slice none 0 0, .slice none 0 0, .int .i64 0] 43)
      have hB104 := hBd.alloc hBd.size (.cells #[.int .i64 0, .slice none 0 0, .slice none 0 0, .int .i64 0] 43)
      have bx104 := bxd.alloc (.cells #[.int .i64 0, .slice none 0 0, .slice none 0 0, .int .i64 0] 43)
      have rs2_104 := rs2d.lift hal104
      have rh2_104 := rh2d.lift hal104
      have hF2_104 := hF2d.below hal104
      refine ⟨(fun u => At2 u g 53 #[.int .i64 0, .slice SA sn sc, .slice SB sm sd, .int .i64 x, .slice R k kc, .int .i64 (p : Nat)] w1.heap.size 34 #[.int .i64 0, .int .i64 a0, .int .i64 a1, .int .i64 a2, .int .i64 a3, .int .i64 a4, .int .i64 a5, .int .i64 a6]), fun _ h => h, bx104, ?_⟩
      (try simp only [Act.put, List.setIfInBounds_toArray, List.set_cons_zero, List.set_cons_succ])
      refine any_one 6 rfl (by kernel_rfl) (by rfl) ?_
      go_simp
      refine (AP _ rs2_104 rh2_104 hF2_104).mono ?_
      rintro e w105 ⟨A105, n105, c105, B105, m105, d105, rfl, ws105, wh105, hb105⟩
      have hB105 := hB104.trans (hb105.mono hB104.size)
      have bx105 := bx104.below hb105 bx104.lt
      have ag_105 := ag104.below hb105 ag104.lt
      have rs2_105 := rs2_104.lift hb105
      have rh2_105 := rh2_104.lift hb105
      have hF2_105 := hF2_104.below hb105
      refine ⟨(fun u => At2 u g 53 #[.int .i64 0, .slice SA sn sc, .slice SB sm sd, .int .i64 x, .slice R k kc, .int .i64 (p : Nat)] w1.heap.size 34 #[.int .i64 0, .int .i64 a0, .int .i64 a1, .int .i64 a2, .int .i64 a3, .int .i64 a4, .int .i64 a5, .int .i64 a6]), fun _ h => h, bx105, ?_⟩
      (try simp only [Act.put, List.setIfInBounds_toArray, List.set_cons_zero, List.set_cons_succ])
      refine any_one 8 rfl (by kernel_rfl) (by rfl) ?_
      obtain ⟨k0, k1, k2, k3, k4, k5, k6, k7⟩ := ag_105.four
      go_simp
      have hltg106 : (w1.heap.size + 1) < w105.heap.size := ag_105.lt
      have AG106 : At ((((w105.setCell ⟨(w1.heap.size + 1), 0, none⟩ (.int .i64 0)).setCell ⟨(w1.heap.size + 1), 1, none⟩ (.slice A105 n105 c105)).setCell ⟨(w1.heap.size + 1), 2, none⟩ (.slice B105 m105 d105)).setCell ⟨(w1.heap.size + 1), 3, none⟩ (.int .i64 tx)) (w1.heap.size + 1) 43 #[.int .i64 0, .slice A105 n105 c105, .slice B105 m105 d105, .int .i64 tx] := ((((ag_105.set 0 (.int .i64 0)).set 1 (.slice A105 n105 c105)).set 2 (.slice B105 m105 d105)).set 3 (.int .i64 tx))
      have bx106 := ((((bx105.far (p := ⟨(w1.heap.size + 1), 0, none⟩) (by show g ≠ (w1.heap.size + 1) ∧ w1.heap.size ≠ (w1.heap.size + 1); have := gl104; omega) (.int .i64 0)).far (p := ⟨(w1.heap.size + 1), 1, none⟩) (by show g ≠ (w1.heap.size + 1) ∧ w1.heap.size ≠ (w1.heap.size + 1); have := gl104; omega) (.slice A105 n105 c105)).far (p := ⟨(w1.heap.size + 1), 2, none⟩) (by show g ≠ (w1.heap.size + 1) ∧ w1.heap.size ≠ (w1.heap.size + 1); have := gl104; omega) (.slice B105 m105 d105)).far (p := ⟨(w1.heap.size + 1), 3, none⟩) (by show g ≠ (w1.heap.size + 1) ∧ w1.heap.size ≠ (w1.heap.size + 1); have := gl104; omega) (.int .i64 tx))
      have hB106 := ((((hB105.setCell (p := ⟨(w1.heap.size + 1), 0, none⟩) gl104 (.int .i64 0)).setCell (p := ⟨(w1.heap.size + 1), 1, none⟩) gl104 (.slice A105 n105 c105)).setCell (p := ⟨(w1.heap.size + 1), 2, none⟩) gl104 (.slice B105 m105 d105)).setCell (p := ⟨(w1.heap.size + 1), 3, none⟩) gl104 (.int .i64 tx))
      have ws_106 := ws105
      have ws_106 := ws_106.apart (by decide) ag_105 0 (.int .i64 0)
      have ws_106 := ws_106.apart (by decide) ((ag_105.set 0 (.int .i64 0))) 1 (.slice A105 n105 c105)
      have ws_106 := ws_106.apart (by decide) (((ag_105.set 0 (.int .i64 0)).set 1 (.slice A105 n105 c105))) 2 (.slice B105 m105 d105)
      have ws_106 := ws_106.apart (by decide) ((((ag_105.set 0 (.int .i64 0)).set 1 (.slice A105 n105 c105)).set 2 (.slice B105 m105 d105))) 3 (.int .i64 tx)
      have wh_106 := wh105
      have wh_106 := wh_106.apart (by decide) ag_105 0 (.int .i64 0)
      have wh_106 := wh_106.apart (by decide) ((ag_105.set 0 (.int .i64 0))) 1 (.slice A105 n105 c105)
      have wh_106 := wh_106.apart (by decide) (((ag_105.set 0 (.int .i64 0)).set 1 (.slice A105 n105 c105))) 2 (.slice B105 m105 d105)
      have wh_106 := wh_106.apart (by decide) ((((ag_105.set 0 (.int .i64 0)).set 1 (.slice A105 n105 c105)).set 2 (.slice B105 m105 d105))) 3 (.int .i64 tx)
      refine ⟨(fun u => At2 u g 53 #[.int .i64 0, .slice SA sn sc, .slice SB sm sd, .int .i64 x, .slice R k kc, .int .i64 (p : Nat)] w1.heap.size 34 #[.int .i64 0, .int .i64 a0, .int .i64 a1, .int .i64 a2, .int .i64 a3, .int .i64 a4, .int .i64 a5, .int .i64 a6]), fun _ h => h, bx106, ?_⟩
      (try simp only [Act.put, List.setIfInBounds_toArray, List.set_cons_zero, List.set_cons_succ])
      refine any_done (by kernel_rfl) ?_
      go_wp2
      go_meet
      exact ⟨_, _, _, _, _, _, _, rfl, AG106, ws_106.from_ hB104.size, wh_106.from_ hB104.size, hB106⟩
  case rest =>
    obtain ⟨gx, A5, n5, e5, B5, m5, h5, rfl, AX, OA, OB, HB⟩ := hcut
    rename World => wx
    have X3 := x2.1.below HB lx2.1
    have Y3 := x2.2.below HB lx2.2
    have or3 := or2.below HB (Nat.le_refl _)
    obtain ⟨g0, g1, g2, g3, _, _, _, _⟩ := AX.four
    obtain ⟨⟨d0, d1, d2, d3, d4, d5⟩, df0, df1, df2, df3, df4, df5⟩ := X3.sixC
    have hgrlt : g < w1.heap.size := lx1
    have hgx : ¬ g = gx := by
      intro e
      subst e
      have := X3.symm.trans AX
      simp at this
    have hgr2 : ¬ w1.heap.size = g := by
      intro e
      subst e
      have := X3.symm.trans Y3
      simp at this
    have hB3 := hB.trans (HB.mono hB.size)
    have X4 : At (((wx.setCell ⟨g, 1, none⟩ (.slice A5 n5 e5)).setCell ⟨g, 2, none⟩ (.slice B5 m5 h5)).setCell ⟨g, 3, none⟩ (.int .i64 tx)) g 53 #[.int .i64 0, .slice A5 n5 e5, .slice B5 m5 h5, .int .i64 tx, .slice R k kc, .int .i64 (p : Nat)] := ((X3.set 1 (.slice A5 n5 e5)).set 2 (.slice B5 m5 h5)).set 3 (.int .i64 tx)
    have Y4 : At (((wx.setCell ⟨g, 1, none⟩ (.slice A5 n5 e5)).setCell ⟨g, 2, none⟩ (.slice B5 m5 h5)).setCell ⟨g, 3, none⟩ (.int .i64 tx)) w1.heap.size 34 #[.int .i64 0, .int .i64 a0, .int .i64 a1, .int .i64 a2, .int .i64 a3, .int .i64 a4, .int .i64 a5, .int .i64 a6] := ((Y3.far hgr2 _).far hgr2 _).far hgr2 _
    have OA4 := (((OA.apart (by decide) X3 1 (.slice A5 n5 e5)).apart (by decide) (X3.set 1 (.slice A5 n5 e5)) 2 (.slice B5 m5 h5)).apart (by decide) ((X3.set 1 (.slice A5 n5 e5)).set 2 (.slice B5 m5 h5)) 3 (.int .i64 tx)).from_ (base' := g) (by omega)
    have OB4 := (((OB.apart (by decide) X3 1 (.slice A5 n5 e5)).apart (by decide) (X3.set 1 (.slice A5 n5 e5)) 2 (.slice B5 m5 h5)).apart (by decide) ((X3.set 1 (.slice A5 n5 e5)).set 2 (.slice B5 m5 h5)) 3 (.int .i64 tx)).from_ (base' := g) (by omega)
    have OR4 := ((or3.apart (by decide) X3 1 (.slice A5 n5 e5)).apart (by decide) (X3.set 1 (.slice A5 n5 e5)) 2 (.slice B5 m5 h5)).apart (by decide) ((X3.set 1 (.slice A5 n5 e5)).set 2 (.slice B5 m5 h5)) 3 (.int .i64 tx)
    have hB4 : Below g w (((wx.setCell ⟨g, 1, none⟩ (.slice A5 n5 e5)).setCell ⟨g, 2, none⟩ (.slice B5 m5 h5)).setCell ⟨g, 3, none⟩ (.int .i64 tx)) := (((hB3.mono (Nat.le_of_lt lx)).setCell (p := ⟨g, 1, none⟩) (Nat.le_refl _) _).setCell (p := ⟨g, 2, none⟩) (Nat.le_refl _) _).setCell (p := ⟨g, 3, none⟩) (Nat.le_refl _) _
    go_wp2
    generalize (((wx.setCell ⟨g, 1, none⟩ (.slice A5 n5 e5)).setCell ⟨g, 2, none⟩ (.slice B5 m5 h5)).setCell ⟨g, 3, none⟩ (.int .i64 tx)) = w4 at *
    have l4 := X4.lt
    clear X3 Y3 or3 d0 d1 d2 d3 d4 d5 df0 df1 df2 df3 df4 df5 g0 g1 g2 g3 c0 c1 c2 c3 c4 c5 c6 c7
    refine any_start (fun u => At u w1.heap.size 34 #[.int .i64 0, .int .i64 a0, .int .i64 a1, .int .i64 a2, .int .i64 a3, .int .i64 a4, .int .i64 a5, .int .i64 a6]) (by kernel_rfl) Y4.drew (fun _ => ?_)
    have Yd : At w4.drew w1.heap.size 34 #[.int .i64 0, .int .i64 a0, .int .i64 a1, .int .i64 a2, .int .i64 a3, .int .i64 a4, .int .i64 a5, .int .i64 a6] := Y4.drew
    have Xd : At w4.drew g 53 #[.int .i64 0, .slice A5 n5 e5, .slice B5 m5 h5, .int .i64 tx, .slice R k kc, .int .i64 (p : Nat)] := X4.drew
    have or4 : Ow eR w4.drew g R k kc rs := OR4
    have oa4 : Ow eS w4.drew g A5 n5 e5 tl := OA4
    have ob4 : Ow eH w4.drew g B5 m5 h5 th := OB4
    have hBd : Below g w w4.drew := hB4.drew
    clear X4 Y4 OR4 OA4 OB4 hB4
    generalize w4.drew = v4 at *
    refine any_pure (v := ?_) 0 rfl (by kernel_rfl) (fun _ _ _ _ _ h => h) (by rfl) (fun u hu => ?_) Yd ?_
    rotate_left
    · (obtain ⟨_, _, _, _, _, _, _, _⟩ := At.eightR hu)
      go_simp
      (with_reducible rfl)
    (try simp only [Act.put, List.setIfInBounds_toArray, List.set_cons_zero, List.set_cons_succ])
    refine any_pure (v := ?_) 1 rfl (by kernel_rfl) (fun _ _ _ _ _ h => h) (by rfl) (fun u hu => ?_) Yd ?_
    rotate_left
    · (obtain ⟨_, _, _, _, _, _, _, _⟩ := At.eightR hu)
      go_simp
      (with_reducible rfl)
    (try simp only [Act.put, List.setIfInBounds_toArray, List.set_cons_zero, List.set_cons_succ])
    refine any_pure (v := ?_) 2 rfl (by kernel_rfl) (fun _ _ _ _ _ h => h) (by rfl) (fun u hu => ?_) Yd ?_
    rotate_left
    · (obtain ⟨_, _, _, _, _, _, _, _⟩ := At.eightR hu)
      go_simp
      (with_reducible rfl)
    (try simp only [Act.put, List.setIfInBounds_toArray, List.set_cons_zero, List.set_cons_succ])
    refine any_pure (v := ?_) 3 rfl (by kernel_rfl) (fun _ _ _ _ _ h => h) (by rfl) (fun u hu => ?_) Yd ?_
    rotate_left
    · (obtain ⟨_, _, _, _, _, _, _, _⟩ := At.eightR hu)
      go_simp
      (with_reducible rfl)
    (try simp only [Act.put, List.setIfInBounds_toArray, List.set_cons_zero, List.set_cons_succ])
    refine any_pure (v := ?_) 5 rfl (by kernel_rfl) (fun _ _ _ _ _ h => h) (by rfl) (fun u hu => ?_) Yd ?_
    rotate_left
    · (obtain ⟨_, _, _, _, _, _, _, _⟩ := At.eightR hu)
      go_simp
      (with_reducible rfl)
    (try simp only [Act.put, List.setIfInBounds_toArray, List.set_cons_zero, List.set_cons_succ])
    refine any_pure (v := ?_) 6 rfl (by kernel_rfl) (fun _ _ _ _ _ h => h) (by rfl) (fun u hu => ?_) Yd ?_
    rotate_left
    · (obtain ⟨_, _, _, _, _, _, _, _⟩ := At.eightR hu)
      go_simp
      (with_reducible rfl)
    (try simp only [Act.put, List.setIfInBounds_toArray, List.set_cons_zero, List.set_cons_succ])
    have hgd : g ≤ v4.heap.size := Nat.le_trans (Nat.le_of_lt lx) hBd.size
    have hB5 := hBd.alloc hgd (.cells #[.int .i64 a0, .int .i64 a1, .int .i64 a2, .int .i64 a3, .int .i64 a4, .int .i64 a5, .int .i64 a6] 27)
    have hg5 : g ≤ (v4.alloc (.cells #[.int .i64 a0, .int .i64 a1, .int .i64 a2, .int .i64 a3, .int .i64 a4, .int .i64 a5, .int .i64 a6] 27)).heap.size := Nat.le_trans (Nat.le_of_lt lx) hB5.size
    have X5 := Xd.alloc (.cells #[.int .i64 a0, .int .i64 a1, .int .i64 a2, .int .i64 a3, .int .i64 a4, .int .i64 a5, .int .i64 a6] 27)
    have Y5 := Yd.alloc (.cells #[.int .i64 a0, .int .i64 a1, .int .i64 a2, .int .i64 a3, .int .i64 a4, .int .i64 a5, .int .i64 a6] 27)
    have or5 := or4.alloc (.cells #[.int .i64 a0, .int .i64 a1, .int .i64 a2, .int .i64 a3, .int .i64 a4, .int .i64 a5, .int .i64 a6] 27)
    have oa5 := oa4.alloc (.cells #[.int .i64 a0, .int .i64 a1, .int .i64 a2, .int .i64 a3, .int .i64 a4, .int .i64 a5, .int .i64 a6] 27)
    have ob5 := ob4.alloc (.cells #[.int .i64 a0, .int .i64 a1, .int .i64 a2, .int .i64 a3, .int .i64 a4, .int .i64 a5, .int .i64 a6] 27)
    have rd5 := rd_lit okR v4 27 [(a0, a1, (a2, a3, a4, a5), a6)] #[.int .i64 a0, .int .i64 a1, .int .i64 a2, .int .i64 a3, .int .i64 a4, .int .i64 a5, .int .i64 a6] rfl
    obtain ⟨⟨_, _, _, _, e4, _⟩, _⟩ := Xd.sixC
    obtain ⟨⟨_, _, _, _, f4, _⟩, _⟩ := X5.sixC
    refine any_two 4 7 rfl rfl (by kernel_rfl) (by rfl) (by rfl) ?_ ?_
    · go_simp
      refine ⟨(fun u => At u w1.heap.size 34 #[.int .i64 0, .int .i64 a0, .int .i64 a1, .int .i64 a2, .int .i64 a3, .int .i64 a4, .int .i64 a5, .int .i64 a6]), fun _ h => h, Yd, ?_⟩
      (try simp only [Act.put, List.setIfInBounds_toArray, List.set_cons_zero, List.set_cons_succ])
      refine any_one 7 rfl (by kernel_rfl) (by rfl) ?_
      go_simp
      refine ⟨(fun u => At u w1.heap.size 34 #[.int .i64 0, .int .i64 a0, .int .i64 a1, .int .i64 a2, .int .i64 a3, .int .i64 a4, .int .i64 a5, .int .i64 a6]), fun _ h => h, Y5, ?_⟩
      (try simp only [Act.put, List.setIfInBounds_toArray, List.set_cons_zero, List.set_cons_succ])
      refine any_one 8 rfl (by kernel_rfl) (by rfl) ?_
      refine wp_append_ow okR _ (.tmp 33) (.tmp 36) _ rfl g info_rcd Tryz.underlying51 rfl R k kc rs rfl or5 (some ⟨v4.heap.size, 0, none⟩) 1 1 _ [(a0, a1, (a2, a3, a4, a5), a6)] rfl rd5 rfl (by unfold maxLen; omega) (by omega) hg5 ?_
      intro R6 kc6 w6 or6 hg6 _
      have hB6 : Below g w w6 := hB5.grown hg6 hg5 (fun q hq => (or5.lt q hq).1)
      have X6 := X5.grown hg6 (fun e => or5.neBlk (by decide) X5 g e rfl)
      have Y6 := Y5.grown hg6 (fun e => or5.neBlk (by decide) Y5 w1.heap.size e rfl)
      have oa6 := oa5.grown hg6 (oa5.neRow (by decide) or5)
      have ob6 := ob5.grown hg6 (ob5.neRow (by decide) or5)
      refine ⟨(fun u => At u w1.heap.size 34 #[.int .i64 0, .int .i64 a0, .int .i64 a1, .int .i64 a2, .int .i64 a3, .int .i64 a4, .int .i64 a5, .int .i64 a6]), fun _ h => h, Y6, ?_⟩
      (try simp only [Act.put, List.setIfInBounds_toArray, List.set_cons_zero, List.set_cons_succ])
      refine any_pure (v := ?_) 9 rfl (by kernel_rfl) (fun _ _ _ _ _ h => h) (by rfl) (fun u hu => ?_) Y6 ?_
      rotate_left
      · go_simp
        (with_reducible rfl)
      (try simp only [Act.put, List.setIfInBounds_toArray, List.set_cons_zero, List.set_cons_succ])
      refine any_pure (v := ?_) 10 rfl (by kernel_rfl) (fun _ _ _ _ _ h => h) (by rfl) (fun u hu => ?_) Y6 ?_
      rotate_left
      · go_simp
        (with_reducible rfl)
      (try simp only [Act.put, List.setIfInBounds_toArray, List.set_cons_zero, List.set_cons_succ])
      obtain ⟨_, df0, df1, df2, df3, df4, df5⟩ := X6.sixC
      refine any_one 11 rfl (by kernel_rfl) (by rfl) ?_
      go_simp
      have X7 : At (w6.setCell ⟨g, 4, none⟩ (.slice R6 (k + 1) kc6)) g 53 #[.int .i64 0, .slice A5 n5 e5, .slice B5 m5 h5, .int .i64 tx, .slice R6 (k + 1) kc6, .int .i64 (p : Nat)] := X6.set 4 (.slice R6 (k + 1) kc6)
      have hB7 := hB6.setCell (p := ⟨g, 4, none⟩) (Nat.le_refl _) (.slice R6 (k + 1) kc6)
      have oa7 := oa6.apart (by decide) X6 4 (.slice R6 (k + 1) kc6)
      have ob7 := ob6.apart (by decide) X6 4 (.slice R6 (k + 1) kc6)
      have or7 := or6.apart (by decide) X6 4 (.slice R6 (k + 1) kc6)
      have Y7 := Y6.far (p := ⟨g, 4, none⟩) hgr2 (.slice R6 (k + 1) kc6)
      refine ⟨(fun u => At u w1.heap.size 34 #[.int .i64 0, .int .i64 a0, .int .i64 a1, .int .i64 a2, .int .i64 a3, .int .i64 a4, .int .i64 a5, .int .i64 a6]), fun _ h => h, Y7, ?_⟩
      (try simp only [Act.put, List.setIfInBounds_toArray, List.set_cons_zero, List.set_cons_succ])
      refine any_done (by kernel_rfl) ?_
      generalize w6.setCell ⟨g, 4, none⟩ (.slice R6 (k + 1) kc6) = w7 at *
      clear df0 df1 df2 df3 df4 df5
      obtain ⟨⟨_, _, _, _, _, d5⟩, df0, df1, df2, df3, df4, df5⟩ := X7.sixC
      have X8 : At (w7.setCell ⟨g, 5, none⟩ (.int .i64 ((p + n + 3 : Nat) : Int))) g 53 #[.int .i64 0, .slice A5 n5 e5, .slice B5 m5 h5, .int .i64 tx, .slice R6 (k + 1) kc6, .int .i64 ((p + n + 3 : Nat) : Int)] := X7.set 5 (.int .i64 ((p + n + 3 : Nat) : Int))
      have hB8 := hB7.setCell (p := ⟨g, 5, none⟩) (Nat.le_refl _) (.int .i64 ((p + n + 3 : Nat) : Int))
      have oa8 := oa7.apart (by decide) X7 5 (.int .i64 ((p + n + 3 : Nat) : Int))
      have ob8 := ob7.apart (by decide) X7 5 (.int .i64 ((p + n + 3 : Nat) : Int))
      have or8 := or7.apart (by decide) X7 5 (.int .i64 ((p + n + 3 : Nat) : Int))
      go_wp2
      go_ret
      have e3 : (p : Int) + ((n : Int) + 3) = ((p + n + 3 : Nat) : Int) := by omega
      first
        | exact ⟨rfl, ⟨A5, n5, e5, B5, m5, h5, R6, k + 1, kc6, X8, oa8, ob8, or8⟩, hB8⟩
        | (rw [e3]; exact ⟨rfl, ⟨A5, n5, e5, B5, m5, h5, R6, k + 1, kc6, X8, oa8, ob8, or8⟩, hB8⟩)
    · go_simp
      refine ⟨(fun u => At u w1.heap.size 34 #[.int .i64 0, .int .i64 a0, .int .i64 a1, .int .i64 a2, .int .i64 a3, .int .i64 a4, .int .i64 a5, .int .i64 a6]), fun _ h => h, Y5, ?_⟩
      (try simp only [Act.put, List.setIfInBounds_toArray, List.set_cons_zero, List.set_cons_succ])
      refine any_one 4 rfl (by kernel_rfl) (by rfl) ?_
      go_simp
      refine ⟨(fun u => At u w1.heap.size 34 #[.int .i64 0, .int .i64 a0, .int .i64 a1, .int .i64 a2, .int .i64 a3, .int .i64 a4, .int .i64 a5, .int .i64 a6]), fun _ h => h, Y5, ?_⟩
      (try simp only [Act.put, List.setIfInBounds_toArray, List.set_cons_zero, List.set_cons_succ])
      refine any_one 8 rfl (by kernel_rfl) (by rfl) ?_
      refine wp_append_ow okR _ (.tmp 33) (.tmp 36) _ rfl g info_rcd Tryz.underlying51 rfl R k kc rs rfl or5 (some ⟨v4.heap.size, 0, none⟩) 1 1 _ [(a0, a1, (a2, a3, a4, a5), a6)] rfl rd5 rfl (by unfold maxLen; omega) (by omega) hg5 ?_
      intro R6 kc6 w6 or6 hg6 _
      have hB6 : Below g w w6 := hB5.grown hg6 hg5 (fun q hq => (or5.lt q hq).1)
      have X6 := X5.grown hg6 (fun e => or5.neBlk (by decide) X5 g e rfl)
      have Y6 := Y5.grown hg6 (fun e => or5.neBlk (by decide) Y5 w1.heap.size e rfl)
      have oa6 := oa5.grown hg6 (oa5.neRow (by decide) or5)
      have ob6 := ob5.grown hg6 (ob5.neRow (by decide) or5)
      refine ⟨(fun u => At u w1.heap.size 34 #[.int .i64 0, .int .i64 a0, .int .i64 a1, .int .i64 a2, .int .i64 a3, .int .i64 a4, .int .i64 a5, .int .i64 a6]), fun _ h => h, Y6, ?_⟩
      (try simp only [Act.put, List.setIfInBounds_toArray, List.set_cons_zero, List.set_cons_succ])
      refine any_pure (v := ?_) 9 rfl (by kernel_rfl) (fun _ _ _ _ _ h => h) (by rfl) (fun u hu => ?_) Y6 ?_
      rotate_left
      · go_simp
        (with_reducible rfl)
      (try simp only [Act.put, List.setIfInBounds_toArray, List.set_cons_zero, List.set_cons_succ])
      refine any_pure (v := ?_) 10 rfl (by kernel_rfl) (fun _ _ _ _ _ h => h) (by rfl) (fun u hu => ?_) Y6 ?_
      rotate_left
      · go_simp
        (with_reducible rfl)
      (try simp only [Act.put, List.setIfInBounds_toArray, List.set_cons_zero, List.set_cons_succ])
      obtain ⟨_, df0, df1, df2, df3, df4, df5⟩ := X6.sixC
      refine any_one 11 rfl (by kernel_rfl) (by rfl) ?_
      go_simp
      have X7 : At (w6.setCell ⟨g, 4, none⟩ (.slice R6 (k + 1) kc6)) g 53 #[.int .i64 0, .slice A5 n5 e5, .slice B5 m5 h5, .int .i64 tx, .slice R6 (k + 1) kc6, .int .i64 (p : Nat)] := X6.set 4 (.slice R6 (k + 1) kc6)
      have hB7 := hB6.setCell (p := ⟨g, 4, none⟩) (Nat.le_refl _) (.slice R6 (k + 1) kc6)
      have oa7 := oa6.apart (by decide) X6 4 (.slice R6 (k + 1) kc6)
      have ob7 := ob6.apart (by decide) X6 4 (.slice R6 (k + 1) kc6)
      have or7 := or6.apart (by decide) X6 4 (.slice R6 (k + 1) kc6)
      have Y7 := Y6.far (p := ⟨g, 4, none⟩) hgr2 (.slice R6 (k + 1) kc6)
      refine ⟨(fun u => At u w1.heap.size 34 #[.int .i64 0, .int .i64 a0, .int .i64 a1, .int .i64 a2, .int .i64 a3, .int .i64 a4, .int .i64 a5, .int .i64 a6]), fun _ h => h, Y7, ?_⟩
      (try simp only [Act.put, List.setIfInBounds_toArray, List.set_cons_zero, List.set_cons_succ])
      refine any_done (by kernel_rfl) ?_
      generalize w6.setCell ⟨g, 4, none⟩ (.slice R6 (k + 1) kc6) = w7 at *
      clear df0 df1 df2 df3 df4 df5
      obtain ⟨⟨_, _, _, _, _, d5⟩, df0, df1, df2, df3, df4, df5⟩ := X7.sixC
      have X8 : At (w7.setCell ⟨g, 5, none⟩ (.int .i64 ((p + n + 3 : Nat) : Int))) g 53 #[.int .i64 0, .slice A5 n5 e5, .slice B5 m5 h5, .int .i64 tx, .slice R6 (k + 1) kc6, .int .i64 ((p + n + 3 : Nat) : Int)] := X7.set 5 (.int .i64 ((p + n + 3 : Nat) : Int))
      have hB8 := hB7.setCell (p := ⟨g, 5, none⟩) (Nat.le_refl _) (.int .i64 ((p + n + 3 : Nat) : Int))
      have oa8 := oa7.apart (by decide) X7 5 (.int .i64 ((p + n + 3 : Nat) : Int))
      have ob8 := ob7.apart (by decide) X7 5 (.int .i64 ((p + n + 3 : Nat) : Int))
      have or8 := or7.apart (by decide) X7 5 (.int .i64 ((p + n + 3 : Nat) : Int))
      go_wp2
      go_ret
      have e3 : (p : Int) + ((n : Int) + 3) = ((p + n + 3 : Nat) : Int) := by omega
      first
        | exact ⟨rfl, ⟨A5, n5, e5, B5, m5, h5, R6, k + 1, kc6, X8, oa8, ob8, or8⟩, hB8⟩
        | (rw [e3]; exact ⟨rfl, ⟨A5, n5, e5, B5, m5, h5, R6, k + 1, kc6, X8, oa8, ob8, or8⟩, hB8⟩)
end Go.Proofs.YtmaillakhhdkfaaGreatDoor
/-
  errors.Is at a sentinel: the sentinel itself, and no error.
-/
namespace Go.Proofs.YtmaillakhhdkfaaGreatDoor
set_option maxRecDepth 20000
open Go.RowKit Go.Extern.Stop Go.Stop Go.Extern

theorem sentTypeOf (v : Value) (w : World) : (Extern.ReflectliteType.typeOf #[.iface 276 v]).run Tryz.prog w = .ok (.iface 198 (.agg #[.pointer (some ⟨2, 276, none⟩)])) w := by kernel_rfl
theorem sentComparable (w : World) : (callFunc 222 #[.agg #[.pointer (some ⟨2, 276, none⟩)]]).run Tryz.prog w = .ok (.value (.bool true)) w := by kernel_rfl
theorem sentMethod (k : Nat) (v : Value) (w : World) : (Go.method (k + 1) 198 v "Comparable").run Tryz.prog w = .ok (222, v) w := by kernel_rfl
theorem sentComp : (Tryz.prog.info? 276).map (·.comparable) = some true := by kernel_rfl
theorem sentSize : (Tryz.prog.info? 300).map (·.size) = some 1 := by kernel_rfl
/-- errors.Is of a sentinel and itself. -/
theorem isSame (a : Addr) (w : World) :
    Calls Tryz.prog 70 #[.iface 276 (.pointer (some a)), .iface 276 (.pointer (some a))] w fun e w' => e = .returned (.bool true) ∧ w' = w := by
  obtain ⟨i, hi, hcmp⟩ := Option.map_eq_some_iff.1 sentComp
  obtain ⟨j, hj, hjs⟩ := Option.map_eq_some_iff.1 sentSize
  have hT := @run_callFunc_extern Tryz.prog 120 _ Extern.ReflectliteType.typeOf Tryz.func120 (by kernel_rfl) (by kernel_rfl) (by kernel_rfl) (by kernel_rfl)
  have tT := sentTypeOf
  have cT := sentComparable
  have mR := sentMethod 411
  have heq := run_eql_iface_ptr_same (P := Tryz.prog) w a Tryz.underlying111 Tryz.underlying276 hi hcmp hj
  go_enter Tryz.func70, Tryz.ntmps70
  go_wp2
  refine wp_loop_rounds 1 ?_
  rw [rounds_succ]
  go_wp2
  go_ret
  exact ⟨rfl, rfl⟩
/-- errors.Is of no error. -/
theorem isNil (b : Addr) (w : World) :
    Calls Tryz.prog 70 #[.nilIface, .iface 276 (.pointer (some b))] w fun e w' => e = .returned (.bool false) ∧ w' = w := by
  have hn := run_eql_iface_nil_left (P := Tryz.prog) w 276 (.pointer (some b)) Tryz.underlying111
  go_enter Tryz.func70, Tryz.ntmps70
  go_wp2
  go_ret
  exact ⟨rfl, rfl⟩
end Go.Proofs.YtmaillakhhdkfaaGreatDoor
/-
  What a disk says: the program's.
-/
namespace Go.Proofs.YtmaillakhhdkfaaGreatDoor
set_option maxRecDepth 20000
open Go.RowKit
set_option linter.unusedSimpArgs false
set_option linter.unusedVariables false
attribute [local irreducible] mixW

theorem Ow.store6 {α : Type} {E : Enc α} {w : World} {base n c : Nat} {A : Option Addr} {l : List α} {g : Nat} {t : TypeId} {a0 a1 a2 a3 a4 a5 : Value} (h : Ow E w base A n c l) (hne : E.tid ≠ t) (hx : At w g t #[a0, a1, a2, a3, a4, a5]) (u0 u1 u2 u3 u4 u5 : Value) :
    Ow E ((((((w.setCell ⟨g, 0, none⟩ u0).setCell ⟨g, 1, none⟩ u1).setCell ⟨g, 2, none⟩ u2).setCell ⟨g, 3, none⟩ u3).setCell ⟨g, 4, none⟩ u4).setCell ⟨g, 5, none⟩ u5) base A n c l :=
  (((((h.apart hne hx 0 u0).apart hne (hx.set 0 u0) 1 u1).apart hne ((hx.set 0 u0).set 1 u1) 2 u2).apart hne (((hx.set 0 u0).set 1 u1).set 2 u2) 3 u3).apart hne ((((hx.set 0 u0).set 1 u1).set 2 u2).set 3 u3) 4 u4).apart hne (((((hx.set 0 u0).set 1 u1).set 2 u2).set 3 u3).set 4 u4) 5 u5
theorem below6 {w w' : World} (h : Below w.heap.size w w') (u0 u1 u2 u3 u4 u5 : Value) : Below w.heap.size w ((((((w'.setCell ⟨w.heap.size, 0, none⟩ u0).setCell ⟨w.heap.size, 1, none⟩ u1).setCell ⟨w.heap.size, 2, none⟩ u2).setCell ⟨w.heap.size, 3, none⟩ u3).setCell ⟨w.heap.size, 4, none⟩ u4).setCell ⟨w.heap.size, 5, none⟩ u5) :=
  (((((h.setCell (p := ⟨w.heap.size, 0, none⟩) (Nat.le_refl _) u0).setCell (p := ⟨w.heap.size, 1, none⟩) (Nat.le_refl _) u1).setCell (p := ⟨w.heap.size, 2, none⟩) (Nat.le_refl _) u2).setCell (p := ⟨w.heap.size, 3, none⟩) (Nat.le_refl _) u3).setCell (p := ⟨w.heap.size, 4, none⟩) (Nat.le_refl _) u4).setCell (p := ⟨w.heap.size, 5, none⟩) (Nat.le_refl _) u5

/-- The program's way of one body, both ways. -/
theorem say_ways {s : Sta} {b : List UInt8} (hs : stateFaultM s = 0) : ((decR b).2 = true ∧ (stepR s (decR b).1).1 = 0 ∧ decodeRecM b = (0, (decR b).1) ∧ (applyM s (decR b).1).1 = 0 ∧ (applyM s (decR b).1).2 = (stepR s (decR b).1).2 ∧ stateFaultM (stepR s (decR b).1).2 = 0)
      ∨ (¬ ((decR b).2 = true ∧ (stepR s (decR b).1).1 = 0) ∧ ((decodeRecM b).1 ≠ 0 ∨ ∃ r, decodeRecM b = (0, r) ∧ (applyM s r).1 ≠ 0)) := by
  by_cases h1 : (decodeRecM b).1 = 0
  · by_cases h2 : (applyM s (decodeRecM b).2).1 = 0
    · obtain ⟨q1, q2, q3, q4, q5⟩ := say_yes hs h1 h2
      refine .inl ⟨q1, q2, ?_, by rw [← q3]; exact h2, by rw [q3] at q4; exact q4, q5⟩
      rw [← q3, ← h1]
    · refine .inr ⟨say_no hs (.inr h2), .inr ⟨(decodeRecM b).2, ?_, h2⟩⟩
      rw [← h1]
  · exact .inr ⟨say_no hs (.inl h1), .inl h1⟩
theorem sayYes (g : Nat) (A : Option Addr) (n c : Nat) (b : List UInt8) (a : Addr) (s : Sta) (rs : List Rcd) (p : Nat) (w : World) (hD : DskAt w g s rs p) (ha : Rd eB w w.heap.size A b) (hn : b.length = n) (hc : n ≤ c) (hcm : c ≤ maxLen) (hF : Flds w) (hS : Sent w a)
    (hd : decodeRecM b = (0, (decR b).1)) (hap : (applyM s (decR b).1).1 = 0) (hst : (applyM s (decR b).1).2 = (stepR s (decR b).1).2) (hk : rs.length ≤ 100000) (hp : p ≤ 100000000) (hn4 : n ≤ 1000) :
    Calls Tryz.prog 71 #[.pointer (some ⟨g, 0, none⟩), .slice A n c] w fun e w' => e = .returned .nilIface ∧ DskAt w' g (stepR s (decR b).1).2 (rs ++ [(decR b).1]) (p + n + 3) ∧ Below g w w' := by
  obtain ⟨l, h, x⟩ := s
  obtain ⟨SA, sn, sc, SB, sm, sd, R, k, kc, X, os, oh, or⟩ := hD
  rw [← hst]
  rcases hr : (decR b).1 with ⟨a0, a1, ⟨a2, a3, a4, a5⟩, a6⟩
  rw [hr] at hd hap
  exact say_done g A n c b a SA SB R sn sc sm sd k kc p l h x rs a0 a1 a2 a3 a4 a5 a6 w X os oh or ha hn hc hcm hF hS hd hap (by rw [← or.len okR]; exact hk) hp hn4
theorem sayNo (g : Nat) (A : Option Addr) (n c : Nat) (b : List UInt8) (a : Addr) (s : Sta) (rs : List Rcd) (p : Nat) (w : World) (hD : DskAt w g s rs p) (ha : Rd eB w w.heap.size A b) (hn : b.length = n) (hc : n ≤ c) (hcm : c ≤ maxLen) (hF : Flds w) (hS : Sent w a)
    (hno : (decodeRecM b).1 ≠ 0 ∨ ∃ r, decodeRecM b = (0, r) ∧ (applyM s r).1 ≠ 0) :
    Calls Tryz.prog 71 #[.pointer (some ⟨g, 0, none⟩), .slice A n c] w fun e w' => e = .returned (.iface 276 (.pointer (some a))) ∧ DskAt w' g s rs p ∧ Below g w w' := by
  have hl := hD.lt
  have hD0 := hD
  rcases hno with h1 | ⟨⟨a0, a1, ⟨a2, a3, a4, a5⟩, a6⟩, h1, h2⟩
  · exact (say_torn g A n c b a w hl ha hn hc hcm hF hS h1).mono fun e w' ⟨q1, q2⟩ => ⟨q1, hD0.below q2, q2.mono (Nat.le_of_lt hl)⟩
  · obtain ⟨l, h, x⟩ := s
    obtain ⟨SA, sn, sc, SB, sm, sd, R, k, kc, X, os, oh, or⟩ := hD
    exact (say_no_step g A n c b a SA SB R sn sc sm sd k kc p l h x rs a0 a1 a2 a3 a4 a5 a6 w X os oh or ha hn hc hcm hF hS h1 h2).mono fun e w' ⟨q1, q2⟩ => ⟨q1, hD0.below q2, q2.mono (Nat.le_of_lt hl)⟩

theorem bodF_le (d : List UInt8) : ∀ J, (bodF d J).length ≤ J
  | 0 => Nat.zero_le _
  | J + 1 => by
    have ih := bodF_le d J
    rw [bodF, List.length_append]
    have : (firstM (d.drop (posF d J))).toList.length ≤ 1 := by cases firstM (d.drop (posF d J)) <;> simp
    omega
/-- What the rounds have done. -/
def SayRel (w3 : World) (g J : Nat) (bs : List (List UInt8)) (at_ : Value) (wr : World) : Prop :=
  ∃ (i : Nat) (s : Sta) (rs : List Rcd) (p : Nat), at_ = .int .i64 (i : Nat) ∧ i ≤ J ∧ rs.length ≤ i ∧ p ≤ 43 * i ∧ recF zeroSta [] 0 bs = recF s rs p (bs.drop i) ∧ stateFaultM s = 0 ∧ DskAt wr g s rs p ∧ Below g w3 wr

set_option maxHeartbeats 4000000 in
theorem implRecoverDisk (A : Option Addr) (n c : Nat) (d : List UInt8) (a : Addr) (w : World) (hr : Rd eB w w.heap.size A d) (hn : d.length = n) (hc : n ≤ c) (hF : Flds w) (hS : Sent w a) :
    Calls Tryz.prog 24 #[.slice A n c] w fun e w' => RetDsk (recoverM d) w e w' := by
  have hb0 : Below w.heap.size w (w.alloc (.cells #[.int .i64 0, .slice none 0 0, .slice none 0 0, .int .i64 0, .slice none 0 0, .int .i64 0] 53)) := (Below.refl _ _).alloc (Nat.le_refl _) _
  have r0 := At.new w 53 #[.int .i64 0, .slice none 0 0, .slice none 0 0, .int .i64 0, .slice none 0 0, .int .i64 0]
  have RF := implReadFrames A n c d _ (hr.lift hb0) hn hc
  by_cases h : n ≤ 20000
  rotate_left
  · have Hr := Lib.hid (recoverM_big (d := d) (by omega))
    rw [framesM_big (by omega)] at RF
    clear hn h hr
    go_enter Tryz.func24, Tryz.ntmps24
    go_wp2_with fail
    refine RF.mono ?_
    rintro e w1 ⟨A1, n1, c1, ps, rfl, dw, hps, hb1⟩
    have hB1 := hb0.trans (hb1.mono hb0.size)
    have f1 := At.new w1 107 #[.int .i64 2, .slice A1 n1 c1, .int .i64 0]
    have hB2 := hB1.alloc hB1.size (.cells #[.int .i64 2, .slice A1 n1 c1, .int .i64 0] 107)
    have r2 := (r0.below hb1 (by simp)).alloc (.cells #[.int .i64 2, .slice A1 n1 c1, .int .i64 0] 107)
    obtain ⟨e0, e1, e2, _, _, _⟩ := f1.three
    obtain ⟨⟨x0, x1, x2, x3, x4, x5⟩, xf0, xf1, xf2, xf3, xf4, xf5⟩ := r2.sixC
    go_wp2
    refine bodyPost_ret (v := .agg #[.int .i64 2, .slice none 0 0, .slice none 0 0, .int .i64 0, .slice none 0 0, .int .i64 0]) (by simp [results, Tryz.results24, go_sem, x0, x1, x2, x3, x4, x5]) rfl ?_
    rw [Hr.out]
    exact ⟨none, 0, 0, none, 0, 0, none, 0, 0, rfl, Ow.nil, Ow.nil, Ow.nil, below6 hB2 _ _ _ _ _ _⟩
  · have hE := endF_end d d.length 0 (fun i hi => absurd hi (by omega)) (by omega)
    generalize endF d d.length 0 = J at hE
    have Hr := Lib.hid (recoverM_ok (d := d) (J := J) (by omega) hE)
    have hJn : J ≤ 20000 := by
      have := posF_ge hE.2
      have := posF_le d J
      omega
    have H40 := Lib.hid fun b (hb : b ∈ bodF d J) => ((bodF_frames d J hE.2).2 b hb).2
    rw [framesM_ok (by omega) hE] at RF
    have hbl := bodF_le d J
    clear hn h hr hE
    generalize hbs : bodF d J = bs at *
    clear hbs
    go_enter Tryz.func24, Tryz.ntmps24
    go_wp2_with fail
    refine RF.mono ?_
    rintro e w1 ⟨A1, n1, c1, ps, rfl, dw, hps, hb1⟩
    have hB1 := hb0.trans (hb1.mono hb0.size)
    generalize ((posF d J : Nat) : Int) = sz at *
    have f1 := At.new w1 107 #[.int .i64 0, .slice A1 n1 c1, .int .i64 sz]
    have hB2 := hB1.alloc hB1.size (.cells #[.int .i64 0, .slice A1 n1 c1, .int .i64 sz] 107)
    have r2 := (r0.below hb1 (by simp)).alloc (.cells #[.int .i64 0, .slice A1 n1 c1, .int .i64 sz] 107)
    have dw2 : DOw eBB (w1.alloc (.cells #[.int .i64 0, .slice A1 n1 c1, .int .i64 sz] 107)) w.heap.size A1 n1 c1 ps := (dw.alloc _).from_ (by simp)
    have hpl : ps.length = n1 := Ow.len okBB dw.1
    have hps' : ps.map (fun x => x.1) = bs := hps
    have hn1 : n1 ≤ 20000 := by
      rw [← hpl, ← List.length_map (f := fun x : List UInt8 × List Hd => x.1), hps']
      omega
    clear hbl hJn
    obtain ⟨e0, e1, e2, _, _, _⟩ := f1.three
    have HB0 := hB2.alloc hB2.size (.cells #[.int .i64 0, .slice none 0 0, .slice none 0 0, .int .i64 0, .slice none 0 0, .int .i64 0] 53)
    have X0 : At ((w1.alloc (.cells #[.int .i64 0, .slice A1 n1 c1, .int .i64 sz] 107)).alloc (.cells #[.int .i64 0, .slice none 0 0, .slice none 0 0, .int .i64 0, .slice none 0 0, .int .i64 0] 53)) (w1.heap.size + 1) 53 #[.int .i64 0, .slice none 0 0, .slice none 0 0, .int .i64 0, .slice none 0 0, .int .i64 0] := by
      have := At.new (w1.alloc (.cells #[.int .i64 0, .slice A1 n1 c1, .int .i64 sz] 107)) 53 #[.int .i64 0, .slice none 0 0, .slice none 0 0, .int .i64 0, .slice none 0 0, .int .i64 0]
      simpa using this
    have r3 := r2.alloc (.cells #[.int .i64 0, .slice none 0 0, .slice none 0 0, .int .i64 0, .slice none 0 0, .int .i64 0] 53)
    have dw3 := dw2.alloc (.cells #[.int .i64 0, .slice none 0 0, .slice none 0 0, .int .i64 0, .slice none 0 0, .int .i64 0] 53)
    have hF3 := hF.below HB0
    have hS3 := hS.below HB0 hS.pos
    have hg0 : w.heap.size ≤ w1.heap.size + 1 := by have := hB1.size; omega
    have lr3 : w.heap.size < w1.heap.size + 1 := by have := hB1.size; omega
    have hG1 : 1 < w1.heap.size + 1 := by have := hF.pos; have := hB1.size; omega
    have hG0 : 0 < w1.heap.size + 1 := by have := hS.pos; have := hB1.size; omega
    have hws : ((w1.alloc (.cells #[.int .i64 0, .slice A1 n1 c1, .int .i64 sz] 107)).heap.size) ≤ w1.heap.size + 1 := by simp
    have DD0 : DskAt ((w1.alloc (.cells #[.int .i64 0, .slice A1 n1 c1, .int .i64 sz] 107)).alloc (.cells #[.int .i64 0, .slice none 0 0, .slice none 0 0, .int .i64 0, .slice none 0 0, .int .i64 0] 53)) (w1.heap.size + 1) zeroSta [] 0 := ⟨none, 0, 0, none, 0, 0, none, 0, 0, X0, Ow.nil, Ow.nil, Ow.nil⟩
    have dlt : ∀ b ∈ blkOf A1 ++ blks ps, b < w1.heap.size + 1 := fun b hb => by have := (dw2.lt b hb).2; simp at this; exact this
    clear RF dw hb1 hB1 r0 r2 f1 hB2 dw2 X0 hF hS
    go_wp2
    generalize hW3 : (w1.alloc (.cells #[.int .i64 0, .slice A1 n1 c1, .int .i64 sz] 107)).alloc (.cells #[.int .i64 0, .slice none 0 0, .slice none 0 0, .int .i64 0, .slice none 0 0, .int .i64 0] 53) = w3 at *
    have hgl : w1.heap.size + 1 < w3.heap.size := DD0.lt
    generalize w1.heap.size + 1 = g at *
    clear hW3 hws
    go_loopw [6, 18] (fun _ i wr => SayRel w3 g n1 (bs) i wr) (fun _ i _ => n1 - (intOf i).toNat)
    case atStart => exact ⟨0, zeroSta, [], 0, rfl, Nat.zero_le _, Nat.zero_le _, Nat.zero_le _, rfl, zero_state, DD0, Below.refl _ _⟩
    case round =>
      obtain ⟨i, s, rs, p, rfl, hiJ, hri, hpi, hrec, hsr, DD, BB⟩ := hrel
      have hJ := Lib.hid hpl
      clear hpl DD0
      by_cases hi : i < n1
      rotate_left
      · obtain rfl : n1 = i := by omega
        obtain ⟨SA, sn, sc, SB, sm, sd, R, k, kc, X, os, oh, or⟩ := DD
        obtain ⟨⟨x0, x1, x2, x3, x4, x5⟩, xf0, xf1, xf2, xf3, xf4, xf5⟩ := X.sixC
        have AR := r3.below BB lr3
        obtain ⟨⟨r0, r1, r2, r3, r4, r5⟩, rf0, rf1, rf2, rf3, rf4, rf5⟩ := AR.sixC
        have hfin : recF zeroSta [] 0 bs = (s, rs, p) := by rw [hrec, List.drop_of_length_le (by rw [← hps', List.length_map, hJ.out]; exact Nat.le_refl _)]; rfl
        have os6 := (os.store6 (by decide) AR (.int .i64 0) (.slice SA sn sc) (.slice SB sm sd) (.int .i64 s.2.2) (.slice R k kc) (.int .i64 (p : Nat))).from_ (base' := w.heap.size) hg0
        have oh6 := (oh.store6 (by decide) AR (.int .i64 0) (.slice SA sn sc) (.slice SB sm sd) (.int .i64 s.2.2) (.slice R k kc) (.int .i64 (p : Nat))).from_ (base' := w.heap.size) hg0
        have or6 := (or.store6 (by decide) AR (.int .i64 0) (.slice SA sn sc) (.slice SB sm sd) (.int .i64 s.2.2) (.slice R k kc) (.int .i64 (p : Nat))).from_ (base' := w.heap.size) hg0
        have HB6 := below6 (HB0.trans (BB.mono hg0)) (.int .i64 0) (.slice SA sn sc) (.slice SB sm sd) (.int .i64 s.2.2) (.slice R k kc) (.int .i64 (p : Nat))
        go_wp2
        refine bodyPost_ret (v := .agg #[.int .i64 0, .slice SA sn sc, .slice SB sm sd, .int .i64 s.2.2, .slice R k kc, .int .i64 (p : Nat)]) (by simp [results, Tryz.results24, go_sem, r0, r1, r2, r3, r4, r5]) rfl ?_
        rw [Hr.out]
        show RetDsk (0, recF zeroSta [] 0 bs) _ _ _
        rw [hfin]
        exact ⟨SA, sn, sc, SB, sm, sd, R, k, kc, rfl, os6, oh6, or6, HB6⟩
      · obtain ⟨q, hq⟩ : ∃ q, ps[i]? = some q := ⟨_, List.getElem?_eq_getElem (by rw [hJ.out]; exact hi)⟩
        have hq1 : (bs)[i]? = some q.1 := by rw [← hps', List.getElem?_map, hq]; rfl
        have hdr : (bs).drop i = q.1 :: (bs).drop (i + 1) := by
          obtain ⟨h1, h2⟩ := List.getElem?_eq_some_iff.1 hq1
          rw [List.drop_eq_getElem_cons h1, h2]
        have hq40 := H40.out q.1 (List.mem_of_getElem? hq1)
        have hrec2 : recF zeroSta [] 0 bs = recF s rs p (q.1 :: (bs).drop (i + 1)) := by rw [hrec, hdr]
        have dwr : DOw eBB wr w.heap.size A1 n1 c1 ps := dw3.keep fun b hb => BB.block b (dlt b hb)
        obtain ⟨g1, x, hA1, hx2, hcell, hrow⟩ := dwr.row hq
        have hxl := hrow.len okB
        have hxc := hrow.cap
        have hxm := hrow.capMax
        have hxr := hrow.rd okB
        have hFr : Flds wr := by
          intro j u hu
          rw [BB.cell (p := ⟨1, j, none⟩) (hG1)]
          exact hF3 j u hu
        have hSr : Sent wr.drew a := hS3.below BB.drew hG0
        have hlt : (i : Int) < (n1 : Int) := by omega
        have hxn : x.n ≤ 40 := by omega
        have hk2 : rs.length ≤ 100000 := by omega
        have hp2 : p ≤ 100000000 := by omega
        have hwl := BB.size
        subst hA1
        clear hrec hdr hq1
        rcases say_ways (b := q.1) hsr with ⟨y1, y2, y3, y4, y5, y6⟩ | ⟨n1', n2'⟩
        · have Hyes := Lib.hid (recF_yes (rs := rs) (n := p) (bs := (bs).drop (i + 1)) y1 y2)
          have SY := fun W D r f s0 => sayYes g x.A x.n x.c q.1 a s rs p W D r hxl hxc hxm f s0 y3 y4 y5 hk2 hp2 (by omega)
          clear y1 y2 y3 y4 y5
          go_wp2_with fail
          refine wp_region_mix [(0, false), (2, false), (1, true), (3, true)] (fun u => Sent u a) (by kernel_rfl) (by kernel_rfl) (fun _ _ _ _ _ h => h) hSr ?_
          simp only [mixOps, List.map_cons, List.map_nil, List.getElem?_cons_succ, List.getElem?_cons_zero, Option.getD_some]
          repeat (first
            | (refine mix_skip (by rfl) ?_
               (try simp only [Act.put, List.setIfInBounds_toArray, List.set_cons_zero, List.set_cons_succ]))
            | (refine mix_pure (v := ?_) (by rfl) (fun u hu => ?_) ?_
               rotate_left
               · (unfold Sent at hu)
                 go_simp
                 (with_reducible rfl)
               (try simp only [Act.put, List.setIfInBounds_toArray, List.set_cons_zero, List.set_cons_succ])))
          refine mix_call (by rfl) (fun K hK => ?_)
          go_simp
          refine (SY _ (show DskAt wr.drew g s rs p from DD) hxr hFr hSr).mono ?_
          rintro e w5 ⟨rfl, D5, B5⟩
          have hS5 := hSr.below B5 hG0
          refine hK _ _ (fun u => Sent u a) (fun _ h => h) hS5 ?_
          clear hK K
          (try simp only [Act.put, List.setIfInBounds_toArray, List.set_cons_zero, List.set_cons_succ])
          refine mix_call (by rfl) (fun K hK => ?_)
          go_simp
          refine (isNil a _).mono ?_
          rintro e w' ⟨rfl, rfl⟩
          refine hK _ _ (fun u => Sent u a) (fun _ h => h) hS5 ?_
          clear hK K
          (try simp only [Act.put, List.setIfInBounds_toArray, List.set_cons_zero, List.set_cons_succ])
          refine mix_nil ?_
          go_wp2
          refine ⟨⟨i + 1, _, _, p + x.n + 3, ?_, by omega, by simp; omega, by omega, ?_, y6, D5, BB.drew.trans B5⟩, by simp [intOf]; omega⟩
          · simp
          · rw [hrec2, Hyes.out, hxl]
        · have Hno := Lib.hid (recF_no (rs := rs) (n := p) (bs := (bs).drop (i + 1)) n1')
          have SN := fun W D r f s0 => sayNo g x.A x.n x.c q.1 a s rs p W D r hxl hxc hxm f s0 n2'
          clear n1' n2'
          go_wp2_with fail
          refine wp_region_mix [(0, false), (2, false), (1, true), (3, true)] (fun u => Sent u a) (by kernel_rfl) (by kernel_rfl) (fun _ _ _ _ _ h => h) hSr ?_
          simp only [mixOps, List.map_cons, List.map_nil, List.getElem?_cons_succ, List.getElem?_cons_zero, Option.getD_some]
          repeat (first
            | (refine mix_skip (by rfl) ?_
               (try simp only [Act.put, List.setIfInBounds_toArray, List.set_cons_zero, List.set_cons_succ]))
            | (refine mix_pure (v := ?_) (by rfl) (fun u hu => ?_) ?_
               rotate_left
               · (unfold Sent at hu)
                 go_simp
                 (with_reducible rfl)
               (try simp only [Act.put, List.setIfInBounds_toArray, List.set_cons_zero, List.set_cons_succ])))
          refine mix_call (by rfl) (fun K hK => ?_)
          go_simp
          refine (SN _ (show DskAt wr.drew g s rs p from DD) hxr hFr hSr).mono ?_
          rintro e w5 ⟨rfl, D5, B5⟩
          have hS5 := hSr.below B5 hG0
          refine hK _ _ (fun u => Sent u a) (fun _ h => h) hS5 ?_
          clear hK K
          (try simp only [Act.put, List.setIfInBounds_toArray, List.set_cons_zero, List.set_cons_succ])
          refine mix_call (by rfl) (fun K hK => ?_)
          go_simp
          refine (isSame a _).mono ?_
          rintro e w' ⟨rfl, rfl⟩
          refine hK _ _ (fun u => Sent u a) (fun _ h => h) hS5 ?_
          clear hK K
          (try simp only [Act.put, List.setIfInBounds_toArray, List.set_cons_zero, List.set_cons_succ])
          refine mix_nil ?_
          have DD := D5
          have BB := BB.drew.trans B5
          obtain ⟨SA, sn, sc, SB, sm, sd, R, k, kc, X, os, oh, or⟩ := DD
          obtain ⟨⟨x0, x1, x2, x3, x4, x5⟩, xf0, xf1, xf2, xf3, xf4, xf5⟩ := X.sixC
          have AR := r3.below BB lr3
          obtain ⟨⟨r0, r1, r2, r3, r4, r5⟩, rf0, rf1, rf2, rf3, rf4, rf5⟩ := AR.sixC
          have hfin : recF zeroSta [] 0 bs = (s, rs, p) := by rw [hrec2, Hno.out]
          have os6 := (os.store6 (by decide) AR (.int .i64 0) (.slice SA sn sc) (.slice SB sm sd) (.int .i64 s.2.2) (.slice R k kc) (.int .i64 (p : Nat))).from_ (base' := w.heap.size) hg0
          have oh6 := (oh.store6 (by decide) AR (.int .i64 0) (.slice SA sn sc) (.slice SB sm sd) (.int .i64 s.2.2) (.slice R k kc) (.int .i64 (p : Nat))).from_ (base' := w.heap.size) hg0
          have or6 := (or.store6 (by decide) AR (.int .i64 0) (.slice SA sn sc) (.slice SB sm sd) (.int .i64 s.2.2) (.slice R k kc) (.int .i64 (p : Nat))).from_ (base' := w.heap.size) hg0
          have HB6 := below6 (HB0.trans (BB.mono hg0)) (.int .i64 0) (.slice SA sn sc) (.slice SB sm sd) (.int .i64 s.2.2) (.slice R k kc) (.int .i64 (p : Nat))
          go_wp2
          refine bodyPost_ret (v := .agg #[.int .i64 0, .slice SA sn sc, .slice SB sm sd, .int .i64 s.2.2, .slice R k kc, .int .i64 (p : Nat)]) (by simp [results, Tryz.results24, go_sem, r0, r1, r2, r3, r4, r5]) rfl ?_
          rw [Hr.out]
          show RetDsk (0, recF zeroSta [] 0 bs) _ _ _
          rw [hfin]
          exact ⟨SA, sn, sc, SB, sm, sd, R, k, kc, rfl, os6, oh6, or6, HB6⟩
end Go.Proofs.YtmaillakhhdkfaaGreatDoor
/-
  States marked and held, as the law does it; answers that hold a state.
-/
namespace Go.Proofs.YtmaillakhhdkfaaGreatDoor
set_option maxRecDepth 20000
open Go.RowKit
set_option linter.unusedSimpArgs false
set_option linter.unusedVariables false

/-- Two rows of the call's own, of two types, lie in two blocks. -/
theorem Ow.two {α β : Type} {E : Enc α} {E' : Enc β} {w : World} {base base' n c m d : Nat} {A B : Option Addr} {l : List α} {h : List β} (oa : Ow E w base A n c l) (ob : Ow E' w base' B m d h) (hne : E.tid ≠ E'.tid) : ∀ g, B.map (·.block) = some g → A.map (·.block) ≠ some g := by
  intro g hb ha
  rcases oa.2 with ⟨h0, _⟩ | ⟨g1, cap1, cur1, hv1, _, hg1, _⟩
  · simp only [Value.slice.injEq] at h0
    rw [h0.1] at ha
    simp at ha
  rcases ob.2 with ⟨h0, _⟩ | ⟨g2, cap2, cur2, hv2, _, hg2, _⟩
  · simp only [Value.slice.injEq] at h0
    rw [h0.1] at hb
    simp at hb
  simp only [Value.slice.injEq] at hv1 hv2
  rw [hv1.1] at ha
  rw [hv2.1] at hb
  obtain rfl : g1 = g := by simpa using ha
  obtain rfl : g2 = g1 := by simpa using hb
  rw [hg1] at hg2
  simp only [Option.some.injEq, Obj.cells.injEq] at hg2
  exact hne hg2.2.1

theorem Ow.notAt {α : Type} {E : Enc α} {w : World} {base n c : Nat} {A : Option Addr} {l : List α} {g : Nat} {t : TypeId} {cs : Array Value} (h : Ow E w base A n c l) (hx : At w g t cs) (hne : t ≠ E.tid) : A.map (·.block) ≠ some g := by
  intro hk
  rcases h.2 with ⟨h0, _⟩ | ⟨g', cap, cur, hv, hb, hgg, rest⟩
  · simp only [Value.slice.injEq] at h0
    rw [h0.1] at hk
    simp at hk
  · simp only [Value.slice.injEq] at hv
    rw [hv.1] at hk
    obtain rfl : g' = g := by simpa using hk
    unfold At at hx
    rw [hx] at hgg
    simp only [Option.some.injEq, Obj.cells.injEq] at hgg
    exact hne hgg.2.1
/-- Blocks of other types are as they were. -/
def Others (w w' : World) : Prop := ∀ (g : Nat) (t : TypeId) (cs : Array Value), At w g t cs → t ≠ eS.tid → t ≠ eH.tid → At w' g t cs
set_option maxHeartbeats 1000000 in
theorem markState (A B : Option Addr) (n c m d base lo hi : Nat) (l : List Smp) (h : List Hnt) (x : Int) (w : World) (oa : Ow eS w base A n c l) (ob : Ow eH w base B m d h) (hA : ∀ g, A.map (·.block) = some g → lo ≤ g ∧ g < hi) (hB : ∀ g, B.map (·.block) = some g → lo ≤ g ∧ g < hi) (hn : n ≤ 4194304) (hm : m ≤ 4194304) :
    Calls Tryz.prog 77 #[.agg #[.slice A n c, .slice B m d, .int .i64 x], .int .i64 1] w fun e w' => e = .returned (.int .i64 (1 + 4 * (n : Int) + 7 * (m : Int))) ∧ Ow eS w' base A n c (marksS 1 n) ∧ Ow eH w' base B m d (marksH (1 + 4 * n) m) ∧ Within lo hi w w' ∧ Others w w' := by
  have hb0 : Below w.heap.size w (w.alloc (.cells #[.slice A n c, .slice B m d, .int .i64 x] 39)) := (Below.refl _ _).alloc (Nat.le_refl _) _
  have x0 := At.new w 39 #[.slice A n c, .slice B m d, .int .i64 x]
  have oa0 := oa.alloc (.cells #[.slice A n c, .slice B m d, .int .i64 x] 39)
  have ob0 := ob.alloc (.cells #[.slice A n c, .slice B m d, .int .i64 x] 39)
  obtain ⟨c0, c1, c2, _, _, _⟩ := x0.three
  have e1 : ((1 + 4 * n : Nat) : Int) = 1 + 4 * (n : Int) := by omega
  have MH := fun W (o : Ow eH W base B m d h) => markHintS B m d base h (1 + 4 * n) W o (by omega) (by omega)
  rw [e1] at MH
  have hlx : ∀ g, A.map (·.block) = some g → g ≠ w.heap.size := fun g hg => Nat.ne_of_lt (oa.lt g hg).2
  have hly : ∀ g, B.map (·.block) = some g → g ≠ w.heap.size := fun g hg => Nat.ne_of_lt (ob.lt g hg).2
  go_enter Tryz.func77, Tryz.ntmps77
  go_wp2_with fail
  refine (markSampleS1 A n c base l _ oa0 (by omega)).mono ?_
  rintro e w1 ⟨rfl, oa1, hg1⟩
  have x1 := x0.grown hg1 (fun e => hlx _ e rfl)
  have ob1 := ob0.grown hg1 (Ow.two oa0 ob0 (by decide))
  have W1 : Within lo hi w w1 := (Within.of_below hb0).trans (within_of hg1 hA)
  clear c0 c1 c2
  obtain ⟨c0, c1, c2, _, _, _⟩ := x1.three
  go_wp2_with fail
  refine (MH _ ob1).mono ?_
  rintro e w2 ⟨rfl, ob2, hg2⟩
  have oa2 := oa1.grown hg2 (fun g hg e => Ow.two oa1 ob1 (by decide) g e hg)
  have W2 : Within lo hi w w2 := W1.trans (within_of hg2 hB)
  go_wp2
  go_ret
  exact ⟨rfl, oa2, ob2, W2, fun g t cs hg h1 h2 => ((hg.alloc _).grown hg1 (oa0.notAt (hg.alloc _) h1)).grown hg2 (ob1.notAt ((hg.alloc _).grown hg1 (oa0.notAt (hg.alloc _) h1)) h2)⟩

set_option maxHeartbeats 1000000 in
theorem heldState (A B : Option Addr) (n c m d : Nat) (x : Int) (w : World) (ra : Rd eS w w.heap.size A (marksS 1 n)) (rb : Rd eH w w.heap.size B (marksH (1 + 4 * n) m)) (hn : n ≤ 4194304) (hm : m ≤ 4194304) :
    Calls Tryz.prog 79 #[.agg #[.slice A n c, .slice B m d, .int .i64 x], .int .i64 1] w fun e w' => e = .returned (.int .i64 (1 + 4 * (n : Int) + 7 * (m : Int))) ∧ Below w.heap.size w w' := by
  have hb0 : Below w.heap.size w (w.alloc (.cells #[.slice A n c, .slice B m d, .int .i64 x] 39)) := (Below.refl _ _).alloc (Nat.le_refl _) _
  have x0 := At.new w 39 #[.slice A n c, .slice B m d, .int .i64 x]
  have ra0 := ra.lift hb0
  have rb0 := rb.lift hb0
  obtain ⟨c0, c1, c2, _, _, _⟩ := x0.three
  have e1 : ((1 + 4 * n : Nat) : Int) = 1 + 4 * (n : Int) := by omega
  have HH := fun W (o : Rd eH W W.heap.size B (marksH (1 + 4 * n) m)) => heldHintS B m d (1 + 4 * n) W o (by omega) (by omega)
  rw [e1] at HH
  have hl1 : ¬ (1 : Int) + 4 * (n : Int) < 0 := by omega
  have hl2 : ¬ (1 : Int) + 4 * (n : Int) + 7 * (m : Int) < 0 := by omega
  go_enter Tryz.func79, Tryz.ntmps79
  go_wp2_with fail
  refine (heldSampleS1 A n c _ ra0 (by omega)).mono ?_
  rintro e w1 ⟨rfl, hb1⟩
  have hB1 := hb0.trans (hb1.mono hb0.size)
  have x1 := x0.below hb1 x0.lt
  clear c0 c1 c2
  obtain ⟨c0, c1, c2, _, _, _⟩ := x1.three
  go_wp2_with fail
  refine (HH _ (rb0.lift hb1)).mono ?_
  rintro e w2 ⟨rfl, hb2⟩
  go_wp2
  go_ret
  exact ⟨rfl, hB1.trans (hb2.mono hB1.size)⟩

end Go.Proofs.YtmaillakhhdkfaaGreatDoor
/-
  Rows of records: held against one another, marked and held, as the law does it.
-/
namespace Go.Proofs.YtmaillakhhdkfaaGreatDoor
set_option maxRecDepth 20000
open Go.RowKit
set_option linter.unusedSimpArgs false
set_option linter.unusedVariables false
set_option synthInstance.maxSize 1024
set_option synthInstance.maxHeartbeats 200000

section
variable {w w' : World} {base hi n c : Nat} {A : Option Addr} {l : List Rcd}
/-- One number of a record. -/
theorem Ow.rcdPut {g : Nat} (h : Ow eR w base (some ⟨g, 0, none⟩) n c l) {k j : Nat} {x y : Rcd} {u : Value} (hk : l[k]? = some x) (hj : j < 7) (hc : rcdCells y = (rcdCells x).set j u) :
    Ow eR (w.setCell ⟨g, k * 7 + j, none⟩ u) base (some ⟨g, 0, none⟩) n c (l.set k y) ∧ w.grownBy (w.setCell ⟨g, k * 7 + j, none⟩ u) (some g) :=
  h.stored okR (k := k) (j := j) (a' := y) hk hj hc
/-- A whole record. -/
theorem Ow.rcdSet {g : Nat} (h : Ow eR w base (some ⟨g, 0, none⟩) n c l) {k : Nat} (hk : k < l.length) (b0 b1 b2 b3 b4 b5 b6 : Int) :
    Ow eR (((((((w.setCell ⟨g, k * 7, none⟩ (.int .i64 b0)).setCell ⟨g, k * 7 + 1, none⟩ (.int .i64 b1)).setCell ⟨g, k * 7 + 2, none⟩ (.int .i64 b2)).setCell ⟨g, k * 7 + 3, none⟩ (.int .i64 b3)).setCell ⟨g, k * 7 + 4, none⟩ (.int .i64 b4)).setCell ⟨g, k * 7 + 5, none⟩ (.int .i64 b5)).setCell ⟨g, k * 7 + 6, none⟩ (.int .i64 b6)) base (some ⟨g, 0, none⟩) n c (l.set k (b0, b1, (b2, b3, b4, b5), b6)) ∧
    w.grownBy (((((((w.setCell ⟨g, k * 7, none⟩ (.int .i64 b0)).setCell ⟨g, k * 7 + 1, none⟩ (.int .i64 b1)).setCell ⟨g, k * 7 + 2, none⟩ (.int .i64 b2)).setCell ⟨g, k * 7 + 3, none⟩ (.int .i64 b3)).setCell ⟨g, k * 7 + 4, none⟩ (.int .i64 b4)).setCell ⟨g, k * 7 + 5, none⟩ (.int .i64 b5)).setCell ⟨g, k * 7 + 6, none⟩ (.int .i64 b6)) (some g) := by
  obtain ⟨⟨a0, a1, ⟨a2, a3, a4, a5⟩, a6⟩, ha⟩ : ∃ x, l[k]? = some x := ⟨l[k], List.getElem?_eq_getElem hk⟩
  have h0 := h.rcdPut (j := 0) (y := (b0, a1, (a2, a3, a4, a5), a6)) ha (by omega) rfl
  have h1 := h0.1.rcdPut (j := 1) (x := (b0, a1, (a2, a3, a4, a5), a6)) (y := (b0, b1, (a2, a3, a4, a5), a6)) (by rw [List.getElem?_set_self (by omega)]) (by omega) rfl
  rw [List.set_set] at h1
  have h2 := h1.1.rcdPut (j := 2) (x := (b0, b1, (a2, a3, a4, a5), a6)) (y := (b0, b1, (b2, a3, a4, a5), a6)) (by rw [List.getElem?_set_self (by omega)]) (by omega) rfl
  rw [List.set_set] at h2
  have h3 := h2.1.rcdPut (j := 3) (x := (b0, b1, (b2, a3, a4, a5), a6)) (y := (b0, b1, (b2, b3, a4, a5), a6)) (by rw [List.getElem?_set_self (by omega)]) (by omega) rfl
  rw [List.set_set] at h3
  have h4 := h3.1.rcdPut (j := 4) (x := (b0, b1, (b2, b3, a4, a5), a6)) (y := (b0, b1, (b2, b3, b4, a5), a6)) (by rw [List.getElem?_set_self (by omega)]) (by omega) rfl
  rw [List.set_set] at h4
  have h5 := h4.1.rcdPut (j := 5) (x := (b0, b1, (b2, b3, b4, a5), a6)) (y := (b0, b1, (b2, b3, b4, b5), a6)) (by rw [List.getElem?_set_self (by omega)]) (by omega) rfl
  rw [List.set_set] at h5
  have h6 := h5.1.rcdPut (j := 6) (x := (b0, b1, (b2, b3, b4, b5), a6)) (y := (b0, b1, (b2, b3, b4, b5), b6)) (by rw [List.getElem?_set_self (by omega)]) (by omega) rfl
  rw [List.set_set] at h6
  exact ⟨h6.1, grown_trans (grown_trans (grown_trans (grown_trans (grown_trans (grown_trans h0.2 h1.2) h2.2) h3.2) h4.2) h5.2) h6.2⟩
end

def EqRelR (xs ys : List Rcd) (w : World) (n : Nat) (i : Value) (wr : World) : Prop :=
  ∃ k : Nat, k ≤ n ∧ i = .int .i64 k ∧ (∀ i, i < k → xs[i]? = ys[i]?) ∧ Below w.heap.size w wr

theorem eqRecordS_no (A B : Option Addr) (n m c d : Nat) (w : World) (h : n ≠ m) :
    Calls Tryz.prog 76 #[.slice A n c, .slice B m d] w fun e w' => e = .returned (.bool false) ∧ Below w.heap.size w w' := by
  have hb : ((n : Int) != (m : Int)) = true := by simp; omega
  go_enter Tryz.func76, Tryz.ntmps76
  go_wp2
  go_ret
  exact ⟨rfl, Below.refl _ _⟩

set_option maxHeartbeats 1000000 in
theorem eqRecordS_any (A B : Option Addr) (n c d : Nat) (xs ys : List Rcd) (w : World) (ha : Rd eR w w.heap.size A xs) (hb : Rd eR w w.heap.size B ys) (hx : xs.length = n) (hy : ys.length = n) (hm : n ≤ maxLen) :
    Calls Tryz.prog 76 #[.slice A n c, .slice B n d] w fun e w' => e = .returned (.bool (decide (xs = ys))) ∧ Below w.heap.size w w' := by
  have h0 : ((n : Int) != (n : Int)) = false := by simp
  have Hx := Lib.hid hx
  have Hy := Lib.hid hy
  clear hx hy
  unfold maxLen at hm
  go_enter Tryz.func76, Tryz.ntmps76
  go_wp2
  go_loopw [5] (fun i wr => EqRelR xs ys w n i wr) (fun i _ => n - (intOf i).toNat)
  case atStart => exact ⟨0, Nat.zero_le _, rfl, fun _ h => absurd h (by omega), Below.refl _ _⟩
  case round =>
    obtain ⟨k, hk, rfl, hal, hbel⟩ := hrel
    have Hal := Lib.hid hal
    clear hal
    by_cases hlt : k < n
    · obtain ⟨g, o, a0, a1, a2, a3, a4, a5, a6, rfl, hg, hxk, ca⟩ := (ha.below hbel (Nat.le_refl _)).rcd (k := k) (by rw [Hx.out]; exact hlt)
      obtain ⟨g', o', b0, b1, b2, b3, b4, b5, b6, rfl, hg', hyk, cb⟩ := (hb.below hbel (Nat.le_refl _)).rcd (k := k) (by rw [Hy.out]; exact hlt)
      have Hxk := Lib.hid hxk
      have Hyk := Lib.hid hyk
      clear hxk hyk
      have hbd := hbel.drew
      go_wp2
      refine wp_region_mix [(0, false), (1, false), (2, false), (3, false), (4, false), (5, false), (6, false), (7, false), (8, true), (9, false)] (fun u => S7 u g (o + k * 7) a0 a1 a2 a3 a4 a5 a6 ∧ S7 u g' (o' + k * 7) b0 b1 b2 b3 b4 b5 b6) (by kernel_rfl) (by kernel_rfl) (fun _ _ _ _ _ h => h) ⟨ca.drew, cb.drew⟩ ?_
      simp only [mixOps, List.map_cons, List.map_nil, List.getElem?_cons_succ, List.getElem?_cons_zero, Option.getD_some]
      repeat (first
        | (refine mix_skip (by rfl) ?_
           (try simp only [Act.put, List.setIfInBounds_toArray, List.set_cons_zero, List.set_cons_succ]))
        | (refine mix_pure (v := ?_) (by rfl) (fun u hu => ?_) ?_
           rotate_left
           · obtain ⟨⟨_, _, _, _, _, _, _⟩, _, _, _, _, _, _, _⟩ := hu
             go_simp
             (with_reducible rfl)
           (try simp only [Act.put, List.setIfInBounds_toArray, List.set_cons_zero, List.set_cons_succ])))
      refine mix_call (by rfl) (fun K hK => ?_)
      go_simp
      refine (eqRecord a0 a1 a2 a3 a4 a5 a6 b0 b1 b2 b3 b4 b5 b6 _).mono ?_
      rintro e w1 ⟨rfl, hb1⟩
      have hB1 := hbd.trans (hb1.mono hbd.size)
      have c1 := ca.drew.below hb1 (Nat.lt_of_lt_of_le hg hbd.size)
      have c2 := cb.drew.below hb1 (Nat.lt_of_lt_of_le hg' hbd.size)
      refine hK _ _ _ (fun _ h => h) ⟨c1, c2⟩ ?_
      (try simp only [Act.put, List.setIfInBounds_toArray, List.set_cons_zero, List.set_cons_succ])
      by_cases he : (a0, a1, (a2, a3, a4, a5), a6) = (b0, b1, (b2, b3, b4, b5), b6)
      · rw [show decide ((a0, a1, (a2, a3, a4, a5), a6) = (b0, b1, (b2, b3, b4, b5), b6)) = true by simpa using he]
        have He := Lib.hid he
        clear he
        refine mix_pure (v := ?_) (by rfl) (fun u hu => ?_) ?_
        rotate_left
        · go_simp
          (with_reducible rfl)
        (try simp only [Act.put, List.setIfInBounds_toArray, List.set_cons_zero, List.set_cons_succ])
        refine mix_nil ?_
        go_wp2
        refine ⟨⟨k + 1, by omega, by go_num, fun i hi => ?_, hB1⟩, by simp [intOf]; omega⟩
        rcases Nat.lt_or_ge i k with h | h
        · exact Hal.out i h
        · obtain rfl : i = k := by omega
          rw [Hxk.out, Hyk.out, He.out]
      · rw [show decide ((a0, a1, (a2, a3, a4, a5), a6) = (b0, b1, (b2, b3, b4, b5), b6)) = false from decide_eq_false he]
        have hfin : decide (xs = ys) = false := by
          simp only [decide_eq_false_iff_not]
          rintro rfl
          exact he (Option.some.inj (Hxk.out.symm.trans Hyk.out))
        have Hf := Lib.hid hfin
        clear he hfin
        refine mix_pure (v := ?_) (by rfl) (fun u hu => ?_) ?_
        rotate_left
        · go_simp
          (with_reducible rfl)
        (try simp only [Act.put, List.setIfInBounds_toArray, List.set_cons_zero, List.set_cons_succ])
        refine mix_nil ?_
        go_wp2
        go_ret
        exact ⟨by rw [Hf.out]; rfl, hB1⟩
    · have hfin : decide (xs = ys) = true := by
        obtain rfl : k = n := by omega
        simp only [decide_eq_true_eq]
        exact alike_all' Hx.out Hy.out Hal.out
      have Hf := Lib.hid hfin
      clear hfin
      go_wp2
      go_ret
      exact ⟨by rw [Hf.out]; rfl, hbel⟩

/-- Two rows of hints compared, whatever their lengths. -/
theorem eqRecordS (A B : Option Addr) (n m c d : Nat) (xs ys : List Rcd) (w : World) (ha : Rd eR w w.heap.size A xs) (hb : Rd eR w w.heap.size B ys) (hx : xs.length = n) (hy : ys.length = m) (hm : n ≤ maxLen) :
    Calls Tryz.prog 76 #[.slice A n c, .slice B m d] w fun e w' => e = .returned (.bool (decide (xs = ys))) ∧ Below w.heap.size w w' := by
  by_cases h : n = m
  · subst h
    exact eqRecordS_any A B n c d xs ys w ha hb hx hy hm
  · have hd : decide (xs = ys) = false := by
      simp only [decide_eq_false_iff_not]
      rintro rfl
      exact h (hx.symm.trans hy)
    rw [hd]
    exact eqRecordS_no A B n m c d w h


def markR (k i : Nat) : Rcd := ((k : Int) + 7 * i, (k : Int) + 7 * i + 1, ((k : Int) + 7 * i + 2, (k : Int) + 7 * i + 3, (k : Int) + 7 * i + 4, (k : Int) + 7 * i + 5), (k : Int) + 7 * i + 6)
/-- What a mark lays: seven numbers a record. -/
def marksR (k n : Nat) : List Rcd := (List.range n).map (markR k)
theorem marksR_len (k n : Nat) : (marksR k n).length = n := by simp [marksR]
theorem marksR_at {k n i : Nat} (h : i < n) : (marksR k n)[i]? = some (markR k i) := by simp [marksR, h]

set_option maxHeartbeats 4000000 in
theorem markRecordS (A : Option Addr) (n c base : Nat) (l : List Rcd) (k : Nat) (w : World) (ha : Ow eR w base A n c l) (hm : n ≤ 4294967296) (hk : k ≤ 4294967296) :
    Calls Tryz.prog 78 #[.slice A n c, .int .i64 k] w fun e w' => e = .returned (.int .i64 ((k : Int) + 7 * n)) ∧ Ow eR w' base A n c (marksR k n) ∧ w.grownBy w' (A.map (·.block)) := by
  have Hn := Lib.hid (ha.len okR)
  go_enter Tryz.func78, Tryz.ntmps78
  go_wp2
  go_loopw [1, 5] (fun vk i wr => MarkRel eR (markR k) 7 w base A n c l k vk i wr) (fun _ i _ => n - (intOf i).toNat)
  case atStart => exact markRel_start _ _ _ ha
  case round =>
    obtain ⟨j, hj, rfl, rfl, hown, hgr⟩ := hrel
    rw [show (k : Int) + ((7 : Nat) : Int) * (j : Int) = (k : Int) + 7 * (j : Int) by omega]
    by_cases hlt : j < n
    · obtain ⟨g, rfl, hg, _⟩ := hown.form (by omega)
      obtain ⟨⟨a0, a1, ⟨a2, a3, a4, a5⟩, a6⟩, hz⟩ := markRel_at (markR k) l n j hlt Hn.out
      obtain ⟨d0, d1, d2, d3, d4, d5, d6⟩ := hown.rcdAt hz
      have f0 := hown.frozenAt (j * 7)
      have f1 := hown.frozenAt (j * 7 + 1)
      have f2 := hown.frozenAt (j * 7 + 2)
      have f3 := hown.frozenAt (j * 7 + 3)
      have f4 := hown.frozenAt (j * 7 + 4)
      have f5 := hown.frozenAt (j * 7 + 5)
      have f6 := hown.frozenAt (j * 7 + 6)
      have hs := hown.rcdSet (k := j) (getElem?_some_lt hz) ((k : Int) + 7 * j) ((k : Int) + 7 * j + 1) ((k : Int) + 7 * j + 2) ((k : Int) + 7 * j + 3) ((k : Int) + 7 * j + 4) ((k : Int) + 7 * j + 5) ((k : Int) + 7 * j + 6)
      have Hset := Lib.hid (laid_set (markR k) l n j hlt Hn.out)
      have Hgr := Lib.hid (grown_trans hgr hs.2)
      have Hst := Lib.hid hs.1
      clear hgr hs hz
      go_wp2
      exact ⟨⟨j + 1, by omega, by go_num, congrArg _ (by omega), by rw [← Hset.out]; exact Hst.out, Hgr.out⟩, by simp [intOf]; omega⟩
    · have hall := markRel_end hown (by omega) Hn.out
      obtain rfl : n = j := by omega
      clear hown
      go_wp2
      go_ret
      exact ⟨rfl, hall, hgr⟩
theorem markRecordS1 (A : Option Addr) (n c base : Nat) (l : List Rcd) (w : World) (ha : Ow eR w base A n c l) (hm : n ≤ 4294967296) :
    Calls Tryz.prog 78 #[.slice A n c, .int .i64 1] w fun e w' => e = .returned (.int .i64 (1 + 7 * (n : Int))) ∧ Ow eR w' base A n c (marksR 1 n) ∧ w.grownBy w' (A.map (·.block)) :=
  markRecordS A n c base l 1 w ha hm (by omega)

set_option maxHeartbeats 4000000 in
theorem heldRecordS (A : Option Addr) (n c : Nat) (k : Nat) (w : World) (ha : Rd eR w w.heap.size A (marksR k n)) (hm : n ≤ 4294967296) (hk : k ≤ 4294967296) :
    Calls Tryz.prog 80 #[.slice A n c, .int .i64 k] w fun e w' => e = .returned (.int .i64 ((k : Int) + 7 * n)) ∧ Below w.heap.size w w' := by
  go_enter Tryz.func80, Tryz.ntmps80
  go_wp2
  go_loopw [1, 5] (fun vk i wr => HeldRel w n 7 k vk i wr) (fun _ i _ => n - (intOf i).toNat)
  case atStart => exact heldRel_start _ _ _ _
  case round =>
    obtain ⟨j, hj, rfl, rfl, hbel⟩ := hrel
    rw [show (k : Int) + ((7 : Nat) : Int) * (j : Int) = (k : Int) + 7 * (j : Int) by omega]
    by_cases hlt : j < n
    · obtain ⟨g, o, a0, a1, a2, a3, a4, a5, a6, rfl, hg, hx, c0, c1, c2, c3, c4, c5, c6⟩ := (ha.below hbel (Nat.le_refl _)).rcd (k := j) (by rw [marksR_len]; exact hlt)
      rw [marksR_at hlt] at hx
      simp only [markR, Option.some.injEq, Prod.mk.injEq] at hx
      obtain ⟨rfl, rfl, ⟨rfl, rfl, rfl, rfl⟩, rfl⟩ := hx
      go_wp2
      exact ⟨⟨j + 1, by omega, by go_num, congrArg _ (by omega), hbel⟩, by simp [intOf]; omega⟩
    · obtain rfl : n = j := by omega
      go_wp2
      go_ret
      exact ⟨rfl, hbel⟩
end Go.Proofs.YtmaillakhhdkfaaGreatDoor
/-
  What RecoverDisk answers, compared as the law does it.
-/
namespace Go.Proofs.YtmaillakhhdkfaaGreatDoor
set_option maxRecDepth 20000
open Go.RowKit
set_option linter.unusedSimpArgs false
set_option linter.unusedVariables false

set_option synthInstance.maxSize 1024 in
set_option maxHeartbeats 1000000 in
theorem eqDiskResult_same (z y : Int) (A B R A' B' R' : Option Addr) (n c m d k kc n' c' m' d' k' kc' : Nat) (l : List Smp) (h : List Hnt) (rs : List Rcd) (x : Int) (w : World) (ha : Rd eS w w.heap.size A l) (hb : Rd eH w w.heap.size B h) (hr : Rd eR w w.heap.size R rs) (ha' : Rd eS w w.heap.size A' l) (hb' : Rd eH w w.heap.size B' h) (hr' : Rd eR w w.heap.size R' rs) (hn : l.length = n) (hm : h.length = m) (hk : rs.length = k) (hn' : l.length = n') (hm' : h.length = m') (hk' : rs.length = k') (hnm : n ≤ maxLen) (hmm : m ≤ maxLen) (hkm : k ≤ maxLen) :
    Calls Tryz.prog 29 #[.agg #[.int .i64 z, .slice A n c, .slice B m d, .int .i64 x, .slice R k kc, .int .i64 y], .agg #[.int .i64 z, .slice A' n' c', .slice B' m' d', .int .i64 x, .slice R' k' kc', .int .i64 y]] w fun e w' => e = .returned (.bool true) ∧ Below w.heap.size w w' := by
  have hb0 : Below w.heap.size w ((w.alloc (.cells #[.int .i64 z, .slice A n c, .slice B m d, .int .i64 x, .slice R k kc, .int .i64 y] 53)).alloc (.cells #[.int .i64 z, .slice A' n' c', .slice B' m' d', .int .i64 x, .slice R' k' kc', .int .i64 y] 53)) := ((Below.refl _ _).alloc (Nat.le_refl _) _).alloc (by simp) _
  have x0 := (At.new w 53 #[.int .i64 z, .slice A n c, .slice B m d, .int .i64 x, .slice R k kc, .int .i64 y]).alloc (.cells #[.int .i64 z, .slice A' n' c', .slice B' m' d', .int .i64 x, .slice R' k' kc', .int .i64 y] 53)
  have y0 : At ((w.alloc (.cells #[.int .i64 z, .slice A n c, .slice B m d, .int .i64 x, .slice R k kc, .int .i64 y] 53)).alloc (.cells #[.int .i64 z, .slice A' n' c', .slice B' m' d', .int .i64 x, .slice R' k' kc', .int .i64 y] 53)) (w.heap.size + 1) 53 #[.int .i64 z, .slice A' n' c', .slice B' m' d', .int .i64 x, .slice R' k' kc', .int .i64 y] := by
    have := At.new (w.alloc (.cells #[.int .i64 z, .slice A n c, .slice B m d, .int .i64 x, .slice R k kc, .int .i64 y] 53)) 53 #[.int .i64 z, .slice A' n' c', .slice B' m' d', .int .i64 x, .slice R' k' kc', .int .i64 y]
    simpa using this
  obtain ⟨⟨c0, c1, c2, c3, c4, c5⟩, _⟩ := x0.sixC
  obtain ⟨⟨d0, d1, d2, d3, d4, d5⟩, _⟩ := y0.sixC
  have hzz : (z != z) = false := by simp
  have hyy : (y != y) = false := by simp
  go_enter Tryz.func29, Tryz.ntmps29
  go_wp2_with fail
  refine (eqState A B A' B' n c m d n' c' m' d' l l h h x x _ (ha.lift hb0) (hb.lift hb0) (ha'.lift hb0) (hb'.lift hb0) hn hm hn' hm' hnm hmm).mono ?_
  rintro e w1 ⟨rfl, hb1⟩
  rw [sta_yes]
  have hB1 := hb0.trans (hb1.mono hb0.size)
  have x1 := x0.below hb1 x0.lt
  have y1 := y0.below hb1 y0.lt
  obtain ⟨⟨e0, e1, e2, e3, e4, e5⟩, _⟩ := x1.sixC
  obtain ⟨⟨f0, f1, f2, f3, f4, f5⟩, _⟩ := y1.sixC
  go_wp2_with fail
  refine (eqRecordS R R' k k' kc kc' rs rs _ (hr.lift hB1) (hr'.lift hB1) hk hk' hkm).mono ?_
  rintro e w2 ⟨rfl, hb2⟩
  rw [decide_eq_true (rfl : rs = rs)]
  have hB2 := hB1.trans (hb2.mono hB1.size)
  have x2 := x1.below hb2 x1.lt
  have y2 := y1.below hb2 y1.lt
  obtain ⟨⟨_, _, _, _, _, g5⟩, _⟩ := x2.sixC
  obtain ⟨⟨_, _, _, _, _, h5⟩, _⟩ := y2.sixC
  go_wp2
  go_ret
  exact ⟨rfl, hB2⟩
set_option maxHeartbeats 1000000 in
theorem heldDiskResult (z y : Int) (A B R : Option Addr) (n c m d k kc : Nat) (x : Int) (w : World) (ra : Rd eS w w.heap.size A (marksS 1 n)) (rb : Rd eH w w.heap.size B (marksH (1 + 4 * n) m)) (rr : Rd eR w w.heap.size R (marksR (1 + 4 * n + 7 * m) k)) (hn : n ≤ 4194304) (hm : m ≤ 4194304) (hk : k ≤ 4194304) :
    Calls Tryz.prog 33 #[.agg #[.int .i64 z, .slice A n c, .slice B m d, .int .i64 x, .slice R k kc, .int .i64 y], .int .i64 1] w fun e w' => e = .returned (.int .i64 (1 + 4 * (n : Int) + 7 * (m : Int) + 7 * (k : Int))) ∧ Below w.heap.size w w' := by
  have hb0 : Below w.heap.size w (w.alloc (.cells #[.int .i64 z, .slice A n c, .slice B m d, .int .i64 x, .slice R k kc, .int .i64 y] 53)) := (Below.refl _ _).alloc (Nat.le_refl _) _
  have x0 := At.new w 53 #[.int .i64 z, .slice A n c, .slice B m d, .int .i64 x, .slice R k kc, .int .i64 y]
  obtain ⟨⟨c0, c1, c2, c3, c4, c5⟩, _⟩ := x0.sixC
  have e1 : ((1 + 4 * n + 7 * m : Nat) : Int) = 1 + 4 * (n : Int) + 7 * (m : Int) := by omega
  have HR := fun W (o : Rd eR W W.heap.size R (marksR (1 + 4 * n + 7 * m) k)) => heldRecordS R k kc (1 + 4 * n + 7 * m) W o (by omega) (by omega)
  rw [e1] at HR
  have hl1 : ¬ (1 : Int) + 4 * (n : Int) + 7 * (m : Int) < 0 := by omega
  have hl2 : ¬ (1 : Int) + 4 * (n : Int) + 7 * (m : Int) + 7 * (k : Int) < 0 := by omega
  go_enter Tryz.func33, Tryz.ntmps33
  go_wp2_with fail
  refine (heldState A B n c m d x _ (ra.lift hb0) (rb.lift hb0) hn hm).mono ?_
  rintro e w1 ⟨rfl, hb1⟩
  have hB1 := hb0.trans (hb1.mono hb0.size)
  have x1 := x0.below hb1 x0.lt
  clear c0 c1 c2 c3 c4 c5
  obtain ⟨⟨c0, c1, c2, c3, c4, c5⟩, _⟩ := x1.sixC
  go_wp2_with fail
  refine (HR _ (rr.lift hB1)).mono ?_
  rintro e w2 ⟨rfl, hb2⟩
  go_wp2
  go_ret
  exact ⟨rfl, hB1.trans (hb2.mono hB1.size)⟩
theorem Ow.others {w w' : World} {base k kc : Nat} {R : Option Addr} {rs : List Rcd} (h : Ow eR w base R k kc rs) (ho : Others w w') (hs : w.heap.size ≤ w'.heap.size) : Ow eR w' base R k kc rs := by
  refine h.keep fun b hb => ?_
  rcases h.2 with ⟨h0, _⟩ | ⟨g', cap, cur, hv, hbb, hgg, rest⟩
  · simp only [Value.slice.injEq] at h0
    rw [h0.1] at hb
    simp [blkOf] at hb
  · simp only [Value.slice.injEq] at hv
    rw [hv.1] at hb
    obtain rfl : b = g' := by simpa [blkOf] using hb
    exact (ho b _ cur hgg (by decide) (by decide)).trans hgg.symm
set_option maxHeartbeats 1000000 in
theorem markDiskResult (z y : Int) (A B R : Option Addr) (n c m d k kc base lo hi : Nat) (l : List Smp) (h : List Hnt) (rs : List Rcd) (x : Int) (w : World) (oa : Ow eS w base A n c l) (ob : Ow eH w base B m d h) (or : Ow eR w base R k kc rs) (hA : ∀ g, A.map (·.block) = some g → lo ≤ g ∧ g < hi) (hB : ∀ g, B.map (·.block) = some g → lo ≤ g ∧ g < hi) (hR : ∀ g, R.map (·.block) = some g → lo ≤ g ∧ g < hi) (hn : n ≤ 4194304) (hm : m ≤ 4194304) (hk : k ≤ 4194304) :
    Calls Tryz.prog 32 #[.agg #[.int .i64 z, .slice A n c, .slice B m d, .int .i64 x, .slice R k kc, .int .i64 y], .int .i64 1] w fun e w' => e = .returned (.int .i64 (1 + 4 * (n : Int) + 7 * (m : Int) + 7 * (k : Int))) ∧ Ow eS w' base A n c (marksS 1 n) ∧ Ow eH w' base B m d (marksH (1 + 4 * n) m) ∧ Ow eR w' base R k kc (marksR (1 + 4 * n + 7 * m) k) ∧ Within lo hi w w' := by
  have hb0 : Below w.heap.size w (w.alloc (.cells #[.int .i64 z, .slice A n c, .slice B m d, .int .i64 x, .slice R k kc, .int .i64 y] 53)) := (Below.refl _ _).alloc (Nat.le_refl _) _
  have x0 := At.new w 53 #[.int .i64 z, .slice A n c, .slice B m d, .int .i64 x, .slice R k kc, .int .i64 y]
  have or0 := or.alloc (.cells #[.int .i64 z, .slice A n c, .slice B m d, .int .i64 x, .slice R k kc, .int .i64 y] 53)
  obtain ⟨⟨c0, c1, c2, c3, c4, c5⟩, _⟩ := x0.sixC
  have e1 : ((1 + 4 * n + 7 * m : Nat) : Int) = 1 + 4 * (n : Int) + 7 * (m : Int) := by omega
  have MR := fun W (o : Ow eR W base R k kc rs) => markRecordS R k kc base rs (1 + 4 * n + 7 * m) W o (by omega) (by omega)
  rw [e1] at MR
  go_enter Tryz.func32, Tryz.ntmps32
  go_wp2_with fail
  refine (markState A B n c m d base lo hi l h x _ (oa.alloc _) (ob.alloc _) hA hB hn hm).mono ?_
  rintro e w1 ⟨rfl, o1, o2, hw, ho⟩
  have x1 := ho _ _ _ x0 (by decide) (by decide)
  have or1 := or0.others ho hw.size
  clear c0 c1 c2 c3 c4 c5
  obtain ⟨⟨c0, c1, c2, c3, c4, c5⟩, _⟩ := x1.sixC
  go_wp2_with fail
  refine (MR _ or1).mono ?_
  rintro e w2 ⟨rfl, or2, hg2⟩
  go_wp2
  go_ret
  exact ⟨rfl, o1.grown hg2 (o1.neRow (by decide) or1), o2.grown hg2 (o2.neRow (by decide) or1), or2, ((Within.of_below hb0).trans hw).trans (within_of hg2 hR)⟩
end Go.Proofs.YtmaillakhhdkfaaGreatDoor
