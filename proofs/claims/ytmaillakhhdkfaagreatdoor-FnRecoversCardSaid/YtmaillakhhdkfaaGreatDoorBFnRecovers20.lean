/-
  Texts of one proof, joined: each has its own namespace.
-/
import Derived.Test.YtmaillakhhdkfaaGreatDoorBFnRecovers12
import Derived.Test.YtmaillakhhdkfaaGreatDoorBFnRecovers19
import Derived.Test.YtmaillakhhdkfaaGreatDoorBFnRecovers13
import Derived.Test.YtmaillakhhdkfaaGreatDoorBFnRecovers3
import Derived.Test.YtmaillakhhdkfaaGreatDoorBFnRecovers11
import Derived.Test.YtmaillakhhdkfaaGreatDoorBFnRecovers7
import Derived.Test.YtmaillakhhdkfaaGreatDoorBFnRecovers1
import Derived.Test.YtmaillakhhdkfaaGreatDoorBFnRecovers0
import Derived.Test.YtmaillakhhdkfaaGreatDoorBFnRecovers10
import Derived.Deep.DeepCutAuto
/-
  What one body says, put behind what was said: the program's.
-/
namespace Go.Proofs.YtmaillakhhdkfaaGreatDoor
set_option maxRecDepth 20000
open Go.RowKit
set_option linter.unusedSimpArgs false
set_option linter.unusedVariables false
attribute [local irreducible] mixW

/-- The sentinel's variable. -/
def Sent (w : World) (a : Addr) : Prop := w.cell? ⟨0, 0, none⟩ = some (.iface 276 (.pointer (some a)))
theorem Sent.pos {w : World} {a : Addr} (h : Sent w a) : 0 < w.heap.size := World.block_lt_of_cell? w ⟨0, 0, none⟩ h
theorem Sent.below {w w' : World} {a : Addr} {B : Nat} (h : Sent w a) (hb : Below B w w') (hB : 0 < B) : Sent w' a := by
  unfold Sent
  rw [hb.cell (p := ⟨0, 0, none⟩) hB]
  exact h
/-- What a disk has said, in a block of its own and rows of its own. -/
def DskAt (w : World) (g : Nat) (s : Sta) (rs : List Rcd) (p : Nat) : Prop :=
  ∃ SA sn sc SB sm sd R k kc, At w g 53 #[.int .i64 0, .slice SA sn sc, .slice SB sm sd, .int .i64 s.2.2, .slice R k kc, .int .i64 (p : Nat)] ∧ Ow eS w g SA sn sc s.1 ∧ Ow eH w g SB sm sd s.2.1 ∧ Ow eR w g R k kc rs
theorem DskAt.lt {w : World} {g p : Nat} {s : Sta} {rs : List Rcd} (h : DskAt w g s rs p) : g < w.heap.size := by
  obtain ⟨_, _, _, _, _, _, _, _, _, h, _⟩ := h
  exact h.lt
theorem DskAt.below {w w' : World} {g p : Nat} {s : Sta} {rs : List Rcd} (h : DskAt w g s rs p) (hb : Below w.heap.size w w') : DskAt w' g s rs p := by
  obtain ⟨SA, sn, sc, SB, sm, sd, R, k, kc, h1, h2, h3, h4⟩ := h
  exact ⟨SA, sn, sc, SB, sm, sd, R, k, kc, h1.below hb h1.lt, h2.below hb (Nat.le_refl _), h3.below hb (Nat.le_refl _), h4.below hb (Nat.le_refl _)⟩

set_option maxHeartbeats 4000000 in
/-- A body that is no record. -/
theorem say_torn (g : Nat) (A : Option Addr) (n c : Nat) (b : List UInt8) (a : Addr) (w : World) (hg : g < w.heap.size) (ha : Rd eB w w.heap.size A b) (hn : b.length = n) (hc : n ≤ c) (hcm : c ≤ maxLen) (hF : Flds w) (hS : Sent w a) (hb : (decodeRecM b).1 ≠ 0) :
    Calls Tryz.prog 71 #[.pointer (some ⟨g, 0, none⟩), .slice A n c] w fun e w' => e = .returned (.iface 276 (.pointer (some a))) ∧ Below w.heap.size w w' := by
  have D := implDecodeRecord A n c b w ha hn hc hcm hF
  rcases hz : decodeRecM b with ⟨z, a0, a1, ⟨a2, a3, a4, a5⟩, a6⟩
  rw [hz] at D hb
  have hne : (z != 0) = true := by rw [bne_iff_ne]; exact hb
  clear hz hn hb ha
  go_enter Tryz.func71, Tryz.ntmps71
  go_wp2_with fail
  refine D.mono ?_
  rintro e w1 ⟨rfl, hb1⟩
  have x1 := At.new w1 34 #[.int .i64 z, .int .i64 a0, .int .i64 a1, .int .i64 a2, .int .i64 a3, .int .i64 a4, .int .i64 a5, .int .i64 a6]
  have hB := hb1.alloc hb1.size (.cells #[.int .i64 z, .int .i64 a0, .int .i64 a1, .int .i64 a2, .int .i64 a3, .int .i64 a4, .int .i64 a5, .int .i64 a6] 34)
  have s1 : World.cell? (w1.alloc (.cells #[.int .i64 z, .int .i64 a0, .int .i64 a1, .int .i64 a2, .int .i64 a3, .int .i64 a4, .int .i64 a5, .int .i64 a6] 34)) ⟨0, 0, none⟩ = some (.iface 276 (.pointer (some a))) := hS.below hB hS.pos
  obtain ⟨c0, c1, c2, c3, c4, c5, c6, c7⟩ := x1.eightR
  go_wp2
  go_ret
  exact ⟨rfl, hB⟩

set_option maxHeartbeats 8000000 in
/-- A record that cannot be applied. -/
theorem say_no_step (g : Nat) (A : Option Addr) (n c : Nat) (b : List UInt8) (a : Addr) (SA SB R : Option Addr) (sn sc sm sd k kc p : Nat) (l : List Smp) (h : List Hnt) (x : Int) (rs : List Rcd) (a0 a1 a2 a3 a4 a5 a6 : Int) (w : World)
    (hX : At w g 53 #[.int .i64 0, .slice SA sn sc, .slice SB sm sd, .int .i64 x, .slice R k kc, .int .i64 (p : Nat)]) (os : Ow eS w g SA sn sc l) (oh : Ow eH w g SB sm sd h) (or : Ow eR w g R k kc rs) (ha : Rd eB w w.heap.size A b) (hn : b.length = n) (hc : n ≤ c) (hcm : c ≤ maxLen) (hF : Flds w) (hS : Sent w a) (hd : decodeRecM b = (0, (a0, a1, (a2, a3, a4, a5), a6))) (hap : (applyM (l, h, x) (a0, a1, (a2, a3, a4, a5), a6)).1 ≠ 0) :
    Calls Tryz.prog 71 #[.pointer (some ⟨g, 0, none⟩), .slice A n c] w fun e w' => e = .returned (.iface 276 (.pointer (some a))) ∧ Below w.heap.size w w' := by
  have D := implDecodeRecord A n c b w ha hn hc hcm hF
  rw [hd] at D
  have lx := hX.lt
  have AP := fun W r1 r2 hFW => implApplyRecord SA SB sn sc sm sd l h x a0 a1 a2 a3 a4 a5 a6 W r1 r2 (os.len okS) (oh.len okH) hFW
  rcases hq : applyM (l, h, x) (a0, a1, (a2, a3, a4, a5), a6) with ⟨z, tl, th, tx⟩
  rw [hq] at AP hap
  clear hq hd hn ha
  have hne : (z != 0) = true := by rw [bne_iff_ne]; exact hap
  clear hap
  go_enter Tryz.func71, Tryz.ntmps71
  go_wp2_with fail
  refine D.mono ?_
  rintro e w1 ⟨rfl, hb1⟩
  have lx1 : g < w1.heap.size := Nat.lt_of_lt_of_le lx hb1.size
  have hB := hb1.alloc hb1.size (.cells #[.int .i64 0, .int .i64 a0, .int .i64 a1, .int .i64 a2, .int .i64 a3, .int .i64 a4, .int .i64 a5, .int .i64 a6] 34)
  have x2 : At2 (w1.alloc (.cells #[.int .i64 0, .int .i64 a0, .int .i64 a1, .int .i64 a2, .int .i64 a3, .int .i64 a4, .int .i64 a5, .int .i64 a6] 34)) g 53 #[.int .i64 0, .slice SA sn sc, .slice SB sm sd, .int .i64 x, .slice R k kc, .int .i64 (p : Nat)] w1.heap.size 34 #[.int .i64 0, .int .i64 a0, .int .i64 a1, .int .i64 a2, .int .i64 a3, .int .i64 a4, .int .i64 a5, .int .i64 a6] := ⟨(hX.below hb1 lx).alloc _, At.new w1 34 #[.int .i64 0, .int .i64 a0, .int .i64 a1, .int .i64 a2, .int .i64 a3, .int .i64 a4, .int .i64 a5, .int .i64 a6]⟩
  have os2 := (os.below hb1 (Nat.le_refl _)).alloc (.cells #[.int .i64 0, .int .i64 a0, .int .i64 a1, .int .i64 a2, .int .i64 a3, .int .i64 a4, .int .i64 a5, .int .i64 a6] 34)
  have oh2 := (oh.below hb1 (Nat.le_refl _)).alloc (.cells #[.int .i64 0, .int .i64 a0, .int .i64 a1, .int .i64 a2, .int .i64 a3, .int .i64 a4, .int .i64 a5, .int .i64 a6] 34)
  have or2 := (or.below hb1 (Nat.le_refl _)).alloc (.cells #[.int .i64 0, .int .i64 a0, .int .i64 a1, .int .i64 a2, .int .i64 a3, .int .i64 a4, .int .i64 a5, .int .i64 a6] 34)
  have hF2 := hF.below hB
  have hS2 := hS.below hB hS.pos
  have hgw := hS.pos
  obtain ⟨c0, c1, c2, c3, c4, c5, c6, c7⟩ := x2.2.eightR
  have rs2 := os2.rd okS
  have rh2 := oh2.rd okH
  have lx2 := x2.lt
  have lgr : w1.heap.size < (w1.alloc (.cells #[.int .i64 0, .int .i64 a0, .int .i64 a1, .int .i64 a2, .int .i64 a3, .int .i64 a4, .int .i64 a5, .int .i64 a6] 34)).heap.size := by simp
  clear D hX os oh or hF hS hb1
  go_upto_region 4 with fail
  go_cut [6] (fun s wx => ∃ gx A5 n5 e5 B5 m5 h5, s = .pointer (some ⟨gx, 0, none⟩) ∧ At wx gx 43 #[.int .i64 z, .slice A5 n5 e5, .slice B5 m5 h5, .int .i64 tx] ∧ Ow eS wx (w1.alloc (.cells #[.int .i64 0, .int .i64 a0, .int .i64 a1, .int .i64 a2, .int .i64 a3, .int .i64 a4, .int .i64 a5, .int .i64 a6] 34)).heap.size A5 n5 e5 tl ∧ Ow eH wx (w1.alloc (.cells #[.int .i64 0, .int .i64 a0, .int .i64 a1, .int .i64 a2, .int .i64 a3, .int .i64 a4, .int .i64 a5, .int .i64 a6] 34)).heap.size B5 m5 h5 th ∧ Below (w1.alloc (.cells #[.int .i64 0, .int .i64 a0, .int .i64 a1, .int .i64 a2, .int .i64 a3, .int .i64 a4, .int .i64 a5, .int .i64 a6] 34)).heap.size (w1.alloc (.cells #[.int .i64 0, .int .i64 a0, .int .i64 a1, .int .i64 a2, .int .i64 a3, .int .i64 a4, .int .i64 a5, .int .i64 a6] 34)) wx)
  case first =>
    refine any_start (fun u => At2 u g 53 #[.int .i64 0, .slice SA sn sc, .slice SB sm sd, .int .i64 x, .slice R k kc, .int .i64 (p : Nat)] w1.heap.size 34 #[.int .i64 0, .int .i64 a0, .int .i64 a1, .int .i64 a2, .int .i64 a3, .int .i64 a4, .int .i64 a5, .int .i64 a6]) (by kernel_rfl) x2.drew (fun _ => ?_)
    have bxd := x2.drew
    have hBd := (Below.refl (w1.alloc (.cells #[.int .i64 0, .int .i64 a0, .int .i64 a1, .int .i64 a2, .int .i64 a3, .int .i64 a4, .int .i64 a5, .int .i64 a6] 34)).heap.size (w1.alloc (.cells #[.int .i64 0, .int .i64 a0, .int .i64 a1, .int .i64 a2, .int .i64 a3, .int .i64 a4, .int .i64 a5, .int .i64 a6] 34))).drew
    have rs2d : _ := rs2.lift ((Below.refl _ _).drew)
    have rh2d : _ := rh2.lift ((Below.refl _ _).drew)
    have hF2d := hF2.below ((Below.refl _ _).drew)
    refine any_pure (v := ?_) 0 rfl (by kernel_rfl) (fun _ _ _ _ _ h => h) (by rfl) (fun u hu => ?_) bxd ?_
    rotate_left
    · (obtain ⟨hu1, hu2⟩ := hu; obtain ⟨⟨_, _, _, _, _, _⟩, _⟩ := At.sixC hu1; obtain ⟨_, _, _, _, _, _, _, _⟩ := At.eightR hu2)
      go_simp
      (with_reducible rfl)
    (try simp only [Act.put, List.setIfInBounds_toArray, List.set_cons_zero, List.set_cons_succ])
    refine any_pure (v := ?_) 1 rfl (by kernel_rfl) (fun _ _ _ _ _ h => h) (by rfl) (fun u hu => ?_) bxd ?_
    rotate_left
    · (obtain ⟨hu1, hu2⟩ := hu; obtain ⟨⟨_, _, _, _, _, _⟩, _⟩ := At.sixC hu1; obtain ⟨_, _, _, _, _, _, _, _⟩ := At.eightR hu2)
      go_simp
      (with_reducible rfl)
    (try simp only [Act.put, List.setIfInBounds_toArray, List.set_cons_zero, List.set_cons_succ])
    refine any_pure (v := ?_) 2 rfl (by kernel_rfl) (fun _ _ _ _ _ h => h) (by rfl) (fun u hu => ?_) bxd ?_
    rotate_left
    · (obtain ⟨hu1, hu2⟩ := hu; obtain ⟨⟨_, _, _, _, _, _⟩, _⟩ := At.sixC hu1; obtain ⟨_, _, _, _, _, _, _, _⟩ := At.eightR hu2)
      go_simp
      (with_reducible rfl)
    (try simp only [Act.put, List.setIfInBounds_toArray, List.set_cons_zero, List.set_cons_succ])
    refine any_pure (v := ?_) 3 rfl (by kernel_rfl) (fun _ _ _ _ _ h => h) (by rfl) (fun u hu => ?_) bxd ?_
    rotate_left
    · (obtain ⟨hu1, hu2⟩ := hu; obtain ⟨⟨_, _, _, _, _, _⟩, _⟩ := At.sixC hu1; obtain ⟨_, _, _, _, _, _, _, _⟩ := At.eightR hu2)
      go_simp
      (with_reducible rfl)
    (try simp only [Act.put, List.setIfInBounds_toArray, List.set_cons_zero, List.set_cons_succ])
    refine any_pure (v := ?_) 4 rfl (by kernel_rfl) (fun _ _ _ _ _ h => h) (by rfl) (fun u hu => ?_) bxd ?_
    rotate_left
    · (obtain ⟨hu1, hu2⟩ := hu; obtain ⟨⟨_, _, _, _, _, _⟩, _⟩ := At.sixC hu1; obtain ⟨_, _, _, _, _, _, _, _⟩ := At.eightR hu2)
      go_simp
      (with_reducible rfl)
    (try simp only [Act.put, List.setIfInBounds_toArray, List.set_cons_zero, List.set_cons_succ])
    refine any_pure (v := ?_) 5 rfl (by kernel_rfl) (fun _ _ _ _ _ h => h) (by rfl) (fun u hu => ?_) bxd ?_
    rotate_left
    · (obtain ⟨hu1, hu2⟩ := hu; obtain ⟨⟨_, _, _, _, _, _⟩, _⟩ := At.sixC hu1; obtain ⟨_, _, _, _, _, _, _, _⟩ := At.eightR hu2)
      go_simp
      (with_reducible rfl)
    (try simp only [Act.put, List.setIfInBounds_toArray, List.set_cons_zero, List.set_cons_succ])
    refine any_two 6 7 rfl rfl (by kernel_rfl) (by rfl) (by rfl) ?_ ?_
    · go_simp
      refine (AP _ rs2d rh2d hF2d).mono ?_
      rintro e w101 ⟨A101, n101, c101, B101, m101, d101, rfl, ws101, wh101, hb101⟩
      have hB101 := hBd.trans (hb101.mono hBd.size)
      have bx101 := bxd.below hb101 bxd.lt
      have rs2_101 := rs2d.lift hb101
      have rh2_101 := rh2d.lift hb101
      have hF2_101 := hF2d.below hb101
      refine ⟨(fun u => At2 u g 53 #[.int .i64 0, .slice SA sn sc, .slice SB sm sd, .int .i64 x, .slice R k kc, .int .i64 (p : Nat)] w1.heap.size 34 #[.int .i64 0, .int .i64 a0, .int .i64 a1, .int .i64 a2, .int .i64 a3, .int .i64 a4, .int .i64 a5, .int .i64 a6]), fun _ h => h, bx101, ?_⟩
      (try simp only [Act.put, List.setIfInBounds_toArray, List.set_cons_zero, List.set_cons_succ])
      refine any_one 7 rfl (by kernel_rfl) (by rfl) ?_
      go_simp
      have ag102 := At.newAt' (w := w101) (t := 43) (cs := #[.int .i64 0, .slice none 0 0, .slice none 0 0, .int .i64 0]) (show w101.heap.size = w101.heap.size by first | rfl | simp)
      have gl102 : (w1.alloc (.cells #[.int .i64 0, .int .i64 a0, .int .i64 a1, .int .i64 a2, .int .i64 a3, .int .i64 a4, .int .i64 a5, .int .i64 a6] 34)).heap.size ≤ w101.heap.size := by first | exact hB101.size | exact Nat.le_refl _ | (have := hB101.size; simp at this ⊢; try omega)
      have hal102 := (Below.refl w101.heap.size w101).alloc (Nat.le_refl _) (.cells #[.int .i64 0, .slice none 0 0, .slice none 0 0, .int .i64 0] 43)
      have hB102 := hB101.alloc hB101.size (.cells #[.int .i64 0, .slice none 0 0, .slice none 0 0, .int .i64 0] 43)
      have bx102 := bx101.alloc (.cells #[.int .i64 0, .slice none 0 0, .slice none 0 0, .int .i64 0] 43)
      have ws_102 := ws101.alloc (.cells #[.int .i64 0, .slice none 0 0, .slice none 0 0, .int .i64 0] 43)
      have wh_102 := wh101.alloc (.cells #[.int .i64 0, .slice none 0 0, .slice none 0 0, .int .i64 0] 43)
      have rs2_102 := rs2_101.lift hal102
      have rh2_102 := rh2_101.lift hal102
      have hF2_102 := hF2_101.below hal102
      refine ⟨(fun u => At2 u g 53 #[.int .i64 0, .slice SA sn sc, .slice SB sm sd, .int .i64 x, .slice R k kc, .int .i64 (p : Nat)] w1.heap.size 34 #[.int .i64 0, .int .i64 a0, .int .i64 a1, .int .i64 a2, .int .i64 a3, .int .i64 a4, .int .i64 a5, .int .i64 a6]), fun _ h => h, bx102, ?_⟩
      (try simp only [Act.put, List.setIfInBounds_toArray, List.set_cons_zero, List.set_cons_succ])
      refine any_one 8 rfl (by kernel_rfl) (by rfl) ?_
      go_simp
      have AG103 := At.newAt' (w := w101) (t := 43) (cs := #[.int .i64 z, .slice A101 n101 c101, .slice B101 m101 d101, .int .i64 tx]) (show w101.heap.size = w101.heap.size by first | rfl | simp)
      have hal103 := (Below.refl w101.heap.size w101).alloc (Nat.le_refl _) (.cells #[.int .i64 z, .slice A101 n101 c101, .slice B101 m101 d101, .int .i64 tx] 43)
      have hB103 := hB101.alloc hB101.size (.cells #[.int .i64 z, .slice A101 n101 c101, .slice B101 m101 d101, .int .i64 tx] 43)
      have bx103 := bx101.alloc (.cells #[.int .i64 z, .slice A101 n101 c101, .slice B101 m101 d101, .int .i64 tx] 43)
      have ws_103 := ws101.alloc (.cells #[.int .i64 z, .slice A101 n101 c101, .slice B101 m101 d101, .int .i64 tx] 43)
      have wh_103 := wh101.alloc (.cells #[.int .i64 z, .slice A101 n101 c101, .slice B101 m101 d101, .int .i64 tx] 43)
      have rs2_103 := rs2_101.lift hal103
      have rh2_103 := rh2_101.lift hal103
      have hF2_103 := hF2_101.below hal103
      refine ⟨(fun u => At2 u g 53 #[.int .i64 0, .slice SA sn sc, .slice SB sm sd, .int .i64 x, .slice R k kc, .int .i64 (p : Nat)] w1.heap.size 34 #[.int .i64 0, .int .i64 a0, .int .i64 a1, .int .i64 a2, .int .i64 a3, .int .i64 a4, .int .i64 a5, .int .i64 a6]), fun _ h => h, bx103, ?_⟩
      (try simp only [Act.put, List.setIfInBounds_toArray, List.set_cons_zero, List.set_cons_succ])
      refine any_done (by kernel_rfl) ?_
      go_wp2
      go_meet
      exact ⟨_, _, _, _, _, _, _, rfl, AG103, ws_103.from_ hBd.size, wh_103.from_ hBd.size, hB103⟩
    · go_simp
      have ag104 := At.newAt' (w := (w1.alloc (.cells #[.int .i64 0, .int .i64 a0, .int .i64 a1, .int .i64 a2, .int .i64 a3, .int .i64 a4, .int .i64 a5, .int .i64 a6] 34)).drew) (t := 43) (cs := #[.int .i64 0, .slice none 0 0, .slice none 0 0, .int .i64 0]) (show (w1.alloc (.cells #[.int .i64 0, .int .i64 a0, .int .i64 a1, .int .i64 a2, .int .i64 a3, .int .i64 a4, .int .i64 a5, .int .i64 a6] 34)).drew.heap.size = (w1.heap.size + 1) by first | rfl | simp)
      have gl104 : (w1.alloc (.cells #[.int .i64 0, .int .i64 a0, .int .i64 a1, .int .i64 a2, .int .i64 a3, .int .i64 a4, .int .i64 a5, .int .i64 a6] 34)).heap.size ≤ (w1.heap.size + 1) := by first | exact hBd.size | exact Nat.le_refl _ | (have := hBd.size; simp at this ⊢; try omega)
      have hal104 := (Below.refl (w1.alloc (.cells #[.int .i64 0, .int .i64 a0, .int .i64 a1, .int .i64 a2, .int .i64 a3, .int .i64 a4, .int .i64 a5, .int .i64 a6] 34)).drew.heap.size (w1.alloc (.cells #[.int .i64 0, .int .i64 a0, .int .i64 a1, .int .i64 a2, .int .i64 a3, .int .i64 a4, .int .i64 a5, .int .i64 a6] 34)).drew).alloc (Nat.le_refl _) (.cells #[.int .i64 0, .slice none 0 0, .slice none 0 0, .int .i64 0] 43)
      have hB104 := hBd.alloc hBd.size (.cells #[.int .i64 0, .slice none 0 0, .slice none 0 0, .int .i64 0] 43)
      have bx104 := bxd.alloc (.cells #[.int .i64 0, .slice none 0 0, .slice none 0 0, .int .i64 0] 43)
      have rs2_104 := rs2d.lift hal104
      have rh2_104 := rh2d.lift hal104
      have hF2_104 := hF2d.below hal104
      refine ⟨(fun u => At2 u g 53 #[.int .i64 0, .slice SA sn sc, .slice SB sm sd, .int .i64 x, .slice R k kc, .int .i64 (p : Nat)] w1.heap.size 34 #[.int .i64 0, .int .i64 a0, .int .i64 a1, .int .i64 a2, .int .i64 a3, .int .i64 a4, .int .i64 a5, .int .i64 a6]), fun _ h => h, bx104, ?_⟩
      (try simp only [Act.put, List.setIfInBounds_toArray, List.set_cons_zero, List.set_cons_succ])
      refine any_one 6 rfl (by kernel_rfl) (by rfl) ?_
      go_simp
      refine (AP _ rs2_104 rh2_104 hF2_104).mono ?_
      rintro e w105 ⟨A105, n105, c105, B105, m105, d105, rfl, ws105, wh105, hb105⟩
      have hB105 := hB104.trans (hb105.mono hB104.size)
      have bx105 := bx104.below hb105 bx104.lt
      have ag_105 := ag104.below hb105 ag104.lt
      have rs2_105 := rs2_104.lift hb105
      have rh2_105 := rh2_104.lift hb105
      have hF2_105 := hF2_104.below hb105
      refine ⟨(fun u => At2 u g 53 #[.int .i64 0, .slice SA sn sc, .slice SB sm sd, .int .i64 x, .slice R k kc, .int .i64 (p : Nat)] w1.heap.size 34 #[.int .i64 0, .int .i64 a0, .int .i64 a1, .int .i64 a2, .int .i64 a3, .int .i64 a4, .int .i64 a5, .int .i64 a6]), fun _ h => h, bx105, ?_⟩
      (try simp only [Act.put, List.setIfInBounds_toArray, List.set_cons_zero, List.set_cons_succ])
      refine any_one 8 rfl (by kernel_rfl) (by rfl) ?_
      obtain ⟨k0, k1, k2, k3, k4, k5, k6, k7⟩ := ag_105.four
      go_simp
      have hltg106 : (w1.heap.size + 1) < w105.heap.size := ag_105.lt
      have AG106 : At ((((w105.setCell ⟨(w1.heap.size + 1), 0, none⟩ (.int .i64 z)).setCell ⟨(w1.heap.size + 1), 1, none⟩ (.slice A105 n105 c105)).setCell ⟨(w1.heap.size + 1), 2, none⟩ (.slice B105 m105 d105)).setCell ⟨(w1.heap.size + 1), 3, none⟩ (.int .i64 tx)) (w1.heap.size + 1) 43 #[.int .i64 z, .slice A105 n105 c105, .slice B105 m105 d105, .int .i64 tx] := ((((ag_105.set 0 (.int .i64 z)).set 1 (.slice A105 n105 c105)).set 2 (.slice B105 m105 d105)).set 3 (.int .i64 tx))
      have bx106 := ((((bx105.far (p := ⟨(w1.heap.size + 1), 0, none⟩) (by show g ≠ (w1.heap.size + 1) ∧ w1.heap.size ≠ (w1.heap.size + 1); have := gl104; omega) (.int .i64 z)).far (p := ⟨(w1.heap.size + 1), 1, none⟩) (by show g ≠ (w1.heap.size + 1) ∧ w1.heap.size ≠ (w1.heap.size + 1); have := gl104; omega) (.slice A105 n105 c105)).far (p := ⟨(w1.heap.size + 1), 2, none⟩) (by show g ≠ (w1.heap.size + 1) ∧ w1.heap.size ≠ (w1.heap.size + 1); have := gl104; omega) (.slice B105 m105 d105)).far (p := ⟨(w1.heap.size + 1), 3, none⟩) (by show g ≠ (w1.heap.size + 1) ∧ w1.heap.size ≠ (w1.heap.size + 1); have := gl104; omega) (.int .i64 tx))
      have hB106 := ((((hB105.setCell (p := ⟨(w1.heap.size + 1), 0, none⟩) gl104 (.int .i64 z)).setCell (p := ⟨(w1.heap.size + 1), 1, none⟩) gl104 (.slice A105 n105 c105)).setCell (p := ⟨(w1.heap.size + 1), 2, none⟩) gl104 (.slice B105 m105 d105)).setCell (p := ⟨(w1.heap.size + 1), 3, none⟩) gl104 (.int .i64 tx))
      have ws_106 := ws105
      have ws_106 := ws_106.apart (by decide) ag_105 0 (.int .i64 z)
      have ws_106 := ws_106.apart (by decide) ((ag_105.set 0 (.int .i64 z))) 1 (.slice A105 n105 c105)
      have ws_106 := ws_106.apart (by decide) (((ag_105.set 0 (.int .i64 z)).set 1 (.slice A105 n105 c105))) 2 (.slice B105 m105 d105)
      have ws_106 := ws_106.apart (by decide) ((((ag_105.set 0 (.int .i64 z)).set 1 (.slice A105 n105 c105)).set 2 (.slice B105 m105 d105))) 3 (.int .i64 tx)
      have wh_106 := wh105
      have wh_106 := wh_106.apart (by decide) ag_105 0 (.int .i64 z)
      have wh_106 := wh_106.apart (by decide) ((ag_105.set 0 (.int .i64 z))) 1 (.slice A105 n105 c105)
      have wh_106 := wh_106.apart (by decide) (((ag_105.set 0 (.int .i64 z)).set 1 (.slice A105 n105 c105))) 2 (.slice B105 m105 d105)
      have wh_106 := wh_106.apart (by decide) ((((ag_105.set 0 (.int .i64 z)).set 1 (.slice A105 n105 c105)).set 2 (.slice B105 m105 d105))) 3 (.int .i64 tx)
      refine ⟨(fun u => At2 u g 53 #[.int .i64 0, .slice SA sn sc, .slice SB sm sd, .int .i64 x, .slice R k kc, .int .i64 (p : Nat)] w1.heap.size 34 #[.int .i64 0, .int .i64 a0, .int .i64 a1, .int .i64 a2, .int .i64 a3, .int .i64 a4, .int .i64 a5, .int .i64 a6]), fun _ h => h, bx106, ?_⟩
      (try simp only [Act.put, List.setIfInBounds_toArray, List.set_cons_zero, List.set_cons_succ])
      refine any_done (by kernel_rfl) ?_
      go_wp2
      go_meet
      exact ⟨_, _, _, _, _, _, _, rfl, AG106, ws_106.from_ hB104.size, wh_106.from_ hB104.size, hB106⟩
  case rest =>
    obtain ⟨gx, A5, n5, e5, B5, m5, h5, rfl, AX, OA, OB, HB⟩ := hcut
    rename World => wx
    have hSx : wx.cell? ⟨0, 0, none⟩ = some (.iface 276 (.pointer (some a))) := hS2.below HB hS2.pos
    obtain ⟨g0, g1, g2, g3, _, _, _, _⟩ := AX.four
    go_wp2
    go_ret
    exact ⟨rfl, hB.trans (HB.mono hB.size)⟩

set_option maxHeartbeats 8000000 in
/-- A record that is applied. -/
theorem say_done (g : Nat) (A : Option Addr) (n c : Nat) (b : List UInt8) (a : Addr) (SA SB R : Option Addr) (sn sc sm sd k kc p : Nat) (l : List Smp) (h : List Hnt) (x : Int) (rs : List Rcd) (a0 a1 a2 a3 a4 a5 a6 : Int) (w : World)
    (hX : At w g 53 #[.int .i64 0, .slice SA sn sc, .slice SB sm sd, .int .i64 x, .slice R k kc, .int .i64 (p : Nat)]) (os : Ow eS w g SA sn sc l) (oh : Ow eH w g SB sm sd h) (or : Ow eR w g R k kc rs) (ha : Rd eB w w.heap.size A b) (hn : b.length = n) (hc : n ≤ c) (hcm : c ≤ maxLen) (hF : Flds w) (hS : Sent w a) (hd : decodeRecM b = (0, (a0, a1, (a2, a3, a4, a5), a6))) (hap : (applyM (l, h, x) (a0, a1, (a2, a3, a4, a5), a6)).1 = 0) (hk : k ≤ 100000) (hp : p ≤ 100000000) (hn4 : n ≤ 1000) :
    Calls Tryz.prog 71 #[.pointer (some ⟨g, 0, none⟩), .slice A n c] w fun e w' => e = .returned .nilIface ∧ DskAt w' g (applyM (l, h, x) (a0, a1, (a2, a3, a4, a5), a6)).2 (rs ++ [(a0, a1, (a2, a3, a4, a5), a6)]) (p + n + 3) ∧ Below g w w' := by
  have D := implDecodeRecord A n c b w ha hn hc hcm hF
  rw [hd] at D
  have lx := hX.lt
  have AP := fun W r1 r2 hFW => implApplyRecord SA SB sn sc sm sd l h x a0 a1 a2 a3 a4 a5 a6 W r1 r2 (os.len okS) (oh.len okH) hFW
  rcases hq : applyM (l, h, x) (a0, a1, (a2, a3, a4, a5), a6) with ⟨z, tl, th, tx⟩
  rw [hq] at AP hap
  obtain rfl : z = 0 := hap
  clear hq hd hn ha
  go_enter Tryz.func71, Tryz.ntmps71
  go_wp2_with fail
  refine D.mono ?_
  rintro e w1 ⟨rfl, hb1⟩
  have lx1 : g < w1.heap.size := Nat.lt_of_lt_of_le lx hb1.size
  have hB := hb1.alloc hb1.size (.cells #[.int .i64 0, .int .i64 a0, .int .i64 a1, .int .i64 a2, .int .i64 a3, .int .i64 a4, .int .i64 a5, .int .i64 a6] 34)
  have x2 : At2 (w1.alloc (.cells #[.int .i64 0, .int .i64 a0, .int .i64 a1, .int .i64 a2, .int .i64 a3, .int .i64 a4, .int .i64 a5, .int .i64 a6] 34)) g 53 #[.int .i64 0, .slice SA sn sc, .slice SB sm sd, .int .i64 x, .slice R k kc, .int .i64 (p : Nat)] w1.heap.size 34 #[.int .i64 0, .int .i64 a0, .int .i64 a1, .int .i64 a2, .int .i64 a3, .int .i64 a4, .int .i64 a5, .int .i64 a6] := ⟨(hX.below hb1 lx).alloc _, At.new w1 34 #[.int .i64 0, .int .i64 a0, .int .i64 a1, .int .i64 a2, .int .i64 a3, .int .i64 a4, .int .i64 a5, .int .i64 a6]⟩
  have os2 := (os.below hb1 (Nat.le_refl _)).alloc (.cells #[.int .i64 0, .int .i64 a0, .int .i64 a1, .int .i64 a2, .int .i64 a3, .int .i64 a4, .int .i64 a5, .int .i64 a6] 34)
  have oh2 := (oh.below hb1 (Nat.le_refl _)).alloc (.cells #[.int .i64 0, .int .i64 a0, .int .i64 a1, .int .i64 a2, .int .i64 a3, .int .i64 a4, .int .i64 a5, .int .i64 a6] 34)
  have or2 := (or.below hb1 (Nat.le_refl _)).alloc (.cells #[.int .i64 0, .int .i64 a0, .int .i64 a1, .int .i64 a2, .int .i64 a3, .int .i64 a4, .int .i64 a5, .int .i64 a6] 34)
  have hF2 := hF.below hB
  have hS2 := hS.below hB hS.pos
  have hgw := hS.pos
  obtain ⟨c0, c1, c2, c3, c4, c5, c6, c7⟩ := x2.2.eightR
  have rs2 := os2.rd okS
  have rh2 := oh2.rd okH
  have lx2 := x2.lt
  have lgr : w1.heap.size < (w1.alloc (.cells #[.int .i64 0, .int .i64 a0, .int .i64 a1, .int .i64 a2, .int .i64 a3, .int .i64 a4, .int .i64 a5, .int .i64 a6] 34)).heap.size := by simp
  clear D hX os oh or hF hS hb1
  go_upto_region 4 with fail
  go_cut [6] (fun s wx => ∃ gx A5 n5 e5 B5 m5 h5, s = .pointer (some ⟨gx, 0, none⟩) ∧ At wx gx 43 #[.int .i64 0, .slice A5 n5 e5, .slice B5 m5 h5, .int .i64 tx] ∧ Ow eS wx (w1.alloc (.cells #[.int .i64 0, .int .i64 a0, .int .i64 a1, .int .i64 a2, .int .i64 a3, .int .i64 a4, .int .i64 a5, .int .i64 a6] 34)).heap.size A5 n5 e5 tl ∧ Ow eH wx (w1.alloc (.cells #[.int .i64 0, .int .i64 a0, .int .i64 a1, .int .i64 a2, .int .i64 a3, .int .i64 a4, .int .i64 a5, .int .i64 a6] 34)).heap.size B5 m5 h5 th ∧ Below (w1.alloc (.cells #[.int .i64 0, .int .i64 a0, .int .i64 a1, .int .i64 a2, .int .i64 a3, .int .i64 a4, .int .i64 a5, .int .i64 a6] 34)).heap.size (w1.alloc (.cells #[.int .i64 0, .int .i64 a0, .int .i64 a1, .int .i64 a2, .int .i64 a3, .int .i64 a4, .int .i64 a5, .int .i64 a6] 34)) wx)
  case first =>
    refine any_start (fun u => At2 u g 53 #[.int .i64 0, .slice SA sn sc, .slice SB sm sd, .int .i64 x, .slice R k kc, .int .i64 (p : Nat)] w1.heap.size 34 #[.int .i64 0, .int .i64 a0, .int .i64 a1, .int .i64 a2, .int .i64 a3, .int .i64 a4, .int .i64 a5, .int .i64 a6]) (by kernel_rfl) x2.drew (fun _ => ?_)
    have bxd := x2.drew
    have hBd := (Below.refl (w1.alloc (.cells #[.int .i64 0, .int .i64 a0, .int .i64 a1, .int .i64 a2, .int .i64 a3, .int .i64 a4, .int .i64 a5, .int .i64 a6] 34)).heap.size (w1.alloc (.cells #[.int .i64 0, .int .i64 a0, .int .i64 a1, .int .i64 a2, .int .i64 a3, .int .i64 a4, .int .i64 a5, .int .i64 a6] 34))).drew
    have rs2d : _ := rs2.lift ((Below.refl _ _).drew)
    have rh2d : _ := rh2.lift ((Below.refl _ _).drew)
    have hF2d := hF2.below ((Below.refl _ _).drew)
    refine any_pure (v := ?_) 0 rfl (by kernel_rfl) (fun _ _ _ _ _ h => h) (by rfl) (fun u hu => ?_) bxd ?_
    rotate_left
    · (obtain ⟨hu1, hu2⟩ := hu; obtain ⟨⟨_, _, _, _, _, _⟩, _⟩ := At.sixC hu1; obtain ⟨_, _, _, _, _, _, _, _⟩ := At.eightR hu2)
      go_simp
      (with_reducible rfl)
    (try simp only [Act.put, List.setIfInBounds_toArray, List.set_cons_zero, List.set_cons_succ])
    refine any_pure (v := ?_) 1 rfl (by kernel_rfl) (fun _ _ _ _ _ h => h) (by rfl) (fun u hu => ?_) bxd ?_
    rotate_left
    · (obtain ⟨hu1, hu2⟩ := hu; obtain ⟨⟨_, _, _, _, _, _⟩, _⟩ := At.sixC hu1; obtain ⟨_, _, _, _, _, _, _, _⟩ := At.eightR hu2)
      go_simp
      (with_reducible rfl)
    (try simp only [Act.put, List.setIfInBounds_toArray, List.set_cons_zero, List.set_cons_succ])
    refine any_pure (v := ?_) 2 rfl (by kernel_rfl) (fun _ _ _ _ _ h => h) (by rfl) (fun u hu => ?_) bxd ?_
    rotate_left
    · (obtain ⟨hu1, hu2⟩ := hu; obtain ⟨⟨_, _, _, _, _, _⟩, _⟩ := At.sixC hu1; obtain ⟨_, _, _, _, _, _, _, _⟩ := At.eightR hu2)
      go_simp
      (with_reducible rfl)
    (try simp only [Act.put, List.setIfInBounds_toArray, List.set_cons_zero, List.set_cons_succ])
    refine any_pure (v := ?_) 3 rfl (by kernel_rfl) (fun _ _ _ _ _ h => h) (by rfl) (fun u hu => ?_) bxd ?_
    rotate_left
    · (obtain ⟨hu1, hu2⟩ := hu; obtain ⟨⟨_, _, _, _, _, _⟩, _⟩ := At.sixC hu1; obtain ⟨_, _, _, _, _, _, _, _⟩ := At.eightR hu2)
      go_simp
      (with_reducible rfl)
    (try simp only [Act.put, List.setIfInBounds_toArray, List.set_cons_zero, List.set_cons_succ])
    refine any_pure (v := ?_) 4 rfl (by kernel_rfl) (fun _ _ _ _ _ h => h) (by rfl) (fun u hu => ?_) bxd ?_
    rotate_left
    · (obtain ⟨hu1, hu2⟩ := hu; obtain ⟨⟨_, _, _, _, _, _⟩, _⟩ := At.sixC hu1; obtain ⟨_, _, _, _, _, _, _, _⟩ := At.eightR hu2)
      go_simp
      (with_reducible rfl)
    (try simp only [Act.put, List.setIfInBounds_toArray, List.set_cons_zero, List.set_cons_succ])
    refine any_pure (v := ?_) 5 rfl (by kernel_rfl) (fun _ _ _ _ _ h => h) (by rfl) (fun u hu => ?_) bxd ?_
    rotate_left
    · (obtain ⟨hu1, hu2⟩ := hu; obtain ⟨⟨_, _, _, _, _, _⟩, _⟩ := At.sixC hu1; obtain ⟨_, _, _, _, _, _, _, _⟩ := At.eightR hu2)
      go_simp
      (with_reducible rfl)
    (try simp only [Act.put, List.setIfInBounds_toArray, List.set_cons_zero, List.set_cons_succ])
    refine any_two 6 7 rfl rfl (by kernel_rfl) (by rfl) (by rfl) ?_ ?_
    · go_simp
      refine (AP _ rs2d rh2d hF2d).mono ?_
      rintro e w101 ⟨A101, n101, c101, B101, m101, d101, rfl, ws101, wh101, hb101⟩
      have hB101 := hBd.trans (hb101.mono hBd.size)
      have bx101 := bxd.below hb101 bxd.lt
      have rs2_101 := rs2d.lift hb101
      have rh2_101 := rh2d.lift hb101
      have hF2_101 := hF2d.below hb101
      refine ⟨(fun u => At2 u g 53 #[.int .i64 0, .slice SA sn sc, .slice SB sm sd, .int .i64 x, .slice R k kc, .int .i64 (p : Nat)] w1.heap.size 34 #[.int .i64 0, .int .i64 a0, .int .i64 a1, .int .i64 a2, .int .i64 a3, .int .i64 a4, .int .i64 a5, .int .i64 a6]), fun _ h => h, bx101, ?_⟩
      (try simp only [Act.put, List.setIfInBounds_toArray, List.set_cons_zero, List.set_cons_succ])
      refine any_one 7 rfl (by kernel_rfl) (by rfl) ?_
      go_simp
      have ag102 := At.newAt' (w := w101) (t := 43) (cs := #[.int .i64 0, .slice none 0 0, .slice none 0 0, .int .i64 0]) (show w101.heap.size = w101.heap.size by first | rfl | simp)
      have gl102 : (w1.alloc (.cells #[.int .i64 0, .int .i64 a0, .int .i64 a1, .int .i64 a2, .int .i64 a3, .int .i64 a4, .int .i64 a5, .int .i64 a6] 34)).heap.size ≤ w101.heap.size := by first | exact hB101.size | exact Nat.le_refl _ | (have := hB101.size; simp at this ⊢; try omega)
      have hal102 := (Below.refl w101.heap.size w101).alloc (Nat.le_refl _) (.cells #[.int .i64 0, .slice none 0 0, .slice none 0 0, .int .i64 0] 43)
      have hB102 := hB101.alloc hB101.size (.cells #[.int .i64 0, .slice none 0 0, .slice none 0 0, .int .i64 0] 43)
      have bx102 := bx101.alloc (.cells #[.int .i64 0, .slice none 0 0, .slice none 0 0, .int .i64 0] 43)
      have ws_102 := ws101.alloc (.cells #[.int .i64 0, .slice none 0 0, .slice none 0 0, .int .i64 0] 43)
      have wh_102 := wh101.alloc (.cells #[.int .i64 0, .slice none 0 0, .slice none 0 0, .int .i64 0] 43)
      have rs2_102 := rs2_101.lift hal102
      have rh2_102 := rh2_101.lift hal102
      have hF2_102 := hF2_101.below hal102
      refine ⟨(fun u => At2 u g 53 #[.int .i64 0, .slice SA sn sc, .slice SB sm sd, .int .i64 x, .slice R k kc, .int .i64 (p : Nat)] w1.heap.size 34 #[.int .i64 0, .int .i64 a0, .int .i64 a1, .int .i64 a2, .int .i64 a3, .int .i64 a4, .int .i64 a5, .int .i64 a6]), fun _ h => h, bx102, ?_⟩
      (try simp only [Act.put, List.setIfInBounds_toArray, List.set_cons_zero, List.set_cons_succ])
      refine any_one 8 rfl (by kernel_rfl) (by rfl) ?_
      go_simp
      have AG103 := At.newAt' (w := w101) (t := 43) (cs := #[.int .i64 0, .slice A101 n101 c101, .slice B101 m101 d101, .int .i64 tx]) (show w101.heap.size = w101.heap.size by first | rfl | simp)
      have hal103 := (Below.refl w101.heap.size w101).alloc (Nat.le_refl _) (.cells #[.int .i64 0, .slice A101 n101 c101, .slice B101 m101 d101, .int .i64 tx] 43)
      have hB103 := hB101.alloc hB101.size (.cells #[.int .i64 0, .slice A101 n101 c101, .slice B101 m101 d101, .int .i64 tx] 43)
      have bx103 := bx101.alloc (.cells #[.int .i64 0, .slice A101 n101 c101, .slice B101 m101 d101, .int .i64 tx] 43)
      have ws_103 := ws101.alloc (.cells #[.int .i64 0, .slice A101 n101 c101, .slice B101 m101 d101, .int .i64 tx] 43)
      have wh_103 := wh101.alloc (.cells #[.int .i64 0, .slice A101 n101 c101, .slice B101 m101 d101, .int .i64 tx] 43)
      have rs2_103 := rs2_101.lift hal103
      have rh2_103 := rh2_101.lift hal103
      have hF2_103 := hF2_101.below hal103
      refine ⟨(fun u => At2 u g 53 #[.int .i64 0, .slice SA sn sc, .slice SB sm sd, .int .i64 x, .slice R k kc, .int .i64 (p : Nat)] w1.heap.size 34 #[.int .i64 0, .int .i64 a0, .int .i64 a1, .int .i64 a2, .int .i64 a3, .int .i64 a4, .int .i64 a5, .int .i64 a6]), fun _ h => h, bx103, ?_⟩
      (try simp only [Act.put, List.setIfInBounds_toArray, List.set_cons_zero, List.set_cons_succ])
      refine any_done (by kernel_rfl) ?_
      go_wp2
      go_meet
      exact ⟨_, _, _, _, _, _, _, rfl, AG103, ws_103.from_ hBd.size, wh_103.from_ hBd.size, hB103⟩
    · go_simp
      have ag104 := At.newAt' (w := (w1.alloc (.cells #[.int .i64 0, .int .i64 a0, .int .i64 a1, .int .i64 a2, .int .i64 a3, .int .i64 a4, .int .i64 a5, .int .i64 a6] 34)).drew) (t := 43) (cs := #[.int .i64 0, .slice none 0 0, .slice none 0 0, .int .i64 0]) (show (w1.alloc (.cells #[.int .i64 0, .int .i64 a0, .int .i64 a1, .int .i64 a2, .int .i64 a3, .int .i64 a4, .int .i64 a5, .int .i64 a6] 34)).drew.heap.size = (w1.heap.size + 1) by first | rfl | simp)
      have gl104 : (w1.alloc (.cells #[.int .i64 0, .int .i64 a0, .int .i64 a1, .int .i64 a2, .int .i64 a3, .int .i64 a4, .int .i64 a5, .int .i64 a6] 34)).heap.size ≤ (w1.heap.size + 1) := by first | exact hBd.size | exact Nat.le_refl _ | (have := hBd.size; simp at this ⊢; try omega)
      have hal104 := (Below.refl (w1.alloc (.cells #[.int .i64 0, .int .i64 a0, .int .i64 a1, .int .i64 a2, .int .i64 a3, .int .i64 a4, .int .i64 a5, .int .i64 a6] 34)).drew.heap.size (w1.alloc (.cells #[.int .i64 0, .int .i64 a0, .int .i64 a1, .int .i64 a2, .int .i64 a3, .int .i64 a4, .int .i64 a5, .int .i64 a6] 34)).drew).alloc (Nat.le_refl _) (.cells #[.int .i64 0, .slice none 0 0, .slice none 0 0, .int .i64 0] 43)
      have hB104 := hBd.alloc hBd.size (.cells #[.int .i64 0, .slice none 0 0, .slice none 0 0, .int .i64 0] 43)
      have bx104 := bxd.alloc (.cells #[.int .i64 0, .slice none 0 0, .slice none 0 0, .int .i64 0] 43)
      have rs2_104 := rs2d.lift hal104
      have rh2_104 := rh2d.lift hal104
      have hF2_104 := hF2d.below hal104
      refine ⟨(fun u => At2 u g 53 #[.int .i64 0, .slice SA sn sc, .slice SB sm sd, .int .i64 x, .slice R k kc, .int .i64 (p : Nat)] w1.heap.size 34 #[.int .i64 0, .int .i64 a0, .int .i64 a1, .int .i64 a2, .int .i64 a3, .int .i64 a4, .int .i64 a5, .int .i64 a6]), fun _ h => h, bx104, ?_⟩
      (try simp only [Act.put, List.setIfInBounds_toArray, List.set_cons_zero, List.set_cons_succ])
      refine any_one 6 rfl (by kernel_rfl) (by rfl) ?_
      go_simp
      refine (AP _ rs2_104 rh2_104 hF2_104).mono ?_
      rintro e w105 ⟨A105, n105, c105, B105, m105, d105, rfl, ws105, wh105, hb105⟩
      have hB105 := hB104.trans (hb105.mono hB104.size)
      have bx105 := bx104.below hb105 bx104.lt
      have ag_105 := ag104.below hb105 ag104.lt
      have rs2_105 := rs2_104.lift hb105
      have rh2_105 := rh2_104.lift hb105
      have hF2_105 := hF2_104.below hb105
      refine ⟨(fun u => At2 u g 53 #[.int .i64 0, .slice SA sn sc, .slice SB sm sd, .int .i64 x, .slice R k kc, .int .i64 (p : Nat)] w1.heap.size 34 #[.int .i64 0, .int .i64 a0, .int .i64 a1, .int .i64 a2, .int .i64 a3, .int .i64 a4, .int .i64 a5, .int .i64 a6]), fun _ h => h, bx105, ?_⟩
      (try simp only [Act.put, List.setIfInBounds_toArray, List.set_cons_zero, List.set_cons_succ])
      refine any_one 8 rfl (by kernel_rfl) (by rfl) ?_
      obtain ⟨k0, k1, k2, k3, k4, k5, k6, k7⟩ := ag_105.four
      go_simp
      have hltg106 : (w1.heap.size + 1) < w105.heap.size := ag_105.lt
      have AG106 : At ((((w105.setCell ⟨(w1.heap.size + 1), 0, none⟩ (.int .i64 0)).setCell ⟨(w1.heap.size + 1), 1, none⟩ (.slice A105 n105 c105)).setCell ⟨(w1.heap.size + 1), 2, none⟩ (.slice B105 m105 d105)).setCell ⟨(w1.heap.size + 1), 3, none⟩ (.int .i64 tx)) (w1.heap.size + 1) 43 #[.int .i64 0, .slice A105 n105 c105, .slice B105 m105 d105, .int .i64 tx] := ((((ag_105.set 0 (.int .i64 0)).set 1 (.slice A105 n105 c105)).set 2 (.slice B105 m105 d105)).set 3 (.int .i64 tx))
      have bx106 := ((((bx105.far (p := ⟨(w1.heap.size + 1), 0, none⟩) (by show g ≠ (w1.heap.size + 1) ∧ w1.heap.size ≠ (w1.heap.size + 1); have := gl104; omega) (.int .i64 0)).far (p := ⟨(w1.heap.size + 1), 1, none⟩) (by show g ≠ (w1.heap.size + 1) ∧ w1.heap.size ≠ (w1.heap.size + 1); have := gl104; omega) (.slice A105 n105 c105)).far (p := ⟨(w1.heap.size + 1), 2, none⟩) (by show g ≠ (w1.heap.size + 1) ∧ w1.heap.size ≠ (w1.heap.size + 1); have := gl104; omega) (.slice B105 m105 d105)).far (p := ⟨(w1.heap.size + 1), 3, none⟩) (by show g ≠ (w1.heap.size + 1) ∧ w1.heap.size ≠ (w1.heap.size + 1); have := gl104; omega) (.int .i64 tx))
      have hB106 := ((((hB105.setCell (p := ⟨(w1.heap.size + 1), 0, none⟩) gl104 (.int .i64 0)).setCell (p := ⟨(w1.heap.size + 1), 1, none⟩) gl104 (.slice A105 n105 c105)).setCell (p := ⟨(w1.heap.size + 1), 2, none⟩) gl104 (.slice B105 m105 d105)).setCell (p := ⟨(w1.heap.size + 1), 3, none⟩) gl104 (.int .i64 tx))
      have ws_106 := ws105
      have ws_106 := ws_106.apart (by decide) ag_105 0 (.int .i64 0)
      have ws_106 := ws_106.apart (by decide) ((ag_105.set 0 (.int .i64 0))) 1 (.slice A105 n105 c105)
      have ws_106 := ws_106.apart (by decide) (((ag_105.set 0 (.int .i64 0)).set 1 (.slice A105 n105 c105))) 2 (.slice B105 m105 d105)
      have ws_106 := ws_106.apart (by decide) ((((ag_105.set 0 (.int .i64 0)).set 1 (.slice A105 n105 c105)).set 2 (.slice B105 m105 d105))) 3 (.int .i64 tx)
      have wh_106 := wh105
      have wh_106 := wh_106.apart (by decide) ag_105 0 (.int .i64 0)
      have wh_106 := wh_106.apart (by decide) ((ag_105.set 0 (.int .i64 0))) 1 (.slice A105 n105 c105)
      have wh_106 := wh_106.apart (by decide) (((ag_105.set 0 (.int .i64 0)).set 1 (.slice A105 n105 c105))) 2 (.slice B105 m105 d105)
      have wh_106 := wh_106.apart (by decide) ((((ag_105.set 0 (.int .i64 0)).set 1 (.slice A105 n105 c105)).set 2 (.slice B105 m105 d105))) 3 (.int .i64 tx)
      refine ⟨(fun u => At2 u g 53 #[.int .i64 0, .slice SA sn sc, .slice SB sm sd, .int .i64 x, .slice R k kc, .int .i64 (p : Nat)] w1.heap.size 34 #[.int .i64 0, .int .i64 a0, .int .i64 a1, .int .i64 a2, .int .i64 a3, .int .i64 a4, .int .i64 a5, .int .i64 a6]), fun _ h => h, bx106, ?_⟩
      (try simp only [Act.put, List.setIfInBounds_toArray, List.set_cons_zero, List.set_cons_succ])
      refine any_done (by kernel_rfl) ?_
      go_wp2
      go_meet
      exact ⟨_, _, _, _, _, _, _, rfl, AG106, ws_106.from_ hB104.size, wh_106.from_ hB104.size, hB106⟩
  case rest =>
    obtain ⟨gx, A5, n5, e5, B5, m5, h5, rfl, AX, OA, OB, HB⟩ := hcut
    rename World => wx
    have X3 := x2.1.below HB lx2.1
    have Y3 := x2.2.below HB lx2.2
    have or3 := or2.below HB (Nat.le_refl _)
    obtain ⟨g0, g1, g2, g3, _, _, _, _⟩ := AX.four
    obtain ⟨⟨d0, d1, d2, d3, d4, d5⟩, df0, df1, df2, df3, df4, df5⟩ := X3.sixC
    have hgrlt : g < w1.heap.size := lx1
    have hgx : ¬ g = gx := by
      intro e
      subst e
      have := X3.symm.trans AX
      simp at this
    have hgr2 : ¬ w1.heap.size = g := by
      intro e
      subst e
      have := X3.symm.trans Y3
      simp at this
    have hB3 := hB.trans (HB.mono hB.size)
    have X4 : At (((wx.setCell ⟨g, 1, none⟩ (.slice A5 n5 e5)).setCell ⟨g, 2, none⟩ (.slice B5 m5 h5)).setCell ⟨g, 3, none⟩ (.int .i64 tx)) g 53 #[.int .i64 0, .slice A5 n5 e5, .slice B5 m5 h5, .int .i64 tx, .slice R k kc, .int .i64 (p : Nat)] := ((X3.set 1 (.slice A5 n5 e5)).set 2 (.slice B5 m5 h5)).set 3 (.int .i64 tx)
    have Y4 : At (((wx.setCell ⟨g, 1, none⟩ (.slice A5 n5 e5)).setCell ⟨g, 2, none⟩ (.slice B5 m5 h5)).setCell ⟨g, 3, none⟩ (.int .i64 tx)) w1.heap.size 34 #[.int .i64 0, .int .i64 a0, .int .i64 a1, .int .i64 a2, .int .i64 a3, .int .i64 a4, .int .i64 a5, .int .i64 a6] := ((Y3.far hgr2 _).far hgr2 _).far hgr2 _
    have OA4 := (((OA.apart (by decide) X3 1 (.slice A5 n5 e5)).apart (by decide) (X3.set 1 (.slice A5 n5 e5)) 2 (.slice B5 m5 h5)).apart (by decide) ((X3.set 1 (.slice A5 n5 e5)).set 2 (.slice B5 m5 h5)) 3 (.int .i64 tx)).from_ (base' := g) (by omega)
    have OB4 := (((OB.apart (by decide) X3 1 (.slice A5 n5 e5)).apart (by decide) (X3.set 1 (.slice A5 n5 e5)) 2 (.slice B5 m5 h5)).apart (by decide) ((X3.set 1 (.slice A5 n5 e5)).set 2 (.slice B5 m5 h5)) 3 (.int .i64 tx)).from_ (base' := g) (by omega)
    have OR4 := ((or3.apart (by decide) X3 1 (.slice A5 n5 e5)).apart (by decide) (X3.set 1 (.slice A5 n5 e5)) 2 (.slice B5 m5 h5)).apart (by decide) ((X3.set 1 (.slice A5 n5 e5)).set 2 (.slice B5 m5 h5)) 3 (.int .i64 tx)
    have hB4 : Below g w (((wx.setCell ⟨g, 1, none⟩ (.slice A5 n5 e5)).setCell ⟨g, 2, none⟩ (.slice B5 m5 h5)).setCell ⟨g, 3, none⟩ (.int .i64 tx)) := (((hB3.mono (Nat.le_of_lt lx)).setCell (p := ⟨g, 1, none⟩) (Nat.le_refl _) _).setCell (p := ⟨g, 2, none⟩) (Nat.le_refl _) _).setCell (p := ⟨g, 3, none⟩) (Nat.le_refl _) _
    go_wp2
    generalize (((wx.setCell ⟨g, 1, none⟩ (.slice A5 n5 e5)).setCell ⟨g, 2, none⟩ (.slice B5 m5 h5)).setCell ⟨g, 3, none⟩ (.int .i64 tx)) = w4 at *
    have l4 := X4.lt
    clear X3 Y3 or3 d0 d1 d2 d3 d4 d5 df0 df1 df2 df3 df4 df5 g0 g1 g2 g3 c0 c1 c2 c3 c4 c5 c6 c7
    refine any_start (fun u => At u w1.heap.size 34 #[.int .i64 0, .int .i64 a0, .int .i64 a1, .int .i64 a2, .int .i64 a3, .int .i64 a4, .int .i64 a5, .int .i64 a6]) (by kernel_rfl) Y4.drew (fun _ => ?_)
    have Yd : At w4.drew w1.heap.size 34 #[.int .i64 0, .int .i64 a0, .int .i64 a1, .int .i64 a2, .int .i64 a3, .int .i64 a4, .int .i64 a5, .int .i64 a6] := Y4.drew
    have Xd : At w4.drew g 53 #[.int .i64 0, .slice A5 n5 e5, .slice B5 m5 h5, .int .i64 tx, .slice R k kc, .int .i64 (p : Nat)] := X4.drew
    have or4 : Ow eR w4.drew g R k kc rs := OR4
    have oa4 : Ow eS w4.drew g A5 n5 e5 tl := OA4
    have ob4 : Ow eH w4.drew g B5 m5 h5 th := OB4
    have hBd : Below g w w4.drew := hB4.drew
    clear X4 Y4 OR4 OA4 OB4 hB4
    generalize w4.drew = v4 at *
    refine any_pure (v := ?_) 0 rfl (by kernel_rfl) (fun _ _ _ _ _ h => h) (by rfl) (fun u hu => ?_) Yd ?_
    rotate_left
    · (obtain ⟨_, _, _, _, _, _, _, _⟩ := At.eightR hu)
      go_simp
      (with_reducible rfl)
    (try simp only [Act.put, List.setIfInBounds_toArray, List.set_cons_zero, List.set_cons_succ])
    refine any_pure (v := ?_) 1 rfl (by kernel_rfl) (fun _ _ _ _ _ h => h) (by rfl) (fun u hu => ?_) Yd ?_
    rotate_left
    · (obtain ⟨_, _, _, _, _, _, _, _⟩ := At.eightR hu)
      go_simp
      (with_reducible rfl)
    (try simp only [Act.put, List.setIfInBounds_toArray, List.set_cons_zero, List.set_cons_succ])
    refine any_pure (v := ?_) 2 rfl (by kernel_rfl) (fun _ _ _ _ _ h => h) (by rfl) (fun u hu => ?_) Yd ?_
    rotate_left
    · (obtain ⟨_, _, _, _, _, _, _, _⟩ := At.eightR hu)
      go_simp
      (with_reducible rfl)
    (try simp only [Act.put, List.setIfInBounds_toArray, List.set_cons_zero, List.set_cons_succ])
    refine any_pure (v := ?_) 3 rfl (by kernel_rfl) (fun _ _ _ _ _ h => h) (by rfl) (fun u hu => ?_) Yd ?_
    rotate_left
    · (obtain ⟨_, _, _, _, _, _, _, _⟩ := At.eightR hu)
      go_simp
      (with_reducible rfl)
    (try simp only [Act.put, List.setIfInBounds_toArray, List.set_cons_zero, List.set_cons_succ])
    refine any_pure (v := ?_) 5 rfl (by kernel_rfl) (fun _ _ _ _ _ h => h) (by rfl) (fun u hu => ?_) Yd ?_
    rotate_left
    · (obtain ⟨_, _, _, _, _, _, _, _⟩ := At.eightR hu)
      go_simp
      (with_reducible rfl)
    (try simp only [Act.put, List.setIfInBounds_toArray, List.set_cons_zero, List.set_cons_succ])
    refine any_pure (v := ?_) 6 rfl (by kernel_rfl) (fun _ _ _ _ _ h => h) (by rfl) (fun u hu => ?_) Yd ?_
    rotate_left
    · (obtain ⟨_, _, _, _, _, _, _, _⟩ := At.eightR hu)
      go_simp
      (with_reducible rfl)
    (try simp only [Act.put, List.setIfInBounds_toArray, List.set_cons_zero, List.set_cons_succ])
    have hgd : g ≤ v4.heap.size := Nat.le_trans (Nat.le_of_lt lx) hBd.size
    have hB5 := hBd.alloc hgd (.cells #[.int .i64 a0, .int .i64 a1, .int .i64 a2, .int .i64 a3, .int .i64 a4, .int .i64 a5, .int .i64 a6] 27)
    have hg5 : g ≤ (v4.alloc (.cells #[.int .i64 a0, .int .i64 a1, .int .i64 a2, .int .i64 a3, .int .i64 a4, .int .i64 a5, .int .i64 a6] 27)).heap.size := Nat.le_trans (Nat.le_of_lt lx) hB5.size
    have X5 := Xd.alloc (.cells #[.int .i64 a0, .int .i64 a1, .int .i64 a2, .int .i64 a3, .int .i64 a4, .int .i64 a5, .int .i64 a6] 27)
    have Y5 := Yd.alloc (.cells #[.int .i64 a0, .int .i64 a1, .int .i64 a2, .int .i64 a3, .int .i64 a4, .int .i64 a5, .int .i64 a6] 27)
    have or5 := or4.alloc (.cells #[.int .i64 a0, .int .i64 a1, .int .i64 a2, .int .i64 a3, .int .i64 a4, .int .i64 a5, .int .i64 a6] 27)
    have oa5 := oa4.alloc (.cells #[.int .i64 a0, .int .i64 a1, .int .i64 a2, .int .i64 a3, .int .i64 a4, .int .i64 a5, .int .i64 a6] 27)
    have ob5 := ob4.alloc (.cells #[.int .i64 a0, .int .i64 a1, .int .i64 a2, .int .i64 a3, .int .i64 a4, .int .i64 a5, .int .i64 a6] 27)
    have rd5 := rd_lit okR v4 27 [(a0, a1, (a2, a3, a4, a5), a6)] #[.int .i64 a0, .int .i64 a1, .int .i64 a2, .int .i64 a3, .int .i64 a4, .int .i64 a5, .int .i64 a6] rfl
    obtain ⟨⟨_, _, _, _, e4, _⟩, _⟩ := Xd.sixC
    obtain ⟨⟨_, _, _, _, f4, _⟩, _⟩ := X5.sixC
    refine any_two 4 7 rfl rfl (by kernel_rfl) (by rfl) (by rfl) ?_ ?_
    · go_simp
      refine ⟨(fun u => At u w1.heap.size 34 #[.int .i64 0, .int .i64 a0, .int .i64 a1, .int .i64 a2, .int .i64 a3, .int .i64 a4, .int .i64 a5, .int .i64 a6]), fun _ h => h, Yd, ?_⟩
      (try simp only [Act.put, List.setIfInBounds_toArray, List.set_cons_zero, List.set_cons_succ])
      refine any_one 7 rfl (by kernel_rfl) (by rfl) ?_
      go_simp
      refine ⟨(fun u => At u w1.heap.size 34 #[.int .i64 0, .int .i64 a0, .int .i64 a1, .int .i64 a2, .int .i64 a3, .int .i64 a4, .int .i64 a5, .int .i64 a6]), fun _ h => h, Y5, ?_⟩
      (try simp only [Act.put, List.setIfInBounds_toArray, List.set_cons_zero, List.set_cons_succ])
      refine any_one 8 rfl (by kernel_rfl) (by rfl) ?_
      refine wp_append_ow okR _ (.tmp 33) (.tmp 36) _ rfl g info_rcd Tryz.underlying51 rfl R k kc rs rfl or5 (some ⟨v4.heap.size, 0, none⟩) 1 1 _ [(a0, a1, (a2, a3, a4, a5), a6)] rfl rd5 rfl (by unfold maxLen; omega) (by omega) hg5 ?_
      intro R6 kc6 w6 or6 hg6 _
      have hB6 : Below g w w6 := hB5.grown hg6 hg5 (fun q hq => (or5.lt q hq).1)
      have X6 := X5.grown hg6 (fun e => or5.neBlk (by decide) X5 g e rfl)
      have Y6 := Y5.grown hg6 (fun e => or5.neBlk (by decide) Y5 w1.heap.size e rfl)
      have oa6 := oa5.grown hg6 (oa5.neRow (by decide) or5)
      have ob6 := ob5.grown hg6 (ob5.neRow (by decide) or5)
      refine ⟨(fun u => At u w1.heap.size 34 #[.int .i64 0, .int .i64 a0, .int .i64 a1, .int .i64 a2, .int .i64 a3, .int .i64 a4, .int .i64 a5, .int .i64 a6]), fun _ h => h, Y6, ?_⟩
      (try simp only [Act.put, List.setIfInBounds_toArray, List.set_cons_zero, List.set_cons_succ])
      refine any_pure (v := ?_) 9 rfl (by kernel_rfl) (fun _ _ _ _ _ h => h) (by rfl) (fun u hu => ?_) Y6 ?_
      rotate_left
      · go_simp
        (with_reducible rfl)
      (try simp only [Act.put, List.setIfInBounds_toArray, List.set_cons_zero, List.set_cons_succ])
      refine any_pure (v := ?_) 10 rfl (by kernel_rfl) (fun _ _ _ _ _ h => h) (by rfl) (fun u hu => ?_) Y6 ?_
      rotate_left
      · go_simp
        (with_reducible rfl)
      (try simp only [Act.put, List.setIfInBounds_toArray, List.set_cons_zero, List.set_cons_succ])
      obtain ⟨_, df0, df1, df2, df3, df4, df5⟩ := X6.sixC
      refine any_one 11 rfl (by kernel_rfl) (by rfl) ?_
      go_simp
      have X7 : At (w6.setCell ⟨g, 4, none⟩ (.slice R6 (k + 1) kc6)) g 53 #[.int .i64 0, .slice A5 n5 e5, .slice B5 m5 h5, .int .i64 tx, .slice R6 (k + 1) kc6, .int .i64 (p : Nat)] := X6.set 4 (.slice R6 (k + 1) kc6)
      have hB7 := hB6.setCell (p := ⟨g, 4, none⟩) (Nat.le_refl _) (.slice R6 (k + 1) kc6)
      have oa7 := oa6.apart (by decide) X6 4 (.slice R6 (k + 1) kc6)
      have ob7 := ob6.apart (by decide) X6 4 (.slice R6 (k + 1) kc6)
      have or7 := or6.apart (by decide) X6 4 (.slice R6 (k + 1) kc6)
      have Y7 := Y6.far (p := ⟨g, 4, none⟩) hgr2 (.slice R6 (k + 1) kc6)
      refine ⟨(fun u => At u w1.heap.size 34 #[.int .i64 0, .int .i64 a0, .int .i64 a1, .int .i64 a2, .int .i64 a3, .int .i64 a4, .int .i64 a5, .int .i64 a6]), fun _ h => h, Y7, ?_⟩
      (try simp only [Act.put, List.setIfInBounds_toArray, List.set_cons_zero, List.set_cons_succ])
      refine any_done (by kernel_rfl) ?_
      generalize w6.setCell ⟨g, 4, none⟩ (.slice R6 (k + 1) kc6) = w7 at *
      clear df0 df1 df2 df3 df4 df5
      obtain ⟨⟨_, _, _, _, _, d5⟩, df0, df1, df2, df3, df4, df5⟩ := X7.sixC
      have X8 : At (w7.setCell ⟨g, 5, none⟩ (.int .i64 ((p + n + 3 : Nat) : Int))) g 53 #[.int .i64 0, .slice A5 n5 e5, .slice B5 m5 h5, .int .i64 tx, .slice R6 (k + 1) kc6, .int .i64 ((p + n + 3 : Nat) : Int)] := X7.set 5 (.int .i64 ((p + n + 3 : Nat) : Int))
      have hB8 := hB7.setCell (p := ⟨g, 5, none⟩) (Nat.le_refl _) (.int .i64 ((p + n + 3 : Nat) : Int))
      have oa8 := oa7.apart (by decide) X7 5 (.int .i64 ((p + n + 3 : Nat) : Int))
      have ob8 := ob7.apart (by decide) X7 5 (.int .i64 ((p + n + 3 : Nat) : Int))
      have or8 := or7.apart (by decide) X7 5 (.int .i64 ((p + n + 3 : Nat) : Int))
      go_wp2
      go_ret
      have e3 : (p : Int) + ((n : Int) + 3) = ((p + n + 3 : Nat) : Int) := by omega
      first
        | exact ⟨rfl, ⟨A5, n5, e5, B5, m5, h5, R6, k + 1, kc6, X8, oa8, ob8, or8⟩, hB8⟩
        | (rw [e3]; exact ⟨rfl, ⟨A5, n5, e5, B5, m5, h5, R6, k + 1, kc6, X8, oa8, ob8, or8⟩, hB8⟩)
    · go_simp
      refine ⟨(fun u => At u w1.heap.size 34 #[.int .i64 0, .int .i64 a0, .int .i64 a1, .int .i64 a2, .int .i64 a3, .int .i64 a4, .int .i64 a5, .int .i64 a6]), fun _ h => h, Y5, ?_⟩
      (try simp only [Act.put, List.setIfInBounds_toArray, List.set_cons_zero, List.set_cons_succ])
      refine any_one 4 rfl (by kernel_rfl) (by rfl) ?_
      go_simp
      refine ⟨(fun u => At u w1.heap.size 34 #[.int .i64 0, .int .i64 a0, .int .i64 a1, .int .i64 a2, .int .i64 a3, .int .i64 a4, .int .i64 a5, .int .i64 a6]), fun _ h => h, Y5, ?_⟩
      (try simp only [Act.put, List.setIfInBounds_toArray, List.set_cons_zero, List.set_cons_succ])
      refine any_one 8 rfl (by kernel_rfl) (by rfl) ?_
      refine wp_append_ow okR _ (.tmp 33) (.tmp 36) _ rfl g info_rcd Tryz.underlying51 rfl R k kc rs rfl or5 (some ⟨v4.heap.size, 0, none⟩) 1 1 _ [(a0, a1, (a2, a3, a4, a5), a6)] rfl rd5 rfl (by unfold maxLen; omega) (by omega) hg5 ?_
      intro R6 kc6 w6 or6 hg6 _
      have hB6 : Below g w w6 := hB5.grown hg6 hg5 (fun q hq => (or5.lt q hq).1)
      have X6 := X5.grown hg6 (fun e => or5.neBlk (by decide) X5 g e rfl)
      have Y6 := Y5.grown hg6 (fun e => or5.neBlk (by decide) Y5 w1.heap.size e rfl)
      have oa6 := oa5.grown hg6 (oa5.neRow (by decide) or5)
      have ob6 := ob5.grown hg6 (ob5.neRow (by decide) or5)
      refine ⟨(fun u => At u w1.heap.size 34 #[.int .i64 0, .int .i64 a0, .int .i64 a1, .int .i64 a2, .int .i64 a3, .int .i64 a4, .int .i64 a5, .int .i64 a6]), fun _ h => h, Y6, ?_⟩
      (try simp only [Act.put, List.setIfInBounds_toArray, List.set_cons_zero, List.set_cons_succ])
      refine any_pure (v := ?_) 9 rfl (by kernel_rfl) (fun _ _ _ _ _ h => h) (by rfl) (fun u hu => ?_) Y6 ?_
      rotate_left
      · go_simp
        (with_reducible rfl)
      (try simp only [Act.put, List.setIfInBounds_toArray, List.set_cons_zero, List.set_cons_succ])
      refine any_pure (v := ?_) 10 rfl (by kernel_rfl) (fun _ _ _ _ _ h => h) (by rfl) (fun u hu => ?_) Y6 ?_
      rotate_left
      · go_simp
        (with_reducible rfl)
      (try simp only [Act.put, List.setIfInBounds_toArray, List.set_cons_zero, List.set_cons_succ])
      obtain ⟨_, df0, df1, df2, df3, df4, df5⟩ := X6.sixC
      refine any_one 11 rfl (by kernel_rfl) (by rfl) ?_
      go_simp
      have X7 : At (w6.setCell ⟨g, 4, none⟩ (.slice R6 (k + 1) kc6)) g 53 #[.int .i64 0, .slice A5 n5 e5, .slice B5 m5 h5, .int .i64 tx, .slice R6 (k + 1) kc6, .int .i64 (p : Nat)] := X6.set 4 (.slice R6 (k + 1) kc6)
      have hB7 := hB6.setCell (p := ⟨g, 4, none⟩) (Nat.le_refl _) (.slice R6 (k + 1) kc6)
      have oa7 := oa6.apart (by decide) X6 4 (.slice R6 (k + 1) kc6)
      have ob7 := ob6.apart (by decide) X6 4 (.slice R6 (k + 1) kc6)
      have or7 := or6.apart (by decide) X6 4 (.slice R6 (k + 1) kc6)
      have Y7 := Y6.far (p := ⟨g, 4, none⟩) hgr2 (.slice R6 (k + 1) kc6)
      refine ⟨(fun u => At u w1.heap.size 34 #[.int .i64 0, .int .i64 a0, .int .i64 a1, .int .i64 a2, .int .i64 a3, .int .i64 a4, .int .i64 a5, .int .i64 a6]), fun _ h => h, Y7, ?_⟩
      (try simp only [Act.put, List.setIfInBounds_toArray, List.set_cons_zero, List.set_cons_succ])
      refine any_done (by kernel_rfl) ?_
      generalize w6.setCell ⟨g, 4, none⟩ (.slice R6 (k + 1) kc6) = w7 at *
      clear df0 df1 df2 df3 df4 df5
      obtain ⟨⟨_, _, _, _, _, d5⟩, df0, df1, df2, df3, df4, df5⟩ := X7.sixC
      have X8 : At (w7.setCell ⟨g, 5, none⟩ (.int .i64 ((p + n + 3 : Nat) : Int))) g 53 #[.int .i64 0, .slice A5 n5 e5, .slice B5 m5 h5, .int .i64 tx, .slice R6 (k + 1) kc6, .int .i64 ((p + n + 3 : Nat) : Int)] := X7.set 5 (.int .i64 ((p + n + 3 : Nat) : Int))
      have hB8 := hB7.setCell (p := ⟨g, 5, none⟩) (Nat.le_refl _) (.int .i64 ((p + n + 3 : Nat) : Int))
      have oa8 := oa7.apart (by decide) X7 5 (.int .i64 ((p + n + 3 : Nat) : Int))
      have ob8 := ob7.apart (by decide) X7 5 (.int .i64 ((p + n + 3 : Nat) : Int))
      have or8 := or7.apart (by decide) X7 5 (.int .i64 ((p + n + 3 : Nat) : Int))
      go_wp2
      go_ret
      have e3 : (p : Int) + ((n : Int) + 3) = ((p + n + 3 : Nat) : Int) := by omega
      first
        | exact ⟨rfl, ⟨A5, n5, e5, B5, m5, h5, R6, k + 1, kc6, X8, oa8, ob8, or8⟩, hB8⟩
        | (rw [e3]; exact ⟨rfl, ⟨A5, n5, e5, B5, m5, h5, R6, k + 1, kc6, X8, oa8, ob8, or8⟩, hB8⟩)
end Go.Proofs.YtmaillakhhdkfaaGreatDoor
/-
  What a disk says: the program's.
-/
namespace Go.Proofs.YtmaillakhhdkfaaGreatDoor
set_option maxRecDepth 20000
open Go.RowKit
set_option linter.unusedSimpArgs false
set_option linter.unusedVariables false
attribute [local irreducible] mixW

theorem Ow.store6 {α : Type} {E : Enc α} {w : World} {base n c : Nat} {A : Option Addr} {l : List α} {g : Nat} {t : TypeId} {a0 a1 a2 a3 a4 a5 : Value} (h : Ow E w base A n c l) (hne : E.tid ≠ t) (hx : At w g t #[a0, a1, a2, a3, a4, a5]) (u0 u1 u2 u3 u4 u5 : Value) :
    Ow E ((((((w.setCell ⟨g, 0, none⟩ u0).setCell ⟨g, 1, none⟩ u1).setCell ⟨g, 2, none⟩ u2).setCell ⟨g, 3, none⟩ u3).setCell ⟨g, 4, none⟩ u4).setCell ⟨g, 5, none⟩ u5) base A n c l :=
  (((((h.apart hne hx 0 u0).apart hne (hx.set 0 u0) 1 u1).apart hne ((hx.set 0 u0).set 1 u1) 2 u2).apart hne (((hx.set 0 u0).set 1 u1).set 2 u2) 3 u3).apart hne ((((hx.set 0 u0).set 1 u1).set 2 u2).set 3 u3) 4 u4).apart hne (((((hx.set 0 u0).set 1 u1).set 2 u2).set 3 u3).set 4 u4) 5 u5
theorem below6 {w w' : World} (h : Below w.heap.size w w') (u0 u1 u2 u3 u4 u5 : Value) : Below w.heap.size w ((((((w'.setCell ⟨w.heap.size, 0, none⟩ u0).setCell ⟨w.heap.size, 1, none⟩ u1).setCell ⟨w.heap.size, 2, none⟩ u2).setCell ⟨w.heap.size, 3, none⟩ u3).setCell ⟨w.heap.size, 4, none⟩ u4).setCell ⟨w.heap.size, 5, none⟩ u5) :=
  (((((h.setCell (p := ⟨w.heap.size, 0, none⟩) (Nat.le_refl _) u0).setCell (p := ⟨w.heap.size, 1, none⟩) (Nat.le_refl _) u1).setCell (p := ⟨w.heap.size, 2, none⟩) (Nat.le_refl _) u2).setCell (p := ⟨w.heap.size, 3, none⟩) (Nat.le_refl _) u3).setCell (p := ⟨w.heap.size, 4, none⟩) (Nat.le_refl _) u4).setCell (p := ⟨w.heap.size, 5, none⟩) (Nat.le_refl _) u5

/-- The program's way of one body, both ways. -/
theorem say_ways {s : Sta} {b : List UInt8} (hs : stateFaultM s = 0) : ((decR b).2 = true ∧ (stepR s (decR b).1).1 = 0 ∧ decodeRecM b = (0, (decR b).1) ∧ (applyM s (decR b).1).1 = 0 ∧ (applyM s (decR b).1).2 = (stepR s (decR b).1).2 ∧ stateFaultM (stepR s (decR b).1).2 = 0)
      ∨ (¬ ((decR b).2 = true ∧ (stepR s (decR b).1).1 = 0) ∧ ((decodeRecM b).1 ≠ 0 ∨ ∃ r, decodeRecM b = (0, r) ∧ (applyM s r).1 ≠ 0)) := by
  by_cases h1 : (decodeRecM b).1 = 0
  · by_cases h2 : (applyM s (decodeRecM b).2).1 = 0
    · obtain ⟨q1, q2, q3, q4, q5⟩ := say_yes hs h1 h2
      refine .inl ⟨q1, q2, ?_, by rw [← q3]; exact h2, by rw [q3] at q4; exact q4, q5⟩
      rw [← q3, ← h1]
    · refine .inr ⟨say_no hs (.inr h2), .inr ⟨(decodeRecM b).2, ?_, h2⟩⟩
      rw [← h1]
  · exact .inr ⟨say_no hs (.inl h1), .inl h1⟩
theorem sayYes (g : Nat) (A : Option Addr) (n c : Nat) (b : List UInt8) (a : Addr) (s : Sta) (rs : List Rcd) (p : Nat) (w : World) (hD : DskAt w g s rs p) (ha : Rd eB w w.heap.size A b) (hn : b.length = n) (hc : n ≤ c) (hcm : c ≤ maxLen) (hF : Flds w) (hS : Sent w a)
    (hd : decodeRecM b = (0, (decR b).1)) (hap : (applyM s (decR b).1).1 = 0) (hst : (applyM s (decR b).1).2 = (stepR s (decR b).1).2) (hk : rs.length ≤ 100000) (hp : p ≤ 100000000) (hn4 : n ≤ 1000) :
    Calls Tryz.prog 71 #[.pointer (some ⟨g, 0, none⟩), .slice A n c] w fun e w' => e = .returned .nilIface ∧ DskAt w' g (stepR s (decR b).1).2 (rs ++ [(decR b).1]) (p + n + 3) ∧ Below g w w' := by
  obtain ⟨l, h, x⟩ := s
  obtain ⟨SA, sn, sc, SB, sm, sd, R, k, kc, X, os, oh, or⟩ := hD
  rw [← hst]
  rcases hr : (decR b).1 with ⟨a0, a1, ⟨a2, a3, a4, a5⟩, a6⟩
  rw [hr] at hd hap
  exact say_done g A n c b a SA SB R sn sc sm sd k kc p l h x rs a0 a1 a2 a3 a4 a5 a6 w X os oh or ha hn hc hcm hF hS hd hap (by rw [← or.len okR]; exact hk) hp hn4
theorem sayNo (g : Nat) (A : Option Addr) (n c : Nat) (b : List UInt8) (a : Addr) (s : Sta) (rs : List Rcd) (p : Nat) (w : World) (hD : DskAt w g s rs p) (ha : Rd eB w w.heap.size A b) (hn : b.length = n) (hc : n ≤ c) (hcm : c ≤ maxLen) (hF : Flds w) (hS : Sent w a)
    (hno : (decodeRecM b).1 ≠ 0 ∨ ∃ r, decodeRecM b = (0, r) ∧ (applyM s r).1 ≠ 0) :
    Calls Tryz.prog 71 #[.pointer (some ⟨g, 0, none⟩), .slice A n c] w fun e w' => e = .returned (.iface 276 (.pointer (some a))) ∧ DskAt w' g s rs p ∧ Below g w w' := by
  have hl := hD.lt
  have hD0 := hD
  rcases hno with h1 | ⟨⟨a0, a1, ⟨a2, a3, a4, a5⟩, a6⟩, h1, h2⟩
  · exact (say_torn g A n c b a w hl ha hn hc hcm hF hS h1).mono fun e w' ⟨q1, q2⟩ => ⟨q1, hD0.below q2, q2.mono (Nat.le_of_lt hl)⟩
  · obtain ⟨l, h, x⟩ := s
    obtain ⟨SA, sn, sc, SB, sm, sd, R, k, kc, X, os, oh, or⟩ := hD
    exact (say_no_step g A n c b a SA SB R sn sc sm sd k kc p l h x rs a0 a1 a2 a3 a4 a5 a6 w X os oh or ha hn hc hcm hF hS h1 h2).mono fun e w' ⟨q1, q2⟩ => ⟨q1, hD0.below q2, q2.mono (Nat.le_of_lt hl)⟩

theorem bodF_le (d : List UInt8) : ∀ J, (bodF d J).length ≤ J
  | 0 => Nat.zero_le _
  | J + 1 => by
    have ih := bodF_le d J
    rw [bodF, List.length_append]
    have : (firstM (d.drop (posF d J))).toList.length ≤ 1 := by cases firstM (d.drop (posF d J)) <;> simp
    omega
theorem flat_ge : ∀ (l : List (List UInt8)), l.length ≤ (l.flatMap frameL).length
  | [] => Nat.zero_le _
  | b :: l => by
    have ih := flat_ge l
    rw [List.flatMap_cons, List.length_append, frameL_len, List.length_cons]
    omega
theorem recover_few (d : List UInt8) : (recoverM d).2.1.1.length ≤ 160 ∧ (recoverM d).2.1.2.1.length ≤ 8 ∧ (recoverM d).2.2.1.length ≤ 20000 := by
  by_cases hd : d.length ≤ 20000
  · obtain ⟨l, t, qs, h1, h2, h3, h4, h5, h6, h7, h8⟩ := recover_said hd
    rw [h1]
    obtain ⟨q1, q2, -⟩ := (stateFault_iff _).1 h7
    refine ⟨((storeFault_iff _).1 q1).1, ((hintsFault_iff _).1 q2).1, ?_⟩
    have := flat_ge l
    show qs.length ≤ 20000
    omega
  · rw [recoverM_big hd]
    exact ⟨Nat.zero_le _, Nat.zero_le _, Nat.zero_le _⟩
/-- What the rounds have done. -/
def SayRel (w3 : World) (g J : Nat) (bs : List (List UInt8)) (at_ : Value) (wr : World) : Prop :=
  ∃ (i : Nat) (s : Sta) (rs : List Rcd) (p : Nat), at_ = .int .i64 (i : Nat) ∧ i ≤ J ∧ rs.length ≤ i ∧ p ≤ 43 * i ∧ recF zeroSta [] 0 bs = recF s rs p (bs.drop i) ∧ stateFaultM s = 0 ∧ DskAt wr g s rs p ∧ Below g w3 wr

set_option maxHeartbeats 4000000 in
theorem implRecoverDisk (A : Option Addr) (n c : Nat) (d : List UInt8) (a : Addr) (w : World) (hr : Rd eB w w.heap.size A d) (hn : d.length = n) (hc : n ≤ c) (hF : Flds w) (hS : Sent w a) :
    Calls Tryz.prog 24 #[.slice A n c] w fun e w' => RetDsk (recoverM d) w e w' := by
  have hb0 : Below w.heap.size w (w.alloc (.cells #[.int .i64 0, .slice none 0 0, .slice none 0 0, .int .i64 0, .slice none 0 0, .int .i64 0] 53)) := (Below.refl _ _).alloc (Nat.le_refl _) _
  have r0 := At.new w 53 #[.int .i64 0, .slice none 0 0, .slice none 0 0, .int .i64 0, .slice none 0 0, .int .i64 0]
  have RF := implReadFrames A n c d _ (hr.lift hb0) hn hc
  by_cases h : n ≤ 20000
  rotate_left
  · have Hr := Lib.hid (recoverM_big (d := d) (by omega))
    rw [framesM_big (by omega)] at RF
    clear hn h hr
    go_enter Tryz.func24, Tryz.ntmps24
    go_wp2_with fail
    refine RF.mono ?_
    rintro e w1 ⟨A1, n1, c1, ps, rfl, dw, hps, hb1⟩
    have hB1 := hb0.trans (hb1.mono hb0.size)
    have f1 := At.new w1 107 #[.int .i64 2, .slice A1 n1 c1, .int .i64 0]
    have hB2 := hB1.alloc hB1.size (.cells #[.int .i64 2, .slice A1 n1 c1, .int .i64 0] 107)
    have r2 := (r0.below hb1 (by simp)).alloc (.cells #[.int .i64 2, .slice A1 n1 c1, .int .i64 0] 107)
    obtain ⟨e0, e1, e2, _, _, _⟩ := f1.three
    obtain ⟨⟨x0, x1, x2, x3, x4, x5⟩, xf0, xf1, xf2, xf3, xf4, xf5⟩ := r2.sixC
    go_wp2
    refine bodyPost_ret (v := .agg #[.int .i64 2, .slice none 0 0, .slice none 0 0, .int .i64 0, .slice none 0 0, .int .i64 0]) (by simp [results, Tryz.results24, go_sem, x0, x1, x2, x3, x4, x5]) rfl ?_
    rw [Hr.out]
    exact ⟨none, 0, 0, none, 0, 0, none, 0, 0, rfl, Ow.nil, Ow.nil, Ow.nil, below6 hB2 _ _ _ _ _ _⟩
  · have hE := endF_end d d.length 0 (fun i hi => absurd hi (by omega)) (by omega)
    generalize endF d d.length 0 = J at hE
    have Hr := Lib.hid (recoverM_ok (d := d) (J := J) (by omega) hE)
    have hJn : J ≤ 20000 := by
      have := posF_ge hE.2
      have := posF_le d J
      omega
    have H40 := Lib.hid fun b (hb : b ∈ bodF d J) => ((bodF_frames d J hE.2).2 b hb).2
    rw [framesM_ok (by omega) hE] at RF
    have hbl := bodF_le d J
    clear hn h hr hE
    generalize hbs : bodF d J = bs at *
    clear hbs
    go_enter Tryz.func24, Tryz.ntmps24
    go_wp2_with fail
    refine RF.mono ?_
    rintro e w1 ⟨A1, n1, c1, ps, rfl, dw, hps, hb1⟩
    have hB1 := hb0.trans (hb1.mono hb0.size)
    generalize ((posF d J : Nat) : Int) = sz at *
    have f1 := At.new w1 107 #[.int .i64 0, .slice A1 n1 c1, .int .i64 sz]
    have hB2 := hB1.alloc hB1.size (.cells #[.int .i64 0, .slice A1 n1 c1, .int .i64 sz] 107)
    have r2 := (r0.below hb1 (by simp)).alloc (.cells #[.int .i64 0, .slice A1 n1 c1, .int .i64 sz] 107)
    have dw2 : DOw eBB (w1.alloc (.cells #[.int .i64 0, .slice A1 n1 c1, .int .i64 sz] 107)) w.heap.size A1 n1 c1 ps := (dw.alloc _).from_ (by simp)
    have hpl : ps.length = n1 := Ow.len okBB dw.1
    have hps' : ps.map (fun x => x.1) = bs := hps
    have hn1 : n1 ≤ 20000 := by
      rw [← hpl, ← List.length_map (f := fun x : List UInt8 × List Hd => x.1), hps']
      omega
    clear hbl hJn
    obtain ⟨e0, e1, e2, _, _, _⟩ := f1.three
    have HB0 := hB2.alloc hB2.size (.cells #[.int .i64 0, .slice none 0 0, .slice none 0 0, .int .i64 0, .slice none 0 0, .int .i64 0] 53)
    have X0 : At ((w1.alloc (.cells #[.int .i64 0, .slice A1 n1 c1, .int .i64 sz] 107)).alloc (.cells #[.int .i64 0, .slice none 0 0, .slice none 0 0, .int .i64 0, .slice none 0 0, .int .i64 0] 53)) (w1.heap.size + 1) 53 #[.int .i64 0, .slice none 0 0, .slice none 0 0, .int .i64 0, .slice none 0 0, .int .i64 0] := by
      have := At.new (w1.alloc (.cells #[.int .i64 0, .slice A1 n1 c1, .int .i64 sz] 107)) 53 #[.int .i64 0, .slice none 0 0, .slice none 0 0, .int .i64 0, .slice none 0 0, .int .i64 0]
      simpa using this
    have r3 := r2.alloc (.cells #[.int .i64 0, .slice none 0 0, .slice none 0 0, .int .i64 0, .slice none 0 0, .int .i64 0] 53)
    have dw3 := dw2.alloc (.cells #[.int .i64 0, .slice none 0 0, .slice none 0 0, .int .i64 0, .slice none 0 0, .int .i64 0] 53)
    have hF3 := hF.below HB0
    have hS3 := hS.below HB0 hS.pos
    have hg0 : w.heap.size ≤ w1.heap.size + 1 := by have := hB1.size; omega
    have lr3 : w.heap.size < w1.heap.size + 1 := by have := hB1.size; omega
    have hG1 : 1 < w1.heap.size + 1 := by have := hF.pos; have := hB1.size; omega
    have hG0 : 0 < w1.heap.size + 1 := by have := hS.pos; have := hB1.size; omega
    have hws : ((w1.alloc (.cells #[.int .i64 0, .slice A1 n1 c1, .int .i64 sz] 107)).heap.size) ≤ w1.heap.size + 1 := by simp
    have DD0 : DskAt ((w1.alloc (.cells #[.int .i64 0, .slice A1 n1 c1, .int .i64 sz] 107)).alloc (.cells #[.int .i64 0, .slice none 0 0, .slice none 0 0, .int .i64 0, .slice none 0 0, .int .i64 0] 53)) (w1.heap.size + 1) zeroSta [] 0 := ⟨none, 0, 0, none, 0, 0, none, 0, 0, X0, Ow.nil, Ow.nil, Ow.nil⟩
    have dlt : ∀ b ∈ blkOf A1 ++ blks ps, b < w1.heap.size + 1 := fun b hb => by have := (dw2.lt b hb).2; simp at this; exact this
    clear RF dw hb1 hB1 r0 r2 f1 hB2 dw2 X0 hF hS
    go_wp2
    generalize hW3 : (w1.alloc (.cells #[.int .i64 0, .slice A1 n1 c1, .int .i64 sz] 107)).alloc (.cells #[.int .i64 0, .slice none 0 0, .slice none 0 0, .int .i64 0, .slice none 0 0, .int .i64 0] 53) = w3 at *
    have hgl : w1.heap.size + 1 < w3.heap.size := DD0.lt
    generalize w1.heap.size + 1 = g at *
    clear hW3 hws
    go_loopw [6, 18] (fun _ i wr => SayRel w3 g n1 (bs) i wr) (fun _ i _ => n1 - (intOf i).toNat)
    case atStart => exact ⟨0, zeroSta, [], 0, rfl, Nat.zero_le _, Nat.zero_le _, Nat.zero_le _, rfl, zero_state, DD0, Below.refl _ _⟩
    case round =>
      obtain ⟨i, s, rs, p, rfl, hiJ, hri, hpi, hrec, hsr, DD, BB⟩ := hrel
      have hJ := Lib.hid hpl
      clear hpl DD0
      by_cases hi : i < n1
      rotate_left
      · obtain rfl : n1 = i := by omega
        obtain ⟨SA, sn, sc, SB, sm, sd, R, k, kc, X, os, oh, or⟩ := DD
        obtain ⟨⟨x0, x1, x2, x3, x4, x5⟩, xf0, xf1, xf2, xf3, xf4, xf5⟩ := X.sixC
        have AR := r3.below BB lr3
        obtain ⟨⟨r0, r1, r2, r3, r4, r5⟩, rf0, rf1, rf2, rf3, rf4, rf5⟩ := AR.sixC
        have hfin : recF zeroSta [] 0 bs = (s, rs, p) := by rw [hrec, List.drop_of_length_le (by rw [← hps', List.length_map, hJ.out]; exact Nat.le_refl _)]; rfl
        have os6 := (os.store6 (by decide) AR (.int .i64 0) (.slice SA sn sc) (.slice SB sm sd) (.int .i64 s.2.2) (.slice R k kc) (.int .i64 (p : Nat))).from_ (base' := w.heap.size) hg0
        have oh6 := (oh.store6 (by decide) AR (.int .i64 0) (.slice SA sn sc) (.slice SB sm sd) (.int .i64 s.2.2) (.slice R k kc) (.int .i64 (p : Nat))).from_ (base' := w.heap.size) hg0
        have or6 := (or.store6 (by decide) AR (.int .i64 0) (.slice SA sn sc) (.slice SB sm sd) (.int .i64 s.2.2) (.slice R k kc) (.int .i64 (p : Nat))).from_ (base' := w.heap.size) hg0
        have HB6 := below6 (HB0.trans (BB.mono hg0)) (.int .i64 0) (.slice SA sn sc) (.slice SB sm sd) (.int .i64 s.2.2) (.slice R k kc) (.int .i64 (p : Nat))
        go_wp2
        refine bodyPost_ret (v := .agg #[.int .i64 0, .slice SA sn sc, .slice SB sm sd, .int .i64 s.2.2, .slice R k kc, .int .i64 (p : Nat)]) (by simp [results, Tryz.results24, go_sem, r0, r1, r2, r3, r4, r5]) rfl ?_
        rw [Hr.out]
        show RetDsk (0, recF zeroSta [] 0 bs) _ _ _
        rw [hfin]
        exact ⟨SA, sn, sc, SB, sm, sd, R, k, kc, rfl, os6, oh6, or6, HB6⟩
      · obtain ⟨q, hq⟩ : ∃ q, ps[i]? = some q := ⟨_, List.getElem?_eq_getElem (by rw [hJ.out]; exact hi)⟩
        have hq1 : (bs)[i]? = some q.1 := by rw [← hps', List.getElem?_map, hq]; rfl
        have hdr : (bs).drop i = q.1 :: (bs).drop (i + 1) := by
          obtain ⟨h1, h2⟩ := List.getElem?_eq_some_iff.1 hq1
          rw [List.drop_eq_getElem_cons h1, h2]
        have hq40 := H40.out q.1 (List.mem_of_getElem? hq1)
        have hrec2 : recF zeroSta [] 0 bs = recF s rs p (q.1 :: (bs).drop (i + 1)) := by rw [hrec, hdr]
        have dwr : DOw eBB wr w.heap.size A1 n1 c1 ps := dw3.keep fun b hb => BB.block b (dlt b hb)
        obtain ⟨g1, x, hA1, hx2, hcell, hrow⟩ := dwr.row hq
        have hxl := hrow.len okB
        have hxc := hrow.cap
        have hxm := hrow.capMax
        have hxr := hrow.rd okB
        have hFr : Flds wr := by
          intro j u hu
          rw [BB.cell (p := ⟨1, j, none⟩) (hG1)]
          exact hF3 j u hu
        have hSr : Sent wr.drew a := hS3.below BB.drew hG0
        have hlt : (i : Int) < (n1 : Int) := by omega
        have hxn : x.n ≤ 40 := by omega
        have hk2 : rs.length ≤ 100000 := by omega
        have hp2 : p ≤ 100000000 := by omega
        have hwl := BB.size
        subst hA1
        clear hrec hdr hq1
        rcases say_ways (b := q.1) hsr with ⟨y1, y2, y3, y4, y5, y6⟩ | ⟨n1', n2'⟩
        · have Hyes := Lib.hid (recF_yes (rs := rs) (n := p) (bs := (bs).drop (i + 1)) y1 y2)
          have SY := fun W D r f s0 => sayYes g x.A x.n x.c q.1 a s rs p W D r hxl hxc hxm f s0 y3 y4 y5 hk2 hp2 (by omega)
          clear y1 y2 y3 y4 y5
          go_wp2_with fail
          refine wp_region_mix [(0, false), (2, false), (1, true), (3, true)] (fun u => Sent u a) (by kernel_rfl) (by kernel_rfl) (fun _ _ _ _ _ h => h) hSr ?_
          simp only [mixOps, List.map_cons, List.map_nil, List.getElem?_cons_succ, List.getElem?_cons_zero, Option.getD_some]
          repeat (first
            | (refine mix_skip (by rfl) ?_
               (try simp only [Act.put, List.setIfInBounds_toArray, List.set_cons_zero, List.set_cons_succ]))
            | (refine mix_pure (v := ?_) (by rfl) (fun u hu => ?_) ?_
               rotate_left
               · (unfold Sent at hu)
                 go_simp
                 (with_reducible rfl)
               (try simp only [Act.put, List.setIfInBounds_toArray, List.set_cons_zero, List.set_cons_succ])))
          refine mix_call (by rfl) (fun K hK => ?_)
          go_simp
          refine (SY _ (show DskAt wr.drew g s rs p from DD) hxr hFr hSr).mono ?_
          rintro e w5 ⟨rfl, D5, B5⟩
          have hS5 := hSr.below B5 hG0
          refine hK _ _ (fun u => Sent u a) (fun _ h => h) hS5 ?_
          clear hK K
          (try simp only [Act.put, List.setIfInBounds_toArray, List.set_cons_zero, List.set_cons_succ])
          refine mix_call (by rfl) (fun K hK => ?_)
          go_simp
          refine (isNil a _).mono ?_
          rintro e w' ⟨rfl, rfl⟩
          refine hK _ _ (fun u => Sent u a) (fun _ h => h) hS5 ?_
          clear hK K
          (try simp only [Act.put, List.setIfInBounds_toArray, List.set_cons_zero, List.set_cons_succ])
          refine mix_nil ?_
          go_wp2
          refine ⟨⟨i + 1, _, _, p + x.n + 3, ?_, by omega, by simp; omega, by omega, ?_, y6, D5, BB.drew.trans B5⟩, by simp [intOf]; omega⟩
          · simp
          · rw [hrec2, Hyes.out, hxl]
        · have Hno := Lib.hid (recF_no (rs := rs) (n := p) (bs := (bs).drop (i + 1)) n1')
          have SN := fun W D r f s0 => sayNo g x.A x.n x.c q.1 a s rs p W D r hxl hxc hxm f s0 n2'
          clear n1' n2'
          go_wp2_with fail
          refine wp_region_mix [(0, false), (2, false), (1, true), (3, true)] (fun u => Sent u a) (by kernel_rfl) (by kernel_rfl) (fun _ _ _ _ _ h => h) hSr ?_
          simp only [mixOps, List.map_cons, List.map_nil, List.getElem?_cons_succ, List.getElem?_cons_zero, Option.getD_some]
          repeat (first
            | (refine mix_skip (by rfl) ?_
               (try simp only [Act.put, List.setIfInBounds_toArray, List.set_cons_zero, List.set_cons_succ]))
            | (refine mix_pure (v := ?_) (by rfl) (fun u hu => ?_) ?_
               rotate_left
               · (unfold Sent at hu)
                 go_simp
                 (with_reducible rfl)
               (try simp only [Act.put, List.setIfInBounds_toArray, List.set_cons_zero, List.set_cons_succ])))
          refine mix_call (by rfl) (fun K hK => ?_)
          go_simp
          refine (SN _ (show DskAt wr.drew g s rs p from DD) hxr hFr hSr).mono ?_
          rintro e w5 ⟨rfl, D5, B5⟩
          have hS5 := hSr.below B5 hG0
          refine hK _ _ (fun u => Sent u a) (fun _ h => h) hS5 ?_
          clear hK K
          (try simp only [Act.put, List.setIfInBounds_toArray, List.set_cons_zero, List.set_cons_succ])
          refine mix_call (by rfl) (fun K hK => ?_)
          go_simp
          refine (isSame a _).mono ?_
          rintro e w' ⟨rfl, rfl⟩
          refine hK _ _ (fun u => Sent u a) (fun _ h => h) hS5 ?_
          clear hK K
          (try simp only [Act.put, List.setIfInBounds_toArray, List.set_cons_zero, List.set_cons_succ])
          refine mix_nil ?_
          have DD := D5
          have BB := BB.drew.trans B5
          obtain ⟨SA, sn, sc, SB, sm, sd, R, k, kc, X, os, oh, or⟩ := DD
          obtain ⟨⟨x0, x1, x2, x3, x4, x5⟩, xf0, xf1, xf2, xf3, xf4, xf5⟩ := X.sixC
          have AR := r3.below BB lr3
          obtain ⟨⟨r0, r1, r2, r3, r4, r5⟩, rf0, rf1, rf2, rf3, rf4, rf5⟩ := AR.sixC
          have hfin : recF zeroSta [] 0 bs = (s, rs, p) := by rw [hrec2, Hno.out]
          have os6 := (os.store6 (by decide) AR (.int .i64 0) (.slice SA sn sc) (.slice SB sm sd) (.int .i64 s.2.2) (.slice R k kc) (.int .i64 (p : Nat))).from_ (base' := w.heap.size) hg0
          have oh6 := (oh.store6 (by decide) AR (.int .i64 0) (.slice SA sn sc) (.slice SB sm sd) (.int .i64 s.2.2) (.slice R k kc) (.int .i64 (p : Nat))).from_ (base' := w.heap.size) hg0
          have or6 := (or.store6 (by decide) AR (.int .i64 0) (.slice SA sn sc) (.slice SB sm sd) (.int .i64 s.2.2) (.slice R k kc) (.int .i64 (p : Nat))).from_ (base' := w.heap.size) hg0
          have HB6 := below6 (HB0.trans (BB.mono hg0)) (.int .i64 0) (.slice SA sn sc) (.slice SB sm sd) (.int .i64 s.2.2) (.slice R k kc) (.int .i64 (p : Nat))
          go_wp2
          refine bodyPost_ret (v := .agg #[.int .i64 0, .slice SA sn sc, .slice SB sm sd, .int .i64 s.2.2, .slice R k kc, .int .i64 (p : Nat)]) (by simp [results, Tryz.results24, go_sem, r0, r1, r2, r3, r4, r5]) rfl ?_
          rw [Hr.out]
          show RetDsk (0, recF zeroSta [] 0 bs) _ _ _
          rw [hfin]
          exact ⟨SA, sn, sc, SB, sm, sd, R, k, kc, rfl, os6, oh6, or6, HB6⟩
end Go.Proofs.YtmaillakhhdkfaaGreatDoor
/-
  The law of disks: the walk.
-/
namespace Go.Proofs.YtmaillakhhdkfaaGreatDoor
set_option maxRecDepth 20000
open Go.RowKit
set_option linter.unusedSimpArgs false
set_option linter.unusedVariables false
attribute [local irreducible] mixW

theorem lwBig_no (A : Option Addr) (n c : Nat) (w : World) (h : ¬ 1048576 < n) :
    Calls Tryz.prog 6 #[.slice A n c] w fun e w' => e = .returned (.bool false) ∧ w = w' := by
  have hd : decide ((1048576 : Int) < (n : Int)) = false := decide_eq_false (by omega)
  go_enter Tryz.func6, Tryz.ntmps6
  go_wp2
  go_ret
  exact ⟨rfl, rfl⟩
theorem fldD2 (z x y : Int) (A B R : Option Addr) (n c m d k kc : Nat) (u : World) : (Instr.field 53 (.agg #[.int .i64 z, .slice A n c, .slice B m d, .int .i64 x, .slice R k kc, .int .i64 y]) 2).run Tryz.prog u = .ok (.slice R k kc) u := by kernel_rfl
theorem fldD3 (z x y : Int) (A B R : Option Addr) (n c m d k kc : Nat) (u : World) : (Instr.field 53 (.agg #[.int .i64 z, .slice A n c, .slice B m d, .int .i64 x, .slice R k kc, .int .i64 y]) 3).run Tryz.prog u = .ok (.int .i64 y) u := by kernel_rfl
theorem fldBy (z : Int) (A : Option Addr) (k c : Nat) (u : World) : (Instr.field 30 (.agg #[.int .i64 z, .slice A k c]) 1).run Tryz.prog u = .ok (.slice A k c) u := by kernel_rfl
theorem neqR7 (a b c d e f g : Int) (u : World) : (binOp .neq 27 (.agg #[.int .i64 a, .int .i64 b, .int .i64 c, .int .i64 d, .int .i64 e, .int .i64 f, .int .i64 g]) (.agg #[.int .i64 a, .int .i64 b, .int .i64 c, .int .i64 d, .int .i64 e, .int .i64 f, .int .i64 g])).run Tryz.prog u = .ok (.bool false) u := by
  go_simp
/-- Two blocks and a record of a row. -/
def At2S (w : World) (g : Nat) (t : TypeId) (cs : Array Value) (g' : Nat) (t' : TypeId) (cs' : Array Value) (gR off : Nat) (a0 a1 a2 a3 a4 a5 a6 : Int) : Prop := At2 w g t cs g' t' cs' ∧ S7 w gR off a0 a1 a2 a3 a4 a5 a6 ∧ gR < w.heap.size
section
variable {w w' : World} {g g' gR off : Nat} {t t' : TypeId} {cs cs' : Array Value} {a0 a1 a2 a3 a4 a5 a6 : Int}
theorem At2S.lt (h : At2S w g t cs g' t' cs' gR off a0 a1 a2 a3 a4 a5 a6) : g < w.heap.size ∧ g' < w.heap.size ∧ gR < w.heap.size := ⟨h.1.lt.1, h.1.lt.2, h.2.2⟩
theorem At2S.drew (h : At2S w g t cs g' t' cs' gR off a0 a1 a2 a3 a4 a5 a6) : At2S w.drew g t cs g' t' cs' gR off a0 a1 a2 a3 a4 a5 a6 := ⟨h.1.drew, h.2.1.drew, h.2.2⟩
theorem At2S.below {B : Nat} (h : At2S w g t cs g' t' cs' gR off a0 a1 a2 a3 a4 a5 a6) (hb : Below B w w') (hl : g < B ∧ g' < B ∧ gR < B) (hs : w.heap.size ≤ w'.heap.size) : At2S w' g t cs g' t' cs' gR off a0 a1 a2 a3 a4 a5 a6 := ⟨h.1.below hb ⟨hl.1, hl.2.1⟩, h.2.1.below hb hl.2.2, Nat.lt_of_lt_of_le h.2.2 hs⟩
theorem At2S.belowS (h : At2S w g t cs g' t' cs' gR off a0 a1 a2 a3 a4 a5 a6) (hb : Below w.heap.size w w') (hl : g < w.heap.size ∧ g' < w.heap.size ∧ gR < w.heap.size) : At2S w' g t cs g' t' cs' gR off a0 a1 a2 a3 a4 a5 a6 := h.below hb hl hb.size
theorem At2S.alloc (h : At2S w g t cs g' t' cs' gR off a0 a1 a2 a3 a4 a5 a6) (o : Obj) : At2S (w.alloc o) g t cs g' t' cs' gR off a0 a1 a2 a3 a4 a5 a6 := h.belowS ((Below.refl _ _).alloc (Nat.le_refl _) o) h.lt
theorem At2S.far (h : At2S w g t cs g' t' cs' gR off a0 a1 a2 a3 a4 a5 a6) {p : Addr} (hp : g ≠ p.block ∧ g' ≠ p.block ∧ gR ≠ p.block) (u : Value) : At2S (w.setCell p u) g t cs g' t' cs' gR off a0 a1 a2 a3 a4 a5 a6 :=
  ⟨h.1.far ⟨hp.1, hp.2.1⟩ u, h.2.1.grown (grown_setCell _ _ _) (by simpa using hp.2.2), by simpa [World.setCell] using h.2.2⟩
end
theorem StaAt.lt {w : World} {g base : Nat} {s : Sta} (h : StaAt w g base s) : g < w.heap.size := by
  obtain ⟨_, _, _, _, _, _, h, _⟩ := h
  exact h.lt
/-- What the rounds have played. -/
def PlayRel (w12 : World) (gn : Nat) (t : Sta) (qs : List Rcd) (i_ : Value) (wr : World) : Prop :=
  ∃ (i : Nat) (s : Sta), i_ = .int .i64 (i : Nat) ∧ i ≤ qs.length ∧ Plays s (qs.drop i) t ∧ stateFaultM s = 0 ∧ StaAt wr gn gn s ∧ Below gn w12 wr

set_option maxRecDepth 100000 in
set_option maxHeartbeats 16000000 in
theorem fnRecovers_walk (X : Option Addr) (n c : Nat) (l : List UInt8) (a : Addr) (w : World) (ha : Rd eB w w.heap.size X l) (hn : l.length = n) (hF : Flds w) (hS : Sent w a) :
    Calls Tryz.prog 4 #[.slice X n c] w fun e w' => e = .returned (.bool true) ∧ Below w.heap.size w w' := by
  have Hn := Lib.hid hn
  clear hn
  by_cases hbig : 1048576 < n
  · go_enter Tryz.func4, Tryz.ntmps4
    go_wp2
    go_ret
    exact ⟨rfl, Below.refl _ _⟩
  have hm : n ≤ 1048576 := by omega
  go_enter Tryz.func4, Tryz.ntmps4
  go_wp2_with fail
  refine (lwBig_no X n c w hbig).mono ?_
  rintro e w0 ⟨rfl, rfl⟩
  clear hbig
  go_wp2_with fail
  refine (drawRecoverDisk X n c l _ ha Hn.out hm).mono ?_
  rintro e w1 ⟨D, dn, dc, dl, rfl, hdl, hdc, hdm, hd2, rd1, hb1⟩
  have ha1 := ha.lift hb1
  have IP := fun W h1 h2 h3 => implRecoverDisk D dn dc dl a W h1 hdl hdc h2 h3
  have SP := fun W h1 => specRecoverDisk D dn dc dl W h1 hdl hdc hdm
  have hmore : dl.length ≤ 20000 → _ := fun h => recover_more (d := dl) h
  have hbigD := fun h => recoverM_big (d := dl) h
  have hfew := (recover_few dl).2.2
  rcases hM : recoverM dl with ⟨tc, ⟨tl, th, tx⟩, tr, tz⟩
  rw [hM] at IP SP hfew
  have Hfew0 := Lib.hid (show tr.length ≤ 20000 from hfew)
  clear hfew
  have HM := Lib.hid hM
  have Hmore := Lib.hid hmore
  have HbigD := Lib.hid hbigD
  have Hdl := Lib.hid hdl
  clear hM hmore hbigD hdl
  have hF1 := hF.below hb1
  have hS1 := hS.below hb1 hS.pos
  go_wp2_with fail
  refine (IP _ rd1 hF1 hS1).mono ?_
  rintro e w2 ⟨A1, an, ac, B1, bm, bd, R1, rn, rk, rfl, oa, ob, or, hb2⟩
  have ad := At.new w2 53 #[.int .i64 tc, .slice A1 an ac, .slice B1 bm bd, .int .i64 tx, .slice R1 rn rk, .int .i64 (tz : Nat)]
  have B2 := (hb1.trans (hb2.mono hb1.size)).alloc (hb1.trans (hb2.mono hb1.size)).size (.cells #[.int .i64 tc, .slice A1 an ac, .slice B1 bm bd, .int .i64 tx, .slice R1 rn rk, .int .i64 (tz : Nat)] 53)
  have hb2' := hb2.alloc hb2.size (.cells #[.int .i64 tc, .slice A1 an ac, .slice B1 bm bd, .int .i64 tx, .slice R1 rn rk, .int .i64 (tz : Nat)] 53)
  have rd2 := rd1.lift hb2'
  have ha2 := ha1.lift hb2'
  have oa2 := oa.alloc (.cells #[.int .i64 tc, .slice A1 an ac, .slice B1 bm bd, .int .i64 tx, .slice R1 rn rk, .int .i64 (tz : Nat)] 53)
  have ob2 := ob.alloc (.cells #[.int .i64 tc, .slice A1 an ac, .slice B1 bm bd, .int .i64 tx, .slice R1 rn rk, .int .i64 (tz : Nat)] 53)
  have or2 := or.alloc (.cells #[.int .i64 tc, .slice A1 an ac, .slice B1 bm bd, .int .i64 tx, .slice R1 rn rk, .int .i64 (tz : Nat)] 53)
  go_wp2_with fail
  refine (SP _ rd2).mono ?_
  rintro e w3 ⟨A2, an2, ac2, B2', bm2, bd2, R2, rn2, rk2, rfl, pa, pb, pr, hb3⟩
  have hle := hb3.size
  obtain rfl : rn2 = rn := by rw [← pr.len okR, ← or.len okR]
  have ad3 := (ad.below hb3 ad.lt).alloc (.cells #[.int .i64 tc, .slice A2 an2 ac2, .slice B2' bm2 bd2, .int .i64 tx, .slice R2 rn2 rk2, .int .i64 (tz : Nat)] 53)
  have aw3 := At.new w3 53 #[.int .i64 tc, .slice A2 an2 ac2, .slice B2' bm2 bd2, .int .i64 tx, .slice R2 rn2 rk2, .int .i64 (tz : Nat)]
  have hb3' := hb3.alloc hb3.size (.cells #[.int .i64 tc, .slice A2 an2 ac2, .slice B2' bm2 bd2, .int .i64 tx, .slice R2 rn2 rk2, .int .i64 (tz : Nat)] 53)
  have B3 := B2.trans (hb3'.mono B2.size)
  have rd3 := rd2.lift hb3'
  have ha3 := ha2.lift hb3'
  have oa3 := (oa2.below hb3 (Nat.le_refl _)).alloc (.cells #[.int .i64 tc, .slice A2 an2 ac2, .slice B2' bm2 bd2, .int .i64 tx, .slice R2 rn2 rk2, .int .i64 (tz : Nat)] 53)
  have ob3 := (ob2.below hb3 (Nat.le_refl _)).alloc (.cells #[.int .i64 tc, .slice A2 an2 ac2, .slice B2' bm2 bd2, .int .i64 tx, .slice R2 rn2 rk2, .int .i64 (tz : Nat)] 53)
  have or3 := (or2.below hb3 (Nat.le_refl _)).alloc (.cells #[.int .i64 tc, .slice A2 an2 ac2, .slice B2' bm2 bd2, .int .i64 tx, .slice R2 rn2 rk2, .int .i64 (tz : Nat)] 53)
  have pa3 := pa.alloc (.cells #[.int .i64 tc, .slice A2 an2 ac2, .slice B2' bm2 bd2, .int .i64 tx, .slice R2 rn2 rk2, .int .i64 (tz : Nat)] 53)
  have pb3 := pb.alloc (.cells #[.int .i64 tc, .slice A2 an2 ac2, .slice B2' bm2 bd2, .int .i64 tx, .slice R2 rn2 rk2, .int .i64 (tz : Nat)] 53)
  have pr3 := pr.alloc (.cells #[.int .i64 tc, .slice A2 an2 ac2, .slice B2' bm2 bd2, .int .i64 tx, .slice R2 rn2 rk2, .int .i64 (tz : Nat)] 53)
  have hng : w2.heap.size < w3.heap.size := (ad.below hb3 ad.lt).lt
  have IS := implSameStates A1 B1 A2 B2' an ac bm bd an2 ac2 bm2 bd2 tl tl th th tx tx _ (oa3.rd okS) (ob3.rd okH) (pa3.rd okS) (pb3.rd okH) (oa.len okS) (ob.len okH) (pa.len okS) (pb.len okH) oa.small ob.small
  rw [sta_yes] at IS
  have la1 := Lib.hid (oa.len okS)
  have la2 := Lib.hid (ob.len okH)
  have la3 := Lib.hid (or.len okR)
  have lm1 := oa.small
  have lm2 := ob.small
  obtain ⟨⟨c0, c1, c2, c3, c4, c5⟩, _⟩ := ad3.sixC
  obtain ⟨⟨e0, e1, e2, e3, e4, e5⟩, _⟩ := aw3.sixC
  clear hb1 hb2 hb2' hb3 oa ob or oa2 ob2 or2 pa pb pr rd1 rd2 ha ha1 ha2 ad B2 IP SP hle
  go_wp2_with fail
  refine IS.mono ?_
  rintro e w4 ⟨rfl, hb4⟩
  have B4 := B3.trans (hb4.mono B3.size)
  have ad4 := ad3.below hb4 ad3.lt
  have aw4 := aw3.below hb4 aw3.lt
  have rd4 := rd3.lift hb4
  have ha4 := ha3.lift hb4
  have oa4 := oa3.below hb4 (Nat.le_refl _)
  have ob4 := ob3.below hb4 (Nat.le_refl _)
  have or4 := or3.below hb4 (Nat.le_refl _)
  have pr4 := pr3.below hb4 (Nat.le_refl _)
  have hS4 := hS1
  clear c0 c1 c2 c3 c4 c5 e0 e1 e2 e3 e4 e5 hb4 IS ad3 aw3 rd3 ha3 oa3 ob3 or3 pa3 pb3 pr3 B3 hS4 hF1 hS1 hb3'
  obtain ⟨⟨c0, c1, c2, c3, c4, c5⟩, _⟩ := ad4.sixC
  by_cases htc : dn ≤ 20000
  rotate_left
  · have h := HbigD.out (by rw [Hdl.out]; exact htc)
    rw [HM.out] at h
    obtain rfl : tc = 2 := (Prod.mk.inj h).1
    go_wp2
    go_ret
    exact ⟨rfl, B4⟩
  obtain ⟨n', t', qs, hr1, hr2, hr3, hr4, hr5⟩ := Hmore.out (by rw [Hdl.out]; exact htc)
  rw [HM.out] at hr1
  obtain ⟨p1, p2⟩ := Prod.mk.inj hr1
  obtain ⟨p3, p4⟩ := Prod.mk.inj p2
  obtain ⟨p5, p6⟩ := Prod.mk.inj p4
  clear hr1 p2 p4 HbigD HM Hmore
  subst p1
  subst p3
  subst p5
  subst p6
  have hsize : (tz : Int) ≤ (dn : Int) := by have := Hdl.out; omega
  have hsized : decide ((dn : Int) < (tz : Int)) = false := decide_eq_false (by omega)
  have hsizedN : decide (dn < tz) = false := decide_eq_false (by omega)
  have Hplay := Lib.hid hr3
  have Hend := Lib.hid hr5
  have Hr2 := Lib.hid hr2
  have Hst := Lib.hid hr4
  have IF := implStateFault A1 B1 an ac bm bd tl th tx _ (oa4.rd okS) (ob4.rd okH) la1.out la2.out (hF.below B4)
  rw [hr4] at IF
  clear hr2 hr3 hr4 hr5
  go_wp2_with fail
  refine IF.mono ?_
  rintro e w5 ⟨rfl, hb5⟩
  have B5 := B4.trans (hb5.mono B4.size)
  have ad5 := ad4.below hb5 ad4.lt
  have aw5 := aw4.below hb5 aw4.lt
  have rd5 := rd4.lift hb5
  have ha5 := ha4.lift hb5
  have ra5 := (oa4.rd okS).lift hb5
  have rb5 := (ob4.rd okH).lift hb5
  have or5 := or4.below hb5 (Nat.le_refl _)
  have pr5 := pr4.below hb5 (Nat.le_refl _)
  have lg5 := ad5.lt
  have lw5 := aw5.lt
  clear c0 c1 c2 c3 c4 c5 hb5 IF ad4 aw4 rd4 ha4 oa4 ob4 or4 pr4 B4
  obtain ⟨⟨c0, c1, c2, c3, c4, c5⟩, _⟩ := ad5.sixC
  have an6 := At.new w5 39 #[.slice none 0 0, .slice none 0 0, .int .i64 0]
  have ad6 := ad5.alloc (.cells #[.slice none 0 0, .slice none 0 0, .int .i64 0] 39)
  have aw6 := aw5.alloc (.cells #[.slice none 0 0, .slice none 0 0, .int .i64 0] 39)
  have B6 := B5.alloc B5.size (.cells #[.slice none 0 0, .slice none 0 0, .int .i64 0] 39)
  have hal := (Below.refl w5.heap.size w5).alloc (Nat.le_refl _) (.cells #[.slice none 0 0, .slice none 0 0, .int .i64 0] 39)
  have rd6 := rd5.below hal (Nat.le_refl _)
  have ha6 := ha5.below hal (Nat.le_refl _)
  have ra6 := ra5.below hal (Nat.le_refl _)
  have rb6 := rb5.below hal (Nat.le_refl _)
  have hor : ∀ (i : Nat) (r : Rcd), tr[i]? = some r → ∃ gR gR2, R1 = some ⟨gR, 0, none⟩ ∧ R2 = some ⟨gR2, 0, none⟩ ∧ gR < w5.heap.size ∧ gR2 < w5.heap.size ∧ S7 (w5.alloc (.cells #[.slice none 0 0, .slice none 0 0, .int .i64 0] 39)) gR (i * 7) r.1 r.2.1 r.2.2.1.1 r.2.2.1.2.1 r.2.2.1.2.2.1 r.2.2.1.2.2.2 r.2.2.2 ∧ S7 (w5.alloc (.cells #[.slice none 0 0, .slice none 0 0, .int .i64 0] 39)) gR2 (i * 7) r.1 r.2.1 r.2.2.1.1 r.2.2.1.2.1 r.2.2.1.2.2.1 r.2.2.1.2.2.2 r.2.2.2 := by
    intro i r hr
    obtain ⟨a0, a1, ⟨a2, a3, a4, a5⟩, a6⟩ := r
    have hpos : 0 < rn2 := by have := getElem?_some_lt hr; have := la3.out; omega
    obtain ⟨gR, rfl, -, h1⟩ := or5.form hpos
    obtain ⟨gR2, rfl, -, h2⟩ := pr5.form hpos
    exact ⟨gR, gR2, rfl, rfl, h1, h2, (or5.alloc _).rcdAt hr, (pr5.alloc _).rcdAt hr⟩
  have Hor := Lib.hid hor
  have ST6 : StaAt (w5.alloc (.cells #[.slice none 0 0, .slice none 0 0, .int .i64 0] 39)) w5.heap.size w5.heap.size zeroSta := ⟨none, 0, 0, none, 0, 0, an6, Ow.nil, Ow.nil⟩
  have hg0 : w.heap.size ≤ w5.heap.size := B5.size
  have lF : 1 < w5.heap.size := Nat.lt_of_lt_of_le hF.pos hg0
  have lS : 0 < w5.heap.size := Nat.lt_of_lt_of_le hS.pos hg0
  have hF6 := hF.below B6
  have hS6 := hS.below B6 hS.pos
  clear hor or5 pr5 rd5 ha5 ra5 rb5 ad5 aw5 hal B5
  go_wp2
  generalize hW6 : w5.alloc (.cells #[.slice none 0 0, .slice none 0 0, .int .i64 0] 39) = w6 at *
  generalize hgn : w5.heap.size = gn at *
  clear hW6 hgn c0 c1 c2 c3 c4 c5 an6
  go_loopw [7, 8] (fun i _ wr => PlayRel w6 gn (tl, th, tx) tr i wr) (fun i _ _ => tr.length - (intOf i).toNat)
  case atStart => exact ⟨0, zeroSta, rfl, Nat.zero_le _, Hplay.out, zero_state, ST6, Below.refl _ _⟩
  case round =>
    obtain ⟨i, s, rfl, hi, hpl, hsr, ST, BB⟩ := hrel
    (try simp only [hsized, hsizedN])
    have adr := ad6.below BB lg5
    have awr := aw6.below BB lw5
    have lnr := ST.lt
    have hgw : gn ≤ wr.heap.size := Nat.le_of_lt lnr
    have hFr : Flds wr := by
      intro j u hu
      rw [BB.cell (p := ⟨1, j, none⟩) lF]
      exact hF6 j u hu
    have hSr : Sent wr a := hS6.below BB lS
    have HB := B6.trans (BB.mono hg0)
    obtain ⟨⟨c0, c1, c2, c3, c4, c5⟩, _⟩ := adr.sixC
    obtain ⟨sl, sh, sx⟩ := s
    obtain ⟨N1, nn, nc, N2, nm, nd, nx, sa, sb⟩ := ST
    dsimp only at nx sa sb
    by_cases hlt : i < tr.length
    rotate_left
    · have hi' : i = tr.length := by omega
      have hps : (sl, sh, sx) = (tl, th, tx) := by rw [hi', List.drop_length] at hpl; exact hpl
      obtain ⟨rfl, h2⟩ := Prod.mk.inj hps
      obtain ⟨rfl, rfl⟩ := Prod.mk.inj h2
      clear hps h2 hpl hsr
      have hnl : ¬ (i : Int) < (rn2 : Int) := by have := la3.out; omega
      have IS := implSameStates N1 N2 A1 B1 nn nc nm nd an ac bm bd sl sl sh sh sx sx wr (sa.rd okS) (sb.rd okH) ((ra6.below BB (Nat.le_refl _)).more hgw) ((rb6.below BB (Nat.le_refl _)).more hgw) (sa.len okS) (sb.len okH) la1.out la2.out sa.small sb.small
      rw [sta_yes] at IS
      obtain ⟨m0, m1, m2, _, _, _⟩ := nx.three
      go_wp2_with fail
      refine IS.mono ?_
      rintro e w7 ⟨rfl, hb7⟩
      have B7 := HB.trans (hb7.mono HB.size)
      have ad7 := adr.below hb7 adr.lt
      have rd7 := (((rd6.below BB (Nat.le_refl _)).more hgw).below hb7 (Nat.le_refl _)).more hb7.size
      have ha7 := (((ha6.below BB (Nat.le_refl _)).more hgw).below hb7 (Nat.le_refl _)).more hb7.size
      clear c0 c1 c2 c3 c4 c5 m0 m1 m2 IS nx sa sb ra6 rb6 rd6 ha6 hb7 HB
      obtain ⟨⟨c0, c1, c2, c3, c4, c5⟩, _⟩ := ad7.sixC
      have hlife : recFaultM (4, 0, (0, 0, 0, 0), sx) = 0 := by rw [rec4, if_pos ((stateFault_iff _).1 Hst.out).2.2]
      have hfew := encR_few hlife
      have SE := specEncodeRecord 4 0 0 0 0 0 sx w7
      rw [show encRecM (4, 0, (0, 0, 0, 0), sx) = (0, encR (4, 0, (0, 0, 0, 0), sx)) by unfold encRecM; rw [if_pos hlife]] at SE
      have Hfew := Lib.hid hfew
      clear hlife hfew
      have F2 := fldBy
      go_wp2_with fail
      refine SE.mono ?_
      rintro e w8 ⟨Ae, ke, ka, rfl, oe, hb8⟩
      dsimp only at oe
      have hle8 := oe.len okB
      have B8 := B7.trans (hb8.mono B7.size)
      have ad8 := ad7.below hb8 ad7.lt
      have PF := implPackFrame Ae ke ka (encR (4, 0, (0, 0, 0, 0), sx)) w8 (oe.rd okB) hle8
      rw [packFrameM_ok (by have := Hfew.out; omega)] at PF
      clear SE hle8 oe c0 c1 c2 c3 c4 c5
      go_wp2_with fail
      refine PF.mono ?_
      rintro e w9 ⟨Af, kf, cf, rfl, of, hb9⟩
      dsimp only at of
      have hkf := of.len okB
      have Hkf := Lib.hid hkf
      have hk4 : 4 ≤ kf ∧ kf ≤ 12 := by rw [frameL_len] at hkf; have := Hfew.out; omega
      have B9 := B8.trans (hb9.mono B8.size)
      have ad9 := ad8.below hb9 ad8.lt
      have rd9 := (rd7.lift hb8).lift hb9
      have ha9 := (ha7.lift hb8).lift hb9
      clear PF hkf ad7 ad8 rd7 ha7 hb8 hb9
      obtain ⟨⟨c0, c1, c2, c3, c4, c5⟩, _⟩ := ad9.sixC
      have hz0 : ((kf : Int) == 0) = false := by simp; omega
      by_cases hov : (20000 : Int) < (tz : Int) + (kf : Int)
      · have hpos : (0 : Int) < (kf : Int) := by omega
        go_wp2
        go_ret
        refine ⟨?_, B9⟩
        show Ending.returned (.bool (decide (0 < kf))) = _
        rw [decide_eq_true (show 0 < kf by omega)]
      go_wp2_with fail
      refine (lwAt X n c l 2 (kf : Int) _ ha9 Hn.out (by omega) hm (by omega) (by omega)).mono ?_
      rintro e w10' ⟨v, dq, rfl, hv, rfl⟩
      obtain ⟨hv0, hv1⟩ := hv (by omega)
      obtain ⟨v, rfl⟩ := Int.eq_ofNat_of_zero_le hv0
      have hvk : v < kf := by omega
      have B10 := bdrewN B9 dq
      have ad10 := ad9.drewN dq
      have rd10 : Rd eB (w9.drewN dq) (w9.drewN dq).heap.size D dl := rd9.drewN dq
      have of10 := of.drewN dq
      clear c0 c1 c2 c3 c4 c5
      generalize w9.drewN dq = w10 at *
      obtain ⟨⟨c0, c1, c2, c3, c4, c5⟩, _⟩ := ad10.sixC
      have hrl : (dl.take tz).length = tz := by rw [List.length_take]; have := Hdl.out; omega
      have htz0 : (0 : Int) ≤ (tz : Int) := by omega
      have htzc : (tz : Int) ≤ (dc : Int) := by omega
      have o11 : Ow eB (w10.alloc (.cells #[] 5)) w10.heap.size (some ⟨w10.heap.size, 0, none⟩) 0 0 [] := Ow.lit w10 [] #[] 0 (Nat.le_refl _) (by unfold maxLen; omega) rfl rfl
      have hal := (Below.refl w10.heap.size w10).alloc (Nat.le_refl _) (.cells #[] 5)
      have rd11 := rd10.below hal (Nat.le_refl _)
      have of11 := of10.alloc (.cells #[] 5)
      have ad11 := ad10.alloc (.cells #[] 5)
      have B11 := B10.alloc B10.size (.cells #[] 5)
      have l11 : w2.heap.size < w10.heap.size := ad10.lt
      have ne11 : ¬ w2.heap.size = w10.heap.size := by omega
      obtain ⟨⟨d0, d1, d2, d3, d4, d5⟩, _⟩ := ad11.sixC
      go_wp2_with (first
        | (at_builtin
           refine wpList_append_ow okB _ rfl (.tmp 127) (.tmp 131) _ rfl w10.heap.size info_u8 Tryz.underlying22 rfl (some ⟨w10.heap.size, 0, none⟩) 0 0 [] rfl o11 D tz dc _ (dl.take tz) rfl (rd11.take tz) hrl (by unfold maxLen; omega) (by omega) hal.size ?_
           intro A12 c12 w12 o12 hg12 _
           have hr12 : ∀ y, (some (⟨w10.heap.size, 0, none⟩ : Addr)).map (·.block) = some y → w.heap.size ≤ y := fun y hy => (by have q : w10.heap.size = y := (by simpa using hy); have := B10.size; omega)
           have B12 := B11.grown hg12 B11.size hr12
           have ad12 := ad11.grown hg12 (by simp; have := ad10.lt; omega)
           have of12 := of11.grown hg12 (fun y hy e => by have q := (of10.lt y hy).2; have e' : w10.heap.size = y := (by simpa using e); omega)
           have h12 : w10.heap.size ≤ w12.heap.size := Nat.le_trans hal.size hg12.size
           rw [List.nil_append, Nat.zero_add] at o12)
        | (at_builtin
           refine wpList_append_ow okB _ rfl (.tmp 132) (.tmp 133) _ rfl w10.heap.size info_u8 Tryz.underlying22 rfl A12 tz c12 (dl.take tz) rfl o12 Af kf cf _ _ rfl (of12.rd okB) Hkf.out (by unfold maxLen; omega) (by omega) h12 ?_
           intro A13 c13 w13 o13 hg13 _
           have B13 := B12.grown hg13 B12.size (fun y hy => Nat.le_trans B10.size (o12.lt y hy).1)
           have ad13 := ad12.grown hg13 (fun e => by have := (o12.lt _ e).1; have := ad10.lt; omega)))
      have hml := o13.len okB
      have hmc := o13.cap
      have hmm := o13.capMax
      have hEnd := Hend.out (by rw [Hkf.out]; omega)
      obtain ⟨hE1, hE2⟩ := hEnd
      have hE3 := hE2 v (by rw [Hkf.out]; exact hvk)
      have htk : (dl.take tz ++ frameL (encR (4, 0, (0, 0, 0, 0), sx))).take (tz + v) = dl.take tz ++ (frameL (encR (4, 0, (0, 0, 0, 0), sx))).take v := by rw [List.take_append, hrl, List.take_of_length_le (by rw [hrl]; omega), show tz + v - tz = v by omega]
      have I1 := fun W r f s0 => implRecoverDisk A13 (tz + kf) c13 (dl.take tz ++ frameL (encR (4, 0, (0, 0, 0, 0), sx))) a W r hml hmc f s0
      rcases hR1 : recoverM (dl.take tz ++ frameL (encR (4, 0, (0, 0, 0, 0), sx))) with ⟨z1, s1, q1, y1⟩
      have I2 := fun W r f s0 => implRecoverDisk A13 (tz + v) c13 (dl.take tz ++ (frameL (encR (4, 0, (0, 0, 0, 0), sx))).take v) a W r (by rw [List.length_append, List.length_take, List.length_take, Hkf.out, Hdl.out]; omega) (by omega) f s0
      rcases hR2 : recoverM (dl.take tz ++ (frameL (encR (4, 0, (0, 0, 0, 0), sx))).take v) with ⟨z2, s2, q2, y2⟩
      rw [hR1] at hE1 I1
      rw [hR2] at hE3 I2
      dsimp only at hE1 hE3
      rw [hE3] at I2
      have rm := (o13.rd okB)
      have rmt := rm.take (tz + v)
      rw [htk] at rmt
      have hF13 := hF.below B13
      have hS13 := hS.below B13 hS.pos
      have HE1 := Lib.hid hE1
      have hv0' : (0 : Int) ≤ (tz : Int) + (v : Int) := by omega
      have hvc : (tz : Int) + (v : Int) ≤ (c13 : Int) := by omega
      have hvw : IntKind.i64.wrap ((tz : Int) + (v : Int)) = (tz : Int) + (v : Int) := IntWalk.i64_in _ (by omega)
      have hrn2 : (rn2 : Int) ≤ 20000 := by have := Hfew0.out; have := la3.out; omega
      have hwr2 : IntKind.i64.wrap ((rn2 : Int) + 1) = (rn2 : Int) + 1 := IntWalk.i64_in _ (by omega)
      have F5 := fldD2
      have F3 := fldD3
      clear hE1 hE2 hE3 hR1 hR2 htk hml
      go_wp2_with fail
      refine wp_region_mix [(0, false), (4, false), (5, false), (6, false), (7, false), (1, true), (2, false), (3, false), (8, false), (9, false), (10, false), (11, false), (12, false), (13, false), (14, false), (15, false), (18, false), (19, false), (16, true), (17, false), (20, false), (21, false), (22, false)] (fun v => At v w2.heap.size 53 #[.int .i64 0, .slice A1 an ac, .slice B1 bm bd, .int .i64 sx, .slice R1 rn2 rk, .int .i64 (tz : Nat)]) (by kernel_rfl) (by kernel_rfl) (fun _ _ _ _ _ h => h) ad13.drew ?_
      simp only [mixOps, List.map_cons, List.map_nil, List.getElem?_cons_succ, List.getElem?_cons_zero, Option.getD_some]
      repeat (first
        | (refine mix_skip (by rfl) ?_
           (try simp only [Act.put, List.setIfInBounds_toArray, List.set_cons_zero, List.set_cons_succ]))
        | (refine mix_pure (v := ?_) (by rfl) (fun v hu => ?_) ?_
           rotate_left
           · (obtain ⟨⟨_, _, _, _, _, _⟩, _⟩ := At.sixC hu)
             go_simp
             (with_reducible rfl)
           (try simp only [Act.put, List.setIfInBounds_toArray, List.set_cons_zero, List.set_cons_succ])))
      refine mix_call (by rfl) (fun K hK => ?_)
      go_simp
      refine (I1 _ (rm.drewN 1) (hF13.below ((Below.refl _ _).drew)) (hS13.below ((Below.refl _ _).drew) hS13.pos)).mono ?_
      rintro e w14 ⟨C1, k1, c1', C2, k2, c2', C3, k3, c3', rfl, -, -, o14, hb14⟩
      have hk3 := o14.len okR
      have hk3i : (k3 : Int) = (rn2 : Int) + 1 := by have := HE1.out; have := la3.out; dsimp only at hk3; omega
      have hk3e : k3 = rn2 + 1 := by omega
      subst hk3e
      have hk3d : (((rn2 + 1 : Nat) : Int) == (rn2 : Int) + 1) = true := by simp
      have ad14 := ad13.drew.below hb14 ad13.drew.lt
      have B14 := B13.drew.trans (hb14.mono B13.drew.size)
      have rmt14 := (rmt.drewN 1).lift hb14
      have hF14 := (hF13.below ((Below.refl _ _).drew)).below hb14
      have hS14 := (hS13.below ((Below.refl _ _).drew) hS13.pos).below hb14 (show 0 < w13.drew.heap.size from hS13.pos)
      refine hK _ _ (fun v => At v w2.heap.size 53 #[.int .i64 0, .slice A1 an ac, .slice B1 bm bd, .int .i64 sx, .slice R1 rn2 rk, .int .i64 (tz : Nat)]) (fun _ h => h) ad14 ?_
      clear hK K
      (try simp only [Act.put, List.setIfInBounds_toArray, List.set_cons_zero, List.set_cons_succ])
      repeat (first
        | (refine mix_skip (by rfl) ?_
           (try simp only [Act.put, List.setIfInBounds_toArray, List.set_cons_zero, List.set_cons_succ]))
        | (refine mix_pure (v := ?_) (by rfl) (fun v hu => ?_) ?_
           rotate_left
           · (obtain ⟨⟨_, _, _, _, _, _⟩, _⟩ := At.sixC hu)
             go_simp
             (with_reducible rfl)
           (try simp only [Act.put, List.setIfInBounds_toArray, List.set_cons_zero, List.set_cons_succ])))
      refine mix_call (by rfl) (fun K hK => ?_)
      go_simp
      refine (I2 _ rmt14 hF14 hS14).mono ?_
      rintro e w15 ⟨E1, j1, d1', E2, j2, d2', E3, j3, d3', rfl, -, -, -, hb15⟩
      have ad15 := ad14.below hb15 ad14.lt
      have B15 := B14.trans (hb15.mono B14.size)
      refine hK _ _ (fun v => At v w2.heap.size 53 #[.int .i64 0, .slice A1 an ac, .slice B1 bm bd, .int .i64 sx, .slice R1 rn2 rk, .int .i64 (tz : Nat)]) (fun _ h => h) ad15 ?_
      clear hK K
      (try simp only [Act.put, List.setIfInBounds_toArray, List.set_cons_zero, List.set_cons_succ])
      repeat (first
        | (refine mix_skip (by rfl) ?_
           (try simp only [Act.put, List.setIfInBounds_toArray, List.set_cons_zero, List.set_cons_succ]))
        | (refine mix_pure (v := ?_) (by rfl) (fun v hu => ?_) ?_
           rotate_left
           · (obtain ⟨⟨_, _, _, _, _, _⟩, _⟩ := At.sixC hu)
             go_simp
             (with_reducible rfl)
           (try simp only [Act.put, List.setIfInBounds_toArray, List.set_cons_zero, List.set_cons_succ])))
      refine mix_nil ?_
      go_wp2
      go_ret
      exact ⟨rfl, B15⟩
    · obtain ⟨⟨a0, a1, ⟨a2, a3, a4, a5⟩, a6⟩, hri⟩ : ∃ r, tr[i]? = some r := ⟨_, List.getElem?_eq_getElem hlt⟩
      obtain ⟨gR, gR2, rfl, rfl, lR, lR2, S1, S2⟩ := Hor.out i _ hri
      dsimp only at S1 S2
      have S1r := S1.below BB lR
      have S2r := S2.below BB lR2
      have hdr : tr.drop i = (a0, a1, (a2, a3, a4, a5), a6) :: tr.drop (i + 1) := by
        obtain ⟨h1, h2⟩ := List.getElem?_eq_some_iff.1 hri
        rw [List.drop_eq_getElem_cons h1, h2]
      rw [hdr] at hpl
      obtain ⟨hap, hs2, hpl2⟩ := plays_apply hpl hsr
      have AP := fun W r1 r2 hFW => implApplyRecord N1 N2 nn nc nm nd sl sh sx a0 a1 a2 a3 a4 a5 a6 W r1 r2 (sa.len okS) (sb.len okH) hFW
      rcases hq : (stepR (sl, sh, sx) (a0, a1, (a2, a3, a4, a5), a6)).2 with ⟨ul, uh, ux⟩
      rw [hq] at hap hs2 hpl2
      rw [hap] at AP
      have Hpl2 := Lib.hid hpl2
      have Hs2 := Lib.hid hs2
      clear hq hap hpl hri hdr hs2 hpl2 hsr S1 S2
      have x2 : At2S wr gn 39 #[.slice N1 nn nc, .slice N2 nm nd, .int .i64 sx] w2.heap.size 53 #[.int .i64 0, .slice A1 an ac, .slice B1 bm bd, .int .i64 tx, .slice (some ⟨gR, 0, none⟩) rn2 rk, .int .i64 (tz : Nat)] gR (i * 7) a0 a1 a2 a3 a4 a5 a6 := ⟨⟨nx, adr⟩, S1r, by omega⟩
      have rs2 := sa.rd okS
      have rh2 := sb.rd okH
      have hi2 : (i : Int) < 20000 := by have := Hfew0.out; omega
      have hil : (i : Int) < (rn2 : Int) := by have := la3.out; omega
      have hi0 : (0 : Int) ≤ (i : Int) := by omega
      go_upto_region 16 with fail
      go_cut [8] from 64 to 95 (fun s wx => ∃ gx A5 n5 e5 B5 m5 h5, s = .pointer (some ⟨gx, 0, none⟩) ∧ At wx gx 43 #[.int .i64 0, .slice A5 n5 e5, .slice B5 m5 h5, .int .i64 ux] ∧ Ow eS wx wr.heap.size A5 n5 e5 ul ∧ Ow eH wx wr.heap.size B5 m5 h5 uh ∧ Below wr.heap.size wr wx)
      case first =>
        refine any_start (fun v => At2S v gn 39 #[.slice N1 nn nc, .slice N2 nm nd, .int .i64 sx] w2.heap.size 53 #[.int .i64 0, .slice A1 an ac, .slice B1 bm bd, .int .i64 tx, .slice (some ⟨gR, 0, none⟩) rn2 rk, .int .i64 (tz : Nat)] gR (i * 7) a0 a1 a2 a3 a4 a5 a6) (by kernel_rfl) x2.drew (fun _ => ?_)
        have bxd := x2.drew
        have hBd := (Below.refl wr.heap.size wr).drew
        have rs2d : _ := rs2.lift ((Below.refl _ _).drew)
        have rh2d : _ := rh2.lift ((Below.refl _ _).drew)
        have hFrd := hFr.below ((Below.refl _ _).drew)
        refine any_pure (v := ?_) 0 rfl (by kernel_rfl) (fun _ _ _ _ _ h => h) (by rfl) (fun u hu => ?_) bxd ?_
        rotate_left
        · (obtain ⟨⟨hu1, hu2⟩, hu3, _⟩ := hu; obtain ⟨_, _, _, _, _, _⟩ := At.three hu1; obtain ⟨⟨_, _, _, _, _, _⟩, _⟩ := At.sixC hu2; obtain ⟨_, _, _, _, _, _, _⟩ := hu3)
          go_simp
          (with_reducible rfl)
        (try simp only [Act.put, List.setIfInBounds_toArray, List.set_cons_zero, List.set_cons_succ])
        refine any_pure (v := ?_) 1 rfl (by kernel_rfl) (fun _ _ _ _ _ h => h) (by rfl) (fun u hu => ?_) bxd ?_
        rotate_left
        · (obtain ⟨⟨hu1, hu2⟩, hu3, _⟩ := hu; obtain ⟨_, _, _, _, _, _⟩ := At.three hu1; obtain ⟨⟨_, _, _, _, _, _⟩, _⟩ := At.sixC hu2; obtain ⟨_, _, _, _, _, _, _⟩ := hu3)
          go_simp
          (with_reducible rfl)
        (try simp only [Act.put, List.setIfInBounds_toArray, List.set_cons_zero, List.set_cons_succ])
        refine any_pure (v := ?_) 2 rfl (by kernel_rfl) (fun _ _ _ _ _ h => h) (by rfl) (fun u hu => ?_) bxd ?_
        rotate_left
        · (obtain ⟨⟨hu1, hu2⟩, hu3, _⟩ := hu; obtain ⟨_, _, _, _, _, _⟩ := At.three hu1; obtain ⟨⟨_, _, _, _, _, _⟩, _⟩ := At.sixC hu2; obtain ⟨_, _, _, _, _, _, _⟩ := hu3)
          go_simp
          (with_reducible rfl)
        (try simp only [Act.put, List.setIfInBounds_toArray, List.set_cons_zero, List.set_cons_succ])
        refine any_pure (v := ?_) 3 rfl (by kernel_rfl) (fun _ _ _ _ _ h => h) (by rfl) (fun u hu => ?_) bxd ?_
        rotate_left
        · (obtain ⟨⟨hu1, hu2⟩, hu3, _⟩ := hu; obtain ⟨_, _, _, _, _, _⟩ := At.three hu1; obtain ⟨⟨_, _, _, _, _, _⟩, _⟩ := At.sixC hu2; obtain ⟨_, _, _, _, _, _, _⟩ := hu3)
          go_simp
          (with_reducible rfl)
        (try simp only [Act.put, List.setIfInBounds_toArray, List.set_cons_zero, List.set_cons_succ])
        refine any_pure (v := ?_) 4 rfl (by kernel_rfl) (fun _ _ _ _ _ h => h) (by rfl) (fun u hu => ?_) bxd ?_
        rotate_left
        · (obtain ⟨⟨hu1, hu2⟩, hu3, _⟩ := hu; obtain ⟨_, _, _, _, _, _⟩ := At.three hu1; obtain ⟨⟨_, _, _, _, _, _⟩, _⟩ := At.sixC hu2; obtain ⟨_, _, _, _, _, _, _⟩ := hu3)
          go_simp
          (with_reducible rfl)
        (try simp only [Act.put, List.setIfInBounds_toArray, List.set_cons_zero, List.set_cons_succ])
        refine any_pure (v := ?_) 5 rfl (by kernel_rfl) (fun _ _ _ _ _ h => h) (by rfl) (fun u hu => ?_) bxd ?_
        rotate_left
        · (obtain ⟨⟨hu1, hu2⟩, hu3, _⟩ := hu; obtain ⟨_, _, _, _, _, _⟩ := At.three hu1; obtain ⟨⟨_, _, _, _, _, _⟩, _⟩ := At.sixC hu2; obtain ⟨_, _, _, _, _, _, _⟩ := hu3)
          go_simp
          (with_reducible rfl)
        (try simp only [Act.put, List.setIfInBounds_toArray, List.set_cons_zero, List.set_cons_succ])
        refine any_two 6 7 rfl rfl (by kernel_rfl) (by rfl) (by rfl) ?_ ?_
        · go_simp
          refine (AP _ rs2d rh2d hFrd).mono ?_
          rintro e w101 ⟨A101, n101, c101, B101, m101, d101, rfl, ws101, wh101, hb101⟩
          have hB101 := hBd.trans (hb101.mono hBd.size)
          have bx101 := bxd.belowS hb101 bxd.lt
          have rs2_101 := rs2d.lift hb101
          have rh2_101 := rh2d.lift hb101
          have hFr_101 := hFrd.below hb101
          refine ⟨(fun v => At2S v gn 39 #[.slice N1 nn nc, .slice N2 nm nd, .int .i64 sx] w2.heap.size 53 #[.int .i64 0, .slice A1 an ac, .slice B1 bm bd, .int .i64 tx, .slice (some ⟨gR, 0, none⟩) rn2 rk, .int .i64 (tz : Nat)] gR (i * 7) a0 a1 a2 a3 a4 a5 a6), fun _ h => h, bx101, ?_⟩
          (try simp only [Act.put, List.setIfInBounds_toArray, List.set_cons_zero, List.set_cons_succ])
          refine any_one 7 rfl (by kernel_rfl) (by rfl) ?_
          go_simp
          have ag102 := At.newAt' (w := w101) (t := 43) (cs := #[.int .i64 0, .slice none 0 0, .slice none 0 0, .int .i64 0]) (show w101.heap.size = w101.heap.size by first | rfl | simp)
          have gl102 : wr.heap.size ≤ w101.heap.size := by first | exact hB101.size | exact Nat.le_refl _ | (have := hB101.size; simp at this ⊢; try omega)
          have hal102 := (Below.refl w101.heap.size w101).alloc (Nat.le_refl _) (.cells #[.int .i64 0, .slice none 0 0, .slice none 0 0, .int .i64 0] 43)
          have hB102 := hB101.alloc hB101.size (.cells #[.int .i64 0, .slice none 0 0, .slice none 0 0, .int .i64 0] 43)
          have bx102 := bx101.alloc (.cells #[.int .i64 0, .slice none 0 0, .slice none 0 0, .int .i64 0] 43)
          have ws_102 := ws101.alloc (.cells #[.int .i64 0, .slice none 0 0, .slice none 0 0, .int .i64 0] 43)
          have wh_102 := wh101.alloc (.cells #[.int .i64 0, .slice none 0 0, .slice none 0 0, .int .i64 0] 43)
          have rs2_102 := rs2_101.lift hal102
          have rh2_102 := rh2_101.lift hal102
          have hFr_102 := hFr_101.below hal102
          refine ⟨(fun v => At2S v gn 39 #[.slice N1 nn nc, .slice N2 nm nd, .int .i64 sx] w2.heap.size 53 #[.int .i64 0, .slice A1 an ac, .slice B1 bm bd, .int .i64 tx, .slice (some ⟨gR, 0, none⟩) rn2 rk, .int .i64 (tz : Nat)] gR (i * 7) a0 a1 a2 a3 a4 a5 a6), fun _ h => h, bx102, ?_⟩
          (try simp only [Act.put, List.setIfInBounds_toArray, List.set_cons_zero, List.set_cons_succ])
          refine any_one 8 rfl (by kernel_rfl) (by rfl) ?_
          go_simp
          have AG103 := At.newAt' (w := w101) (t := 43) (cs := #[.int .i64 0, .slice A101 n101 c101, .slice B101 m101 d101, .int .i64 ux]) (show w101.heap.size = w101.heap.size by first | rfl | simp)
          have hal103 := (Below.refl w101.heap.size w101).alloc (Nat.le_refl _) (.cells #[.int .i64 0, .slice A101 n101 c101, .slice B101 m101 d101, .int .i64 ux] 43)
          have hB103 := hB101.alloc hB101.size (.cells #[.int .i64 0, .slice A101 n101 c101, .slice B101 m101 d101, .int .i64 ux] 43)
          have bx103 := bx101.alloc (.cells #[.int .i64 0, .slice A101 n101 c101, .slice B101 m101 d101, .int .i64 ux] 43)
          have ws_103 := ws101.alloc (.cells #[.int .i64 0, .slice A101 n101 c101, .slice B101 m101 d101, .int .i64 ux] 43)
          have wh_103 := wh101.alloc (.cells #[.int .i64 0, .slice A101 n101 c101, .slice B101 m101 d101, .int .i64 ux] 43)
          have rs2_103 := rs2_101.lift hal103
          have rh2_103 := rh2_101.lift hal103
          have hFr_103 := hFr_101.below hal103
          refine ⟨(fun v => At2S v gn 39 #[.slice N1 nn nc, .slice N2 nm nd, .int .i64 sx] w2.heap.size 53 #[.int .i64 0, .slice A1 an ac, .slice B1 bm bd, .int .i64 tx, .slice (some ⟨gR, 0, none⟩) rn2 rk, .int .i64 (tz : Nat)] gR (i * 7) a0 a1 a2 a3 a4 a5 a6), fun _ h => h, bx103, ?_⟩
          (try simp only [Act.put, List.setIfInBounds_toArray, List.set_cons_zero, List.set_cons_succ])
          refine any_done (by kernel_rfl) ?_
          go_wp2
          go_meet
          exact ⟨_, _, _, _, _, _, _, rfl, AG103, ws_103.from_ hBd.size, wh_103.from_ hBd.size, hB103⟩
        · go_simp
          have ag104 := At.newAt' (w := wr.drew) (t := 43) (cs := #[.int .i64 0, .slice none 0 0, .slice none 0 0, .int .i64 0]) (show wr.drew.heap.size = wr.heap.size by first | rfl | simp)
          have gl104 : wr.heap.size ≤ wr.heap.size := by first | exact hBd.size | exact Nat.le_refl _ | (have := hBd.size; simp at this ⊢; try omega)
          have hal104 := (Below.refl wr.drew.heap.size wr.drew).alloc (Nat.le_refl _) (.cells #[.int .i64 0, .slice none 0 0, .slice none 0 0, .int .i64 0] 43)
          have hB104 := hBd.alloc hBd.size (.cells #[.int .i64 0, .slice none 0 0, .slice none 0 0, .int .i64 0] 43)
          have bx104 := bxd.alloc (.cells #[.int .i64 0, .slice none 0 0, .slice none 0 0, .int .i64 0] 43)
          have rs2_104 := rs2d.lift hal104
          have rh2_104 := rh2d.lift hal104
          have hFr_104 := hFrd.below hal104
          refine ⟨(fun v => At2S v gn 39 #[.slice N1 nn nc, .slice N2 nm nd, .int .i64 sx] w2.heap.size 53 #[.int .i64 0, .slice A1 an ac, .slice B1 bm bd, .int .i64 tx, .slice (some ⟨gR, 0, none⟩) rn2 rk, .int .i64 (tz : Nat)] gR (i * 7) a0 a1 a2 a3 a4 a5 a6), fun _ h => h, bx104, ?_⟩
          (try simp only [Act.put, List.setIfInBounds_toArray, List.set_cons_zero, List.set_cons_succ])
          refine any_one 6 rfl (by kernel_rfl) (by rfl) ?_
          go_simp
          refine (AP _ rs2_104 rh2_104 hFr_104).mono ?_
          rintro e w105 ⟨A105, n105, c105, B105, m105, d105, rfl, ws105, wh105, hb105⟩
          have hB105 := hB104.trans (hb105.mono hB104.size)
          have bx105 := bx104.belowS hb105 bx104.lt
          have ag_105 := ag104.below hb105 ag104.lt
          have rs2_105 := rs2_104.lift hb105
          have rh2_105 := rh2_104.lift hb105
          have hFr_105 := hFr_104.below hb105
          refine ⟨(fun v => At2S v gn 39 #[.slice N1 nn nc, .slice N2 nm nd, .int .i64 sx] w2.heap.size 53 #[.int .i64 0, .slice A1 an ac, .slice B1 bm bd, .int .i64 tx, .slice (some ⟨gR, 0, none⟩) rn2 rk, .int .i64 (tz : Nat)] gR (i * 7) a0 a1 a2 a3 a4 a5 a6), fun _ h => h, bx105, ?_⟩
          (try simp only [Act.put, List.setIfInBounds_toArray, List.set_cons_zero, List.set_cons_succ])
          refine any_one 8 rfl (by kernel_rfl) (by rfl) ?_
          obtain ⟨k0, k1, k2, k3, k4, k5, k6, k7⟩ := ag_105.four
          go_simp
          have hltg106 : wr.heap.size < w105.heap.size := ag_105.lt
          have AG106 : At ((((w105.setCell ⟨wr.heap.size, 0, none⟩ (.int .i64 0)).setCell ⟨wr.heap.size, 1, none⟩ (.slice A105 n105 c105)).setCell ⟨wr.heap.size, 2, none⟩ (.slice B105 m105 d105)).setCell ⟨wr.heap.size, 3, none⟩ (.int .i64 ux)) wr.heap.size 43 #[.int .i64 0, .slice A105 n105 c105, .slice B105 m105 d105, .int .i64 ux] := ((((ag_105.set 0 (.int .i64 0)).set 1 (.slice A105 n105 c105)).set 2 (.slice B105 m105 d105)).set 3 (.int .i64 ux))
          have bx106 := ((((bx105.far (p := ⟨wr.heap.size, 0, none⟩) (by show gn ≠ wr.heap.size ∧ w2.heap.size ≠ wr.heap.size ∧ gR ≠ wr.heap.size; have := gl104; omega) (.int .i64 0)).far (p := ⟨wr.heap.size, 1, none⟩) (by show gn ≠ wr.heap.size ∧ w2.heap.size ≠ wr.heap.size ∧ gR ≠ wr.heap.size; have := gl104; omega) (.slice A105 n105 c105)).far (p := ⟨wr.heap.size, 2, none⟩) (by show gn ≠ wr.heap.size ∧ w2.heap.size ≠ wr.heap.size ∧ gR ≠ wr.heap.size; have := gl104; omega) (.slice B105 m105 d105)).far (p := ⟨wr.heap.size, 3, none⟩) (by show gn ≠ wr.heap.size ∧ w2.heap.size ≠ wr.heap.size ∧ gR ≠ wr.heap.size; have := gl104; omega) (.int .i64 ux))
          have hB106 := ((((hB105.setCell (p := ⟨wr.heap.size, 0, none⟩) gl104 (.int .i64 0)).setCell (p := ⟨wr.heap.size, 1, none⟩) gl104 (.slice A105 n105 c105)).setCell (p := ⟨wr.heap.size, 2, none⟩) gl104 (.slice B105 m105 d105)).setCell (p := ⟨wr.heap.size, 3, none⟩) gl104 (.int .i64 ux))
          have ws_106 := ws105
          have ws_106 := ws_106.apart (by decide) ag_105 0 (.int .i64 0)
          have ws_106 := ws_106.apart (by decide) ((ag_105.set 0 (.int .i64 0))) 1 (.slice A105 n105 c105)
          have ws_106 := ws_106.apart (by decide) (((ag_105.set 0 (.int .i64 0)).set 1 (.slice A105 n105 c105))) 2 (.slice B105 m105 d105)
          have ws_106 := ws_106.apart (by decide) ((((ag_105.set 0 (.int .i64 0)).set 1 (.slice A105 n105 c105)).set 2 (.slice B105 m105 d105))) 3 (.int .i64 ux)
          have wh_106 := wh105
          have wh_106 := wh_106.apart (by decide) ag_105 0 (.int .i64 0)
          have wh_106 := wh_106.apart (by decide) ((ag_105.set 0 (.int .i64 0))) 1 (.slice A105 n105 c105)
          have wh_106 := wh_106.apart (by decide) (((ag_105.set 0 (.int .i64 0)).set 1 (.slice A105 n105 c105))) 2 (.slice B105 m105 d105)
          have wh_106 := wh_106.apart (by decide) ((((ag_105.set 0 (.int .i64 0)).set 1 (.slice A105 n105 c105)).set 2 (.slice B105 m105 d105))) 3 (.int .i64 ux)
          refine ⟨(fun v => At2S v gn 39 #[.slice N1 nn nc, .slice N2 nm nd, .int .i64 sx] w2.heap.size 53 #[.int .i64 0, .slice A1 an ac, .slice B1 bm bd, .int .i64 tx, .slice (some ⟨gR, 0, none⟩) rn2 rk, .int .i64 (tz : Nat)] gR (i * 7) a0 a1 a2 a3 a4 a5 a6), fun _ h => h, bx106, ?_⟩
          (try simp only [Act.put, List.setIfInBounds_toArray, List.set_cons_zero, List.set_cons_succ])
          refine any_done (by kernel_rfl) ?_
          go_wp2
          go_meet
          exact ⟨_, _, _, _, _, _, _, rfl, AG106, ws_106.from_ hB104.size, wh_106.from_ hB104.size, hB106⟩
      case rest =>
        obtain ⟨gx, A5, n5, e5, B5, m5, h5, rfl, AX, OA, OB, HX⟩ := hcut
        rename World => wx
        have lxx : wr.heap.size ≤ wx.heap.size := HX.size
        have nxx := nx.below HX nx.lt
        have adx := adr.below HX adr.lt
        have awx := awr.below HX awr.lt
        have S1x := S1r.below HX (by omega)
        have S2x := S2r.below HX (by omega)
        go_wp2_with fail
        have F1 := neqR7
        refine wp_region_mix [(0, false), (1, false), (2, false), (3, false), (4, false), (5, false), (6, false), (7, false), (8, false), (9, false), (10, false), (11, false), (12, false), (13, false), (14, false), (15, false)] (fun v => At2 v w2.heap.size 53 #[.int .i64 0, .slice A1 an ac, .slice B1 bm bd, .int .i64 tx, .slice (some ⟨gR, 0, none⟩) rn2 rk, .int .i64 (tz : Nat)] w3.heap.size 53 #[.int .i64 0, .slice A2 an2 ac2, .slice B2' bm2 bd2, .int .i64 tx, .slice (some ⟨gR2, 0, none⟩) rn2 rk2, .int .i64 (tz : Nat)] ∧ S7 v gR (i * 7) a0 a1 a2 a3 a4 a5 a6 ∧ S7 v gR2 (i * 7) a0 a1 a2 a3 a4 a5 a6 ∧ At v gx 43 #[.int .i64 0, .slice A5 n5 e5, .slice B5 m5 h5, .int .i64 ux]) (by kernel_rfl) (by kernel_rfl) (fun _ _ _ _ _ h => h) ⟨At2.drew ⟨adx, awx⟩, S1x.drew, S2x.drew, AX.drew⟩ ?_
        simp only [mixOps, List.map_cons, List.map_nil, List.getElem?_cons_succ, List.getElem?_cons_zero, Option.getD_some]
        repeat (first
          | (refine mix_skip (by rfl) ?_
             (try simp only [Act.put, List.setIfInBounds_toArray, List.set_cons_zero, List.set_cons_succ]))
          | (refine mix_pure (v := ?_) (by rfl) (fun v hu => ?_) ?_
             rotate_left
             · (obtain ⟨⟨hu1, hu2⟩, hu3, hu4, hu5⟩ := hu; obtain ⟨⟨_, _, _, _, _, _⟩, _⟩ := At.sixC hu1; obtain ⟨⟨_, _, _, _, _, _⟩, _⟩ := At.sixC hu2; obtain ⟨_, _, _, _, _, _, _⟩ := hu3; obtain ⟨_, _, _, _, _, _, _⟩ := hu4; obtain ⟨_, _, _, _, _, _, _, _⟩ := At.four hu5)
               go_simp
               (with_reducible rfl)
             (try simp only [Act.put, List.setIfInBounds_toArray, List.set_cons_zero, List.set_cons_succ])))
        refine mix_nil ?_
        clear F1
        obtain ⟨n0, n1, n2, nf0, nf1, nf2⟩ := nxx.three
        obtain ⟨g0, g1, g2, g3, _, _, _, _⟩ := AX.four
        have M1 := nxx.set 0 (.slice A5 n5 e5)
        have M2 := M1.set 1 (.slice B5 m5 h5)
        have M3 := M2.set 2 (.int .i64 ux)
        have P1 := ((OA.apart (by decide) nxx 0 (.slice A5 n5 e5)).apart (by decide) M1 1 (.slice B5 m5 h5)).apart (by decide) M2 2 (.int .i64 ux)
        have P2 := ((OB.apart (by decide) nxx 0 (.slice A5 n5 e5)).apart (by decide) M1 1 (.slice B5 m5 h5)).apart (by decide) M2 2 (.int .i64 ux)
        have BX := (((BB.trans (HX.mono hgw)).setCell (p := ⟨gn, 0, none⟩) (Nat.le_refl _) (.slice A5 n5 e5)).setCell (p := ⟨gn, 1, none⟩) (Nat.le_refl _) (.slice B5 m5 h5)).setCell (p := ⟨gn, 2, none⟩) (Nat.le_refl _) (.int .i64 ux)
        go_wp2
        refine ⟨⟨i + 1, (ul, uh, ux), ?_, by omega, Hpl2.out, Hs2.out, ⟨A5, n5, e5, B5, m5, h5, M3.drew, (P1.from_ hgw).drewN 1, (P2.from_ hgw).drewN 1⟩, BX.drew⟩, by simp [intOf]; omega⟩
        simp
end Go.Proofs.YtmaillakhhdkfaaGreatDoor
