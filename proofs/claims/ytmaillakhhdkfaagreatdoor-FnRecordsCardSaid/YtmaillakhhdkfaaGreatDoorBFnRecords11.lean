/-
  Texts of one proof, joined: each has its own namespace.
-/
import Derived.Test.YtmaillakhhdkfaaGreatDoorBFnRecords9
import Derived.Test.YtmaillakhhdkfaaGreatDoorBFnRecords4
import Derived.Deep.DeepCutAuto
import Derived.Test.YtmaillakhhdkfaaGreatDoorBFnRecords10
/-
  What the law of records draws: the arguments of each function.
-/
namespace Go.Proofs.YtmaillakhhdkfaaGreatDoor
set_option maxRecDepth 20000
open Go.RowKit
set_option linter.unusedSimpArgs false
set_option linter.unusedVariables false
attribute [local irreducible] mixW

set_option maxHeartbeats 8000000 in
theorem drawEncodeRecord (A : Option Addr) (m c : Nat) (l : List UInt8) (w : World) (ha : Rd eB w w.heap.size A l) (hn : l.length = m) (hm : m ≤ 1048576) :
    Calls Tryz.prog 7 #[.slice A m c] w fun e w' => ∃ a0 a1 a2 a3 a4 a5 a6 : Int, e = .returned (.agg #[.int .i64 a0, .int .i64 a1, .int .i64 a2, .int .i64 a3, .int .i64 a4, .int .i64 a5, .int .i64 a6]) ∧ Below w.heap.size w w' := by
  have B0 := Below.refl w.heap.size w
  have r := At.newAt' (w := w) (t := 27) (cs := #[.int .i64 0, .int .i64 0, .int .i64 0, .int .i64 0, .int .i64 0, .int .i64 0, .int .i64 0]) (show w.heap.size = w.heap.size by first | rfl | simp)
  have ha_1 := ha.lift ((Below.refl _ _).alloc (Nat.le_refl _) (.cells #[.int .i64 0, .int .i64 0, .int .i64 0, .int .i64 0, .int .i64 0, .int .i64 0, .int .i64 0] 27))
  have B1 := B0.alloc B0.size (.cells #[.int .i64 0, .int .i64 0, .int .i64 0, .int .i64 0, .int .i64 0, .int .i64 0, .int .i64 0] 27)
  have zb1 := B1.size
  go_enter Tryz.func7, Tryz.ntmps7
  go_wp2_with fail
  refine (l1Source A m c l _ ha_1 hn hm).mono ?_
  rintro e w2 ⟨rfl, s2, hb2, -⟩
  rw [show (w.alloc (.cells #[.int .i64 0, .int .i64 0, .int .i64 0, .int .i64 0, .int .i64 0, .int .i64 0, .int .i64 0] 27)).heap.size = w.heap.size + 1 by simp] at s2
  have r_2 := r.below hb2 r.lt
  have ha_2 := ha_1.lift hb2
  have B2 := B1.trans (hb2.mono B1.size)
  have zb2 := B2.size
  have g2 := s2.at_.lt
  go_wp2_with fail
  refine (l5Bent w2 (w.heap.size + 1) (w.heap.size + 1) A m c 0 l s2 (by omega)).mono ?_
  rintro e w3 ⟨a0, a1, a2, a3, a4, a5, a6, rfl, ⟨k3, hk3, s3⟩, hw3⟩
  have zs3 : w2.heap.size ≤ w3.heap.size := by have q := hw3.size; first | exact q | (simp; done) | (simp at q; exact q) | (simp at q ⊢; omega)
  have r_3 := r_2.within hw3 (by first | omega | (simp; omega))
  have B3 := hw3.below B2 B2.size (by first | exact Nat.le_refl _ | omega | (simp; done))
  have zb3 := B3.size
  have g3 := s3.at_.lt
  have rc0 : World.cell? w3 ⟨w.heap.size, 0, none⟩ = some (.int .i64 0) := r_3.cell 0
  have rc1 : World.cell? w3 ⟨w.heap.size, 1, none⟩ = some (.int .i64 0) := r_3.cell 1
  have rc2 : World.cell? w3 ⟨w.heap.size, 2, none⟩ = some (.int .i64 0) := r_3.cell 2
  have rc3 : World.cell? w3 ⟨w.heap.size, 3, none⟩ = some (.int .i64 0) := r_3.cell 3
  have rc4 : World.cell? w3 ⟨w.heap.size, 4, none⟩ = some (.int .i64 0) := r_3.cell 4
  have rc5 : World.cell? w3 ⟨w.heap.size, 5, none⟩ = some (.int .i64 0) := r_3.cell 5
  have rc6 : World.cell? w3 ⟨w.heap.size, 6, none⟩ = some (.int .i64 0) := r_3.cell 6
  have rf0 : World.frozen? w3 ⟨w.heap.size, 0, none⟩ = false := r_3.frozen 0
  have rf1 : World.frozen? w3 ⟨w.heap.size, 1, none⟩ = false := r_3.frozen 1
  have rf2 : World.frozen? w3 ⟨w.heap.size, 2, none⟩ = false := r_3.frozen 2
  have rf3 : World.frozen? w3 ⟨w.heap.size, 3, none⟩ = false := r_3.frozen 3
  have rf4 : World.frozen? w3 ⟨w.heap.size, 4, none⟩ = false := r_3.frozen 4
  have rf5 : World.frozen? w3 ⟨w.heap.size, 5, none⟩ = false := r_3.frozen 5
  have rf6 : World.frozen? w3 ⟨w.heap.size, 6, none⟩ = false := r_3.frozen 6
  go_wp2_with fail
  have B4 := B3.setCell (p := ⟨w.heap.size, 0, none⟩) (by show _ ≤ w.heap.size; first | exact Nat.le_refl _ | omega | (simp; omega)) (.int .i64 a0)
  have r_4 := r_3.set 0 (.int .i64 a0)
  have B5 := B4.setCell (p := ⟨w.heap.size, 1, none⟩) (by show _ ≤ w.heap.size; first | exact Nat.le_refl _ | omega | (simp; omega)) (.int .i64 a1)
  have r_5 := r_4.set 1 (.int .i64 a1)
  have B6 := B5.setCell (p := ⟨w.heap.size, 2, none⟩) (by show _ ≤ w.heap.size; first | exact Nat.le_refl _ | omega | (simp; omega)) (.int .i64 a2)
  have r_6 := r_5.set 2 (.int .i64 a2)
  have B7 := B6.setCell (p := ⟨w.heap.size, 3, none⟩) (by show _ ≤ w.heap.size; first | exact Nat.le_refl _ | omega | (simp; omega)) (.int .i64 a3)
  have r_7 := r_6.set 3 (.int .i64 a3)
  have B8 := B7.setCell (p := ⟨w.heap.size, 4, none⟩) (by show _ ≤ w.heap.size; first | exact Nat.le_refl _ | omega | (simp; omega)) (.int .i64 a4)
  have r_8 := r_7.set 4 (.int .i64 a4)
  have B9 := B8.setCell (p := ⟨w.heap.size, 5, none⟩) (by show _ ≤ w.heap.size; first | exact Nat.le_refl _ | omega | (simp; omega)) (.int .i64 a5)
  have r_9 := r_8.set 5 (.int .i64 a5)
  have B10 := B9.setCell (p := ⟨w.heap.size, 6, none⟩) (by show _ ≤ w.heap.size; first | exact Nat.le_refl _ | omega | (simp; omega)) (.int .i64 a6)
  have r_10 := r_9.set 6 (.int .i64 a6)
  refine bodyPost_ret (v := .agg #[.int .i64 a0, .int .i64 a1, .int .i64 a2, .int .i64 a3, .int .i64 a4, .int .i64 a5, .int .i64 a6]) (by simp [results, Tryz.results7, go_sem, rc0, rc1, rc2, rc3, rc4, rc5, rc6]) rfl ?_
  exact ⟨_, _, _, _, _, _, _, rfl, B10⟩

set_option maxHeartbeats 8000000 in
theorem drawDecodeRecord (A : Option Addr) (m c : Nat) (l : List UInt8) (w : World) (ha : Rd eB w w.heap.size A l) (hn : l.length = m) (hm : m ≤ 1048576) :
    Calls Tryz.prog 9 #[.slice A m c] w fun e w' => ∃ (X : Option Addr) (n d : Nat) (xs : List UInt8), e = .returned (.slice X n d) ∧ n ≤ 10 ∧ xs.length = n ∧ n ≤ d ∧ d ≤ maxLen ∧ Rd eB w' w'.heap.size X xs ∧ Below w.heap.size w w' := by
  have B0 := Below.refl w.heap.size w
  go_enter Tryz.func9, Tryz.ntmps9
  go_wp2_with fail
  refine (l1Source A m c l _ ha hn hm).mono ?_
  rintro e w1 ⟨rfl, s1, hb1, -⟩
  have ha_1 := ha.lift hb1
  have B1 := B0.trans (hb1.mono B0.size)
  have zb1 := B1.size
  have g1 := s1.at_.lt
  go_wp2_with fail
  refine (l5Draw w1 (w.heap.size) (w.heap.size) A m c 0 l s1 (by omega)).mono ?_
  rintro e w2 ⟨a0, a1, a2, a3, a4, a5, a6, rfl, hf, ⟨k2, hk2, s2⟩, hw2⟩
  have zs2 : w1.heap.size ≤ w2.heap.size := by have q := hw2.size; first | exact q | (simp; done) | (simp at q; exact q) | (simp at q ⊢; omega)
  have B2 := hw2.below B1 B1.size (by first | exact Nat.le_refl _ | omega | (simp; done))
  have zb2 := B2.size
  have g2 := s2.at_.lt
  have x := At.newAt' (w := w2) (t := 27) (cs := #[.int .i64 a0, .int .i64 a1, .int .i64 a2, .int .i64 a3, .int .i64 a4, .int .i64 a5, .int .i64 a6]) (show w2.heap.size = w2.heap.size by first | rfl | simp)
  have s3 := s2.alloc (.cells #[.int .i64 a0, .int .i64 a1, .int .i64 a2, .int .i64 a3, .int .i64 a4, .int .i64 a5, .int .i64 a6] 27)
  have g3 := s3.at_.lt
  have B3 := B2.alloc B2.size (.cells #[.int .i64 a0, .int .i64 a1, .int .i64 a2, .int .i64 a3, .int .i64 a4, .int .i64 a5, .int .i64 a6] 27)
  have zb3 := B3.size
  go_wp2_with fail
  refine (l5Encode (w2.heap.size) a0 a1 a2 a3 a4 a5 a6 (w2.alloc (.cells #[.int .i64 a0, .int .i64 a1, .int .i64 a2, .int .i64 a3, .int .i64 a4, .int .i64 a5, .int .i64 a6] 27)) x hf).mono ?_
  rintro e w4 ⟨Ab, nb, cb, rfl, ob, hb4⟩
  have zs4 : w2.heap.size + 1 ≤ w4.heap.size := by have q := hb4.size; first | exact q | (simp; done) | (simp at q; exact q) | (simp at q ⊢; omega)
  have x_4 := x.below hb4 x.lt
  have s4 := s3.below hb4 s3.at_.lt
  have B4 := B3.trans (hb4.mono B3.size)
  have zb4 := B4.size
  have g4 := s4.at_.lt
  have hlen := encR_few hf
  have hxl := ob.len okB
  rw [hxl] at hlen
  have hcb := ob.cap
  have hcm := ob.capMax
  generalize encR (a0, a1, (a2, a3, a4, a5), a6) = xs at *
  obtain ⟨gX, rfl, lgX, lgX'⟩ := ob.form (by omega)
  have lgX2 : w.heap.size ≤ gX := by first | omega | (simp at *; omega)
  go_wp2_with fail
  refine (l1Next w4 (w.heap.size) (w.heap.size) A m c k2 l 5 s4 (by omega) (by omega)).mono ?_
  rintro e w5 ⟨q, rfl, hr5, -, s5, hw5, -⟩
  have zs5 : w4.heap.size ≤ w5.heap.size := by have q := hw5.size; first | exact q | (simp; done) | (simp at q; exact q) | (simp at q ⊢; omega)
  have x_5 := x_4.within hw5 (by first | omega | (simp; omega))
  have ob_5 := ob.within hw5 ob.lt (.inr g3)
  have B5 := hw5.below B4 B4.size (by first | exact Nat.le_refl _ | omega | (simp; done))
  have zb5 := B5.size
  have g5 := s5.at_.lt
  obtain ⟨hr5a, hr5b⟩ := hr5 (by omega)
  rcases (show q = 0 ∨ q = 1 ∨ q = 2 ∨ 3 ≤ q by omega) with rfl | rfl | rfl | hq3
  · go_wp2_with fail
    refine (l1Next w5 (w.heap.size) (w.heap.size) A m c (k2 + 1) l (nb : Int) s5 (by omega) (by omega)).mono ?_
    rintro e w6 ⟨j0, rfl, hr6, -, s6, hw6, -⟩
    have zs6 : w5.heap.size ≤ w6.heap.size := by have q := hw6.size; first | exact q | (simp; done) | (simp at q; exact q) | (simp at q ⊢; omega)
    have x_6 := x_5.within hw6 (by first | omega | (simp; omega))
    have ob_6 := ob_5.within hw6 ob_5.lt (.inr g3)
    have B6 := hw6.below B5 B5.size (by first | exact Nat.le_refl _ | omega | (simp; done))
    have zb6 := B6.size
    have g6 := s6.at_.lt
    obtain ⟨hr6a, hr6b⟩ := hr6 (by omega)
    obtain ⟨j, rfl⟩ := Int.eq_ofNat_of_zero_le hr6a
    have hj : j < nb := by omega
    have jp : (0 : Int) ≤ (j : Int) := by omega
    have jb : (j : Int) < (nb : Int) := by omega
    clear hr6 hr6a hr6b
    have x_7 := x_6.alloc (.cells #[.int .i64 0, .int .i64 1, .int .i64 2, .int .i64 4, .int .i64 5, .int .i64 255] 2)
    have ob_7 := ob_6.alloc (.cells #[.int .i64 0, .int .i64 1, .int .i64 2, .int .i64 4, .int .i64 5, .int .i64 255] 2)
    have s7 := s6.alloc (.cells #[.int .i64 0, .int .i64 1, .int .i64 2, .int .i64 4, .int .i64 5, .int .i64 255] 2)
    have g7 := s7.at_.lt
    have B7 := B6.alloc B6.size (.cells #[.int .i64 0, .int .i64 1, .int .i64 2, .int .i64 4, .int .i64 5, .int .i64 255] 2)
    have zb7 := B7.size
    go_wp2_with fail
    refine (l1Pick (w6.alloc (.cells #[.int .i64 0, .int .i64 1, .int .i64 2, .int .i64 4, .int .i64 5, .int .i64 255] 2)) (w.heap.size) (w.heap.size) A m c ((k2 + 1) + 1) l (w6.heap.size) #[.int .i64 0, .int .i64 1, .int .i64 2, .int .i64 4, .int .i64 5, .int .i64 255] [0, 1, 2, 4, 5, 255] 6 6 s7 (by omega) (At.newAt' (show w6.heap.size = w6.heap.size by first | rfl | simp)) (by simp [intCells]) (by first | omega | (simp; omega)) rfl (by omega) (by omega)).mono ?_
    rintro e w8 ⟨v, hv8, rfl, s8, hw8, -⟩
    have zs8 : w6.heap.size + 1 ≤ w8.heap.size := by have q := hw8.size; first | exact q | (simp; done) | (simp at q; exact q) | (simp at q ⊢; omega)
    have x_8 := x_7.within hw8 (by first | omega | (simp; omega))
    have ob_8 := ob_7.within hw8 ob_7.lt (.inr g3)
    have B8 := hw8.below B7 B7.size (by first | exact Nat.le_refl _ | omega | (simp; done))
    have zb8 := B8.size
    have g8 := s8.at_.lt
    obtain ⟨q, rfl, hq⟩ := pick_nat 255 hv8 rfl
    clear hv8
    obtain ⟨a, hz⟩ : ∃ a, xs[j]? = some a := ⟨xs[j], List.getElem?_eq_getElem (by omega)⟩
    have cb0 := ob_8.byteAt hz
    have fb0 := ob_8.frozenAt j
    have hst := (ob_8.byteSet hj (UInt8.ofNat q)).1
    rw [byte_small1 (show q < 256 by omega)] at hst
    have hwr : IntKind.u8.wrap (q : Int) = (q : Int) := IntWalk.u8_in _ (by omega)
    have Hst := Lib.hid hst
    clear hst hz
    have HB := Lib.hid B8
    go_wp2
    go_ret
    exact ⟨_, nb, cb, _, rfl, by omega, Hst.out.len okB, hcb, hcm, Hst.out.rd okB, HB.out.setCell (by show w.heap.size ≤ gX; exact lgX2) _⟩
  · go_wp2_with fail
    refine (l1Next w5 (w.heap.size) (w.heap.size) A m c (k2 + 1) l (nb : Int) s5 (by omega) (by omega)).mono ?_
    rintro e w6 ⟨j0, rfl, hr6, -, s6, hw6, -⟩
    have zs6 : w5.heap.size ≤ w6.heap.size := by have q := hw6.size; first | exact q | (simp; done) | (simp at q; exact q) | (simp at q ⊢; omega)
    have x_6 := x_5.within hw6 (by first | omega | (simp; omega))
    have ob_6 := ob_5.within hw6 ob_5.lt (.inr g3)
    have B6 := hw6.below B5 B5.size (by first | exact Nat.le_refl _ | omega | (simp; done))
    have zb6 := B6.size
    have g6 := s6.at_.lt
    obtain ⟨hr6a, hr6b⟩ := hr6 (by omega)
    obtain ⟨j, rfl⟩ := Int.eq_ofNat_of_zero_le hr6a
    have hj : j < nb := by omega
    have jp : (0 : Int) ≤ (j : Int) := by omega
    have jb : (j : Int) < (nb : Int) := by omega
    clear hr6 hr6a hr6b
    have jc : (j : Int) ≤ (cb : Int) := by omega
    have HO := Lib.hid ob_6
    go_wp2
    go_ret
    exact ⟨_, j, cb, xs.take j, rfl, by omega, by rw [List.length_take]; omega, by omega, hcm, (HO.out.rd okB).take j, B6⟩
  · have o3 := ow_oneR w5 0 0 rfl
    have HB := B5.alloc B5.size (.cells #[.int .u8 0] 5)
    have hbs : (w2.alloc (.cells #[.int .i64 a0, .int .i64 a1, .int .i64 a2, .int .i64 a3, .int .i64 a4, .int .i64 a5, .int .i64 a6] 27)).heap.size ≤ (w5.alloc (.cells #[.int .u8 0] 5)).heap.size := by simp; omega
    go_wp2_with (at_builtin; refine wpList_append_ow okB _ rfl (.tmp 35) (.tmp 36) _ rfl ((w2.alloc (.cells #[.int .i64 a0, .int .i64 a1, .int .i64 a2, .int .i64 a3, .int .i64 a4, .int .i64 a5, .int .i64 a6] 27)).heap.size) info_u8 Tryz.underlying22 rfl (some ⟨gX, 0, none⟩) nb cb xs rfl (ob_5.alloc _) (some ⟨w5.heap.size, 0, none⟩) 1 1 _ [0] rfl (o3.rd okB) rfl (by unfold maxLen; omega) (by omega) hbs ?_; intro A9 c9 w9 ow9 hg9 _)
    have HB9 := HB.grown hg9 HB.size (fun y hy => by have q : gX = y := (by simpa using hy); omega)
    go_wp2
    go_ret
    exact ⟨_, nb + 1, c9, rfl, by omega, _, ow9.len okB, ow9.cap, ow9.capMax, ow9.rd okB, HB9⟩
  · have bq0 : (q == 0) = false := by simp; omega
    have bq1 : (q == 1) = false := by simp; omega
    have bq2 : (q == 2) = false := by simp; omega
    have HO := Lib.hid ob_5
    go_wp2
    go_ret
    exact ⟨_, nb, cb, xs, rfl, by omega, hxl, hcb, hcm, HO.out.rd okB, B5⟩

set_option maxHeartbeats 8000000 in
theorem drawSameStates (A : Option Addr) (m c : Nat) (l : List UInt8) (w : World) (ha : Rd eB w w.heap.size A l) (hn : l.length = m) (hm : m ≤ 1048576) :
    Calls Tryz.prog 13 #[.slice A m c] w fun e w' => ∃ (X : Option Addr) (L cx : Nat) (xs : List Smp) (Y : Option Addr) (M cy : Nat) (ys : List Hnt) (u : Int) (X2 : Option Addr) (L2 cx2 : Nat) (xs2 : List Smp) (Y2 : Option Addr) (M2 cy2 : Nat) (ys2 : List Hnt) (u2 : Int), e = .returned (.tuple #[.agg #[.slice X L cx, .slice Y M cy, .int .i64 u], .agg #[.slice X2 L2 cx2, .slice Y2 M2 cy2, .int .i64 u2]]) ∧ L ≤ 200 ∧ M ≤ 16 ∧ L2 ≤ 200 ∧ M2 ≤ 16 ∧ Ow eS w' w.heap.size X L cx xs ∧ Ow eH w' w.heap.size Y M cy ys ∧ Ow eS w' w.heap.size X2 L2 cx2 xs2 ∧ Ow eH w' w.heap.size Y2 M2 cy2 ys2 ∧ Below w.heap.size w w' := by
  have B0 := Below.refl w.heap.size w
  have r := At.newAt' (w := w) (t := 39) (cs := #[.slice none 0 0, .slice none 0 0, .int .i64 0]) (show w.heap.size = w.heap.size by first | rfl | simp)
  have ha_1 := ha.lift ((Below.refl _ _).alloc (Nat.le_refl _) (.cells #[.slice none 0 0, .slice none 0 0, .int .i64 0] 39))
  have B1 := B0.alloc B0.size (.cells #[.slice none 0 0, .slice none 0 0, .int .i64 0] 39)
  have zb1 := B1.size
  have r2 := At.newAt' (w := (w.alloc (.cells #[.slice none 0 0, .slice none 0 0, .int .i64 0] 39))) (t := 39) (cs := #[.slice none 0 0, .slice none 0 0, .int .i64 0]) (show (w.alloc (.cells #[.slice none 0 0, .slice none 0 0, .int .i64 0] 39)).heap.size = w.heap.size + 1 by first | rfl | simp)
  have ln2_r : w.heap.size < w.heap.size + 1 := by have q := r.lt; first | exact q | (simp; done) | (simp at q; exact q) | (simp at q ⊢; omega)
  have hn2_r : ¬ w.heap.size = w.heap.size + 1 := by omega
  have hm2_r : ¬ w.heap.size + 1 = w.heap.size := by omega
  have r_2 := r.alloc (.cells #[.slice none 0 0, .slice none 0 0, .int .i64 0] 39)
  have ha_2 := ha_1.lift ((Below.refl _ _).alloc (Nat.le_refl _) (.cells #[.slice none 0 0, .slice none 0 0, .int .i64 0] 39))
  have B2 := B1.alloc B1.size (.cells #[.slice none 0 0, .slice none 0 0, .int .i64 0] 39)
  have zb2 := B2.size
  go_enter Tryz.func13, Tryz.ntmps13
  go_wp2_with fail
  refine (l1Source A m c l _ ha_2 hn hm).mono ?_
  rintro e w3 ⟨rfl, s3, hb3, -⟩
  rw [show ((w.alloc (.cells #[.slice none 0 0, .slice none 0 0, .int .i64 0] 39)).alloc (.cells #[.slice none 0 0, .slice none 0 0, .int .i64 0] 39)).heap.size = w.heap.size + 1 + 1 by simp] at s3
  have r_3 := r_2.below hb3 r_2.lt
  have r2_3 := r2.below hb3 r2.lt
  have ha_3 := ha_2.lift hb3
  have B3 := B2.trans (hb3.mono B2.size)
  have zb3 := B3.size
  have g3 := s3.at_.lt
  go_wp2_with fail
  refine (l5State w3 (w.heap.size + 1 + 1) (w.heap.size + 1 + 1) A m c 0 l s3 (by omega)).mono ?_
  rintro e w4 ⟨X, L, cx, xs, Y, M, cy, ys, u, rfl, hL, hM, hu, os, oh, ⟨k4, hk4, s4⟩, hw4⟩
  have zs4 : w3.heap.size ≤ w4.heap.size := by have q := hw4.size; first | exact q | (simp; done) | (simp at q; exact q) | (simp at q ⊢; omega)
  have r_4 := r_3.within hw4 (by first | omega | (simp; omega))
  have r2_4 := r2_3.within hw4 (by first | omega | (simp; omega))
  have B4 := hw4.below B3 B3.size (by first | exact Nat.le_refl _ | omega | (simp; done))
  have zb4 := B4.size
  have g4 := s4.at_.lt
  have x := At.newAt' (w := w4) (t := 39) (cs := #[.slice X L cx, .slice Y M cy, .int .i64 u]) (show w4.heap.size = w4.heap.size by first | rfl | simp)
  have ln5_r : w.heap.size < w4.heap.size := by have q := r_4.lt; first | exact q | (simp; done) | (simp at q; exact q) | (simp at q ⊢; omega)
  have hn5_r : ¬ w.heap.size = w4.heap.size := by omega
  have hm5_r : ¬ w4.heap.size = w.heap.size := by omega
  have ln5_r2 : w.heap.size + 1 < w4.heap.size := by have q := r2_4.lt; first | exact q | (simp; done) | (simp at q; exact q) | (simp at q ⊢; omega)
  have hn5_r2 : ¬ w.heap.size + 1 = w4.heap.size := by omega
  have hm5_r2 : ¬ w4.heap.size = w.heap.size + 1 := by omega
  have r_5 := r_4.alloc (.cells #[.slice X L cx, .slice Y M cy, .int .i64 u] 39)
  have r2_5 := r2_4.alloc (.cells #[.slice X L cx, .slice Y M cy, .int .i64 u] 39)
  have os_5 := os.alloc (.cells #[.slice X L cx, .slice Y M cy, .int .i64 u] 39)
  have oh_5 := oh.alloc (.cells #[.slice X L cx, .slice Y M cy, .int .i64 u] 39)
  have s5 := s4.alloc (.cells #[.slice X L cx, .slice Y M cy, .int .i64 u] 39)
  have g5 := s5.at_.lt
  have B5 := B4.alloc B4.size (.cells #[.slice X L cx, .slice Y M cy, .int .i64 u] 39)
  have zb5 := B5.size
  go_wp2_with fail
  refine (l5Copy (w4.heap.size) X Y L cx M cy xs ys u (w4.alloc (.cells #[.slice X L cx, .slice Y M cy, .int .i64 u] 39)) x (os_5.rd okS) (oh_5.rd okH) (os_5.len okS) (oh_5.len okH) (by omega) (by omega)).mono ?_
  rintro e w6 ⟨X2, cx2, Y2, cy2, rfl, os2, oh2, hb6⟩
  have zs6 : w4.heap.size + 1 ≤ w6.heap.size := by have q := hb6.size; first | exact q | (simp; done) | (simp at q; exact q) | (simp at q ⊢; omega)
  have r_6 := r_5.below hb6 r_5.lt
  have r2_6 := r2_5.below hb6 r2_5.lt
  have x_6 := x.below hb6 x.lt
  have os_6 := os_5.below hb6 (Nat.le_refl _)
  have oh_6 := oh_5.below hb6 (Nat.le_refl _)
  have s6 := s5.below hb6 s5.at_.lt
  have B6 := B5.trans (hb6.mono B5.size)
  have zb6 := B6.size
  have g6 := s6.at_.lt
  have y := At.newAt' (w := w6) (t := 39) (cs := #[.slice X2 L cx2, .slice Y2 M cy2, .int .i64 u]) (show w6.heap.size = w6.heap.size by first | rfl | simp)
  have ln7_r : w.heap.size < w6.heap.size := by have q := r_6.lt; first | exact q | (simp; done) | (simp at q; exact q) | (simp at q ⊢; omega)
  have hn7_r : ¬ w.heap.size = w6.heap.size := by omega
  have hm7_r : ¬ w6.heap.size = w.heap.size := by omega
  have ln7_r2 : w.heap.size + 1 < w6.heap.size := by have q := r2_6.lt; first | exact q | (simp; done) | (simp at q; exact q) | (simp at q ⊢; omega)
  have hn7_r2 : ¬ w.heap.size + 1 = w6.heap.size := by omega
  have hm7_r2 : ¬ w6.heap.size = w.heap.size + 1 := by omega
  have ln7_x : w4.heap.size < w6.heap.size := by have q := x_6.lt; first | exact q | (simp; done) | (simp at q; exact q) | (simp at q ⊢; omega)
  have hn7_x : ¬ w4.heap.size = w6.heap.size := by omega
  have hm7_x : ¬ w6.heap.size = w4.heap.size := by omega
  have r_7 := r_6.alloc (.cells #[.slice X2 L cx2, .slice Y2 M cy2, .int .i64 u] 39)
  have r2_7 := r2_6.alloc (.cells #[.slice X2 L cx2, .slice Y2 M cy2, .int .i64 u] 39)
  have x_7 := x_6.alloc (.cells #[.slice X2 L cx2, .slice Y2 M cy2, .int .i64 u] 39)
  have os_7 := os_6.alloc (.cells #[.slice X2 L cx2, .slice Y2 M cy2, .int .i64 u] 39)
  have oh_7 := oh_6.alloc (.cells #[.slice X2 L cx2, .slice Y2 M cy2, .int .i64 u] 39)
  have os2_7 := os2.alloc (.cells #[.slice X2 L cx2, .slice Y2 M cy2, .int .i64 u] 39)
  have oh2_7 := oh2.alloc (.cells #[.slice X2 L cx2, .slice Y2 M cy2, .int .i64 u] 39)
  have s7 := s6.alloc (.cells #[.slice X2 L cx2, .slice Y2 M cy2, .int .i64 u] 39)
  have g7 := s7.at_.lt
  have B7 := B6.alloc B6.size (.cells #[.slice X2 L cx2, .slice Y2 M cy2, .int .i64 u] 39)
  have zb7 := B7.size
  go_wp2_with fail
  refine (l1Next (w6.alloc (.cells #[.slice X2 L cx2, .slice Y2 M cy2, .int .i64 u] 39)) (w.heap.size + 1 + 1) (w.heap.size + 1 + 1) A m c k4 l 6 s7 (by omega) (by omega)).mono ?_
  rintro e w8 ⟨q, rfl, hr8, -, s8, hw8, -⟩
  have zs8 : w6.heap.size + 1 ≤ w8.heap.size := by have q := hw8.size; first | exact q | (simp; done) | (simp at q; exact q) | (simp at q ⊢; omega)
  have r_8 := r_7.within hw8 (by first | omega | (simp; omega))
  have r2_8 := r2_7.within hw8 (by first | omega | (simp; omega))
  have x_8 := x_7.within hw8 (by first | omega | (simp; omega))
  have y_8 := y.within hw8 (by first | omega | (simp; omega))
  have os_8 := os_7.within hw8 os_7.lt (.inr g3)
  have oh_8 := oh_7.within hw8 oh_7.lt (.inr g3)
  have os2_8 := os2_7.within hw8 os2_7.lt (.inr g5)
  have oh2_8 := oh2_7.within hw8 oh2_7.lt (.inr g5)
  have B8 := hw8.below B7 B7.size (by first | exact Nat.le_refl _ | omega | (simp; done))
  have zb8 := B8.size
  have g8 := s8.at_.lt
  obtain ⟨hr8a, hr8b⟩ := hr8 (by omega)
  rcases (show q = 0 ∨ q = 1 ∨ q = 2 ∨ 3 ≤ q by omega) with rfl | rfl | rfl | hq3
  · have yc0 : World.cell? w8 ⟨w6.heap.size, 0, none⟩ = some (.slice X2 L cx2) := y_8.cell 0
    have yc1 : World.cell? w8 ⟨w6.heap.size, 1, none⟩ = some (.slice Y2 M cy2) := y_8.cell 1
    have yc2 : World.cell? w8 ⟨w6.heap.size, 2, none⟩ = some (.int .i64 u) := y_8.cell 2
    have yf0 : World.frozen? w8 ⟨w6.heap.size, 0, none⟩ = false := y_8.frozen 0
    have yf1 : World.frozen? w8 ⟨w6.heap.size, 1, none⟩ = false := y_8.frozen 1
    have yf2 : World.frozen? w8 ⟨w6.heap.size, 2, none⟩ = false := y_8.frozen 2
    go_wp2_with fail
    have r_9 := r_8.far (p := ⟨w6.heap.size, 2, none⟩) (by show _ ≠ w6.heap.size; first | omega | (simp; omega)) (.int .i64 (u + 1))
    have r2_9 := r2_8.far (p := ⟨w6.heap.size, 2, none⟩) (by show _ ≠ w6.heap.size; first | omega | (simp; omega)) (.int .i64 (u + 1))
    have x_9 := x_8.far (p := ⟨w6.heap.size, 2, none⟩) (by show _ ≠ w6.heap.size; first | omega | (simp; omega)) (.int .i64 (u + 1))
    have os_9 := os_8.apart (by decide) y_8 2 (.int .i64 (u + 1))
    have oh_9 := oh_8.apart (by decide) y_8 2 (.int .i64 (u + 1))
    have os2_9 := os2_8.apart (by decide) y_8 2 (.int .i64 (u + 1))
    have oh2_9 := oh2_8.apart (by decide) y_8 2 (.int .i64 (u + 1))
    have s9 := s8.put (p := ⟨w6.heap.size, 2, none⟩) (by show _ < w6.heap.size; first | omega | (simp; omega)) (.int .i64 (u + 1))
    have B9 := B8.setCell (p := ⟨w6.heap.size, 2, none⟩) (by show _ ≤ w6.heap.size; first | exact Nat.le_refl _ | omega | (simp; omega)) (.int .i64 (u + 1))
    have y_9 := y_8.set 2 (.int .i64 (u + 1))
    go_wp2_with fail
    generalize (w8.setCell ⟨w6.heap.size, 2, none⟩ (.int .i64 (u + 1))) = wG10 at *
    have pc0 : World.cell? wG10 ⟨w.heap.size, 0, none⟩ = some (.slice none 0 0) := r_9.cell 0
    have pc1 : World.cell? wG10 ⟨w.heap.size, 1, none⟩ = some (.slice none 0 0) := r_9.cell 1
    have pc2 : World.cell? wG10 ⟨w.heap.size, 2, none⟩ = some (.int .i64 0) := r_9.cell 2
    have pf0 : World.frozen? wG10 ⟨w.heap.size, 0, none⟩ = false := r_9.frozen 0
    have pf1 : World.frozen? wG10 ⟨w.heap.size, 1, none⟩ = false := r_9.frozen 1
    have pf2 : World.frozen? wG10 ⟨w.heap.size, 2, none⟩ = false := r_9.frozen 2
    have qc0 : World.cell? wG10 ⟨w.heap.size + 1, 0, none⟩ = some (.slice none 0 0) := r2_9.cell 0
    have qc1 : World.cell? wG10 ⟨w.heap.size + 1, 1, none⟩ = some (.slice none 0 0) := r2_9.cell 1
    have qc2 : World.cell? wG10 ⟨w.heap.size + 1, 2, none⟩ = some (.int .i64 0) := r2_9.cell 2
    have qf0 : World.frozen? wG10 ⟨w.heap.size + 1, 0, none⟩ = false := r2_9.frozen 0
    have qf1 : World.frozen? wG10 ⟨w.heap.size + 1, 1, none⟩ = false := r2_9.frozen 1
    have qf2 : World.frozen? wG10 ⟨w.heap.size + 1, 2, none⟩ = false := r2_9.frozen 2
    refine wp_region_mix [(0, false), (1, false), (2, true), (3, true)] (fun v => At2 v (w4.heap.size) 39 #[.slice X L cx, .slice Y M cy, .int .i64 u] (w6.heap.size) 39 #[.slice X2 L cx2, .slice Y2 M cy2, .int .i64 (u + 1)]) (by kernel_rfl) (by kernel_rfl) (fun _ _ _ _ _ h => h) (At2.drew ⟨x_9, y_9⟩) ?_
    simp only [mixOps, List.map_cons, List.map_nil, List.getElem?_cons_succ, List.getElem?_cons_zero, Option.getD_some]
    refine mix_pure (v := ?_) (by rfl) (fun v hu => ?_) ?_
    rotate_left
    · (obtain ⟨hu1, hu2⟩ := hu
       obtain ⟨_, _, _, _, _, _⟩ := At.three hu1
       obtain ⟨_, _, _, _, _, _⟩ := At.three hu2)
      go_simp
      (with_reducible rfl)
    (try simp only [Act.put, List.setIfInBounds_toArray, List.set_cons_zero, List.set_cons_succ])
    refine mix_pure (v := ?_) (by rfl) (fun v hu => ?_) ?_
    rotate_left
    · (obtain ⟨hu1, hu2⟩ := hu
       obtain ⟨_, _, _, _, _, _⟩ := At.three hu1
       obtain ⟨_, _, _, _, _, _⟩ := At.three hu2)
      go_simp
      (with_reducible rfl)
    (try simp only [Act.put, List.setIfInBounds_toArray, List.set_cons_zero, List.set_cons_succ])
    have r2_11 := r2_9.far (p := ⟨w.heap.size, 0, none⟩) (by show _ ≠ w.heap.size; first | omega | (simp; omega)) (.slice X L cx)
    have x_11 := x_9.far (p := ⟨w.heap.size, 0, none⟩) (by show _ ≠ w.heap.size; first | omega | (simp; omega)) (.slice X L cx)
    have y_11 := y_9.far (p := ⟨w.heap.size, 0, none⟩) (by show _ ≠ w.heap.size; first | omega | (simp; omega)) (.slice X L cx)
    have os_11 := os_9.apart (by decide) r_9 0 (.slice X L cx)
    have oh_11 := oh_9.apart (by decide) r_9 0 (.slice X L cx)
    have os2_11 := os2_9.apart (by decide) r_9 0 (.slice X L cx)
    have oh2_11 := oh2_9.apart (by decide) r_9 0 (.slice X L cx)
    have B11 := B9.setCell (p := ⟨w.heap.size, 0, none⟩) (by show _ ≤ w.heap.size; first | exact Nat.le_refl _ | omega | (simp; omega)) (.slice X L cx)
    have r_11 := r_9.set 0 (.slice X L cx)
    have r2_12 := r2_11.far (p := ⟨w.heap.size, 1, none⟩) (by show _ ≠ w.heap.size; first | omega | (simp; omega)) (.slice Y M cy)
    have x_12 := x_11.far (p := ⟨w.heap.size, 1, none⟩) (by show _ ≠ w.heap.size; first | omega | (simp; omega)) (.slice Y M cy)
    have y_12 := y_11.far (p := ⟨w.heap.size, 1, none⟩) (by show _ ≠ w.heap.size; first | omega | (simp; omega)) (.slice Y M cy)
    have os_12 := os_11.apart (by decide) r_11 1 (.slice Y M cy)
    have oh_12 := oh_11.apart (by decide) r_11 1 (.slice Y M cy)
    have os2_12 := os2_11.apart (by decide) r_11 1 (.slice Y M cy)
    have oh2_12 := oh2_11.apart (by decide) r_11 1 (.slice Y M cy)
    have B12 := B11.setCell (p := ⟨w.heap.size, 1, none⟩) (by show _ ≤ w.heap.size; first | exact Nat.le_refl _ | omega | (simp; omega)) (.slice Y M cy)
    have r_12 := r_11.set 1 (.slice Y M cy)
    have r2_13 := r2_12.far (p := ⟨w.heap.size, 2, none⟩) (by show _ ≠ w.heap.size; first | omega | (simp; omega)) (.int .i64 u)
    have x_13 := x_12.far (p := ⟨w.heap.size, 2, none⟩) (by show _ ≠ w.heap.size; first | omega | (simp; omega)) (.int .i64 u)
    have y_13 := y_12.far (p := ⟨w.heap.size, 2, none⟩) (by show _ ≠ w.heap.size; first | omega | (simp; omega)) (.int .i64 u)
    have os_13 := os_12.apart (by decide) r_12 2 (.int .i64 u)
    have oh_13 := oh_12.apart (by decide) r_12 2 (.int .i64 u)
    have os2_13 := os2_12.apart (by decide) r_12 2 (.int .i64 u)
    have oh2_13 := oh2_12.apart (by decide) r_12 2 (.int .i64 u)
    have B13 := B12.setCell (p := ⟨w.heap.size, 2, none⟩) (by show _ ≤ w.heap.size; first | exact Nat.le_refl _ | omega | (simp; omega)) (.int .i64 u)
    have r_13 := r_12.set 2 (.int .i64 u)
    refine mix_call (by rfl) (fun K hK => ?_)
    go_simp
    refine hK _ _ (fun v => At2 v (w4.heap.size) 39 #[.slice X L cx, .slice Y M cy, .int .i64 u] (w6.heap.size) 39 #[.slice X2 L cx2, .slice Y2 M cy2, .int .i64 (u + 1)]) (fun _ h => h) (At2.drew ⟨x_13, y_13⟩) ?_
    clear hK K
    (try simp only [Act.put, List.setIfInBounds_toArray, List.set_cons_zero, List.set_cons_succ])
    have r_14 := r_13.far (p := ⟨w.heap.size + 1, 0, none⟩) (by show _ ≠ w.heap.size + 1; first | omega | (simp; omega)) (.slice X2 L cx2)
    have x_14 := x_13.far (p := ⟨w.heap.size + 1, 0, none⟩) (by show _ ≠ w.heap.size + 1; first | omega | (simp; omega)) (.slice X2 L cx2)
    have y_14 := y_13.far (p := ⟨w.heap.size + 1, 0, none⟩) (by show _ ≠ w.heap.size + 1; first | omega | (simp; omega)) (.slice X2 L cx2)
    have os_14 := os_13.apart (by decide) r2_13 0 (.slice X2 L cx2)
    have oh_14 := oh_13.apart (by decide) r2_13 0 (.slice X2 L cx2)
    have os2_14 := os2_13.apart (by decide) r2_13 0 (.slice X2 L cx2)
    have oh2_14 := oh2_13.apart (by decide) r2_13 0 (.slice X2 L cx2)
    have B14 := B13.setCell (p := ⟨w.heap.size + 1, 0, none⟩) (by show _ ≤ w.heap.size + 1; first | exact Nat.le_refl _ | omega | (simp; omega)) (.slice X2 L cx2)
    have r2_14 := r2_13.set 0 (.slice X2 L cx2)
    have r_15 := r_14.far (p := ⟨w.heap.size + 1, 1, none⟩) (by show _ ≠ w.heap.size + 1; first | omega | (simp; omega)) (.slice Y2 M cy2)
    have x_15 := x_14.far (p := ⟨w.heap.size + 1, 1, none⟩) (by show _ ≠ w.heap.size + 1; first | omega | (simp; omega)) (.slice Y2 M cy2)
    have y_15 := y_14.far (p := ⟨w.heap.size + 1, 1, none⟩) (by show _ ≠ w.heap.size + 1; first | omega | (simp; omega)) (.slice Y2 M cy2)
    have os_15 := os_14.apart (by decide) r2_14 1 (.slice Y2 M cy2)
    have oh_15 := oh_14.apart (by decide) r2_14 1 (.slice Y2 M cy2)
    have os2_15 := os2_14.apart (by decide) r2_14 1 (.slice Y2 M cy2)
    have oh2_15 := oh2_14.apart (by decide) r2_14 1 (.slice Y2 M cy2)
    have B15 := B14.setCell (p := ⟨w.heap.size + 1, 1, none⟩) (by show _ ≤ w.heap.size + 1; first | exact Nat.le_refl _ | omega | (simp; omega)) (.slice Y2 M cy2)
    have r2_15 := r2_14.set 1 (.slice Y2 M cy2)
    have r_16 := r_15.far (p := ⟨w.heap.size + 1, 2, none⟩) (by show _ ≠ w.heap.size + 1; first | omega | (simp; omega)) (.int .i64 (u + 1))
    have x_16 := x_15.far (p := ⟨w.heap.size + 1, 2, none⟩) (by show _ ≠ w.heap.size + 1; first | omega | (simp; omega)) (.int .i64 (u + 1))
    have y_16 := y_15.far (p := ⟨w.heap.size + 1, 2, none⟩) (by show _ ≠ w.heap.size + 1; first | omega | (simp; omega)) (.int .i64 (u + 1))
    have os_16 := os_15.apart (by decide) r2_15 2 (.int .i64 (u + 1))
    have oh_16 := oh_15.apart (by decide) r2_15 2 (.int .i64 (u + 1))
    have os2_16 := os2_15.apart (by decide) r2_15 2 (.int .i64 (u + 1))
    have oh2_16 := oh2_15.apart (by decide) r2_15 2 (.int .i64 (u + 1))
    have B16 := B15.setCell (p := ⟨w.heap.size + 1, 2, none⟩) (by show _ ≤ w.heap.size + 1; first | exact Nat.le_refl _ | omega | (simp; omega)) (.int .i64 (u + 1))
    have r2_16 := r2_15.set 2 (.int .i64 (u + 1))
    refine mix_call (by rfl) (fun K hK => ?_)
    go_simp
    refine hK _ _ (fun v => At2 v (w4.heap.size) 39 #[.slice X L cx, .slice Y M cy, .int .i64 u] (w6.heap.size) 39 #[.slice X2 L cx2, .slice Y2 M cy2, .int .i64 (u + 1)]) (fun _ h => h) (At2.drew ⟨x_16, y_16⟩) ?_
    clear hK K
    (try simp only [Act.put, List.setIfInBounds_toArray, List.set_cons_zero, List.set_cons_succ])
    refine mix_nil ?_
    go_wp2
    refine bodyPost_ret (v := .tuple #[.agg #[.slice X L cx, .slice Y M cy, .int .i64 u], .agg #[.slice X2 L cx2, .slice Y2 M cy2, .int .i64 (u + 1)]]) (by simp [results, Tryz.results13, go_sem, pc0, pc1, pc2, qc0, qc1, qc2, hn2_r, hm2_r, hn5_r, hm5_r, hn5_r2, hm5_r2, hn7_r, hm7_r, hn7_r2, hm7_r2, hn7_x, hm7_x]) rfl ?_
    exact ⟨_, _, _, _, _, _, _, _, _, _, _, _, _, _, _, _, _, _, rfl, hL, hM, hL, hM, (Ow.drewN (Ow.from_ (base' := w.heap.size) os_16 (by first | omega | (simp; omega))) 1), (Ow.drewN (Ow.from_ (base' := w.heap.size) oh_16 (by first | omega | (simp; omega))) 1), (Ow.drewN (Ow.from_ (base' := w.heap.size) os2_16 (by first | omega | (simp; omega))) 1), (Ow.drewN (Ow.from_ (base' := w.heap.size) oh2_16 (by first | omega | (simp; omega))) 1), B16.drew⟩
  · go_wp2_with fail
    refine (l4Draw w8 (w.heap.size + 1 + 1) (w.heap.size + 1 + 1) A m c (k4 + 1) l s8 (by omega)).mono ?_
    rintro e w9 ⟨k9, Y3, M3, cy3, ys3, rfl, hM3, oh3, hk9, s9, hw9⟩
    have zs9 : w8.heap.size ≤ w9.heap.size := by have q := hw9.size; first | exact q | (simp; done) | (simp at q; exact q) | (simp at q ⊢; omega)
    have r_9 := r_8.within hw9 (by first | omega | (simp; omega))
    have r2_9 := r2_8.within hw9 (by first | omega | (simp; omega))
    have x_9 := x_8.within hw9 (by first | omega | (simp; omega))
    have y_9 := y_8.within hw9 (by first | omega | (simp; omega))
    have os_9 := os_8.within hw9 os_8.lt (.inr g3)
    have oh_9 := oh_8.within hw9 oh_8.lt (.inr g3)
    have os2_9 := os2_8.within hw9 os2_8.lt (.inr g5)
    have oh2_9 := oh2_8.within hw9 oh2_8.lt (.inr g5)
    have B9 := hw9.below B8 B8.size (by first | exact Nat.le_refl _ | omega | (simp; done))
    have zb9 := B9.size
    have g9 := s9.at_.lt
    have hM3' : M3 ≤ 16 := by omega
    have yc0 : World.cell? w9 ⟨w6.heap.size, 0, none⟩ = some (.slice X2 L cx2) := y_9.cell 0
    have yc1 : World.cell? w9 ⟨w6.heap.size, 1, none⟩ = some (.slice Y2 M cy2) := y_9.cell 1
    have yc2 : World.cell? w9 ⟨w6.heap.size, 2, none⟩ = some (.int .i64 u) := y_9.cell 2
    have yf0 : World.frozen? w9 ⟨w6.heap.size, 0, none⟩ = false := y_9.frozen 0
    have yf1 : World.frozen? w9 ⟨w6.heap.size, 1, none⟩ = false := y_9.frozen 1
    have yf2 : World.frozen? w9 ⟨w6.heap.size, 2, none⟩ = false := y_9.frozen 2
    go_wp2_with fail
    have r_10 := r_9.far (p := ⟨w6.heap.size, 1, none⟩) (by show _ ≠ w6.heap.size; first | omega | (simp; omega)) (.slice Y3 M3 cy3)
    have r2_10 := r2_9.far (p := ⟨w6.heap.size, 1, none⟩) (by show _ ≠ w6.heap.size; first | omega | (simp; omega)) (.slice Y3 M3 cy3)
    have x_10 := x_9.far (p := ⟨w6.heap.size, 1, none⟩) (by show _ ≠ w6.heap.size; first | omega | (simp; omega)) (.slice Y3 M3 cy3)
    have os_10 := os_9.apart (by decide) y_9 1 (.slice Y3 M3 cy3)
    have oh_10 := oh_9.apart (by decide) y_9 1 (.slice Y3 M3 cy3)
    have os2_10 := os2_9.apart (by decide) y_9 1 (.slice Y3 M3 cy3)
    have oh2_10 := oh2_9.apart (by decide) y_9 1 (.slice Y3 M3 cy3)
    have oh3_10 := oh3.apart (by decide) y_9 1 (.slice Y3 M3 cy3)
    have s10 := s9.put (p := ⟨w6.heap.size, 1, none⟩) (by show _ < w6.heap.size; first | omega | (simp; omega)) (.slice Y3 M3 cy3)
    have B10 := B9.setCell (p := ⟨w6.heap.size, 1, none⟩) (by show _ ≤ w6.heap.size; first | exact Nat.le_refl _ | omega | (simp; omega)) (.slice Y3 M3 cy3)
    have y_10 := y_9.set 1 (.slice Y3 M3 cy3)
    go_wp2_with fail
    generalize (w9.setCell ⟨w6.heap.size, 1, none⟩ (.slice Y3 M3 cy3)) = wG11 at *
    have pc0 : World.cell? wG11 ⟨w.heap.size, 0, none⟩ = some (.slice none 0 0) := r_10.cell 0
    have pc1 : World.cell? wG11 ⟨w.heap.size, 1, none⟩ = some (.slice none 0 0) := r_10.cell 1
    have pc2 : World.cell? wG11 ⟨w.heap.size, 2, none⟩ = some (.int .i64 0) := r_10.cell 2
    have pf0 : World.frozen? wG11 ⟨w.heap.size, 0, none⟩ = false := r_10.frozen 0
    have pf1 : World.frozen? wG11 ⟨w.heap.size, 1, none⟩ = false := r_10.frozen 1
    have pf2 : World.frozen? wG11 ⟨w.heap.size, 2, none⟩ = false := r_10.frozen 2
    have qc0 : World.cell? wG11 ⟨w.heap.size + 1, 0, none⟩ = some (.slice none 0 0) := r2_10.cell 0
    have qc1 : World.cell? wG11 ⟨w.heap.size + 1, 1, none⟩ = some (.slice none 0 0) := r2_10.cell 1
    have qc2 : World.cell? wG11 ⟨w.heap.size + 1, 2, none⟩ = some (.int .i64 0) := r2_10.cell 2
    have qf0 : World.frozen? wG11 ⟨w.heap.size + 1, 0, none⟩ = false := r2_10.frozen 0
    have qf1 : World.frozen? wG11 ⟨w.heap.size + 1, 1, none⟩ = false := r2_10.frozen 1
    have qf2 : World.frozen? wG11 ⟨w.heap.size + 1, 2, none⟩ = false := r2_10.frozen 2
    refine wp_region_mix [(0, false), (1, false), (2, true), (3, true)] (fun v => At2 v (w4.heap.size) 39 #[.slice X L cx, .slice Y M cy, .int .i64 u] (w6.heap.size) 39 #[.slice X2 L cx2, .slice Y3 M3 cy3, .int .i64 u]) (by kernel_rfl) (by kernel_rfl) (fun _ _ _ _ _ h => h) (At2.drew ⟨x_10, y_10⟩) ?_
    simp only [mixOps, List.map_cons, List.map_nil, List.getElem?_cons_succ, List.getElem?_cons_zero, Option.getD_some]
    refine mix_pure (v := ?_) (by rfl) (fun v hu => ?_) ?_
    rotate_left
    · (obtain ⟨hu1, hu2⟩ := hu
       obtain ⟨_, _, _, _, _, _⟩ := At.three hu1
       obtain ⟨_, _, _, _, _, _⟩ := At.three hu2)
      go_simp
      (with_reducible rfl)
    (try simp only [Act.put, List.setIfInBounds_toArray, List.set_cons_zero, List.set_cons_succ])
    refine mix_pure (v := ?_) (by rfl) (fun v hu => ?_) ?_
    rotate_left
    · (obtain ⟨hu1, hu2⟩ := hu
       obtain ⟨_, _, _, _, _, _⟩ := At.three hu1
       obtain ⟨_, _, _, _, _, _⟩ := At.three hu2)
      go_simp
      (with_reducible rfl)
    (try simp only [Act.put, List.setIfInBounds_toArray, List.set_cons_zero, List.set_cons_succ])
    have r2_12 := r2_10.far (p := ⟨w.heap.size, 0, none⟩) (by show _ ≠ w.heap.size; first | omega | (simp; omega)) (.slice X L cx)
    have x_12 := x_10.far (p := ⟨w.heap.size, 0, none⟩) (by show _ ≠ w.heap.size; first | omega | (simp; omega)) (.slice X L cx)
    have y_12 := y_10.far (p := ⟨w.heap.size, 0, none⟩) (by show _ ≠ w.heap.size; first | omega | (simp; omega)) (.slice X L cx)
    have os_12 := os_10.apart (by decide) r_10 0 (.slice X L cx)
    have oh_12 := oh_10.apart (by decide) r_10 0 (.slice X L cx)
    have os2_12 := os2_10.apart (by decide) r_10 0 (.slice X L cx)
    have oh2_12 := oh2_10.apart (by decide) r_10 0 (.slice X L cx)
    have oh3_12 := oh3_10.apart (by decide) r_10 0 (.slice X L cx)
    have B12 := B10.setCell (p := ⟨w.heap.size, 0, none⟩) (by show _ ≤ w.heap.size; first | exact Nat.le_refl _ | omega | (simp; omega)) (.slice X L cx)
    have r_12 := r_10.set 0 (.slice X L cx)
    have r2_13 := r2_12.far (p := ⟨w.heap.size, 1, none⟩) (by show _ ≠ w.heap.size; first | omega | (simp; omega)) (.slice Y M cy)
    have x_13 := x_12.far (p := ⟨w.heap.size, 1, none⟩) (by show _ ≠ w.heap.size; first | omega | (simp; omega)) (.slice Y M cy)
    have y_13 := y_12.far (p := ⟨w.heap.size, 1, none⟩) (by show _ ≠ w.heap.size; first | omega | (simp; omega)) (.slice Y M cy)
    have os_13 := os_12.apart (by decide) r_12 1 (.slice Y M cy)
    have oh_13 := oh_12.apart (by decide) r_12 1 (.slice Y M cy)
    have os2_13 := os2_12.apart (by decide) r_12 1 (.slice Y M cy)
    have oh2_13 := oh2_12.apart (by decide) r_12 1 (.slice Y M cy)
    have oh3_13 := oh3_12.apart (by decide) r_12 1 (.slice Y M cy)
    have B13 := B12.setCell (p := ⟨w.heap.size, 1, none⟩) (by show _ ≤ w.heap.size; first | exact Nat.le_refl _ | omega | (simp; omega)) (.slice Y M cy)
    have r_13 := r_12.set 1 (.slice Y M cy)
    have r2_14 := r2_13.far (p := ⟨w.heap.size, 2, none⟩) (by show _ ≠ w.heap.size; first | omega | (simp; omega)) (.int .i64 u)
    have x_14 := x_13.far (p := ⟨w.heap.size, 2, none⟩) (by show _ ≠ w.heap.size; first | omega | (simp; omega)) (.int .i64 u)
    have y_14 := y_13.far (p := ⟨w.heap.size, 2, none⟩) (by show _ ≠ w.heap.size; first | omega | (simp; omega)) (.int .i64 u)
    have os_14 := os_13.apart (by decide) r_13 2 (.int .i64 u)
    have oh_14 := oh_13.apart (by decide) r_13 2 (.int .i64 u)
    have os2_14 := os2_13.apart (by decide) r_13 2 (.int .i64 u)
    have oh2_14 := oh2_13.apart (by decide) r_13 2 (.int .i64 u)
    have oh3_14 := oh3_13.apart (by decide) r_13 2 (.int .i64 u)
    have B14 := B13.setCell (p := ⟨w.heap.size, 2, none⟩) (by show _ ≤ w.heap.size; first | exact Nat.le_refl _ | omega | (simp; omega)) (.int .i64 u)
    have r_14 := r_13.set 2 (.int .i64 u)
    refine mix_call (by rfl) (fun K hK => ?_)
    go_simp
    refine hK _ _ (fun v => At2 v (w4.heap.size) 39 #[.slice X L cx, .slice Y M cy, .int .i64 u] (w6.heap.size) 39 #[.slice X2 L cx2, .slice Y3 M3 cy3, .int .i64 u]) (fun _ h => h) (At2.drew ⟨x_14, y_14⟩) ?_
    clear hK K
    (try simp only [Act.put, List.setIfInBounds_toArray, List.set_cons_zero, List.set_cons_succ])
    have r_15 := r_14.far (p := ⟨w.heap.size + 1, 0, none⟩) (by show _ ≠ w.heap.size + 1; first | omega | (simp; omega)) (.slice X2 L cx2)
    have x_15 := x_14.far (p := ⟨w.heap.size + 1, 0, none⟩) (by show _ ≠ w.heap.size + 1; first | omega | (simp; omega)) (.slice X2 L cx2)
    have y_15 := y_14.far (p := ⟨w.heap.size + 1, 0, none⟩) (by show _ ≠ w.heap.size + 1; first | omega | (simp; omega)) (.slice X2 L cx2)
    have os_15 := os_14.apart (by decide) r2_14 0 (.slice X2 L cx2)
    have oh_15 := oh_14.apart (by decide) r2_14 0 (.slice X2 L cx2)
    have os2_15 := os2_14.apart (by decide) r2_14 0 (.slice X2 L cx2)
    have oh2_15 := oh2_14.apart (by decide) r2_14 0 (.slice X2 L cx2)
    have oh3_15 := oh3_14.apart (by decide) r2_14 0 (.slice X2 L cx2)
    have B15 := B14.setCell (p := ⟨w.heap.size + 1, 0, none⟩) (by show _ ≤ w.heap.size + 1; first | exact Nat.le_refl _ | omega | (simp; omega)) (.slice X2 L cx2)
    have r2_15 := r2_14.set 0 (.slice X2 L cx2)
    have r_16 := r_15.far (p := ⟨w.heap.size + 1, 1, none⟩) (by show _ ≠ w.heap.size + 1; first | omega | (simp; omega)) (.slice Y3 M3 cy3)
    have x_16 := x_15.far (p := ⟨w.heap.size + 1, 1, none⟩) (by show _ ≠ w.heap.size + 1; first | omega | (simp; omega)) (.slice Y3 M3 cy3)
    have y_16 := y_15.far (p := ⟨w.heap.size + 1, 1, none⟩) (by show _ ≠ w.heap.size + 1; first | omega | (simp; omega)) (.slice Y3 M3 cy3)
    have os_16 := os_15.apart (by decide) r2_15 1 (.slice Y3 M3 cy3)
    have oh_16 := oh_15.apart (by decide) r2_15 1 (.slice Y3 M3 cy3)
    have os2_16 := os2_15.apart (by decide) r2_15 1 (.slice Y3 M3 cy3)
    have oh2_16 := oh2_15.apart (by decide) r2_15 1 (.slice Y3 M3 cy3)
    have oh3_16 := oh3_15.apart (by decide) r2_15 1 (.slice Y3 M3 cy3)
    have B16 := B15.setCell (p := ⟨w.heap.size + 1, 1, none⟩) (by show _ ≤ w.heap.size + 1; first | exact Nat.le_refl _ | omega | (simp; omega)) (.slice Y3 M3 cy3)
    have r2_16 := r2_15.set 1 (.slice Y3 M3 cy3)
    have r_17 := r_16.far (p := ⟨w.heap.size + 1, 2, none⟩) (by show _ ≠ w.heap.size + 1; first | omega | (simp; omega)) (.int .i64 u)
    have x_17 := x_16.far (p := ⟨w.heap.size + 1, 2, none⟩) (by show _ ≠ w.heap.size + 1; first | omega | (simp; omega)) (.int .i64 u)
    have y_17 := y_16.far (p := ⟨w.heap.size + 1, 2, none⟩) (by show _ ≠ w.heap.size + 1; first | omega | (simp; omega)) (.int .i64 u)
    have os_17 := os_16.apart (by decide) r2_16 2 (.int .i64 u)
    have oh_17 := oh_16.apart (by decide) r2_16 2 (.int .i64 u)
    have os2_17 := os2_16.apart (by decide) r2_16 2 (.int .i64 u)
    have oh2_17 := oh2_16.apart (by decide) r2_16 2 (.int .i64 u)
    have oh3_17 := oh3_16.apart (by decide) r2_16 2 (.int .i64 u)
    have B17 := B16.setCell (p := ⟨w.heap.size + 1, 2, none⟩) (by show _ ≤ w.heap.size + 1; first | exact Nat.le_refl _ | omega | (simp; omega)) (.int .i64 u)
    have r2_17 := r2_16.set 2 (.int .i64 u)
    refine mix_call (by rfl) (fun K hK => ?_)
    go_simp
    refine hK _ _ (fun v => At2 v (w4.heap.size) 39 #[.slice X L cx, .slice Y M cy, .int .i64 u] (w6.heap.size) 39 #[.slice X2 L cx2, .slice Y3 M3 cy3, .int .i64 u]) (fun _ h => h) (At2.drew ⟨x_17, y_17⟩) ?_
    clear hK K
    (try simp only [Act.put, List.setIfInBounds_toArray, List.set_cons_zero, List.set_cons_succ])
    refine mix_nil ?_
    go_wp2
    refine bodyPost_ret (v := .tuple #[.agg #[.slice X L cx, .slice Y M cy, .int .i64 u], .agg #[.slice X2 L cx2, .slice Y3 M3 cy3, .int .i64 u]]) (by simp [results, Tryz.results13, go_sem, pc0, pc1, pc2, qc0, qc1, qc2, hn2_r, hm2_r, hn5_r, hm5_r, hn5_r2, hm5_r2, hn7_r, hm7_r, hn7_r2, hm7_r2, hn7_x, hm7_x]) rfl ?_
    exact ⟨_, _, _, _, _, _, _, _, _, _, _, _, _, _, _, _, _, _, rfl, hL, hM, hL, hM3', (Ow.drewN (Ow.from_ (base' := w.heap.size) os_17 (by first | omega | (simp; omega))) 1), (Ow.drewN (Ow.from_ (base' := w.heap.size) oh_17 (by first | omega | (simp; omega))) 1), (Ow.drewN (Ow.from_ (base' := w.heap.size) os2_17 (by first | omega | (simp; omega))) 1), (Ow.drewN (Ow.from_ (base' := w.heap.size) oh3_17 (by first | omega | (simp; omega))) 1), B17.drew⟩
  · go_wp2_with fail
    refine (l3Draw w8 (w.heap.size + 1 + 1) (w.heap.size + 1 + 1) A m c (k4 + 1) l s8 (by omega)).mono ?_
    rintro e w9 ⟨k9, X3, L3, cx3, xs3, rfl, hL3, os3, hk9, s9, hw9⟩
    have zs9 : w8.heap.size ≤ w9.heap.size := by have q := hw9.size; first | exact q | (simp; done) | (simp at q; exact q) | (simp at q ⊢; omega)
    have r_9 := r_8.within hw9 (by first | omega | (simp; omega))
    have r2_9 := r2_8.within hw9 (by first | omega | (simp; omega))
    have x_9 := x_8.within hw9 (by first | omega | (simp; omega))
    have y_9 := y_8.within hw9 (by first | omega | (simp; omega))
    have os_9 := os_8.within hw9 os_8.lt (.inr g3)
    have oh_9 := oh_8.within hw9 oh_8.lt (.inr g3)
    have os2_9 := os2_8.within hw9 os2_8.lt (.inr g5)
    have oh2_9 := oh2_8.within hw9 oh2_8.lt (.inr g5)
    have B9 := hw9.below B8 B8.size (by first | exact Nat.le_refl _ | omega | (simp; done))
    have zb9 := B9.size
    have g9 := s9.at_.lt
    have hL3' : L3 ≤ 200 := by omega
    have yc0 : World.cell? w9 ⟨w6.heap.size, 0, none⟩ = some (.slice X2 L cx2) := y_9.cell 0
    have yc1 : World.cell? w9 ⟨w6.heap.size, 1, none⟩ = some (.slice Y2 M cy2) := y_9.cell 1
    have yc2 : World.cell? w9 ⟨w6.heap.size, 2, none⟩ = some (.int .i64 u) := y_9.cell 2
    have yf0 : World.frozen? w9 ⟨w6.heap.size, 0, none⟩ = false := y_9.frozen 0
    have yf1 : World.frozen? w9 ⟨w6.heap.size, 1, none⟩ = false := y_9.frozen 1
    have yf2 : World.frozen? w9 ⟨w6.heap.size, 2, none⟩ = false := y_9.frozen 2
    go_wp2_with fail
    have r_10 := r_9.far (p := ⟨w6.heap.size, 0, none⟩) (by show _ ≠ w6.heap.size; first | omega | (simp; omega)) (.slice X3 L3 cx3)
    have r2_10 := r2_9.far (p := ⟨w6.heap.size, 0, none⟩) (by show _ ≠ w6.heap.size; first | omega | (simp; omega)) (.slice X3 L3 cx3)
    have x_10 := x_9.far (p := ⟨w6.heap.size, 0, none⟩) (by show _ ≠ w6.heap.size; first | omega | (simp; omega)) (.slice X3 L3 cx3)
    have os_10 := os_9.apart (by decide) y_9 0 (.slice X3 L3 cx3)
    have oh_10 := oh_9.apart (by decide) y_9 0 (.slice X3 L3 cx3)
    have os2_10 := os2_9.apart (by decide) y_9 0 (.slice X3 L3 cx3)
    have oh2_10 := oh2_9.apart (by decide) y_9 0 (.slice X3 L3 cx3)
    have os3_10 := os3.apart (by decide) y_9 0 (.slice X3 L3 cx3)
    have s10 := s9.put (p := ⟨w6.heap.size, 0, none⟩) (by show _ < w6.heap.size; first | omega | (simp; omega)) (.slice X3 L3 cx3)
    have B10 := B9.setCell (p := ⟨w6.heap.size, 0, none⟩) (by show _ ≤ w6.heap.size; first | exact Nat.le_refl _ | omega | (simp; omega)) (.slice X3 L3 cx3)
    have y_10 := y_9.set 0 (.slice X3 L3 cx3)
    go_wp2_with fail
    generalize (w9.setCell ⟨w6.heap.size, 0, none⟩ (.slice X3 L3 cx3)) = wG11 at *
    have pc0 : World.cell? wG11 ⟨w.heap.size, 0, none⟩ = some (.slice none 0 0) := r_10.cell 0
    have pc1 : World.cell? wG11 ⟨w.heap.size, 1, none⟩ = some (.slice none 0 0) := r_10.cell 1
    have pc2 : World.cell? wG11 ⟨w.heap.size, 2, none⟩ = some (.int .i64 0) := r_10.cell 2
    have pf0 : World.frozen? wG11 ⟨w.heap.size, 0, none⟩ = false := r_10.frozen 0
    have pf1 : World.frozen? wG11 ⟨w.heap.size, 1, none⟩ = false := r_10.frozen 1
    have pf2 : World.frozen? wG11 ⟨w.heap.size, 2, none⟩ = false := r_10.frozen 2
    have qc0 : World.cell? wG11 ⟨w.heap.size + 1, 0, none⟩ = some (.slice none 0 0) := r2_10.cell 0
    have qc1 : World.cell? wG11 ⟨w.heap.size + 1, 1, none⟩ = some (.slice none 0 0) := r2_10.cell 1
    have qc2 : World.cell? wG11 ⟨w.heap.size + 1, 2, none⟩ = some (.int .i64 0) := r2_10.cell 2
    have qf0 : World.frozen? wG11 ⟨w.heap.size + 1, 0, none⟩ = false := r2_10.frozen 0
    have qf1 : World.frozen? wG11 ⟨w.heap.size + 1, 1, none⟩ = false := r2_10.frozen 1
    have qf2 : World.frozen? wG11 ⟨w.heap.size + 1, 2, none⟩ = false := r2_10.frozen 2
    refine wp_region_mix [(0, false), (1, false), (2, true), (3, true)] (fun v => At2 v (w4.heap.size) 39 #[.slice X L cx, .slice Y M cy, .int .i64 u] (w6.heap.size) 39 #[.slice X3 L3 cx3, .slice Y2 M cy2, .int .i64 u]) (by kernel_rfl) (by kernel_rfl) (fun _ _ _ _ _ h => h) (At2.drew ⟨x_10, y_10⟩) ?_
    simp only [mixOps, List.map_cons, List.map_nil, List.getElem?_cons_succ, List.getElem?_cons_zero, Option.getD_some]
    refine mix_pure (v := ?_) (by rfl) (fun v hu => ?_) ?_
    rotate_left
    · (obtain ⟨hu1, hu2⟩ := hu
       obtain ⟨_, _, _, _, _, _⟩ := At.three hu1
       obtain ⟨_, _, _, _, _, _⟩ := At.three hu2)
      go_simp
      (with_reducible rfl)
    (try simp only [Act.put, List.setIfInBounds_toArray, List.set_cons_zero, List.set_cons_succ])
    refine mix_pure (v := ?_) (by rfl) (fun v hu => ?_) ?_
    rotate_left
    · (obtain ⟨hu1, hu2⟩ := hu
       obtain ⟨_, _, _, _, _, _⟩ := At.three hu1
       obtain ⟨_, _, _, _, _, _⟩ := At.three hu2)
      go_simp
      (with_reducible rfl)
    (try simp only [Act.put, List.setIfInBounds_toArray, List.set_cons_zero, List.set_cons_succ])
    have r2_12 := r2_10.far (p := ⟨w.heap.size, 0, none⟩) (by show _ ≠ w.heap.size; first | omega | (simp; omega)) (.slice X L cx)
    have x_12 := x_10.far (p := ⟨w.heap.size, 0, none⟩) (by show _ ≠ w.heap.size; first | omega | (simp; omega)) (.slice X L cx)
    have y_12 := y_10.far (p := ⟨w.heap.size, 0, none⟩) (by show _ ≠ w.heap.size; first | omega | (simp; omega)) (.slice X L cx)
    have os_12 := os_10.apart (by decide) r_10 0 (.slice X L cx)
    have oh_12 := oh_10.apart (by decide) r_10 0 (.slice X L cx)
    have os2_12 := os2_10.apart (by decide) r_10 0 (.slice X L cx)
    have oh2_12 := oh2_10.apart (by decide) r_10 0 (.slice X L cx)
    have os3_12 := os3_10.apart (by decide) r_10 0 (.slice X L cx)
    have B12 := B10.setCell (p := ⟨w.heap.size, 0, none⟩) (by show _ ≤ w.heap.size; first | exact Nat.le_refl _ | omega | (simp; omega)) (.slice X L cx)
    have r_12 := r_10.set 0 (.slice X L cx)
    have r2_13 := r2_12.far (p := ⟨w.heap.size, 1, none⟩) (by show _ ≠ w.heap.size; first | omega | (simp; omega)) (.slice Y M cy)
    have x_13 := x_12.far (p := ⟨w.heap.size, 1, none⟩) (by show _ ≠ w.heap.size; first | omega | (simp; omega)) (.slice Y M cy)
    have y_13 := y_12.far (p := ⟨w.heap.size, 1, none⟩) (by show _ ≠ w.heap.size; first | omega | (simp; omega)) (.slice Y M cy)
    have os_13 := os_12.apart (by decide) r_12 1 (.slice Y M cy)
    have oh_13 := oh_12.apart (by decide) r_12 1 (.slice Y M cy)
    have os2_13 := os2_12.apart (by decide) r_12 1 (.slice Y M cy)
    have oh2_13 := oh2_12.apart (by decide) r_12 1 (.slice Y M cy)
    have os3_13 := os3_12.apart (by decide) r_12 1 (.slice Y M cy)
    have B13 := B12.setCell (p := ⟨w.heap.size, 1, none⟩) (by show _ ≤ w.heap.size; first | exact Nat.le_refl _ | omega | (simp; omega)) (.slice Y M cy)
    have r_13 := r_12.set 1 (.slice Y M cy)
    have r2_14 := r2_13.far (p := ⟨w.heap.size, 2, none⟩) (by show _ ≠ w.heap.size; first | omega | (simp; omega)) (.int .i64 u)
    have x_14 := x_13.far (p := ⟨w.heap.size, 2, none⟩) (by show _ ≠ w.heap.size; first | omega | (simp; omega)) (.int .i64 u)
    have y_14 := y_13.far (p := ⟨w.heap.size, 2, none⟩) (by show _ ≠ w.heap.size; first | omega | (simp; omega)) (.int .i64 u)
    have os_14 := os_13.apart (by decide) r_13 2 (.int .i64 u)
    have oh_14 := oh_13.apart (by decide) r_13 2 (.int .i64 u)
    have os2_14 := os2_13.apart (by decide) r_13 2 (.int .i64 u)
    have oh2_14 := oh2_13.apart (by decide) r_13 2 (.int .i64 u)
    have os3_14 := os3_13.apart (by decide) r_13 2 (.int .i64 u)
    have B14 := B13.setCell (p := ⟨w.heap.size, 2, none⟩) (by show _ ≤ w.heap.size; first | exact Nat.le_refl _ | omega | (simp; omega)) (.int .i64 u)
    have r_14 := r_13.set 2 (.int .i64 u)
    refine mix_call (by rfl) (fun K hK => ?_)
    go_simp
    refine hK _ _ (fun v => At2 v (w4.heap.size) 39 #[.slice X L cx, .slice Y M cy, .int .i64 u] (w6.heap.size) 39 #[.slice X3 L3 cx3, .slice Y2 M cy2, .int .i64 u]) (fun _ h => h) (At2.drew ⟨x_14, y_14⟩) ?_
    clear hK K
    (try simp only [Act.put, List.setIfInBounds_toArray, List.set_cons_zero, List.set_cons_succ])
    have r_15 := r_14.far (p := ⟨w.heap.size + 1, 0, none⟩) (by show _ ≠ w.heap.size + 1; first | omega | (simp; omega)) (.slice X3 L3 cx3)
    have x_15 := x_14.far (p := ⟨w.heap.size + 1, 0, none⟩) (by show _ ≠ w.heap.size + 1; first | omega | (simp; omega)) (.slice X3 L3 cx3)
    have y_15 := y_14.far (p := ⟨w.heap.size + 1, 0, none⟩) (by show _ ≠ w.heap.size + 1; first | omega | (simp; omega)) (.slice X3 L3 cx3)
    have os_15 := os_14.apart (by decide) r2_14 0 (.slice X3 L3 cx3)
    have oh_15 := oh_14.apart (by decide) r2_14 0 (.slice X3 L3 cx3)
    have os2_15 := os2_14.apart (by decide) r2_14 0 (.slice X3 L3 cx3)
    have oh2_15 := oh2_14.apart (by decide) r2_14 0 (.slice X3 L3 cx3)
    have os3_15 := os3_14.apart (by decide) r2_14 0 (.slice X3 L3 cx3)
    have B15 := B14.setCell (p := ⟨w.heap.size + 1, 0, none⟩) (by show _ ≤ w.heap.size + 1; first | exact Nat.le_refl _ | omega | (simp; omega)) (.slice X3 L3 cx3)
    have r2_15 := r2_14.set 0 (.slice X3 L3 cx3)
    have r_16 := r_15.far (p := ⟨w.heap.size + 1, 1, none⟩) (by show _ ≠ w.heap.size + 1; first | omega | (simp; omega)) (.slice Y2 M cy2)
    have x_16 := x_15.far (p := ⟨w.heap.size + 1, 1, none⟩) (by show _ ≠ w.heap.size + 1; first | omega | (simp; omega)) (.slice Y2 M cy2)
    have y_16 := y_15.far (p := ⟨w.heap.size + 1, 1, none⟩) (by show _ ≠ w.heap.size + 1; first | omega | (simp; omega)) (.slice Y2 M cy2)
    have os_16 := os_15.apart (by decide) r2_15 1 (.slice Y2 M cy2)
    have oh_16 := oh_15.apart (by decide) r2_15 1 (.slice Y2 M cy2)
    have os2_16 := os2_15.apart (by decide) r2_15 1 (.slice Y2 M cy2)
    have oh2_16 := oh2_15.apart (by decide) r2_15 1 (.slice Y2 M cy2)
    have os3_16 := os3_15.apart (by decide) r2_15 1 (.slice Y2 M cy2)
    have B16 := B15.setCell (p := ⟨w.heap.size + 1, 1, none⟩) (by show _ ≤ w.heap.size + 1; first | exact Nat.le_refl _ | omega | (simp; omega)) (.slice Y2 M cy2)
    have r2_16 := r2_15.set 1 (.slice Y2 M cy2)
    have r_17 := r_16.far (p := ⟨w.heap.size + 1, 2, none⟩) (by show _ ≠ w.heap.size + 1; first | omega | (simp; omega)) (.int .i64 u)
    have x_17 := x_16.far (p := ⟨w.heap.size + 1, 2, none⟩) (by show _ ≠ w.heap.size + 1; first | omega | (simp; omega)) (.int .i64 u)
    have y_17 := y_16.far (p := ⟨w.heap.size + 1, 2, none⟩) (by show _ ≠ w.heap.size + 1; first | omega | (simp; omega)) (.int .i64 u)
    have os_17 := os_16.apart (by decide) r2_16 2 (.int .i64 u)
    have oh_17 := oh_16.apart (by decide) r2_16 2 (.int .i64 u)
    have os2_17 := os2_16.apart (by decide) r2_16 2 (.int .i64 u)
    have oh2_17 := oh2_16.apart (by decide) r2_16 2 (.int .i64 u)
    have os3_17 := os3_16.apart (by decide) r2_16 2 (.int .i64 u)
    have B17 := B16.setCell (p := ⟨w.heap.size + 1, 2, none⟩) (by show _ ≤ w.heap.size + 1; first | exact Nat.le_refl _ | omega | (simp; omega)) (.int .i64 u)
    have r2_17 := r2_16.set 2 (.int .i64 u)
    refine mix_call (by rfl) (fun K hK => ?_)
    go_simp
    refine hK _ _ (fun v => At2 v (w4.heap.size) 39 #[.slice X L cx, .slice Y M cy, .int .i64 u] (w6.heap.size) 39 #[.slice X3 L3 cx3, .slice Y2 M cy2, .int .i64 u]) (fun _ h => h) (At2.drew ⟨x_17, y_17⟩) ?_
    clear hK K
    (try simp only [Act.put, List.setIfInBounds_toArray, List.set_cons_zero, List.set_cons_succ])
    refine mix_nil ?_
    go_wp2
    refine bodyPost_ret (v := .tuple #[.agg #[.slice X L cx, .slice Y M cy, .int .i64 u], .agg #[.slice X3 L3 cx3, .slice Y2 M cy2, .int .i64 u]]) (by simp [results, Tryz.results13, go_sem, pc0, pc1, pc2, qc0, qc1, qc2, hn2_r, hm2_r, hn5_r, hm5_r, hn5_r2, hm5_r2, hn7_r, hm7_r, hn7_r2, hm7_r2, hn7_x, hm7_x]) rfl ?_
    exact ⟨_, _, _, _, _, _, _, _, _, _, _, _, _, _, _, _, _, _, rfl, hL, hM, hL3', hM, (Ow.drewN (Ow.from_ (base' := w.heap.size) os_17 (by first | omega | (simp; omega))) 1), (Ow.drewN (Ow.from_ (base' := w.heap.size) oh_17 (by first | omega | (simp; omega))) 1), (Ow.drewN (Ow.from_ (base' := w.heap.size) os3_17 (by first | omega | (simp; omega))) 1), (Ow.drewN (Ow.from_ (base' := w.heap.size) oh2_17 (by first | omega | (simp; omega))) 1), B17.drew⟩
  · have bq0 : (q == 0) = false := by simp; omega
    have bq1 : (q == 1) = false := by simp; omega
    have bq2 : (q == 2) = false := by simp; omega
    have yc0 : World.cell? w8 ⟨w6.heap.size, 0, none⟩ = some (.slice X2 L cx2) := y_8.cell 0
    have yc1 : World.cell? w8 ⟨w6.heap.size, 1, none⟩ = some (.slice Y2 M cy2) := y_8.cell 1
    have yc2 : World.cell? w8 ⟨w6.heap.size, 2, none⟩ = some (.int .i64 u) := y_8.cell 2
    have yf0 : World.frozen? w8 ⟨w6.heap.size, 0, none⟩ = false := y_8.frozen 0
    have yf1 : World.frozen? w8 ⟨w6.heap.size, 1, none⟩ = false := y_8.frozen 1
    have yf2 : World.frozen? w8 ⟨w6.heap.size, 2, none⟩ = false := y_8.frozen 2
    go_wp2_with fail
    have pc0 : World.cell? w8 ⟨w.heap.size, 0, none⟩ = some (.slice none 0 0) := r_8.cell 0
    have pc1 : World.cell? w8 ⟨w.heap.size, 1, none⟩ = some (.slice none 0 0) := r_8.cell 1
    have pc2 : World.cell? w8 ⟨w.heap.size, 2, none⟩ = some (.int .i64 0) := r_8.cell 2
    have pf0 : World.frozen? w8 ⟨w.heap.size, 0, none⟩ = false := r_8.frozen 0
    have pf1 : World.frozen? w8 ⟨w.heap.size, 1, none⟩ = false := r_8.frozen 1
    have pf2 : World.frozen? w8 ⟨w.heap.size, 2, none⟩ = false := r_8.frozen 2
    have qc0 : World.cell? w8 ⟨w.heap.size + 1, 0, none⟩ = some (.slice none 0 0) := r2_8.cell 0
    have qc1 : World.cell? w8 ⟨w.heap.size + 1, 1, none⟩ = some (.slice none 0 0) := r2_8.cell 1
    have qc2 : World.cell? w8 ⟨w.heap.size + 1, 2, none⟩ = some (.int .i64 0) := r2_8.cell 2
    have qf0 : World.frozen? w8 ⟨w.heap.size + 1, 0, none⟩ = false := r2_8.frozen 0
    have qf1 : World.frozen? w8 ⟨w.heap.size + 1, 1, none⟩ = false := r2_8.frozen 1
    have qf2 : World.frozen? w8 ⟨w.heap.size + 1, 2, none⟩ = false := r2_8.frozen 2
    refine wp_region_mix [(0, false), (1, false), (2, true), (3, true)] (fun v => At2 v (w4.heap.size) 39 #[.slice X L cx, .slice Y M cy, .int .i64 u] (w6.heap.size) 39 #[.slice X2 L cx2, .slice Y2 M cy2, .int .i64 u]) (by kernel_rfl) (by kernel_rfl) (fun _ _ _ _ _ h => h) (At2.drew ⟨x_8, y_8⟩) ?_
    simp only [mixOps, List.map_cons, List.map_nil, List.getElem?_cons_succ, List.getElem?_cons_zero, Option.getD_some]
    refine mix_pure (v := ?_) (by rfl) (fun v hu => ?_) ?_
    rotate_left
    · (obtain ⟨hu1, hu2⟩ := hu
       obtain ⟨_, _, _, _, _, _⟩ := At.three hu1
       obtain ⟨_, _, _, _, _, _⟩ := At.three hu2)
      go_simp
      (with_reducible rfl)
    (try simp only [Act.put, List.setIfInBounds_toArray, List.set_cons_zero, List.set_cons_succ])
    refine mix_pure (v := ?_) (by rfl) (fun v hu => ?_) ?_
    rotate_left
    · (obtain ⟨hu1, hu2⟩ := hu
       obtain ⟨_, _, _, _, _, _⟩ := At.three hu1
       obtain ⟨_, _, _, _, _, _⟩ := At.three hu2)
      go_simp
      (with_reducible rfl)
    (try simp only [Act.put, List.setIfInBounds_toArray, List.set_cons_zero, List.set_cons_succ])
    have r2_9 := r2_8.far (p := ⟨w.heap.size, 0, none⟩) (by show _ ≠ w.heap.size; first | omega | (simp; omega)) (.slice X L cx)
    have x_9 := x_8.far (p := ⟨w.heap.size, 0, none⟩) (by show _ ≠ w.heap.size; first | omega | (simp; omega)) (.slice X L cx)
    have y_9 := y_8.far (p := ⟨w.heap.size, 0, none⟩) (by show _ ≠ w.heap.size; first | omega | (simp; omega)) (.slice X L cx)
    have os_9 := os_8.apart (by decide) r_8 0 (.slice X L cx)
    have oh_9 := oh_8.apart (by decide) r_8 0 (.slice X L cx)
    have os2_9 := os2_8.apart (by decide) r_8 0 (.slice X L cx)
    have oh2_9 := oh2_8.apart (by decide) r_8 0 (.slice X L cx)
    have B9 := B8.setCell (p := ⟨w.heap.size, 0, none⟩) (by show _ ≤ w.heap.size; first | exact Nat.le_refl _ | omega | (simp; omega)) (.slice X L cx)
    have r_9 := r_8.set 0 (.slice X L cx)
    have r2_10 := r2_9.far (p := ⟨w.heap.size, 1, none⟩) (by show _ ≠ w.heap.size; first | omega | (simp; omega)) (.slice Y M cy)
    have x_10 := x_9.far (p := ⟨w.heap.size, 1, none⟩) (by show _ ≠ w.heap.size; first | omega | (simp; omega)) (.slice Y M cy)
    have y_10 := y_9.far (p := ⟨w.heap.size, 1, none⟩) (by show _ ≠ w.heap.size; first | omega | (simp; omega)) (.slice Y M cy)
    have os_10 := os_9.apart (by decide) r_9 1 (.slice Y M cy)
    have oh_10 := oh_9.apart (by decide) r_9 1 (.slice Y M cy)
    have os2_10 := os2_9.apart (by decide) r_9 1 (.slice Y M cy)
    have oh2_10 := oh2_9.apart (by decide) r_9 1 (.slice Y M cy)
    have B10 := B9.setCell (p := ⟨w.heap.size, 1, none⟩) (by show _ ≤ w.heap.size; first | exact Nat.le_refl _ | omega | (simp; omega)) (.slice Y M cy)
    have r_10 := r_9.set 1 (.slice Y M cy)
    have r2_11 := r2_10.far (p := ⟨w.heap.size, 2, none⟩) (by show _ ≠ w.heap.size; first | omega | (simp; omega)) (.int .i64 u)
    have x_11 := x_10.far (p := ⟨w.heap.size, 2, none⟩) (by show _ ≠ w.heap.size; first | omega | (simp; omega)) (.int .i64 u)
    have y_11 := y_10.far (p := ⟨w.heap.size, 2, none⟩) (by show _ ≠ w.heap.size; first | omega | (simp; omega)) (.int .i64 u)
    have os_11 := os_10.apart (by decide) r_10 2 (.int .i64 u)
    have oh_11 := oh_10.apart (by decide) r_10 2 (.int .i64 u)
    have os2_11 := os2_10.apart (by decide) r_10 2 (.int .i64 u)
    have oh2_11 := oh2_10.apart (by decide) r_10 2 (.int .i64 u)
    have B11 := B10.setCell (p := ⟨w.heap.size, 2, none⟩) (by show _ ≤ w.heap.size; first | exact Nat.le_refl _ | omega | (simp; omega)) (.int .i64 u)
    have r_11 := r_10.set 2 (.int .i64 u)
    refine mix_call (by rfl) (fun K hK => ?_)
    go_simp
    refine hK _ _ (fun v => At2 v (w4.heap.size) 39 #[.slice X L cx, .slice Y M cy, .int .i64 u] (w6.heap.size) 39 #[.slice X2 L cx2, .slice Y2 M cy2, .int .i64 u]) (fun _ h => h) (At2.drew ⟨x_11, y_11⟩) ?_
    clear hK K
    (try simp only [Act.put, List.setIfInBounds_toArray, List.set_cons_zero, List.set_cons_succ])
    have r_12 := r_11.far (p := ⟨w.heap.size + 1, 0, none⟩) (by show _ ≠ w.heap.size + 1; first | omega | (simp; omega)) (.slice X2 L cx2)
    have x_12 := x_11.far (p := ⟨w.heap.size + 1, 0, none⟩) (by show _ ≠ w.heap.size + 1; first | omega | (simp; omega)) (.slice X2 L cx2)
    have y_12 := y_11.far (p := ⟨w.heap.size + 1, 0, none⟩) (by show _ ≠ w.heap.size + 1; first | omega | (simp; omega)) (.slice X2 L cx2)
    have os_12 := os_11.apart (by decide) r2_11 0 (.slice X2 L cx2)
    have oh_12 := oh_11.apart (by decide) r2_11 0 (.slice X2 L cx2)
    have os2_12 := os2_11.apart (by decide) r2_11 0 (.slice X2 L cx2)
    have oh2_12 := oh2_11.apart (by decide) r2_11 0 (.slice X2 L cx2)
    have B12 := B11.setCell (p := ⟨w.heap.size + 1, 0, none⟩) (by show _ ≤ w.heap.size + 1; first | exact Nat.le_refl _ | omega | (simp; omega)) (.slice X2 L cx2)
    have r2_12 := r2_11.set 0 (.slice X2 L cx2)
    have r_13 := r_12.far (p := ⟨w.heap.size + 1, 1, none⟩) (by show _ ≠ w.heap.size + 1; first | omega | (simp; omega)) (.slice Y2 M cy2)
    have x_13 := x_12.far (p := ⟨w.heap.size + 1, 1, none⟩) (by show _ ≠ w.heap.size + 1; first | omega | (simp; omega)) (.slice Y2 M cy2)
    have y_13 := y_12.far (p := ⟨w.heap.size + 1, 1, none⟩) (by show _ ≠ w.heap.size + 1; first | omega | (simp; omega)) (.slice Y2 M cy2)
    have os_13 := os_12.apart (by decide) r2_12 1 (.slice Y2 M cy2)
    have oh_13 := oh_12.apart (by decide) r2_12 1 (.slice Y2 M cy2)
    have os2_13 := os2_12.apart (by decide) r2_12 1 (.slice Y2 M cy2)
    have oh2_13 := oh2_12.apart (by decide) r2_12 1 (.slice Y2 M cy2)
    have B13 := B12.setCell (p := ⟨w.heap.size + 1, 1, none⟩) (by show _ ≤ w.heap.size + 1; first | exact Nat.le_refl _ | omega | (simp; omega)) (.slice Y2 M cy2)
    have r2_13 := r2_12.set 1 (.slice Y2 M cy2)
    have r_14 := r_13.far (p := ⟨w.heap.size + 1, 2, none⟩) (by show _ ≠ w.heap.size + 1; first | omega | (simp; omega)) (.int .i64 u)
    have x_14 := x_13.far (p := ⟨w.heap.size + 1, 2, none⟩) (by show _ ≠ w.heap.size + 1; first | omega | (simp; omega)) (.int .i64 u)
    have y_14 := y_13.far (p := ⟨w.heap.size + 1, 2, none⟩) (by show _ ≠ w.heap.size + 1; first | omega | (simp; omega)) (.int .i64 u)
    have os_14 := os_13.apart (by decide) r2_13 2 (.int .i64 u)
    have oh_14 := oh_13.apart (by decide) r2_13 2 (.int .i64 u)
    have os2_14 := os2_13.apart (by decide) r2_13 2 (.int .i64 u)
    have oh2_14 := oh2_13.apart (by decide) r2_13 2 (.int .i64 u)
    have B14 := B13.setCell (p := ⟨w.heap.size + 1, 2, none⟩) (by show _ ≤ w.heap.size + 1; first | exact Nat.le_refl _ | omega | (simp; omega)) (.int .i64 u)
    have r2_14 := r2_13.set 2 (.int .i64 u)
    refine mix_call (by rfl) (fun K hK => ?_)
    go_simp
    refine hK _ _ (fun v => At2 v (w4.heap.size) 39 #[.slice X L cx, .slice Y M cy, .int .i64 u] (w6.heap.size) 39 #[.slice X2 L cx2, .slice Y2 M cy2, .int .i64 u]) (fun _ h => h) (At2.drew ⟨x_14, y_14⟩) ?_
    clear hK K
    (try simp only [Act.put, List.setIfInBounds_toArray, List.set_cons_zero, List.set_cons_succ])
    refine mix_nil ?_
    go_wp2
    refine bodyPost_ret (v := .tuple #[.agg #[.slice X L cx, .slice Y M cy, .int .i64 u], .agg #[.slice X2 L cx2, .slice Y2 M cy2, .int .i64 u]]) (by simp [results, Tryz.results13, go_sem, pc0, pc1, pc2, qc0, qc1, qc2, hn2_r, hm2_r, hn5_r, hm5_r, hn5_r2, hm5_r2, hn7_r, hm7_r, hn7_r2, hm7_r2, hn7_x, hm7_x]) rfl ?_
    exact ⟨_, _, _, _, _, _, _, _, _, _, _, _, _, _, _, _, _, _, rfl, hL, hM, hL, hM, (Ow.drewN (Ow.from_ (base' := w.heap.size) os_14 (by first | omega | (simp; omega))) 1), (Ow.drewN (Ow.from_ (base' := w.heap.size) oh_14 (by first | omega | (simp; omega))) 1), (Ow.drewN (Ow.from_ (base' := w.heap.size) os2_14 (by first | omega | (simp; omega))) 1), (Ow.drewN (Ow.from_ (base' := w.heap.size) oh2_14 (by first | omega | (simp; omega))) 1), B14.drew⟩

set_option maxHeartbeats 8000000 in
theorem drawApplyRecord (A : Option Addr) (m c : Nat) (l : List UInt8) (w : World) (ha : Rd eB w w.heap.size A l) (hn : l.length = m) (hm : m ≤ 1048576) :
    Calls Tryz.prog 11 #[.slice A m c] w fun e w' => ∃ (X : Option Addr) (L cx : Nat) (xs : List Smp) (Y : Option Addr) (M cy : Nat) (ys : List Hnt) (u a0 a1 a2 a3 a4 a5 a6 : Int), e = .returned (.tuple #[.agg #[.slice X L cx, .slice Y M cy, .int .i64 u], .agg #[.int .i64 a0, .int .i64 a1, .int .i64 a2, .int .i64 a3, .int .i64 a4, .int .i64 a5, .int .i64 a6]]) ∧ L ≤ 200 ∧ M ≤ 16 ∧ Ow eS w' w.heap.size X L cx xs ∧ Ow eH w' w.heap.size Y M cy ys ∧ Below w.heap.size w w' := by
  have B0 := Below.refl w.heap.size w
  have r := At.newAt' (w := w) (t := 39) (cs := #[.slice none 0 0, .slice none 0 0, .int .i64 0]) (show w.heap.size = w.heap.size by first | rfl | simp)
  have ha_1 := ha.lift ((Below.refl _ _).alloc (Nat.le_refl _) (.cells #[.slice none 0 0, .slice none 0 0, .int .i64 0] 39))
  have B1 := B0.alloc B0.size (.cells #[.slice none 0 0, .slice none 0 0, .int .i64 0] 39)
  have zb1 := B1.size
  have r2 := At.newAt' (w := (w.alloc (.cells #[.slice none 0 0, .slice none 0 0, .int .i64 0] 39))) (t := 27) (cs := #[.int .i64 0, .int .i64 0, .int .i64 0, .int .i64 0, .int .i64 0, .int .i64 0, .int .i64 0]) (show (w.alloc (.cells #[.slice none 0 0, .slice none 0 0, .int .i64 0] 39)).heap.size = w.heap.size + 1 by first | rfl | simp)
  have ln2_r : w.heap.size < w.heap.size + 1 := by have q := r.lt; first | exact q | (simp; done) | (simp at q; exact q) | (simp at q ⊢; omega)
  have hn2_r : ¬ w.heap.size = w.heap.size + 1 := by omega
  have hm2_r : ¬ w.heap.size + 1 = w.heap.size := by omega
  have r_2 := r.alloc (.cells #[.int .i64 0, .int .i64 0, .int .i64 0, .int .i64 0, .int .i64 0, .int .i64 0, .int .i64 0] 27)
  have ha_2 := ha_1.lift ((Below.refl _ _).alloc (Nat.le_refl _) (.cells #[.int .i64 0, .int .i64 0, .int .i64 0, .int .i64 0, .int .i64 0, .int .i64 0, .int .i64 0] 27))
  have B2 := B1.alloc B1.size (.cells #[.int .i64 0, .int .i64 0, .int .i64 0, .int .i64 0, .int .i64 0, .int .i64 0, .int .i64 0] 27)
  have zb2 := B2.size
  go_enter Tryz.func11, Tryz.ntmps11
  go_wp2_with fail
  refine (l1Source A m c l _ ha_2 hn hm).mono ?_
  rintro e w3 ⟨rfl, s3, hb3, -⟩
  rw [show ((w.alloc (.cells #[.slice none 0 0, .slice none 0 0, .int .i64 0] 39)).alloc (.cells #[.int .i64 0, .int .i64 0, .int .i64 0, .int .i64 0, .int .i64 0, .int .i64 0, .int .i64 0] 27)).heap.size = w.heap.size + 1 + 1 by simp] at s3
  have r_3 := r_2.below hb3 r_2.lt
  have r2_3 := r2.below hb3 r2.lt
  have ha_3 := ha_2.lift hb3
  have B3 := B2.trans (hb3.mono B2.size)
  have zb3 := B3.size
  have g3 := s3.at_.lt
  go_wp2_with fail
  refine (l5State w3 (w.heap.size + 1 + 1) (w.heap.size + 1 + 1) A m c 0 l s3 (by omega)).mono ?_
  rintro e w4 ⟨X, L, cx, xs, Y, M, cy, ys, u, rfl, hL, hM, hu, os, oh, ⟨k4, hk4, s4⟩, hw4⟩
  have zs4 : w3.heap.size ≤ w4.heap.size := by have q := hw4.size; first | exact q | (simp; done) | (simp at q; exact q) | (simp at q ⊢; omega)
  have r_4 := r_3.within hw4 (by first | omega | (simp; omega))
  have r2_4 := r2_3.within hw4 (by first | omega | (simp; omega))
  have B4 := hw4.below B3 B3.size (by first | exact Nat.le_refl _ | omega | (simp; done))
  have zb4 := B4.size
  have g4 := s4.at_.lt
  have x := At.newAt' (w := w4) (t := 39) (cs := #[.slice X L cx, .slice Y M cy, .int .i64 u]) (show w4.heap.size = w4.heap.size by first | rfl | simp)
  have ln5_r : w.heap.size < w4.heap.size := by have q := r_4.lt; first | exact q | (simp; done) | (simp at q; exact q) | (simp at q ⊢; omega)
  have hn5_r : ¬ w.heap.size = w4.heap.size := by omega
  have hm5_r : ¬ w4.heap.size = w.heap.size := by omega
  have ln5_r2 : w.heap.size + 1 < w4.heap.size := by have q := r2_4.lt; first | exact q | (simp; done) | (simp at q; exact q) | (simp at q ⊢; omega)
  have hn5_r2 : ¬ w.heap.size + 1 = w4.heap.size := by omega
  have hm5_r2 : ¬ w4.heap.size = w.heap.size + 1 := by omega
  have r_5 := r_4.alloc (.cells #[.slice X L cx, .slice Y M cy, .int .i64 u] 39)
  have r2_5 := r2_4.alloc (.cells #[.slice X L cx, .slice Y M cy, .int .i64 u] 39)
  have os_5 := os.alloc (.cells #[.slice X L cx, .slice Y M cy, .int .i64 u] 39)
  have oh_5 := oh.alloc (.cells #[.slice X L cx, .slice Y M cy, .int .i64 u] 39)
  have s5 := s4.alloc (.cells #[.slice X L cx, .slice Y M cy, .int .i64 u] 39)
  have g5 := s5.at_.lt
  have B5 := B4.alloc B4.size (.cells #[.slice X L cx, .slice Y M cy, .int .i64 u] 39)
  have zb5 := B5.size
  go_wp2_with fail
  refine (l5Bent (w4.alloc (.cells #[.slice X L cx, .slice Y M cy, .int .i64 u] 39)) (w.heap.size + 1 + 1) (w.heap.size + 1 + 1) A m c k4 l s5 (by omega)).mono ?_
  rintro e w6 ⟨a0, a1, a2, a3, a4, a5, a6, rfl, ⟨k6, hk6, s6⟩, hw6⟩
  have zs6 : w4.heap.size + 1 ≤ w6.heap.size := by have q := hw6.size; first | exact q | (simp; done) | (simp at q; exact q) | (simp at q ⊢; omega)
  have r_6 := r_5.within hw6 (by first | omega | (simp; omega))
  have r2_6 := r2_5.within hw6 (by first | omega | (simp; omega))
  have x_6 := x.within hw6 (by first | omega | (simp; omega))
  have os_6 := os_5.within hw6 os_5.lt (.inr g3)
  have oh_6 := oh_5.within hw6 oh_5.lt (.inr g3)
  have B6 := hw6.below B5 B5.size (by first | exact Nat.le_refl _ | omega | (simp; done))
  have zb6 := B6.size
  have g6 := s6.at_.lt
  have y := At.newAt' (w := w6) (t := 27) (cs := #[.int .i64 a0, .int .i64 a1, .int .i64 a2, .int .i64 a3, .int .i64 a4, .int .i64 a5, .int .i64 a6]) (show w6.heap.size = w6.heap.size by first | rfl | simp)
  have ln7_r : w.heap.size < w6.heap.size := by have q := r_6.lt; first | exact q | (simp; done) | (simp at q; exact q) | (simp at q ⊢; omega)
  have hn7_r : ¬ w.heap.size = w6.heap.size := by omega
  have hm7_r : ¬ w6.heap.size = w.heap.size := by omega
  have ln7_r2 : w.heap.size + 1 < w6.heap.size := by have q := r2_6.lt; first | exact q | (simp; done) | (simp at q; exact q) | (simp at q ⊢; omega)
  have hn7_r2 : ¬ w.heap.size + 1 = w6.heap.size := by omega
  have hm7_r2 : ¬ w6.heap.size = w.heap.size + 1 := by omega
  have ln7_x : w4.heap.size < w6.heap.size := by have q := x_6.lt; first | exact q | (simp; done) | (simp at q; exact q) | (simp at q ⊢; omega)
  have hn7_x : ¬ w4.heap.size = w6.heap.size := by omega
  have hm7_x : ¬ w6.heap.size = w4.heap.size := by omega
  have r_7 := r_6.alloc (.cells #[.int .i64 a0, .int .i64 a1, .int .i64 a2, .int .i64 a3, .int .i64 a4, .int .i64 a5, .int .i64 a6] 27)
  have r2_7 := r2_6.alloc (.cells #[.int .i64 a0, .int .i64 a1, .int .i64 a2, .int .i64 a3, .int .i64 a4, .int .i64 a5, .int .i64 a6] 27)
  have x_7 := x_6.alloc (.cells #[.int .i64 a0, .int .i64 a1, .int .i64 a2, .int .i64 a3, .int .i64 a4, .int .i64 a5, .int .i64 a6] 27)
  have os_7 := os_6.alloc (.cells #[.int .i64 a0, .int .i64 a1, .int .i64 a2, .int .i64 a3, .int .i64 a4, .int .i64 a5, .int .i64 a6] 27)
  have oh_7 := oh_6.alloc (.cells #[.int .i64 a0, .int .i64 a1, .int .i64 a2, .int .i64 a3, .int .i64 a4, .int .i64 a5, .int .i64 a6] 27)
  have s7 := s6.alloc (.cells #[.int .i64 a0, .int .i64 a1, .int .i64 a2, .int .i64 a3, .int .i64 a4, .int .i64 a5, .int .i64 a6] 27)
  have g7 := s7.at_.lt
  have B7 := B6.alloc B6.size (.cells #[.int .i64 a0, .int .i64 a1, .int .i64 a2, .int .i64 a3, .int .i64 a4, .int .i64 a5, .int .i64 a6] 27)
  have zb7 := B7.size
  by_cases h0 : 0 < M
  rotate_left
  · have h0i : ¬ (0 : Int) < (M : Int) := by omega
    have xc0 : World.cell? (w6.alloc (.cells #[.int .i64 a0, .int .i64 a1, .int .i64 a2, .int .i64 a3, .int .i64 a4, .int .i64 a5, .int .i64 a6] 27)) ⟨w4.heap.size, 0, none⟩ = some (.slice X L cx) := x_7.cell 0
    have xc1 : World.cell? (w6.alloc (.cells #[.int .i64 a0, .int .i64 a1, .int .i64 a2, .int .i64 a3, .int .i64 a4, .int .i64 a5, .int .i64 a6] 27)) ⟨w4.heap.size, 1, none⟩ = some (.slice Y M cy) := x_7.cell 1
    have xc2 : World.cell? (w6.alloc (.cells #[.int .i64 a0, .int .i64 a1, .int .i64 a2, .int .i64 a3, .int .i64 a4, .int .i64 a5, .int .i64 a6] 27)) ⟨w4.heap.size, 2, none⟩ = some (.int .i64 u) := x_7.cell 2
    go_wp2_with fail
    generalize (w6.alloc (.cells #[.int .i64 a0, .int .i64 a1, .int .i64 a2, .int .i64 a3, .int .i64 a4, .int .i64 a5, .int .i64 a6] 27)) = wG8 at *
    have pc0 : World.cell? wG8 ⟨w.heap.size, 0, none⟩ = some (.slice none 0 0) := r_7.cell 0
    have pc1 : World.cell? wG8 ⟨w.heap.size, 1, none⟩ = some (.slice none 0 0) := r_7.cell 1
    have pc2 : World.cell? wG8 ⟨w.heap.size, 2, none⟩ = some (.int .i64 0) := r_7.cell 2
    have pf0 : World.frozen? wG8 ⟨w.heap.size, 0, none⟩ = false := r_7.frozen 0
    have pf1 : World.frozen? wG8 ⟨w.heap.size, 1, none⟩ = false := r_7.frozen 1
    have pf2 : World.frozen? wG8 ⟨w.heap.size, 2, none⟩ = false := r_7.frozen 2
    have qc0 : World.cell? wG8 ⟨w.heap.size + 1, 0, none⟩ = some (.int .i64 0) := r2_7.cell 0
    have qc1 : World.cell? wG8 ⟨w.heap.size + 1, 1, none⟩ = some (.int .i64 0) := r2_7.cell 1
    have qc2 : World.cell? wG8 ⟨w.heap.size + 1, 2, none⟩ = some (.int .i64 0) := r2_7.cell 2
    have qc3 : World.cell? wG8 ⟨w.heap.size + 1, 3, none⟩ = some (.int .i64 0) := r2_7.cell 3
    have qc4 : World.cell? wG8 ⟨w.heap.size + 1, 4, none⟩ = some (.int .i64 0) := r2_7.cell 4
    have qc5 : World.cell? wG8 ⟨w.heap.size + 1, 5, none⟩ = some (.int .i64 0) := r2_7.cell 5
    have qc6 : World.cell? wG8 ⟨w.heap.size + 1, 6, none⟩ = some (.int .i64 0) := r2_7.cell 6
    have qf0 : World.frozen? wG8 ⟨w.heap.size + 1, 0, none⟩ = false := r2_7.frozen 0
    have qf1 : World.frozen? wG8 ⟨w.heap.size + 1, 1, none⟩ = false := r2_7.frozen 1
    have qf2 : World.frozen? wG8 ⟨w.heap.size + 1, 2, none⟩ = false := r2_7.frozen 2
    have qf3 : World.frozen? wG8 ⟨w.heap.size + 1, 3, none⟩ = false := r2_7.frozen 3
    have qf4 : World.frozen? wG8 ⟨w.heap.size + 1, 4, none⟩ = false := r2_7.frozen 4
    have qf5 : World.frozen? wG8 ⟨w.heap.size + 1, 5, none⟩ = false := r2_7.frozen 5
    have qf6 : World.frozen? wG8 ⟨w.heap.size + 1, 6, none⟩ = false := r2_7.frozen 6
    refine wp_region_mix [(0, false), (1, false), (2, true), (3, true)] (fun v => At2 v (w4.heap.size) 39 #[.slice X L cx, .slice Y M cy, .int .i64 u] (w6.heap.size) 27 #[.int .i64 a0, .int .i64 a1, .int .i64 a2, .int .i64 a3, .int .i64 a4, .int .i64 a5, .int .i64 a6]) (by kernel_rfl) (by kernel_rfl) (fun _ _ _ _ _ h => h) (At2.drew ⟨x_7, y⟩) ?_
    simp only [mixOps, List.map_cons, List.map_nil, List.getElem?_cons_succ, List.getElem?_cons_zero, Option.getD_some]
    refine mix_pure (v := ?_) (by rfl) (fun v hu => ?_) ?_
    rotate_left
    · (obtain ⟨hu1, hu2⟩ := hu
       obtain ⟨_, _, _, _, _, _⟩ := At.three hu1
       obtain ⟨_, _, _, _, _, _, _⟩ := At.seven hu2)
      go_simp
      (with_reducible rfl)
    (try simp only [Act.put, List.setIfInBounds_toArray, List.set_cons_zero, List.set_cons_succ])
    refine mix_pure (v := ?_) (by rfl) (fun v hu => ?_) ?_
    rotate_left
    · (obtain ⟨hu1, hu2⟩ := hu
       obtain ⟨_, _, _, _, _, _⟩ := At.three hu1
       obtain ⟨_, _, _, _, _, _, _⟩ := At.seven hu2)
      go_simp
      (with_reducible rfl)
    (try simp only [Act.put, List.setIfInBounds_toArray, List.set_cons_zero, List.set_cons_succ])
    have r2_9 := r2_7.far (p := ⟨w.heap.size, 0, none⟩) (by show _ ≠ w.heap.size; first | omega | (simp; omega)) (.slice X L cx)
    have x_9 := x_7.far (p := ⟨w.heap.size, 0, none⟩) (by show _ ≠ w.heap.size; first | omega | (simp; omega)) (.slice X L cx)
    have y_9 := y.far (p := ⟨w.heap.size, 0, none⟩) (by show _ ≠ w.heap.size; first | omega | (simp; omega)) (.slice X L cx)
    have os_9 := os_7.apart (by decide) r_7 0 (.slice X L cx)
    have oh_9 := oh_7.apart (by decide) r_7 0 (.slice X L cx)
    have B9 := B7.setCell (p := ⟨w.heap.size, 0, none⟩) (by show _ ≤ w.heap.size; first | exact Nat.le_refl _ | omega | (simp; omega)) (.slice X L cx)
    have r_9 := r_7.set 0 (.slice X L cx)
    have r2_10 := r2_9.far (p := ⟨w.heap.size, 1, none⟩) (by show _ ≠ w.heap.size; first | omega | (simp; omega)) (.slice Y M cy)
    have x_10 := x_9.far (p := ⟨w.heap.size, 1, none⟩) (by show _ ≠ w.heap.size; first | omega | (simp; omega)) (.slice Y M cy)
    have y_10 := y_9.far (p := ⟨w.heap.size, 1, none⟩) (by show _ ≠ w.heap.size; first | omega | (simp; omega)) (.slice Y M cy)
    have os_10 := os_9.apart (by decide) r_9 1 (.slice Y M cy)
    have oh_10 := oh_9.apart (by decide) r_9 1 (.slice Y M cy)
    have B10 := B9.setCell (p := ⟨w.heap.size, 1, none⟩) (by show _ ≤ w.heap.size; first | exact Nat.le_refl _ | omega | (simp; omega)) (.slice Y M cy)
    have r_10 := r_9.set 1 (.slice Y M cy)
    have r2_11 := r2_10.far (p := ⟨w.heap.size, 2, none⟩) (by show _ ≠ w.heap.size; first | omega | (simp; omega)) (.int .i64 u)
    have x_11 := x_10.far (p := ⟨w.heap.size, 2, none⟩) (by show _ ≠ w.heap.size; first | omega | (simp; omega)) (.int .i64 u)
    have y_11 := y_10.far (p := ⟨w.heap.size, 2, none⟩) (by show _ ≠ w.heap.size; first | omega | (simp; omega)) (.int .i64 u)
    have os_11 := os_10.apart (by decide) r_10 2 (.int .i64 u)
    have oh_11 := oh_10.apart (by decide) r_10 2 (.int .i64 u)
    have B11 := B10.setCell (p := ⟨w.heap.size, 2, none⟩) (by show _ ≤ w.heap.size; first | exact Nat.le_refl _ | omega | (simp; omega)) (.int .i64 u)
    have r_11 := r_10.set 2 (.int .i64 u)
    refine mix_call (by rfl) (fun K hK => ?_)
    go_simp
    refine hK _ _ (fun v => At2 v (w4.heap.size) 39 #[.slice X L cx, .slice Y M cy, .int .i64 u] (w6.heap.size) 27 #[.int .i64 a0, .int .i64 a1, .int .i64 a2, .int .i64 a3, .int .i64 a4, .int .i64 a5, .int .i64 a6]) (fun _ h => h) (At2.drew ⟨x_11, y_11⟩) ?_
    clear hK K
    (try simp only [Act.put, List.setIfInBounds_toArray, List.set_cons_zero, List.set_cons_succ])
    have r_12 := r_11.far (p := ⟨w.heap.size + 1, 0, none⟩) (by show _ ≠ w.heap.size + 1; first | omega | (simp; omega)) (.int .i64 a0)
    have x_12 := x_11.far (p := ⟨w.heap.size + 1, 0, none⟩) (by show _ ≠ w.heap.size + 1; first | omega | (simp; omega)) (.int .i64 a0)
    have y_12 := y_11.far (p := ⟨w.heap.size + 1, 0, none⟩) (by show _ ≠ w.heap.size + 1; first | omega | (simp; omega)) (.int .i64 a0)
    have os_12 := os_11.apart (by decide) r2_11 0 (.int .i64 a0)
    have oh_12 := oh_11.apart (by decide) r2_11 0 (.int .i64 a0)
    have B12 := B11.setCell (p := ⟨w.heap.size + 1, 0, none⟩) (by show _ ≤ w.heap.size + 1; first | exact Nat.le_refl _ | omega | (simp; omega)) (.int .i64 a0)
    have r2_12 := r2_11.set 0 (.int .i64 a0)
    have r_13 := r_12.far (p := ⟨w.heap.size + 1, 1, none⟩) (by show _ ≠ w.heap.size + 1; first | omega | (simp; omega)) (.int .i64 a1)
    have x_13 := x_12.far (p := ⟨w.heap.size + 1, 1, none⟩) (by show _ ≠ w.heap.size + 1; first | omega | (simp; omega)) (.int .i64 a1)
    have y_13 := y_12.far (p := ⟨w.heap.size + 1, 1, none⟩) (by show _ ≠ w.heap.size + 1; first | omega | (simp; omega)) (.int .i64 a1)
    have os_13 := os_12.apart (by decide) r2_12 1 (.int .i64 a1)
    have oh_13 := oh_12.apart (by decide) r2_12 1 (.int .i64 a1)
    have B13 := B12.setCell (p := ⟨w.heap.size + 1, 1, none⟩) (by show _ ≤ w.heap.size + 1; first | exact Nat.le_refl _ | omega | (simp; omega)) (.int .i64 a1)
    have r2_13 := r2_12.set 1 (.int .i64 a1)
    have r_14 := r_13.far (p := ⟨w.heap.size + 1, 2, none⟩) (by show _ ≠ w.heap.size + 1; first | omega | (simp; omega)) (.int .i64 a2)
    have x_14 := x_13.far (p := ⟨w.heap.size + 1, 2, none⟩) (by show _ ≠ w.heap.size + 1; first | omega | (simp; omega)) (.int .i64 a2)
    have y_14 := y_13.far (p := ⟨w.heap.size + 1, 2, none⟩) (by show _ ≠ w.heap.size + 1; first | omega | (simp; omega)) (.int .i64 a2)
    have os_14 := os_13.apart (by decide) r2_13 2 (.int .i64 a2)
    have oh_14 := oh_13.apart (by decide) r2_13 2 (.int .i64 a2)
    have B14 := B13.setCell (p := ⟨w.heap.size + 1, 2, none⟩) (by show _ ≤ w.heap.size + 1; first | exact Nat.le_refl _ | omega | (simp; omega)) (.int .i64 a2)
    have r2_14 := r2_13.set 2 (.int .i64 a2)
    have r_15 := r_14.far (p := ⟨w.heap.size + 1, 3, none⟩) (by show _ ≠ w.heap.size + 1; first | omega | (simp; omega)) (.int .i64 a3)
    have x_15 := x_14.far (p := ⟨w.heap.size + 1, 3, none⟩) (by show _ ≠ w.heap.size + 1; first | omega | (simp; omega)) (.int .i64 a3)
    have y_15 := y_14.far (p := ⟨w.heap.size + 1, 3, none⟩) (by show _ ≠ w.heap.size + 1; first | omega | (simp; omega)) (.int .i64 a3)
    have os_15 := os_14.apart (by decide) r2_14 3 (.int .i64 a3)
    have oh_15 := oh_14.apart (by decide) r2_14 3 (.int .i64 a3)
    have B15 := B14.setCell (p := ⟨w.heap.size + 1, 3, none⟩) (by show _ ≤ w.heap.size + 1; first | exact Nat.le_refl _ | omega | (simp; omega)) (.int .i64 a3)
    have r2_15 := r2_14.set 3 (.int .i64 a3)
    have r_16 := r_15.far (p := ⟨w.heap.size + 1, 4, none⟩) (by show _ ≠ w.heap.size + 1; first | omega | (simp; omega)) (.int .i64 a4)
    have x_16 := x_15.far (p := ⟨w.heap.size + 1, 4, none⟩) (by show _ ≠ w.heap.size + 1; first | omega | (simp; omega)) (.int .i64 a4)
    have y_16 := y_15.far (p := ⟨w.heap.size + 1, 4, none⟩) (by show _ ≠ w.heap.size + 1; first | omega | (simp; omega)) (.int .i64 a4)
    have os_16 := os_15.apart (by decide) r2_15 4 (.int .i64 a4)
    have oh_16 := oh_15.apart (by decide) r2_15 4 (.int .i64 a4)
    have B16 := B15.setCell (p := ⟨w.heap.size + 1, 4, none⟩) (by show _ ≤ w.heap.size + 1; first | exact Nat.le_refl _ | omega | (simp; omega)) (.int .i64 a4)
    have r2_16 := r2_15.set 4 (.int .i64 a4)
    have r_17 := r_16.far (p := ⟨w.heap.size + 1, 5, none⟩) (by show _ ≠ w.heap.size + 1; first | omega | (simp; omega)) (.int .i64 a5)
    have x_17 := x_16.far (p := ⟨w.heap.size + 1, 5, none⟩) (by show _ ≠ w.heap.size + 1; first | omega | (simp; omega)) (.int .i64 a5)
    have y_17 := y_16.far (p := ⟨w.heap.size + 1, 5, none⟩) (by show _ ≠ w.heap.size + 1; first | omega | (simp; omega)) (.int .i64 a5)
    have os_17 := os_16.apart (by decide) r2_16 5 (.int .i64 a5)
    have oh_17 := oh_16.apart (by decide) r2_16 5 (.int .i64 a5)
    have B17 := B16.setCell (p := ⟨w.heap.size + 1, 5, none⟩) (by show _ ≤ w.heap.size + 1; first | exact Nat.le_refl _ | omega | (simp; omega)) (.int .i64 a5)
    have r2_17 := r2_16.set 5 (.int .i64 a5)
    have r_18 := r_17.far (p := ⟨w.heap.size + 1, 6, none⟩) (by show _ ≠ w.heap.size + 1; first | omega | (simp; omega)) (.int .i64 a6)
    have x_18 := x_17.far (p := ⟨w.heap.size + 1, 6, none⟩) (by show _ ≠ w.heap.size + 1; first | omega | (simp; omega)) (.int .i64 a6)
    have y_18 := y_17.far (p := ⟨w.heap.size + 1, 6, none⟩) (by show _ ≠ w.heap.size + 1; first | omega | (simp; omega)) (.int .i64 a6)
    have os_18 := os_17.apart (by decide) r2_17 6 (.int .i64 a6)
    have oh_18 := oh_17.apart (by decide) r2_17 6 (.int .i64 a6)
    have B18 := B17.setCell (p := ⟨w.heap.size + 1, 6, none⟩) (by show _ ≤ w.heap.size + 1; first | exact Nat.le_refl _ | omega | (simp; omega)) (.int .i64 a6)
    have r2_18 := r2_17.set 6 (.int .i64 a6)
    refine mix_call (by rfl) (fun K hK => ?_)
    go_simp
    refine hK _ _ (fun v => At2 v (w4.heap.size) 39 #[.slice X L cx, .slice Y M cy, .int .i64 u] (w6.heap.size) 27 #[.int .i64 a0, .int .i64 a1, .int .i64 a2, .int .i64 a3, .int .i64 a4, .int .i64 a5, .int .i64 a6]) (fun _ h => h) (At2.drew ⟨x_18, y_18⟩) ?_
    clear hK K
    (try simp only [Act.put, List.setIfInBounds_toArray, List.set_cons_zero, List.set_cons_succ])
    refine mix_nil ?_
    go_wp2
    refine bodyPost_ret (v := .tuple #[.agg #[.slice X L cx, .slice Y M cy, .int .i64 u], .agg #[.int .i64 a0, .int .i64 a1, .int .i64 a2, .int .i64 a3, .int .i64 a4, .int .i64 a5, .int .i64 a6]]) (by simp [results, Tryz.results11, go_sem, pc0, pc1, pc2, qc0, qc1, qc2, qc3, qc4, qc5, qc6, hn2_r, hm2_r, hn5_r, hm5_r, hn5_r2, hm5_r2, hn7_r, hm7_r, hn7_r2, hm7_r2, hn7_x, hm7_x]) rfl ?_
    exact ⟨X, L, cx, xs, Y, M, cy, ys, u, _, _, _, _, _, _, _, rfl, hL, hM, (Ow.drewN (Ow.from_ (base' := w.heap.size) os_18 (by first | omega | (simp; omega))) 1), (Ow.drewN (Ow.from_ (base' := w.heap.size) oh_18 (by first | omega | (simp; omega))) 1), B18.drew⟩
  have h0i : (0 : Int) < (M : Int) := by omega
  obtain ⟨gH, rfl, lgH, lgH'⟩ := oh_7.form h0
  have xc0 : World.cell? (w6.alloc (.cells #[.int .i64 a0, .int .i64 a1, .int .i64 a2, .int .i64 a3, .int .i64 a4, .int .i64 a5, .int .i64 a6] 27)) ⟨w4.heap.size, 0, none⟩ = some (.slice X L cx) := x_7.cell 0
  have xc1 : World.cell? (w6.alloc (.cells #[.int .i64 a0, .int .i64 a1, .int .i64 a2, .int .i64 a3, .int .i64 a4, .int .i64 a5, .int .i64 a6] 27)) ⟨w4.heap.size, 1, none⟩ = some (.slice (some ⟨gH, 0, none⟩) M cy) := x_7.cell 1
  have xc2 : World.cell? (w6.alloc (.cells #[.int .i64 a0, .int .i64 a1, .int .i64 a2, .int .i64 a3, .int .i64 a4, .int .i64 a5, .int .i64 a6] 27)) ⟨w4.heap.size, 2, none⟩ = some (.int .i64 u) := x_7.cell 2
  go_wp2_with fail
  refine (l1Chance (w6.alloc (.cells #[.int .i64 a0, .int .i64 a1, .int .i64 a2, .int .i64 a3, .int .i64 a4, .int .i64 a5, .int .i64 a6] 27)) (w.heap.size + 1 + 1) (w.heap.size + 1 + 1) A m c k6 l 4 s7 (by omega) (by omega)).mono ?_
  rintro e w8 ⟨b, rfl, s8, hw8, -⟩
  have zs8 : w6.heap.size + 1 ≤ w8.heap.size := by have q := hw8.size; first | exact q | (simp; done) | (simp at q; exact q) | (simp at q ⊢; omega)
  have r_8 := r_7.within hw8 (by first | omega | (simp; omega))
  have r2_8 := r2_7.within hw8 (by first | omega | (simp; omega))
  have x_8 := x_7.within hw8 (by first | omega | (simp; omega))
  have y_8 := y.within hw8 (by first | omega | (simp; omega))
  have os_8 := os_7.within hw8 os_7.lt (.inr g3)
  have oh_8 := oh_7.within hw8 oh_7.lt (.inr g3)
  have B8 := hw8.below B7 B7.size (by first | exact Nat.le_refl _ | omega | (simp; done))
  have zb8 := B8.size
  have g8 := s8.at_.lt
  cases b
  · go_wp2_with fail
    have pc0 : World.cell? w8 ⟨w.heap.size, 0, none⟩ = some (.slice none 0 0) := r_8.cell 0
    have pc1 : World.cell? w8 ⟨w.heap.size, 1, none⟩ = some (.slice none 0 0) := r_8.cell 1
    have pc2 : World.cell? w8 ⟨w.heap.size, 2, none⟩ = some (.int .i64 0) := r_8.cell 2
    have pf0 : World.frozen? w8 ⟨w.heap.size, 0, none⟩ = false := r_8.frozen 0
    have pf1 : World.frozen? w8 ⟨w.heap.size, 1, none⟩ = false := r_8.frozen 1
    have pf2 : World.frozen? w8 ⟨w.heap.size, 2, none⟩ = false := r_8.frozen 2
    have qc0 : World.cell? w8 ⟨w.heap.size + 1, 0, none⟩ = some (.int .i64 0) := r2_8.cell 0
    have qc1 : World.cell? w8 ⟨w.heap.size + 1, 1, none⟩ = some (.int .i64 0) := r2_8.cell 1
    have qc2 : World.cell? w8 ⟨w.heap.size + 1, 2, none⟩ = some (.int .i64 0) := r2_8.cell 2
    have qc3 : World.cell? w8 ⟨w.heap.size + 1, 3, none⟩ = some (.int .i64 0) := r2_8.cell 3
    have qc4 : World.cell? w8 ⟨w.heap.size + 1, 4, none⟩ = some (.int .i64 0) := r2_8.cell 4
    have qc5 : World.cell? w8 ⟨w.heap.size + 1, 5, none⟩ = some (.int .i64 0) := r2_8.cell 5
    have qc6 : World.cell? w8 ⟨w.heap.size + 1, 6, none⟩ = some (.int .i64 0) := r2_8.cell 6
    have qf0 : World.frozen? w8 ⟨w.heap.size + 1, 0, none⟩ = false := r2_8.frozen 0
    have qf1 : World.frozen? w8 ⟨w.heap.size + 1, 1, none⟩ = false := r2_8.frozen 1
    have qf2 : World.frozen? w8 ⟨w.heap.size + 1, 2, none⟩ = false := r2_8.frozen 2
    have qf3 : World.frozen? w8 ⟨w.heap.size + 1, 3, none⟩ = false := r2_8.frozen 3
    have qf4 : World.frozen? w8 ⟨w.heap.size + 1, 4, none⟩ = false := r2_8.frozen 4
    have qf5 : World.frozen? w8 ⟨w.heap.size + 1, 5, none⟩ = false := r2_8.frozen 5
    have qf6 : World.frozen? w8 ⟨w.heap.size + 1, 6, none⟩ = false := r2_8.frozen 6
    refine wp_region_mix [(0, false), (1, false), (2, true), (3, true)] (fun v => At2 v (w4.heap.size) 39 #[.slice X L cx, .slice (some ⟨gH, 0, none⟩) M cy, .int .i64 u] (w6.heap.size) 27 #[.int .i64 a0, .int .i64 a1, .int .i64 a2, .int .i64 a3, .int .i64 a4, .int .i64 a5, .int .i64 a6]) (by kernel_rfl) (by kernel_rfl) (fun _ _ _ _ _ h => h) (At2.drew ⟨x_8, y_8⟩) ?_
    simp only [mixOps, List.map_cons, List.map_nil, List.getElem?_cons_succ, List.getElem?_cons_zero, Option.getD_some]
    refine mix_pure (v := ?_) (by rfl) (fun v hu => ?_) ?_
    rotate_left
    · (obtain ⟨hu1, hu2⟩ := hu
       obtain ⟨_, _, _, _, _, _⟩ := At.three hu1
       obtain ⟨_, _, _, _, _, _, _⟩ := At.seven hu2)
      go_simp
      (with_reducible rfl)
    (try simp only [Act.put, List.setIfInBounds_toArray, List.set_cons_zero, List.set_cons_succ])
    refine mix_pure (v := ?_) (by rfl) (fun v hu => ?_) ?_
    rotate_left
    · (obtain ⟨hu1, hu2⟩ := hu
       obtain ⟨_, _, _, _, _, _⟩ := At.three hu1
       obtain ⟨_, _, _, _, _, _, _⟩ := At.seven hu2)
      go_simp
      (with_reducible rfl)
    (try simp only [Act.put, List.setIfInBounds_toArray, List.set_cons_zero, List.set_cons_succ])
    have r2_9 := r2_8.far (p := ⟨w.heap.size, 0, none⟩) (by show _ ≠ w.heap.size; first | omega | (simp; omega)) (.slice X L cx)
    have x_9 := x_8.far (p := ⟨w.heap.size, 0, none⟩) (by show _ ≠ w.heap.size; first | omega | (simp; omega)) (.slice X L cx)
    have y_9 := y_8.far (p := ⟨w.heap.size, 0, none⟩) (by show _ ≠ w.heap.size; first | omega | (simp; omega)) (.slice X L cx)
    have os_9 := os_8.apart (by decide) r_8 0 (.slice X L cx)
    have oh_9 := oh_8.apart (by decide) r_8 0 (.slice X L cx)
    have B9 := B8.setCell (p := ⟨w.heap.size, 0, none⟩) (by show _ ≤ w.heap.size; first | exact Nat.le_refl _ | omega | (simp; omega)) (.slice X L cx)
    have r_9 := r_8.set 0 (.slice X L cx)
    have r2_10 := r2_9.far (p := ⟨w.heap.size, 1, none⟩) (by show _ ≠ w.heap.size; first | omega | (simp; omega)) (.slice (some ⟨gH, 0, none⟩) M cy)
    have x_10 := x_9.far (p := ⟨w.heap.size, 1, none⟩) (by show _ ≠ w.heap.size; first | omega | (simp; omega)) (.slice (some ⟨gH, 0, none⟩) M cy)
    have y_10 := y_9.far (p := ⟨w.heap.size, 1, none⟩) (by show _ ≠ w.heap.size; first | omega | (simp; omega)) (.slice (some ⟨gH, 0, none⟩) M cy)
    have os_10 := os_9.apart (by decide) r_9 1 (.slice (some ⟨gH, 0, none⟩) M cy)
    have oh_10 := oh_9.apart (by decide) r_9 1 (.slice (some ⟨gH, 0, none⟩) M cy)
    have B10 := B9.setCell (p := ⟨w.heap.size, 1, none⟩) (by show _ ≤ w.heap.size; first | exact Nat.le_refl _ | omega | (simp; omega)) (.slice (some ⟨gH, 0, none⟩) M cy)
    have r_10 := r_9.set 1 (.slice (some ⟨gH, 0, none⟩) M cy)
    have r2_11 := r2_10.far (p := ⟨w.heap.size, 2, none⟩) (by show _ ≠ w.heap.size; first | omega | (simp; omega)) (.int .i64 u)
    have x_11 := x_10.far (p := ⟨w.heap.size, 2, none⟩) (by show _ ≠ w.heap.size; first | omega | (simp; omega)) (.int .i64 u)
    have y_11 := y_10.far (p := ⟨w.heap.size, 2, none⟩) (by show _ ≠ w.heap.size; first | omega | (simp; omega)) (.int .i64 u)
    have os_11 := os_10.apart (by decide) r_10 2 (.int .i64 u)
    have oh_11 := oh_10.apart (by decide) r_10 2 (.int .i64 u)
    have B11 := B10.setCell (p := ⟨w.heap.size, 2, none⟩) (by show _ ≤ w.heap.size; first | exact Nat.le_refl _ | omega | (simp; omega)) (.int .i64 u)
    have r_11 := r_10.set 2 (.int .i64 u)
    refine mix_call (by rfl) (fun K hK => ?_)
    go_simp
    refine hK _ _ (fun v => At2 v (w4.heap.size) 39 #[.slice X L cx, .slice (some ⟨gH, 0, none⟩) M cy, .int .i64 u] (w6.heap.size) 27 #[.int .i64 a0, .int .i64 a1, .int .i64 a2, .int .i64 a3, .int .i64 a4, .int .i64 a5, .int .i64 a6]) (fun _ h => h) (At2.drew ⟨x_11, y_11⟩) ?_
    clear hK K
    (try simp only [Act.put, List.setIfInBounds_toArray, List.set_cons_zero, List.set_cons_succ])
    have r_12 := r_11.far (p := ⟨w.heap.size + 1, 0, none⟩) (by show _ ≠ w.heap.size + 1; first | omega | (simp; omega)) (.int .i64 a0)
    have x_12 := x_11.far (p := ⟨w.heap.size + 1, 0, none⟩) (by show _ ≠ w.heap.size + 1; first | omega | (simp; omega)) (.int .i64 a0)
    have y_12 := y_11.far (p := ⟨w.heap.size + 1, 0, none⟩) (by show _ ≠ w.heap.size + 1; first | omega | (simp; omega)) (.int .i64 a0)
    have os_12 := os_11.apart (by decide) r2_11 0 (.int .i64 a0)
    have oh_12 := oh_11.apart (by decide) r2_11 0 (.int .i64 a0)
    have B12 := B11.setCell (p := ⟨w.heap.size + 1, 0, none⟩) (by show _ ≤ w.heap.size + 1; first | exact Nat.le_refl _ | omega | (simp; omega)) (.int .i64 a0)
    have r2_12 := r2_11.set 0 (.int .i64 a0)
    have r_13 := r_12.far (p := ⟨w.heap.size + 1, 1, none⟩) (by show _ ≠ w.heap.size + 1; first | omega | (simp; omega)) (.int .i64 a1)
    have x_13 := x_12.far (p := ⟨w.heap.size + 1, 1, none⟩) (by show _ ≠ w.heap.size + 1; first | omega | (simp; omega)) (.int .i64 a1)
    have y_13 := y_12.far (p := ⟨w.heap.size + 1, 1, none⟩) (by show _ ≠ w.heap.size + 1; first | omega | (simp; omega)) (.int .i64 a1)
    have os_13 := os_12.apart (by decide) r2_12 1 (.int .i64 a1)
    have oh_13 := oh_12.apart (by decide) r2_12 1 (.int .i64 a1)
    have B13 := B12.setCell (p := ⟨w.heap.size + 1, 1, none⟩) (by show _ ≤ w.heap.size + 1; first | exact Nat.le_refl _ | omega | (simp; omega)) (.int .i64 a1)
    have r2_13 := r2_12.set 1 (.int .i64 a1)
    have r_14 := r_13.far (p := ⟨w.heap.size + 1, 2, none⟩) (by show _ ≠ w.heap.size + 1; first | omega | (simp; omega)) (.int .i64 a2)
    have x_14 := x_13.far (p := ⟨w.heap.size + 1, 2, none⟩) (by show _ ≠ w.heap.size + 1; first | omega | (simp; omega)) (.int .i64 a2)
    have y_14 := y_13.far (p := ⟨w.heap.size + 1, 2, none⟩) (by show _ ≠ w.heap.size + 1; first | omega | (simp; omega)) (.int .i64 a2)
    have os_14 := os_13.apart (by decide) r2_13 2 (.int .i64 a2)
    have oh_14 := oh_13.apart (by decide) r2_13 2 (.int .i64 a2)
    have B14 := B13.setCell (p := ⟨w.heap.size + 1, 2, none⟩) (by show _ ≤ w.heap.size + 1; first | exact Nat.le_refl _ | omega | (simp; omega)) (.int .i64 a2)
    have r2_14 := r2_13.set 2 (.int .i64 a2)
    have r_15 := r_14.far (p := ⟨w.heap.size + 1, 3, none⟩) (by show _ ≠ w.heap.size + 1; first | omega | (simp; omega)) (.int .i64 a3)
    have x_15 := x_14.far (p := ⟨w.heap.size + 1, 3, none⟩) (by show _ ≠ w.heap.size + 1; first | omega | (simp; omega)) (.int .i64 a3)
    have y_15 := y_14.far (p := ⟨w.heap.size + 1, 3, none⟩) (by show _ ≠ w.heap.size + 1; first | omega | (simp; omega)) (.int .i64 a3)
    have os_15 := os_14.apart (by decide) r2_14 3 (.int .i64 a3)
    have oh_15 := oh_14.apart (by decide) r2_14 3 (.int .i64 a3)
    have B15 := B14.setCell (p := ⟨w.heap.size + 1, 3, none⟩) (by show _ ≤ w.heap.size + 1; first | exact Nat.le_refl _ | omega | (simp; omega)) (.int .i64 a3)
    have r2_15 := r2_14.set 3 (.int .i64 a3)
    have r_16 := r_15.far (p := ⟨w.heap.size + 1, 4, none⟩) (by show _ ≠ w.heap.size + 1; first | omega | (simp; omega)) (.int .i64 a4)
    have x_16 := x_15.far (p := ⟨w.heap.size + 1, 4, none⟩) (by show _ ≠ w.heap.size + 1; first | omega | (simp; omega)) (.int .i64 a4)
    have y_16 := y_15.far (p := ⟨w.heap.size + 1, 4, none⟩) (by show _ ≠ w.heap.size + 1; first | omega | (simp; omega)) (.int .i64 a4)
    have os_16 := os_15.apart (by decide) r2_15 4 (.int .i64 a4)
    have oh_16 := oh_15.apart (by decide) r2_15 4 (.int .i64 a4)
    have B16 := B15.setCell (p := ⟨w.heap.size + 1, 4, none⟩) (by show _ ≤ w.heap.size + 1; first | exact Nat.le_refl _ | omega | (simp; omega)) (.int .i64 a4)
    have r2_16 := r2_15.set 4 (.int .i64 a4)
    have r_17 := r_16.far (p := ⟨w.heap.size + 1, 5, none⟩) (by show _ ≠ w.heap.size + 1; first | omega | (simp; omega)) (.int .i64 a5)
    have x_17 := x_16.far (p := ⟨w.heap.size + 1, 5, none⟩) (by show _ ≠ w.heap.size + 1; first | omega | (simp; omega)) (.int .i64 a5)
    have y_17 := y_16.far (p := ⟨w.heap.size + 1, 5, none⟩) (by show _ ≠ w.heap.size + 1; first | omega | (simp; omega)) (.int .i64 a5)
    have os_17 := os_16.apart (by decide) r2_16 5 (.int .i64 a5)
    have oh_17 := oh_16.apart (by decide) r2_16 5 (.int .i64 a5)
    have B17 := B16.setCell (p := ⟨w.heap.size + 1, 5, none⟩) (by show _ ≤ w.heap.size + 1; first | exact Nat.le_refl _ | omega | (simp; omega)) (.int .i64 a5)
    have r2_17 := r2_16.set 5 (.int .i64 a5)
    have r_18 := r_17.far (p := ⟨w.heap.size + 1, 6, none⟩) (by show _ ≠ w.heap.size + 1; first | omega | (simp; omega)) (.int .i64 a6)
    have x_18 := x_17.far (p := ⟨w.heap.size + 1, 6, none⟩) (by show _ ≠ w.heap.size + 1; first | omega | (simp; omega)) (.int .i64 a6)
    have y_18 := y_17.far (p := ⟨w.heap.size + 1, 6, none⟩) (by show _ ≠ w.heap.size + 1; first | omega | (simp; omega)) (.int .i64 a6)
    have os_18 := os_17.apart (by decide) r2_17 6 (.int .i64 a6)
    have oh_18 := oh_17.apart (by decide) r2_17 6 (.int .i64 a6)
    have B18 := B17.setCell (p := ⟨w.heap.size + 1, 6, none⟩) (by show _ ≤ w.heap.size + 1; first | exact Nat.le_refl _ | omega | (simp; omega)) (.int .i64 a6)
    have r2_18 := r2_17.set 6 (.int .i64 a6)
    refine mix_call (by rfl) (fun K hK => ?_)
    go_simp
    refine hK _ _ (fun v => At2 v (w4.heap.size) 39 #[.slice X L cx, .slice (some ⟨gH, 0, none⟩) M cy, .int .i64 u] (w6.heap.size) 27 #[.int .i64 a0, .int .i64 a1, .int .i64 a2, .int .i64 a3, .int .i64 a4, .int .i64 a5, .int .i64 a6]) (fun _ h => h) (At2.drew ⟨x_18, y_18⟩) ?_
    clear hK K
    (try simp only [Act.put, List.setIfInBounds_toArray, List.set_cons_zero, List.set_cons_succ])
    refine mix_nil ?_
    go_wp2
    refine bodyPost_ret (v := .tuple #[.agg #[.slice X L cx, .slice (some ⟨gH, 0, none⟩) M cy, .int .i64 u], .agg #[.int .i64 a0, .int .i64 a1, .int .i64 a2, .int .i64 a3, .int .i64 a4, .int .i64 a5, .int .i64 a6]]) (by simp [results, Tryz.results11, go_sem, pc0, pc1, pc2, qc0, qc1, qc2, qc3, qc4, qc5, qc6, hn2_r, hm2_r, hn5_r, hm5_r, hn5_r2, hm5_r2, hn7_r, hm7_r, hn7_r2, hm7_r2, hn7_x, hm7_x]) rfl ?_
    exact ⟨X, L, cx, xs, (some ⟨gH, 0, none⟩), M, cy, ys, u, _, _, _, _, _, _, _, rfl, hL, hM, (Ow.drewN (Ow.from_ (base' := w.heap.size) os_18 (by first | omega | (simp; omega))) 1), (Ow.drewN (Ow.from_ (base' := w.heap.size) oh_18 (by first | omega | (simp; omega))) 1), B18.drew⟩
  · have zc0 : World.cell? w8 ⟨w4.heap.size, 0, none⟩ = some (.slice X L cx) := x_8.cell 0
    have zc1 : World.cell? w8 ⟨w4.heap.size, 1, none⟩ = some (.slice (some ⟨gH, 0, none⟩) M cy) := x_8.cell 1
    have zc2 : World.cell? w8 ⟨w4.heap.size, 2, none⟩ = some (.int .i64 u) := x_8.cell 2
    go_upto_region 6 with fail
    go_cut [8] (fun s wx => ∃ (gx : Nat) (y0 y1 y2 y3 y4 y5 y6 : Int), s = .pointer (some ⟨gx, 0, none⟩) ∧ At wx gx 75 #[.int .i64 y0, .int .i64 y1, .int .i64 y2, .int .i64 y3, .int .i64 y4, .int .i64 y5, .int .i64 y6] ∧ At wx (w4.heap.size) 39 #[.slice X L cx, .slice (some ⟨gH, 0, none⟩) M cy, .int .i64 u] ∧ At wx (w6.heap.size) 27 #[.int .i64 a0, .int .i64 a1, .int .i64 a2, .int .i64 a3, .int .i64 a4, .int .i64 a5, .int .i64 a6] ∧ At wx (w.heap.size) 39 #[.slice none 0 0, .slice none 0 0, .int .i64 0] ∧ At wx (w.heap.size + 1) 27 #[.int .i64 0, .int .i64 0, .int .i64 0, .int .i64 0, .int .i64 0, .int .i64 0, .int .i64 0] ∧ Ow eS wx (w3.heap.size) X L cx xs ∧ Ow eH wx (w3.heap.size) (some ⟨gH, 0, none⟩) M cy ys ∧ Below w.heap.size w wx)
    case first =>
      refine any_start (fun v => At v (w4.heap.size) 39 #[.slice X L cx, .slice (some ⟨gH, 0, none⟩) M cy, .int .i64 u]) (by kernel_rfl) x_8.drew (fun _ => ?_)
      have r_9 := r_8.drew
      have r2_9 := r2_8.drew
      have x_9 := x_8.drew
      have y_9 := y_8.drew
      have os_9 := os_8.drewN 1
      have oh_9 := oh_8.drewN 1
      have s9 := s8.drewS
      have B9 := B8.drew
      have zb9 := B9.size
      refine any_pure (v := ?_) 0 rfl (by kernel_rfl) (fun _ _ _ _ _ h => h) (by rfl) (fun v hu => ?_) x_9 ?_
      rotate_left
      · obtain ⟨_, _, _, _, _, _⟩ := At.three hu
        go_simp
        (with_reducible rfl)
      (try simp only [Act.put, List.setIfInBounds_toArray, List.set_cons_zero, List.set_cons_succ])
      refine any_pure (v := ?_) 1 rfl (by kernel_rfl) (fun _ _ _ _ _ h => h) (by rfl) (fun v hu => ?_) x_9 ?_
      rotate_left
      · obtain ⟨_, _, _, _, _, _⟩ := At.three hu
        go_simp
        (with_reducible rfl)
      (try simp only [Act.put, List.setIfInBounds_toArray, List.set_cons_zero, List.set_cons_succ])
      refine any_pure (v := ?_) 2 rfl (by kernel_rfl) (fun _ _ _ _ _ h => h) (by rfl) (fun v hu => ?_) x_9 ?_
      rotate_left
      · obtain ⟨_, _, _, _, _, _⟩ := At.three hu
        go_simp
        (with_reducible rfl)
      (try simp only [Act.put, List.setIfInBounds_toArray, List.set_cons_zero, List.set_cons_succ])
      refine any_pure (v := ?_) 3 rfl (by kernel_rfl) (fun _ _ _ _ _ h => h) (by rfl) (fun v hu => ?_) x_9 ?_
      rotate_left
      · obtain ⟨_, _, _, _, _, _⟩ := At.three hu
        go_simp
        (with_reducible rfl)
      (try simp only [Act.put, List.setIfInBounds_toArray, List.set_cons_zero, List.set_cons_succ])
      refine any_two 4 7 rfl rfl (by kernel_rfl) (by rfl) (by rfl) ?_ ?_
      · go_simp
        refine (l1Next w8.drew (w.heap.size + 1 + 1) (w.heap.size + 1 + 1) A m c (k6 + 1) l (M : Int) s9 (by omega) (by omega)).mono ?_
        rintro e w10 ⟨j0, rfl, hr10, -, s10, hw10, -⟩
        have zs10 : w8.heap.size ≤ w10.heap.size := by have q := hw10.size; first | exact q | (simp; done) | (simp at q; exact q) | (simp at q ⊢; omega)
        have r_10 := r_9.within hw10 (by first | omega | (simp; omega))
        have r2_10 := r2_9.within hw10 (by first | omega | (simp; omega))
        have x_10 := x_9.within hw10 (by first | omega | (simp; omega))
        have y_10 := y_9.within hw10 (by first | omega | (simp; omega))
        have os_10 := os_9.within hw10 os_9.lt (.inr g3)
        have oh_10 := oh_9.within hw10 oh_9.lt (.inr g3)
        have B10 := hw10.below B9 B9.size (by first | exact Nat.le_refl _ | omega | (simp; done))
        have zb10 := B10.size
        have g10 := s10.at_.lt
        obtain ⟨hr10a, hr10b⟩ := hr10 (by omega)
        obtain ⟨j, rfl⟩ := Int.eq_ofNat_of_zero_le hr10a
        have hj : j < M := by omega
        have hji : (j : Int) < (M : Int) := by omega
        have hjn : (0 : Int) ≤ (j : Int) := by omega
        clear hr10 hr10a hr10b
        have hyl := oh_10.len okH
        obtain ⟨⟨y0, ⟨y1, y2, y3, y4⟩, y5, y6⟩, hy⟩ : ∃ y, ys[j]? = some y := ⟨ys[j], List.getElem?_eq_getElem (by omega)⟩
        refine ⟨(fun v => At v (w4.heap.size) 39 #[.slice X L cx, .slice (some ⟨gH, 0, none⟩) M cy, .int .i64 u] ∧ S7 v gH (j * 7) y0 y1 y2 y3 y4 y5 y6), fun _ h => h.1, ⟨x_10, Ow.hntAt oh_10 hy⟩, ?_⟩
        (try simp only [Act.put, List.setIfInBounds_toArray, List.set_cons_zero, List.set_cons_succ])
        refine any_pure (v := ?_) 5 rfl (by kernel_rfl) (fun _ _ _ _ _ h => h) (by rfl) (fun v hu => ?_) ⟨x_10, Ow.hntAt oh_10 hy⟩ ?_
        rotate_left
        · skip
          go_simp
          (with_reducible rfl)
        (try simp only [Act.put, List.setIfInBounds_toArray, List.set_cons_zero, List.set_cons_succ])
        refine any_pure (v := ?_) 6 rfl (by kernel_rfl) (fun _ _ _ _ _ h => h) (by rfl) (fun v hu => ?_) ⟨x_10, Ow.hntAt oh_10 hy⟩ ?_
        rotate_left
        · (obtain ⟨_, d0, d1, d2, d3, d4, d5, d6⟩ := hu)
          go_simp
          (with_reducible rfl)
        (try simp only [Act.put, List.setIfInBounds_toArray, List.set_cons_zero, List.set_cons_succ])
        refine any_one 7 rfl (by kernel_rfl) (by rfl) ?_
        go_simp
        have hv := At.newAt' (w := w10) (t := 75) (cs := #[.int .i64 0, .int .i64 0, .int .i64 0, .int .i64 0, .int .i64 0, .int .i64 0, .int .i64 0]) (show w10.heap.size = w10.heap.size by first | rfl | simp)
        have ln11_r : w.heap.size < w10.heap.size := by have q := r_10.lt; first | exact q | (simp; done) | (simp at q; exact q) | (simp at q ⊢; omega)
        have hn11_r : ¬ w.heap.size = w10.heap.size := by omega
        have hm11_r : ¬ w10.heap.size = w.heap.size := by omega
        have ln11_r2 : w.heap.size + 1 < w10.heap.size := by have q := r2_10.lt; first | exact q | (simp; done) | (simp at q; exact q) | (simp at q ⊢; omega)
        have hn11_r2 : ¬ w.heap.size + 1 = w10.heap.size := by omega
        have hm11_r2 : ¬ w10.heap.size = w.heap.size + 1 := by omega
        have ln11_x : w4.heap.size < w10.heap.size := by have q := x_10.lt; first | exact q | (simp; done) | (simp at q; exact q) | (simp at q ⊢; omega)
        have hn11_x : ¬ w4.heap.size = w10.heap.size := by omega
        have hm11_x : ¬ w10.heap.size = w4.heap.size := by omega
        have ln11_y : w6.heap.size < w10.heap.size := by have q := y_10.lt; first | exact q | (simp; done) | (simp at q; exact q) | (simp at q ⊢; omega)
        have hn11_y : ¬ w6.heap.size = w10.heap.size := by omega
        have hm11_y : ¬ w10.heap.size = w6.heap.size := by omega
        have r_11 := r_10.alloc (.cells #[.int .i64 0, .int .i64 0, .int .i64 0, .int .i64 0, .int .i64 0, .int .i64 0, .int .i64 0] 75)
        have r2_11 := r2_10.alloc (.cells #[.int .i64 0, .int .i64 0, .int .i64 0, .int .i64 0, .int .i64 0, .int .i64 0, .int .i64 0] 75)
        have x_11 := x_10.alloc (.cells #[.int .i64 0, .int .i64 0, .int .i64 0, .int .i64 0, .int .i64 0, .int .i64 0, .int .i64 0] 75)
        have y_11 := y_10.alloc (.cells #[.int .i64 0, .int .i64 0, .int .i64 0, .int .i64 0, .int .i64 0, .int .i64 0, .int .i64 0] 75)
        have os_11 := os_10.alloc (.cells #[.int .i64 0, .int .i64 0, .int .i64 0, .int .i64 0, .int .i64 0, .int .i64 0, .int .i64 0] 75)
        have oh_11 := oh_10.alloc (.cells #[.int .i64 0, .int .i64 0, .int .i64 0, .int .i64 0, .int .i64 0, .int .i64 0, .int .i64 0] 75)
        have s11 := s10.alloc (.cells #[.int .i64 0, .int .i64 0, .int .i64 0, .int .i64 0, .int .i64 0, .int .i64 0, .int .i64 0] 75)
        have g11 := s11.at_.lt
        have B11 := B10.alloc B10.size (.cells #[.int .i64 0, .int .i64 0, .int .i64 0, .int .i64 0, .int .i64 0, .int .i64 0, .int .i64 0] 75)
        have zb11 := B11.size
        refine ⟨(fun v => At v (w4.heap.size) 39 #[.slice X L cx, .slice (some ⟨gH, 0, none⟩) M cy, .int .i64 u] ∧ S7 v gH (j * 7) y0 y1 y2 y3 y4 y5 y6), fun _ h => h, ⟨x_11, Ow.hntAt oh_11 hy⟩, ?_⟩
        (try simp only [Act.put, List.setIfInBounds_toArray, List.set_cons_zero, List.set_cons_succ])
        refine any_one 8 rfl (by kernel_rfl) (by rfl) ?_
        go_simp
        have hv' := At.newAt' (w := w10) (t := 75) (cs := #[.int .i64 y0, .int .i64 y1, .int .i64 y2, .int .i64 y3, .int .i64 y4, .int .i64 y5, .int .i64 y6]) (show w10.heap.size = w10.heap.size by first | rfl | simp)
        have ln32_r : w.heap.size < w10.heap.size := by have q := r_10.lt; first | exact q | (simp; done) | (simp at q; exact q) | (simp at q ⊢; omega)
        have hn32_r : ¬ w.heap.size = w10.heap.size := by omega
        have hm32_r : ¬ w10.heap.size = w.heap.size := by omega
        have ln32_r2 : w.heap.size + 1 < w10.heap.size := by have q := r2_10.lt; first | exact q | (simp; done) | (simp at q; exact q) | (simp at q ⊢; omega)
        have hn32_r2 : ¬ w.heap.size + 1 = w10.heap.size := by omega
        have hm32_r2 : ¬ w10.heap.size = w.heap.size + 1 := by omega
        have ln32_x : w4.heap.size < w10.heap.size := by have q := x_10.lt; first | exact q | (simp; done) | (simp at q; exact q) | (simp at q ⊢; omega)
        have hn32_x : ¬ w4.heap.size = w10.heap.size := by omega
        have hm32_x : ¬ w10.heap.size = w4.heap.size := by omega
        have ln32_y : w6.heap.size < w10.heap.size := by have q := y_10.lt; first | exact q | (simp; done) | (simp at q; exact q) | (simp at q ⊢; omega)
        have hn32_y : ¬ w6.heap.size = w10.heap.size := by omega
        have hm32_y : ¬ w10.heap.size = w6.heap.size := by omega
        have r_32 := r_10.alloc (.cells #[.int .i64 y0, .int .i64 y1, .int .i64 y2, .int .i64 y3, .int .i64 y4, .int .i64 y5, .int .i64 y6] 75)
        have r2_32 := r2_10.alloc (.cells #[.int .i64 y0, .int .i64 y1, .int .i64 y2, .int .i64 y3, .int .i64 y4, .int .i64 y5, .int .i64 y6] 75)
        have x_32 := x_10.alloc (.cells #[.int .i64 y0, .int .i64 y1, .int .i64 y2, .int .i64 y3, .int .i64 y4, .int .i64 y5, .int .i64 y6] 75)
        have y_32 := y_10.alloc (.cells #[.int .i64 y0, .int .i64 y1, .int .i64 y2, .int .i64 y3, .int .i64 y4, .int .i64 y5, .int .i64 y6] 75)
        have os_32 := os_10.alloc (.cells #[.int .i64 y0, .int .i64 y1, .int .i64 y2, .int .i64 y3, .int .i64 y4, .int .i64 y5, .int .i64 y6] 75)
        have oh_32 := oh_10.alloc (.cells #[.int .i64 y0, .int .i64 y1, .int .i64 y2, .int .i64 y3, .int .i64 y4, .int .i64 y5, .int .i64 y6] 75)
        have s32 := s10.alloc (.cells #[.int .i64 y0, .int .i64 y1, .int .i64 y2, .int .i64 y3, .int .i64 y4, .int .i64 y5, .int .i64 y6] 75)
        have g32 := s32.at_.lt
        have B32 := B10.alloc B10.size (.cells #[.int .i64 y0, .int .i64 y1, .int .i64 y2, .int .i64 y3, .int .i64 y4, .int .i64 y5, .int .i64 y6] 75)
        have zb32 := B32.size
        refine ⟨(fun v => At v (w4.heap.size) 39 #[.slice X L cx, .slice (some ⟨gH, 0, none⟩) M cy, .int .i64 u] ∧ S7 v gH (j * 7) y0 y1 y2 y3 y4 y5 y6), fun _ h => h, ⟨x_32, Ow.hntAt oh_32 hy⟩, ?_⟩
        (try simp only [Act.put, List.setIfInBounds_toArray, List.set_cons_zero, List.set_cons_succ])
        refine any_done (by kernel_rfl) ?_
        go_wp2
        go_meet
        exact ⟨_, _, _, _, _, _, _, _, rfl, hv', x_32, y_32, r_32, r2_32, os_32, oh_32, B32⟩
      · go_simp
        have hv := At.newAt' (w := w8.drew) (t := 75) (cs := #[.int .i64 0, .int .i64 0, .int .i64 0, .int .i64 0, .int .i64 0, .int .i64 0, .int .i64 0]) (show w8.drew.heap.size = w8.heap.size by first | rfl | simp)
        have ln70_r : w.heap.size < w8.heap.size := by have q := r_9.lt; first | exact q | (simp; done) | (simp at q; exact q) | (simp at q ⊢; omega)
        have hn70_r : ¬ w.heap.size = w8.heap.size := by omega
        have hm70_r : ¬ w8.heap.size = w.heap.size := by omega
        have ln70_r2 : w.heap.size + 1 < w8.heap.size := by have q := r2_9.lt; first | exact q | (simp; done) | (simp at q; exact q) | (simp at q ⊢; omega)
        have hn70_r2 : ¬ w.heap.size + 1 = w8.heap.size := by omega
        have hm70_r2 : ¬ w8.heap.size = w.heap.size + 1 := by omega
        have ln70_x : w4.heap.size < w8.heap.size := by have q := x_9.lt; first | exact q | (simp; done) | (simp at q; exact q) | (simp at q ⊢; omega)
        have hn70_x : ¬ w4.heap.size = w8.heap.size := by omega
        have hm70_x : ¬ w8.heap.size = w4.heap.size := by omega
        have ln70_y : w6.heap.size < w8.heap.size := by have q := y_9.lt; first | exact q | (simp; done) | (simp at q; exact q) | (simp at q ⊢; omega)
        have hn70_y : ¬ w6.heap.size = w8.heap.size := by omega
        have hm70_y : ¬ w8.heap.size = w6.heap.size := by omega
        have r_70 := r_9.alloc (.cells #[.int .i64 0, .int .i64 0, .int .i64 0, .int .i64 0, .int .i64 0, .int .i64 0, .int .i64 0] 75)
        have r2_70 := r2_9.alloc (.cells #[.int .i64 0, .int .i64 0, .int .i64 0, .int .i64 0, .int .i64 0, .int .i64 0, .int .i64 0] 75)
        have x_70 := x_9.alloc (.cells #[.int .i64 0, .int .i64 0, .int .i64 0, .int .i64 0, .int .i64 0, .int .i64 0, .int .i64 0] 75)
        have y_70 := y_9.alloc (.cells #[.int .i64 0, .int .i64 0, .int .i64 0, .int .i64 0, .int .i64 0, .int .i64 0, .int .i64 0] 75)
        have os_70 := os_9.alloc (.cells #[.int .i64 0, .int .i64 0, .int .i64 0, .int .i64 0, .int .i64 0, .int .i64 0, .int .i64 0] 75)
        have oh_70 := oh_9.alloc (.cells #[.int .i64 0, .int .i64 0, .int .i64 0, .int .i64 0, .int .i64 0, .int .i64 0, .int .i64 0] 75)
        have s70 := s9.alloc (.cells #[.int .i64 0, .int .i64 0, .int .i64 0, .int .i64 0, .int .i64 0, .int .i64 0, .int .i64 0] 75)
        have g70 := s70.at_.lt
        have B70 := B9.alloc B9.size (.cells #[.int .i64 0, .int .i64 0, .int .i64 0, .int .i64 0, .int .i64 0, .int .i64 0, .int .i64 0] 75)
        have zb70 := B70.size
        refine ⟨(fun v => At v (w4.heap.size) 39 #[.slice X L cx, .slice (some ⟨gH, 0, none⟩) M cy, .int .i64 u]), fun _ h => h, x_70, ?_⟩
        (try simp only [Act.put, List.setIfInBounds_toArray, List.set_cons_zero, List.set_cons_succ])
        refine any_one 4 rfl (by kernel_rfl) (by rfl) ?_
        go_simp
        refine (l1Next (w8.drew.alloc (.cells #[.int .i64 0, .int .i64 0, .int .i64 0, .int .i64 0, .int .i64 0, .int .i64 0, .int .i64 0] 75)) (w.heap.size + 1 + 1) (w.heap.size + 1 + 1) A m c (k6 + 1) l (M : Int) s70 (by omega) (by omega)).mono ?_
        rintro e w71 ⟨j0, rfl, hr71, -, s71, hw71, -⟩
        have zs71 : w8.heap.size + 1 ≤ w71.heap.size := by have q := hw71.size; first | exact q | (simp; done) | (simp at q; exact q) | (simp at q ⊢; omega)
        have r_71 := r_70.within hw71 (by first | omega | (simp; omega))
        have r2_71 := r2_70.within hw71 (by first | omega | (simp; omega))
        have x_71 := x_70.within hw71 (by first | omega | (simp; omega))
        have y_71 := y_70.within hw71 (by first | omega | (simp; omega))
        have hv_71 := hv.within hw71 (by first | omega | (simp; omega))
        have os_71 := os_70.within hw71 os_70.lt (.inr g3)
        have oh_71 := oh_70.within hw71 oh_70.lt (.inr g3)
        have B71 := hw71.below B70 B70.size (by first | exact Nat.le_refl _ | omega | (simp; done))
        have zb71 := B71.size
        have g71 := s71.at_.lt
        obtain ⟨hr71a, hr71b⟩ := hr71 (by omega)
        obtain ⟨j, rfl⟩ := Int.eq_ofNat_of_zero_le hr71a
        have hj : j < M := by omega
        have hji : (j : Int) < (M : Int) := by omega
        have hjn : (0 : Int) ≤ (j : Int) := by omega
        clear hr71 hr71a hr71b
        have hyl := oh_71.len okH
        obtain ⟨⟨y0, ⟨y1, y2, y3, y4⟩, y5, y6⟩, hy⟩ : ∃ y, ys[j]? = some y := ⟨ys[j], List.getElem?_eq_getElem (by omega)⟩
        refine ⟨(fun v => At v (w4.heap.size) 39 #[.slice X L cx, .slice (some ⟨gH, 0, none⟩) M cy, .int .i64 u] ∧ S7 v gH (j * 7) y0 y1 y2 y3 y4 y5 y6), fun _ h => h.1, ⟨x_71, Ow.hntAt oh_71 hy⟩, ?_⟩
        (try simp only [Act.put, List.setIfInBounds_toArray, List.set_cons_zero, List.set_cons_succ])
        refine any_pure (v := ?_) 5 rfl (by kernel_rfl) (fun _ _ _ _ _ h => h) (by rfl) (fun v hu => ?_) ⟨x_71, Ow.hntAt oh_71 hy⟩ ?_
        rotate_left
        · skip
          go_simp
          (with_reducible rfl)
        (try simp only [Act.put, List.setIfInBounds_toArray, List.set_cons_zero, List.set_cons_succ])
        refine any_pure (v := ?_) 6 rfl (by kernel_rfl) (fun _ _ _ _ _ h => h) (by rfl) (fun v hu => ?_) ⟨x_71, Ow.hntAt oh_71 hy⟩ ?_
        rotate_left
        · (obtain ⟨_, d0, d1, d2, d3, d4, d5, d6⟩ := hu)
          go_simp
          (with_reducible rfl)
        (try simp only [Act.put, List.setIfInBounds_toArray, List.set_cons_zero, List.set_cons_succ])
        have kc0 : World.cell? w71 ⟨w8.heap.size, 0, none⟩ = some (.int .i64 0) := hv_71.cell 0
        have kc1 : World.cell? w71 ⟨w8.heap.size, 1, none⟩ = some (.int .i64 0) := hv_71.cell 1
        have kc2 : World.cell? w71 ⟨w8.heap.size, 2, none⟩ = some (.int .i64 0) := hv_71.cell 2
        have kc3 : World.cell? w71 ⟨w8.heap.size, 3, none⟩ = some (.int .i64 0) := hv_71.cell 3
        have kc4 : World.cell? w71 ⟨w8.heap.size, 4, none⟩ = some (.int .i64 0) := hv_71.cell 4
        have kc5 : World.cell? w71 ⟨w8.heap.size, 5, none⟩ = some (.int .i64 0) := hv_71.cell 5
        have kc6 : World.cell? w71 ⟨w8.heap.size, 6, none⟩ = some (.int .i64 0) := hv_71.cell 6
        have kf0 : World.frozen? w71 ⟨w8.heap.size, 0, none⟩ = false := hv_71.frozen 0
        have kf1 : World.frozen? w71 ⟨w8.heap.size, 1, none⟩ = false := hv_71.frozen 1
        have kf2 : World.frozen? w71 ⟨w8.heap.size, 2, none⟩ = false := hv_71.frozen 2
        have kf3 : World.frozen? w71 ⟨w8.heap.size, 3, none⟩ = false := hv_71.frozen 3
        have kf4 : World.frozen? w71 ⟨w8.heap.size, 4, none⟩ = false := hv_71.frozen 4
        have kf5 : World.frozen? w71 ⟨w8.heap.size, 5, none⟩ = false := hv_71.frozen 5
        have kf6 : World.frozen? w71 ⟨w8.heap.size, 6, none⟩ = false := hv_71.frozen 6
        refine any_one 8 rfl (by kernel_rfl) (by rfl) ?_
        go_simp
        have r_72 := r_71.far (p := ⟨w8.heap.size, 0, none⟩) (by show _ ≠ w8.heap.size; first | omega | (simp; omega)) (.int .i64 y0)
        have r2_72 := r2_71.far (p := ⟨w8.heap.size, 0, none⟩) (by show _ ≠ w8.heap.size; first | omega | (simp; omega)) (.int .i64 y0)
        have x_72 := x_71.far (p := ⟨w8.heap.size, 0, none⟩) (by show _ ≠ w8.heap.size; first | omega | (simp; omega)) (.int .i64 y0)
        have y_72 := y_71.far (p := ⟨w8.heap.size, 0, none⟩) (by show _ ≠ w8.heap.size; first | omega | (simp; omega)) (.int .i64 y0)
        have os_72 := os_71.apart (by decide) hv_71 0 (.int .i64 y0)
        have oh_72 := oh_71.farH (p := ⟨w8.heap.size, 0, none⟩) (fun y hy => by have q : gH = y := (by simpa using hy); show y ≠ w8.heap.size; simp at lgH'; omega) (.int .i64 y0)
        have B72 := B71.setCell (p := ⟨w8.heap.size, 0, none⟩) (by show _ ≤ w8.heap.size; first | exact Nat.le_refl _ | omega | (simp; omega)) (.int .i64 y0)
        have hv_72 := hv_71.set 0 (.int .i64 y0)
        have r_73 := r_72.far (p := ⟨w8.heap.size, 1, none⟩) (by show _ ≠ w8.heap.size; first | omega | (simp; omega)) (.int .i64 y1)
        have r2_73 := r2_72.far (p := ⟨w8.heap.size, 1, none⟩) (by show _ ≠ w8.heap.size; first | omega | (simp; omega)) (.int .i64 y1)
        have x_73 := x_72.far (p := ⟨w8.heap.size, 1, none⟩) (by show _ ≠ w8.heap.size; first | omega | (simp; omega)) (.int .i64 y1)
        have y_73 := y_72.far (p := ⟨w8.heap.size, 1, none⟩) (by show _ ≠ w8.heap.size; first | omega | (simp; omega)) (.int .i64 y1)
        have os_73 := os_72.apart (by decide) hv_72 1 (.int .i64 y1)
        have oh_73 := oh_72.farH (p := ⟨w8.heap.size, 1, none⟩) (fun y hy => by have q : gH = y := (by simpa using hy); show y ≠ w8.heap.size; simp at lgH'; omega) (.int .i64 y1)
        have B73 := B72.setCell (p := ⟨w8.heap.size, 1, none⟩) (by show _ ≤ w8.heap.size; first | exact Nat.le_refl _ | omega | (simp; omega)) (.int .i64 y1)
        have hv_73 := hv_72.set 1 (.int .i64 y1)
        have r_74 := r_73.far (p := ⟨w8.heap.size, 2, none⟩) (by show _ ≠ w8.heap.size; first | omega | (simp; omega)) (.int .i64 y2)
        have r2_74 := r2_73.far (p := ⟨w8.heap.size, 2, none⟩) (by show _ ≠ w8.heap.size; first | omega | (simp; omega)) (.int .i64 y2)
        have x_74 := x_73.far (p := ⟨w8.heap.size, 2, none⟩) (by show _ ≠ w8.heap.size; first | omega | (simp; omega)) (.int .i64 y2)
        have y_74 := y_73.far (p := ⟨w8.heap.size, 2, none⟩) (by show _ ≠ w8.heap.size; first | omega | (simp; omega)) (.int .i64 y2)
        have os_74 := os_73.apart (by decide) hv_73 2 (.int .i64 y2)
        have oh_74 := oh_73.farH (p := ⟨w8.heap.size, 2, none⟩) (fun y hy => by have q : gH = y := (by simpa using hy); show y ≠ w8.heap.size; simp at lgH'; omega) (.int .i64 y2)
        have B74 := B73.setCell (p := ⟨w8.heap.size, 2, none⟩) (by show _ ≤ w8.heap.size; first | exact Nat.le_refl _ | omega | (simp; omega)) (.int .i64 y2)
        have hv_74 := hv_73.set 2 (.int .i64 y2)
        have r_75 := r_74.far (p := ⟨w8.heap.size, 3, none⟩) (by show _ ≠ w8.heap.size; first | omega | (simp; omega)) (.int .i64 y3)
        have r2_75 := r2_74.far (p := ⟨w8.heap.size, 3, none⟩) (by show _ ≠ w8.heap.size; first | omega | (simp; omega)) (.int .i64 y3)
        have x_75 := x_74.far (p := ⟨w8.heap.size, 3, none⟩) (by show _ ≠ w8.heap.size; first | omega | (simp; omega)) (.int .i64 y3)
        have y_75 := y_74.far (p := ⟨w8.heap.size, 3, none⟩) (by show _ ≠ w8.heap.size; first | omega | (simp; omega)) (.int .i64 y3)
        have os_75 := os_74.apart (by decide) hv_74 3 (.int .i64 y3)
        have oh_75 := oh_74.farH (p := ⟨w8.heap.size, 3, none⟩) (fun y hy => by have q : gH = y := (by simpa using hy); show y ≠ w8.heap.size; simp at lgH'; omega) (.int .i64 y3)
        have B75 := B74.setCell (p := ⟨w8.heap.size, 3, none⟩) (by show _ ≤ w8.heap.size; first | exact Nat.le_refl _ | omega | (simp; omega)) (.int .i64 y3)
        have hv_75 := hv_74.set 3 (.int .i64 y3)
        have r_76 := r_75.far (p := ⟨w8.heap.size, 4, none⟩) (by show _ ≠ w8.heap.size; first | omega | (simp; omega)) (.int .i64 y4)
        have r2_76 := r2_75.far (p := ⟨w8.heap.size, 4, none⟩) (by show _ ≠ w8.heap.size; first | omega | (simp; omega)) (.int .i64 y4)
        have x_76 := x_75.far (p := ⟨w8.heap.size, 4, none⟩) (by show _ ≠ w8.heap.size; first | omega | (simp; omega)) (.int .i64 y4)
        have y_76 := y_75.far (p := ⟨w8.heap.size, 4, none⟩) (by show _ ≠ w8.heap.size; first | omega | (simp; omega)) (.int .i64 y4)
        have os_76 := os_75.apart (by decide) hv_75 4 (.int .i64 y4)
        have oh_76 := oh_75.farH (p := ⟨w8.heap.size, 4, none⟩) (fun y hy => by have q : gH = y := (by simpa using hy); show y ≠ w8.heap.size; simp at lgH'; omega) (.int .i64 y4)
        have B76 := B75.setCell (p := ⟨w8.heap.size, 4, none⟩) (by show _ ≤ w8.heap.size; first | exact Nat.le_refl _ | omega | (simp; omega)) (.int .i64 y4)
        have hv_76 := hv_75.set 4 (.int .i64 y4)
        have r_77 := r_76.far (p := ⟨w8.heap.size, 5, none⟩) (by show _ ≠ w8.heap.size; first | omega | (simp; omega)) (.int .i64 y5)
        have r2_77 := r2_76.far (p := ⟨w8.heap.size, 5, none⟩) (by show _ ≠ w8.heap.size; first | omega | (simp; omega)) (.int .i64 y5)
        have x_77 := x_76.far (p := ⟨w8.heap.size, 5, none⟩) (by show _ ≠ w8.heap.size; first | omega | (simp; omega)) (.int .i64 y5)
        have y_77 := y_76.far (p := ⟨w8.heap.size, 5, none⟩) (by show _ ≠ w8.heap.size; first | omega | (simp; omega)) (.int .i64 y5)
        have os_77 := os_76.apart (by decide) hv_76 5 (.int .i64 y5)
        have oh_77 := oh_76.farH (p := ⟨w8.heap.size, 5, none⟩) (fun y hy => by have q : gH = y := (by simpa using hy); show y ≠ w8.heap.size; simp at lgH'; omega) (.int .i64 y5)
        have B77 := B76.setCell (p := ⟨w8.heap.size, 5, none⟩) (by show _ ≤ w8.heap.size; first | exact Nat.le_refl _ | omega | (simp; omega)) (.int .i64 y5)
        have hv_77 := hv_76.set 5 (.int .i64 y5)
        have r_78 := r_77.far (p := ⟨w8.heap.size, 6, none⟩) (by show _ ≠ w8.heap.size; first | omega | (simp; omega)) (.int .i64 y6)
        have r2_78 := r2_77.far (p := ⟨w8.heap.size, 6, none⟩) (by show _ ≠ w8.heap.size; first | omega | (simp; omega)) (.int .i64 y6)
        have x_78 := x_77.far (p := ⟨w8.heap.size, 6, none⟩) (by show _ ≠ w8.heap.size; first | omega | (simp; omega)) (.int .i64 y6)
        have y_78 := y_77.far (p := ⟨w8.heap.size, 6, none⟩) (by show _ ≠ w8.heap.size; first | omega | (simp; omega)) (.int .i64 y6)
        have os_78 := os_77.apart (by decide) hv_77 6 (.int .i64 y6)
        have oh_78 := oh_77.farH (p := ⟨w8.heap.size, 6, none⟩) (fun y hy => by have q : gH = y := (by simpa using hy); show y ≠ w8.heap.size; simp at lgH'; omega) (.int .i64 y6)
        have B78 := B77.setCell (p := ⟨w8.heap.size, 6, none⟩) (by show _ ≤ w8.heap.size; first | exact Nat.le_refl _ | omega | (simp; omega)) (.int .i64 y6)
        have hv_78 := hv_77.set 6 (.int .i64 y6)
        refine ⟨(fun v => At v (w4.heap.size) 39 #[.slice X L cx, .slice (some ⟨gH, 0, none⟩) M cy, .int .i64 u] ∧ S7 v gH (j * 7) y0 y1 y2 y3 y4 y5 y6), fun _ h => h, ⟨x_78, Ow.hntAt oh_78 hy⟩, ?_⟩
        (try simp only [Act.put, List.setIfInBounds_toArray, List.set_cons_zero, List.set_cons_succ])
        refine any_done (by kernel_rfl) ?_
        go_wp2
        go_meet
        exact ⟨_, _, _, _, _, _, _, _, rfl, hv_78, x_78, y_78, r_78, r2_78, os_78, oh_78, B78⟩
    case rest =>
      obtain ⟨gx, y0, y1, y2, y3, y4, y5, y6, rfl, HV, Kx, Ky, Kr, Kr2, OS, OH, BB⟩ := hcut
      rename World => wx
      obtain ⟨v0, v1, v2, v3, v4, v5, v6⟩ := HV.seven
      have yc0 : World.cell? wx ⟨w6.heap.size, 0, none⟩ = some (.int .i64 a0) := Ky.cell 0
      have yc1 : World.cell? wx ⟨w6.heap.size, 1, none⟩ = some (.int .i64 a1) := Ky.cell 1
      have yc2 : World.cell? wx ⟨w6.heap.size, 2, none⟩ = some (.int .i64 a2) := Ky.cell 2
      have yc3 : World.cell? wx ⟨w6.heap.size, 3, none⟩ = some (.int .i64 a3) := Ky.cell 3
      have yc4 : World.cell? wx ⟨w6.heap.size, 4, none⟩ = some (.int .i64 a4) := Ky.cell 4
      have yc5 : World.cell? wx ⟨w6.heap.size, 5, none⟩ = some (.int .i64 a5) := Ky.cell 5
      have yc6 : World.cell? wx ⟨w6.heap.size, 6, none⟩ = some (.int .i64 a6) := Ky.cell 6
      have yf0 : World.frozen? wx ⟨w6.heap.size, 0, none⟩ = false := Ky.frozen 0
      have yf1 : World.frozen? wx ⟨w6.heap.size, 1, none⟩ = false := Ky.frozen 1
      have yf2 : World.frozen? wx ⟨w6.heap.size, 2, none⟩ = false := Ky.frozen 2
      have yf3 : World.frozen? wx ⟨w6.heap.size, 3, none⟩ = false := Ky.frozen 3
      have yf4 : World.frozen? wx ⟨w6.heap.size, 4, none⟩ = false := Ky.frozen 4
      have yf5 : World.frozen? wx ⟨w6.heap.size, 5, none⟩ = false := Ky.frozen 5
      have yf6 : World.frozen? wx ⟨w6.heap.size, 6, none⟩ = false := Ky.frozen 6
      go_wp2_with fail
      have r_209 := Kr.far (p := ⟨w6.heap.size, 0, none⟩) (by show _ ≠ w6.heap.size; first | omega | (simp; omega)) (.int .i64 3)
      have r2_209 := Kr2.far (p := ⟨w6.heap.size, 0, none⟩) (by show _ ≠ w6.heap.size; first | omega | (simp; omega)) (.int .i64 3)
      have x_209 := Kx.far (p := ⟨w6.heap.size, 0, none⟩) (by show _ ≠ w6.heap.size; first | omega | (simp; omega)) (.int .i64 3)
      have os_209 := OS.apart (by decide) Ky 0 (.int .i64 3)
      have oh_209 := OH.apart (by decide) Ky 0 (.int .i64 3)
      have B209 := BB.setCell (p := ⟨w6.heap.size, 0, none⟩) (by show _ ≤ w6.heap.size; first | exact Nat.le_refl _ | omega | (simp; omega)) (.int .i64 3)
      have y_209 := Ky.set 0 (.int .i64 3)
      have r_210 := r_209.far (p := ⟨w6.heap.size, 1, none⟩) (by show _ ≠ w6.heap.size; first | omega | (simp; omega)) (.int .i64 y0)
      have r2_210 := r2_209.far (p := ⟨w6.heap.size, 1, none⟩) (by show _ ≠ w6.heap.size; first | omega | (simp; omega)) (.int .i64 y0)
      have x_210 := x_209.far (p := ⟨w6.heap.size, 1, none⟩) (by show _ ≠ w6.heap.size; first | omega | (simp; omega)) (.int .i64 y0)
      have os_210 := os_209.apart (by decide) y_209 1 (.int .i64 y0)
      have oh_210 := oh_209.apart (by decide) y_209 1 (.int .i64 y0)
      have B210 := B209.setCell (p := ⟨w6.heap.size, 1, none⟩) (by show _ ≤ w6.heap.size; first | exact Nat.le_refl _ | omega | (simp; omega)) (.int .i64 y0)
      have y_210 := y_209.set 1 (.int .i64 y0)
      have r_211 := r_210.far (p := ⟨w6.heap.size, 2, none⟩) (by show _ ≠ w6.heap.size; first | omega | (simp; omega)) (.int .i64 0)
      have r2_211 := r2_210.far (p := ⟨w6.heap.size, 2, none⟩) (by show _ ≠ w6.heap.size; first | omega | (simp; omega)) (.int .i64 0)
      have x_211 := x_210.far (p := ⟨w6.heap.size, 2, none⟩) (by show _ ≠ w6.heap.size; first | omega | (simp; omega)) (.int .i64 0)
      have os_211 := os_210.apart (by decide) y_210 2 (.int .i64 0)
      have oh_211 := oh_210.apart (by decide) y_210 2 (.int .i64 0)
      have B211 := B210.setCell (p := ⟨w6.heap.size, 2, none⟩) (by show _ ≤ w6.heap.size; first | exact Nat.le_refl _ | omega | (simp; omega)) (.int .i64 0)
      have y_211 := y_210.set 2 (.int .i64 0)
      have r_212 := r_211.far (p := ⟨w6.heap.size, 3, none⟩) (by show _ ≠ w6.heap.size; first | omega | (simp; omega)) (.int .i64 0)
      have r2_212 := r2_211.far (p := ⟨w6.heap.size, 3, none⟩) (by show _ ≠ w6.heap.size; first | omega | (simp; omega)) (.int .i64 0)
      have x_212 := x_211.far (p := ⟨w6.heap.size, 3, none⟩) (by show _ ≠ w6.heap.size; first | omega | (simp; omega)) (.int .i64 0)
      have os_212 := os_211.apart (by decide) y_211 3 (.int .i64 0)
      have oh_212 := oh_211.apart (by decide) y_211 3 (.int .i64 0)
      have B212 := B211.setCell (p := ⟨w6.heap.size, 3, none⟩) (by show _ ≤ w6.heap.size; first | exact Nat.le_refl _ | omega | (simp; omega)) (.int .i64 0)
      have y_212 := y_211.set 3 (.int .i64 0)
      have r_213 := r_212.far (p := ⟨w6.heap.size, 4, none⟩) (by show _ ≠ w6.heap.size; first | omega | (simp; omega)) (.int .i64 0)
      have r2_213 := r2_212.far (p := ⟨w6.heap.size, 4, none⟩) (by show _ ≠ w6.heap.size; first | omega | (simp; omega)) (.int .i64 0)
      have x_213 := x_212.far (p := ⟨w6.heap.size, 4, none⟩) (by show _ ≠ w6.heap.size; first | omega | (simp; omega)) (.int .i64 0)
      have os_213 := os_212.apart (by decide) y_212 4 (.int .i64 0)
      have oh_213 := oh_212.apart (by decide) y_212 4 (.int .i64 0)
      have B213 := B212.setCell (p := ⟨w6.heap.size, 4, none⟩) (by show _ ≤ w6.heap.size; first | exact Nat.le_refl _ | omega | (simp; omega)) (.int .i64 0)
      have y_213 := y_212.set 4 (.int .i64 0)
      have r_214 := r_213.far (p := ⟨w6.heap.size, 5, none⟩) (by show _ ≠ w6.heap.size; first | omega | (simp; omega)) (.int .i64 0)
      have r2_214 := r2_213.far (p := ⟨w6.heap.size, 5, none⟩) (by show _ ≠ w6.heap.size; first | omega | (simp; omega)) (.int .i64 0)
      have x_214 := x_213.far (p := ⟨w6.heap.size, 5, none⟩) (by show _ ≠ w6.heap.size; first | omega | (simp; omega)) (.int .i64 0)
      have os_214 := os_213.apart (by decide) y_213 5 (.int .i64 0)
      have oh_214 := oh_213.apart (by decide) y_213 5 (.int .i64 0)
      have B214 := B213.setCell (p := ⟨w6.heap.size, 5, none⟩) (by show _ ≤ w6.heap.size; first | exact Nat.le_refl _ | omega | (simp; omega)) (.int .i64 0)
      have y_214 := y_213.set 5 (.int .i64 0)
      have r_215 := r_214.far (p := ⟨w6.heap.size, 6, none⟩) (by show _ ≠ w6.heap.size; first | omega | (simp; omega)) (.int .i64 y3)
      have r2_215 := r2_214.far (p := ⟨w6.heap.size, 6, none⟩) (by show _ ≠ w6.heap.size; first | omega | (simp; omega)) (.int .i64 y3)
      have x_215 := x_214.far (p := ⟨w6.heap.size, 6, none⟩) (by show _ ≠ w6.heap.size; first | omega | (simp; omega)) (.int .i64 y3)
      have os_215 := os_214.apart (by decide) y_214 6 (.int .i64 y3)
      have oh_215 := oh_214.apart (by decide) y_214 6 (.int .i64 y3)
      have B215 := B214.setCell (p := ⟨w6.heap.size, 6, none⟩) (by show _ ≤ w6.heap.size; first | exact Nat.le_refl _ | omega | (simp; omega)) (.int .i64 y3)
      have y_215 := y_214.set 6 (.int .i64 y3)
      go_wp2_with fail
      generalize (((((((wx.setCell ⟨w6.heap.size, 0, none⟩ (.int .i64 3)).setCell ⟨w6.heap.size, 1, none⟩ (.int .i64 y0)).setCell ⟨w6.heap.size, 2, none⟩ (.int .i64 0)).setCell ⟨w6.heap.size, 3, none⟩ (.int .i64 0)).setCell ⟨w6.heap.size, 4, none⟩ (.int .i64 0)).setCell ⟨w6.heap.size, 5, none⟩ (.int .i64 0)).setCell ⟨w6.heap.size, 6, none⟩ (.int .i64 y3)) = wG216 at *
      have pc0 : World.cell? wG216 ⟨w.heap.size, 0, none⟩ = some (.slice none 0 0) := r_215.cell 0
      have pc1 : World.cell? wG216 ⟨w.heap.size, 1, none⟩ = some (.slice none 0 0) := r_215.cell 1
      have pc2 : World.cell? wG216 ⟨w.heap.size, 2, none⟩ = some (.int .i64 0) := r_215.cell 2
      have pf0 : World.frozen? wG216 ⟨w.heap.size, 0, none⟩ = false := r_215.frozen 0
      have pf1 : World.frozen? wG216 ⟨w.heap.size, 1, none⟩ = false := r_215.frozen 1
      have pf2 : World.frozen? wG216 ⟨w.heap.size, 2, none⟩ = false := r_215.frozen 2
      have qc0 : World.cell? wG216 ⟨w.heap.size + 1, 0, none⟩ = some (.int .i64 0) := r2_215.cell 0
      have qc1 : World.cell? wG216 ⟨w.heap.size + 1, 1, none⟩ = some (.int .i64 0) := r2_215.cell 1
      have qc2 : World.cell? wG216 ⟨w.heap.size + 1, 2, none⟩ = some (.int .i64 0) := r2_215.cell 2
      have qc3 : World.cell? wG216 ⟨w.heap.size + 1, 3, none⟩ = some (.int .i64 0) := r2_215.cell 3
      have qc4 : World.cell? wG216 ⟨w.heap.size + 1, 4, none⟩ = some (.int .i64 0) := r2_215.cell 4
      have qc5 : World.cell? wG216 ⟨w.heap.size + 1, 5, none⟩ = some (.int .i64 0) := r2_215.cell 5
      have qc6 : World.cell? wG216 ⟨w.heap.size + 1, 6, none⟩ = some (.int .i64 0) := r2_215.cell 6
      have qf0 : World.frozen? wG216 ⟨w.heap.size + 1, 0, none⟩ = false := r2_215.frozen 0
      have qf1 : World.frozen? wG216 ⟨w.heap.size + 1, 1, none⟩ = false := r2_215.frozen 1
      have qf2 : World.frozen? wG216 ⟨w.heap.size + 1, 2, none⟩ = false := r2_215.frozen 2
      have qf3 : World.frozen? wG216 ⟨w.heap.size + 1, 3, none⟩ = false := r2_215.frozen 3
      have qf4 : World.frozen? wG216 ⟨w.heap.size + 1, 4, none⟩ = false := r2_215.frozen 4
      have qf5 : World.frozen? wG216 ⟨w.heap.size + 1, 5, none⟩ = false := r2_215.frozen 5
      have qf6 : World.frozen? wG216 ⟨w.heap.size + 1, 6, none⟩ = false := r2_215.frozen 6
      refine wp_region_mix [(0, false), (1, false), (2, true), (3, true)] (fun v => At2 v (w4.heap.size) 39 #[.slice X L cx, .slice (some ⟨gH, 0, none⟩) M cy, .int .i64 u] (w6.heap.size) 27 #[.int .i64 3, .int .i64 y0, .int .i64 0, .int .i64 0, .int .i64 0, .int .i64 0, .int .i64 y3]) (by kernel_rfl) (by kernel_rfl) (fun _ _ _ _ _ h => h) (At2.drew ⟨x_215, y_215⟩) ?_
      simp only [mixOps, List.map_cons, List.map_nil, List.getElem?_cons_succ, List.getElem?_cons_zero, Option.getD_some]
      refine mix_pure (v := ?_) (by rfl) (fun v hu => ?_) ?_
      rotate_left
      · (obtain ⟨hu1, hu2⟩ := hu
         obtain ⟨_, _, _, _, _, _⟩ := At.three hu1
         obtain ⟨_, _, _, _, _, _, _⟩ := At.seven hu2)
        go_simp
        (with_reducible rfl)
      (try simp only [Act.put, List.setIfInBounds_toArray, List.set_cons_zero, List.set_cons_succ])
      refine mix_pure (v := ?_) (by rfl) (fun v hu => ?_) ?_
      rotate_left
      · (obtain ⟨hu1, hu2⟩ := hu
         obtain ⟨_, _, _, _, _, _⟩ := At.three hu1
         obtain ⟨_, _, _, _, _, _, _⟩ := At.seven hu2)
        go_simp
        (with_reducible rfl)
      (try simp only [Act.put, List.setIfInBounds_toArray, List.set_cons_zero, List.set_cons_succ])
      have r2_217 := r2_215.far (p := ⟨w.heap.size, 0, none⟩) (by show _ ≠ w.heap.size; first | omega | (simp; omega)) (.slice X L cx)
      have x_217 := x_215.far (p := ⟨w.heap.size, 0, none⟩) (by show _ ≠ w.heap.size; first | omega | (simp; omega)) (.slice X L cx)
      have y_217 := y_215.far (p := ⟨w.heap.size, 0, none⟩) (by show _ ≠ w.heap.size; first | omega | (simp; omega)) (.slice X L cx)
      have os_217 := os_215.apart (by decide) r_215 0 (.slice X L cx)
      have oh_217 := oh_215.apart (by decide) r_215 0 (.slice X L cx)
      have B217 := B215.setCell (p := ⟨w.heap.size, 0, none⟩) (by show _ ≤ w.heap.size; first | exact Nat.le_refl _ | omega | (simp; omega)) (.slice X L cx)
      have r_217 := r_215.set 0 (.slice X L cx)
      have r2_218 := r2_217.far (p := ⟨w.heap.size, 1, none⟩) (by show _ ≠ w.heap.size; first | omega | (simp; omega)) (.slice (some ⟨gH, 0, none⟩) M cy)
      have x_218 := x_217.far (p := ⟨w.heap.size, 1, none⟩) (by show _ ≠ w.heap.size; first | omega | (simp; omega)) (.slice (some ⟨gH, 0, none⟩) M cy)
      have y_218 := y_217.far (p := ⟨w.heap.size, 1, none⟩) (by show _ ≠ w.heap.size; first | omega | (simp; omega)) (.slice (some ⟨gH, 0, none⟩) M cy)
      have os_218 := os_217.apart (by decide) r_217 1 (.slice (some ⟨gH, 0, none⟩) M cy)
      have oh_218 := oh_217.apart (by decide) r_217 1 (.slice (some ⟨gH, 0, none⟩) M cy)
      have B218 := B217.setCell (p := ⟨w.heap.size, 1, none⟩) (by show _ ≤ w.heap.size; first | exact Nat.le_refl _ | omega | (simp; omega)) (.slice (some ⟨gH, 0, none⟩) M cy)
      have r_218 := r_217.set 1 (.slice (some ⟨gH, 0, none⟩) M cy)
      have r2_219 := r2_218.far (p := ⟨w.heap.size, 2, none⟩) (by show _ ≠ w.heap.size; first | omega | (simp; omega)) (.int .i64 u)
      have x_219 := x_218.far (p := ⟨w.heap.size, 2, none⟩) (by show _ ≠ w.heap.size; first | omega | (simp; omega)) (.int .i64 u)
      have y_219 := y_218.far (p := ⟨w.heap.size, 2, none⟩) (by show _ ≠ w.heap.size; first | omega | (simp; omega)) (.int .i64 u)
      have os_219 := os_218.apart (by decide) r_218 2 (.int .i64 u)
      have oh_219 := oh_218.apart (by decide) r_218 2 (.int .i64 u)
      have B219 := B218.setCell (p := ⟨w.heap.size, 2, none⟩) (by show _ ≤ w.heap.size; first | exact Nat.le_refl _ | omega | (simp; omega)) (.int .i64 u)
      have r_219 := r_218.set 2 (.int .i64 u)
      refine mix_call (by rfl) (fun K hK => ?_)
      go_simp
      refine hK _ _ (fun v => At2 v (w4.heap.size) 39 #[.slice X L cx, .slice (some ⟨gH, 0, none⟩) M cy, .int .i64 u] (w6.heap.size) 27 #[.int .i64 3, .int .i64 y0, .int .i64 0, .int .i64 0, .int .i64 0, .int .i64 0, .int .i64 y3]) (fun _ h => h) (At2.drew ⟨x_219, y_219⟩) ?_
      clear hK K
      (try simp only [Act.put, List.setIfInBounds_toArray, List.set_cons_zero, List.set_cons_succ])
      have r_220 := r_219.far (p := ⟨w.heap.size + 1, 0, none⟩) (by show _ ≠ w.heap.size + 1; first | omega | (simp; omega)) (.int .i64 3)
      have x_220 := x_219.far (p := ⟨w.heap.size + 1, 0, none⟩) (by show _ ≠ w.heap.size + 1; first | omega | (simp; omega)) (.int .i64 3)
      have y_220 := y_219.far (p := ⟨w.heap.size + 1, 0, none⟩) (by show _ ≠ w.heap.size + 1; first | omega | (simp; omega)) (.int .i64 3)
      have os_220 := os_219.apart (by decide) r2_219 0 (.int .i64 3)
      have oh_220 := oh_219.apart (by decide) r2_219 0 (.int .i64 3)
      have B220 := B219.setCell (p := ⟨w.heap.size + 1, 0, none⟩) (by show _ ≤ w.heap.size + 1; first | exact Nat.le_refl _ | omega | (simp; omega)) (.int .i64 3)
      have r2_220 := r2_219.set 0 (.int .i64 3)
      have r_221 := r_220.far (p := ⟨w.heap.size + 1, 1, none⟩) (by show _ ≠ w.heap.size + 1; first | omega | (simp; omega)) (.int .i64 y0)
      have x_221 := x_220.far (p := ⟨w.heap.size + 1, 1, none⟩) (by show _ ≠ w.heap.size + 1; first | omega | (simp; omega)) (.int .i64 y0)
      have y_221 := y_220.far (p := ⟨w.heap.size + 1, 1, none⟩) (by show _ ≠ w.heap.size + 1; first | omega | (simp; omega)) (.int .i64 y0)
      have os_221 := os_220.apart (by decide) r2_220 1 (.int .i64 y0)
      have oh_221 := oh_220.apart (by decide) r2_220 1 (.int .i64 y0)
      have B221 := B220.setCell (p := ⟨w.heap.size + 1, 1, none⟩) (by show _ ≤ w.heap.size + 1; first | exact Nat.le_refl _ | omega | (simp; omega)) (.int .i64 y0)
      have r2_221 := r2_220.set 1 (.int .i64 y0)
      have r_222 := r_221.far (p := ⟨w.heap.size + 1, 2, none⟩) (by show _ ≠ w.heap.size + 1; first | omega | (simp; omega)) (.int .i64 0)
      have x_222 := x_221.far (p := ⟨w.heap.size + 1, 2, none⟩) (by show _ ≠ w.heap.size + 1; first | omega | (simp; omega)) (.int .i64 0)
      have y_222 := y_221.far (p := ⟨w.heap.size + 1, 2, none⟩) (by show _ ≠ w.heap.size + 1; first | omega | (simp; omega)) (.int .i64 0)
      have os_222 := os_221.apart (by decide) r2_221 2 (.int .i64 0)
      have oh_222 := oh_221.apart (by decide) r2_221 2 (.int .i64 0)
      have B222 := B221.setCell (p := ⟨w.heap.size + 1, 2, none⟩) (by show _ ≤ w.heap.size + 1; first | exact Nat.le_refl _ | omega | (simp; omega)) (.int .i64 0)
      have r2_222 := r2_221.set 2 (.int .i64 0)
      have r_223 := r_222.far (p := ⟨w.heap.size + 1, 3, none⟩) (by show _ ≠ w.heap.size + 1; first | omega | (simp; omega)) (.int .i64 0)
      have x_223 := x_222.far (p := ⟨w.heap.size + 1, 3, none⟩) (by show _ ≠ w.heap.size + 1; first | omega | (simp; omega)) (.int .i64 0)
      have y_223 := y_222.far (p := ⟨w.heap.size + 1, 3, none⟩) (by show _ ≠ w.heap.size + 1; first | omega | (simp; omega)) (.int .i64 0)
      have os_223 := os_222.apart (by decide) r2_222 3 (.int .i64 0)
      have oh_223 := oh_222.apart (by decide) r2_222 3 (.int .i64 0)
      have B223 := B222.setCell (p := ⟨w.heap.size + 1, 3, none⟩) (by show _ ≤ w.heap.size + 1; first | exact Nat.le_refl _ | omega | (simp; omega)) (.int .i64 0)
      have r2_223 := r2_222.set 3 (.int .i64 0)
      have r_224 := r_223.far (p := ⟨w.heap.size + 1, 4, none⟩) (by show _ ≠ w.heap.size + 1; first | omega | (simp; omega)) (.int .i64 0)
      have x_224 := x_223.far (p := ⟨w.heap.size + 1, 4, none⟩) (by show _ ≠ w.heap.size + 1; first | omega | (simp; omega)) (.int .i64 0)
      have y_224 := y_223.far (p := ⟨w.heap.size + 1, 4, none⟩) (by show _ ≠ w.heap.size + 1; first | omega | (simp; omega)) (.int .i64 0)
      have os_224 := os_223.apart (by decide) r2_223 4 (.int .i64 0)
      have oh_224 := oh_223.apart (by decide) r2_223 4 (.int .i64 0)
      have B224 := B223.setCell (p := ⟨w.heap.size + 1, 4, none⟩) (by show _ ≤ w.heap.size + 1; first | exact Nat.le_refl _ | omega | (simp; omega)) (.int .i64 0)
      have r2_224 := r2_223.set 4 (.int .i64 0)
      have r_225 := r_224.far (p := ⟨w.heap.size + 1, 5, none⟩) (by show _ ≠ w.heap.size + 1; first | omega | (simp; omega)) (.int .i64 0)
      have x_225 := x_224.far (p := ⟨w.heap.size + 1, 5, none⟩) (by show _ ≠ w.heap.size + 1; first | omega | (simp; omega)) (.int .i64 0)
      have y_225 := y_224.far (p := ⟨w.heap.size + 1, 5, none⟩) (by show _ ≠ w.heap.size + 1; first | omega | (simp; omega)) (.int .i64 0)
      have os_225 := os_224.apart (by decide) r2_224 5 (.int .i64 0)
      have oh_225 := oh_224.apart (by decide) r2_224 5 (.int .i64 0)
      have B225 := B224.setCell (p := ⟨w.heap.size + 1, 5, none⟩) (by show _ ≤ w.heap.size + 1; first | exact Nat.le_refl _ | omega | (simp; omega)) (.int .i64 0)
      have r2_225 := r2_224.set 5 (.int .i64 0)
      have r_226 := r_225.far (p := ⟨w.heap.size + 1, 6, none⟩) (by show _ ≠ w.heap.size + 1; first | omega | (simp; omega)) (.int .i64 y3)
      have x_226 := x_225.far (p := ⟨w.heap.size + 1, 6, none⟩) (by show _ ≠ w.heap.size + 1; first | omega | (simp; omega)) (.int .i64 y3)
      have y_226 := y_225.far (p := ⟨w.heap.size + 1, 6, none⟩) (by show _ ≠ w.heap.size + 1; first | omega | (simp; omega)) (.int .i64 y3)
      have os_226 := os_225.apart (by decide) r2_225 6 (.int .i64 y3)
      have oh_226 := oh_225.apart (by decide) r2_225 6 (.int .i64 y3)
      have B226 := B225.setCell (p := ⟨w.heap.size + 1, 6, none⟩) (by show _ ≤ w.heap.size + 1; first | exact Nat.le_refl _ | omega | (simp; omega)) (.int .i64 y3)
      have r2_226 := r2_225.set 6 (.int .i64 y3)
      refine mix_call (by rfl) (fun K hK => ?_)
      go_simp
      refine hK _ _ (fun v => At2 v (w4.heap.size) 39 #[.slice X L cx, .slice (some ⟨gH, 0, none⟩) M cy, .int .i64 u] (w6.heap.size) 27 #[.int .i64 3, .int .i64 y0, .int .i64 0, .int .i64 0, .int .i64 0, .int .i64 0, .int .i64 y3]) (fun _ h => h) (At2.drew ⟨x_226, y_226⟩) ?_
      clear hK K
      (try simp only [Act.put, List.setIfInBounds_toArray, List.set_cons_zero, List.set_cons_succ])
      refine mix_nil ?_
      go_wp2
      refine bodyPost_ret (v := .tuple #[.agg #[.slice X L cx, .slice (some ⟨gH, 0, none⟩) M cy, .int .i64 u], .agg #[.int .i64 3, .int .i64 y0, .int .i64 0, .int .i64 0, .int .i64 0, .int .i64 0, .int .i64 y3]]) (by simp [results, Tryz.results11, go_sem, pc0, pc1, pc2, qc0, qc1, qc2, qc3, qc4, qc5, qc6, hn2_r, hm2_r, hn5_r, hm5_r, hn5_r2, hm5_r2, hn7_r, hm7_r, hn7_r2, hm7_r2, hn7_x, hm7_x]) rfl ?_
      exact ⟨X, L, cx, xs, (some ⟨gH, 0, none⟩), M, cy, ys, u, _, _, _, _, _, _, _, rfl, hL, hM, (Ow.drewN (Ow.from_ (base' := w.heap.size) os_226 (by first | omega | (simp; omega))) 1), (Ow.drewN (Ow.from_ (base' := w.heap.size) oh_226 (by first | omega | (simp; omega))) 1), B226.drew⟩
end Go.Proofs.YtmaillakhhdkfaaGreatDoor
