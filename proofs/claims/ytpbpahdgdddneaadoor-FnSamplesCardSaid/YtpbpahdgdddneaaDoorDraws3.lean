/-
  Two samples that are drawn, and bytes of samples.
-/
import Derived.Test.YtpbpahdgdddneaaDoorDraws2
import Derived.Test.YtpbpahdgdddneaaDoorFork2
namespace Go.Proofs.YtpbpahdgdddneaaDoor
open Go.RowKit
set_option linter.unusedSimpArgs false

theorem At.put4 {w : World} {g b : Nat} {t : TypeId} {cs : Array Value} (h : At w g t cs) (hne : g ≠ b) (v0 v1 v2 v3 : Value) : At ((((w.setCell ⟨b, 0, none⟩ v0).setCell ⟨b, 1, none⟩ v1).setCell ⟨b, 2, none⟩ v2).setCell ⟨b, 3, none⟩ v3) g t cs :=
  (((h.far (p := ⟨b, 0, none⟩) hne v0).far (p := ⟨b, 1, none⟩) hne v1).far (p := ⟨b, 2, none⟩) hne v2).far (p := ⟨b, 3, none⟩) hne v3
theorem At.set4 {w : World} {g : Nat} {t : TypeId} {a b c d : Value} (h : At w g t #[a, b, c, d]) (v0 v1 v2 v3 : Value) : At ((((w.setCell ⟨g, 0, none⟩ v0).setCell ⟨g, 1, none⟩ v1).setCell ⟨g, 2, none⟩ v2).setCell ⟨g, 3, none⟩ v3) g t #[v0, v1, v2, v3] :=
  (((h.set 0 v0).set 1 v1).set 2 v2).set 3 v3
theorem Below.put4 {B b : Nat} {a w : World} (h : Below B a w) (hb : B ≤ b) (v0 v1 v2 v3 : Value) : Below B a ((((w.setCell ⟨b, 0, none⟩ v0).setCell ⟨b, 1, none⟩ v1).setCell ⟨b, 2, none⟩ v2).setCell ⟨b, 3, none⟩ v3) :=
  (((h.setCell (p := ⟨b, 0, none⟩) hb v0).setCell (p := ⟨b, 1, none⟩) hb v1).setCell (p := ⟨b, 2, none⟩) hb v2).setCell (p := ⟨b, 3, none⟩) hb v3

set_option maxHeartbeats 2000000 in
theorem drawIsAhead (A : Option Addr) (m c : Nat) (l : List UInt8) (w : World) (ha : Rd eB w w.heap.size A l) (hn : l.length = m) (hm : m ≤ 1048576) :
    Calls Tryd.prog 12 #[.slice A m c] w fun e w' => ∃ a0 a1 a2 a3 b0 b1 b2 b3 : Int, e = .returned (.tuple #[.agg #[.int .i64 a0, .int .i64 a1, .int .i64 a2, .int .i64 a3], .agg #[.int .i64 b0, .int .i64 b1, .int .i64 b2, .int .i64 b3]]) ∧ Below w.heap.size w w' := by
  have B0 := Below.refl w.heap.size w
  have B1 := B0.alloc B0.size (.cells #[.int .i64 0, .int .i64 0, .int .i64 0, .int .i64 0] 25)
  have B2 := B1.alloc B1.size (.cells #[.int .i64 0, .int .i64 0, .int .i64 0, .int .i64 0] 25)
  have q0 := (At.new w 25 #[.int .i64 0, .int .i64 0, .int .i64 0, .int .i64 0]).alloc (.cells #[.int .i64 0, .int .i64 0, .int .i64 0, .int .i64 0] 25)
  have p0 := At.newAt (cs := #[.int .i64 0, .int .i64 0, .int .i64 0, .int .i64 0]) (t := 25) (show (w.alloc (.cells #[.int .i64 0, .int .i64 0, .int .i64 0, .int .i64 0] 25)).heap.size = w.heap.size + 1 by simp)
  go_enter Tryd.func12, Tryd.ntmps12
  go_wp2_with fail
  refine (l1Source A m c l _ (ha.lift B2) hn hm).mono ?_
  rintro e w1 ⟨rfl, s1, hb1, -⟩
  rw [show ((w.alloc (.cells #[.int .i64 0, .int .i64 0, .int .i64 0, .int .i64 0] 25)).alloc (.cells #[.int .i64 0, .int .i64 0, .int .i64 0, .int .i64 0] 25)).heap.size = w.heap.size + 1 + 1 by simp] at s1
  have B3 := B2.trans (hb1.mono B2.size)
  have q1 := q0.below hb1 q0.lt
  have p1 := p0.below hb1 p0.lt
  have g1 := s1.at_.lt
  go_wp2_with fail
  refine (l2Draw _ (w.heap.size + 1 + 1) (w.heap.size + 1 + 1) A m c 0 l s1 (by omega)).mono ?_
  rintro e w2 ⟨x0, x1, x2, x3, rfl, -, -, -, -, s2, hw2⟩
  have B4 := hw2.below B3 B3.size (by omega)
  have q2 := q1.within hw2 (by omega)
  have p2 := p1.within hw2 (by omega)
  go_wp2_with fail
  refine (l2Draw _ (w.heap.size + 1 + 1) (w.heap.size + 1 + 1) A m c (0 + 4) l s2 (by omega)).mono ?_
  rintro e w3 ⟨y0, y1, y2, y3, rfl, -, -, -, -, s3, hw3⟩
  have B5 := hw3.below B4 B4.size (by omega)
  have q3 := q2.within hw3 (by omega)
  have p3 := p2.within hw3 (by omega)
  obtain ⟨c0, c1, c2, c3, f0, f1, f2, f3⟩ := q3.four
  obtain ⟨d0, d1, d2, d3, e0, e1, e2, e3⟩ := p3.four
  go_wp2_with fail
  refine bodyPost_ret (v := .tuple #[.agg #[.int .i64 (x0 : Int), .int .i64 (x1 : Int), .int .i64 (x2 : Int), .int .i64 ((x3 : Int) - 1000)], .agg #[.int .i64 (y0 : Int), .int .i64 (y1 : Int), .int .i64 (y2 : Int), .int .i64 ((y3 : Int) - 1000)]]) (by simp [results, Tryd.results12, go_sem, c0, c1, c2, c3, d0, d1, d2, d3]) rfl ?_
  exact ⟨_, _, _, _, _, _, _, _, rfl, ((((((((B5.setCell (by simp) _).setCell (by simp) _).setCell (by simp) _).setCell (by simp) _).setCell (by simp) _).setCell (by simp) _).setCell (by simp) _).setCell (by simp) _)⟩

set_option maxHeartbeats 2000000 in
theorem drawIsSameKey (A : Option Addr) (m c : Nat) (l : List UInt8) (w : World) (ha : Rd eB w w.heap.size A l) (hn : l.length = m) (hm : m ≤ 1048576) :
    Calls Tryd.prog 13 #[.slice A m c] w fun e w' => ∃ a0 a1 a2 a3 b0 b1 b2 b3 : Int, e = .returned (.tuple #[.agg #[.int .i64 a0, .int .i64 a1, .int .i64 a2, .int .i64 a3], .agg #[.int .i64 b0, .int .i64 b1, .int .i64 b2, .int .i64 b3]]) ∧ Below w.heap.size w w' := by
  have B0 := Below.refl w.heap.size w
  have B1 := B0.alloc B0.size (.cells #[.int .i64 0, .int .i64 0, .int .i64 0, .int .i64 0] 25)
  have B2 := B1.alloc B1.size (.cells #[.int .i64 0, .int .i64 0, .int .i64 0, .int .i64 0] 25)
  have q0 := (At.new w 25 #[.int .i64 0, .int .i64 0, .int .i64 0, .int .i64 0]).alloc (.cells #[.int .i64 0, .int .i64 0, .int .i64 0, .int .i64 0] 25)
  have p0 := At.newAt (cs := #[.int .i64 0, .int .i64 0, .int .i64 0, .int .i64 0]) (t := 25) (show (w.alloc (.cells #[.int .i64 0, .int .i64 0, .int .i64 0, .int .i64 0] 25)).heap.size = w.heap.size + 1 by simp)
  go_enter Tryd.func13, Tryd.ntmps13
  go_wp2_with fail
  refine (l1Source A m c l _ (ha.lift B2) hn hm).mono ?_
  rintro e w1 ⟨rfl, s1, hb1, -⟩
  rw [show ((w.alloc (.cells #[.int .i64 0, .int .i64 0, .int .i64 0, .int .i64 0] 25)).alloc (.cells #[.int .i64 0, .int .i64 0, .int .i64 0, .int .i64 0] 25)).heap.size = w.heap.size + 1 + 1 by simp] at s1
  have B3 := B2.trans (hb1.mono B2.size)
  have q1 := q0.below hb1 q0.lt
  have p1 := p0.below hb1 p0.lt
  have g1 := s1.at_.lt
  go_wp2_with fail
  refine (l2Draw _ (w.heap.size + 1 + 1) (w.heap.size + 1 + 1) A m c 0 l s1 (by omega)).mono ?_
  rintro e w2 ⟨x0, x1, x2, x3, rfl, -, -, -, -, s2, hw2⟩
  have B4 := hw2.below B3 B3.size (by omega)
  have q2 := q1.within hw2 (by omega)
  have p2 := p1.within hw2 (by omega)
  have g2 := s2.at_.lt
  generalize ((x3 : Int) - 1000) = y3 at *
  generalize (x0 : Int) = y0 at *
  generalize (x1 : Int) = y1 at *
  generalize (x2 : Int) = y2 at *
  have a2 := (At.new w2 25 #[.int .i64 y0, .int .i64 y1, .int .i64 y2, .int .i64 y3]).alloc (.cells #[.int .i64 y0, .int .i64 y1, .int .i64 y2, .int .i64 y3] 25)
  have b2 := At.newAt (cs := #[.int .i64 y0, .int .i64 y1, .int .i64 y2, .int .i64 y3]) (t := 25) (show (w2.alloc (.cells #[.int .i64 y0, .int .i64 y1, .int .i64 y2, .int .i64 y3] 25)).heap.size = w2.heap.size + 1 by simp)
  have s2' := ((s2.alloc (.cells #[.int .i64 y0, .int .i64 y1, .int .i64 y2, .int .i64 y3] 25)).alloc (.cells #[.int .i64 y0, .int .i64 y1, .int .i64 y2, .int .i64 y3] 25)).alloc (.cells #[.int .i64 0, .int .i64 7] 2)
  have q2' := ((q2.alloc (.cells #[.int .i64 y0, .int .i64 y1, .int .i64 y2, .int .i64 y3] 25)).alloc (.cells #[.int .i64 y0, .int .i64 y1, .int .i64 y2, .int .i64 y3] 25)).alloc (.cells #[.int .i64 0, .int .i64 7] 2)
  have p2' := ((p2.alloc (.cells #[.int .i64 y0, .int .i64 y1, .int .i64 y2, .int .i64 y3] 25)).alloc (.cells #[.int .i64 y0, .int .i64 y1, .int .i64 y2, .int .i64 y3] 25)).alloc (.cells #[.int .i64 0, .int .i64 7] 2)
  have B4' := ((B4.alloc B4.size (.cells #[.int .i64 y0, .int .i64 y1, .int .i64 y2, .int .i64 y3] 25)).alloc (B4.alloc B4.size (.cells #[.int .i64 y0, .int .i64 y1, .int .i64 y2, .int .i64 y3] 25)).size (.cells #[.int .i64 y0, .int .i64 y1, .int .i64 y2, .int .i64 y3] 25))
  have B4p := B4'.alloc B4'.size (.cells #[.int .i64 0, .int .i64 7] 2)
  go_wp2_with fail
  refine (l1Pick _ _ _ A m c (0 + 4) l (w2.heap.size + 1 + 1) #[.int .i64 0, .int .i64 7] [0, 7] 2 2 s2' (by omega) (At.newAt (by simp)) (by simp [intCells]) (by omega) rfl (by omega) (by omega)).mono ?_
  rintro e w3 ⟨v3, -, rfl, s3, hw3, -⟩
  have B5 := hw3.below B4p B4p.size (by omega)
  have q3 := q2'.within hw3 (by omega)
  have p3 := p2'.within hw3 (by omega)
  have a3 := (a2.alloc (.cells #[.int .i64 0, .int .i64 7] 2)).within hw3 (by omega)
  have b3 := (b2.alloc (.cells #[.int .i64 0, .int .i64 7] 2)).within hw3 (by omega)
  have lb3 := b3.lt
  clear a2 b2 s2' q2' p2' B4' B4p
  have b4 := b3.set 3 (.int .i64 v3)
  have a4 := a3.far (p := ⟨w2.heap.size + 1, 3, none⟩) (by show w2.heap.size ≠ w2.heap.size + 1; omega) (.int .i64 v3)
  have q4 := q3.far (p := ⟨w2.heap.size + 1, 3, none⟩) (by show w.heap.size ≠ w2.heap.size + 1; omega) (.int .i64 v3)
  have p4 := p3.far (p := ⟨w2.heap.size + 1, 3, none⟩) (by show w.heap.size + 1 ≠ w2.heap.size + 1; omega) (.int .i64 v3)
  have s4 := s3.put (p := ⟨w2.heap.size + 1, 3, none⟩) (by show w.heap.size + 1 + 1 < w2.heap.size + 1; omega) (.int .i64 v3)
  have B6 := B5.setCell (p := ⟨w2.heap.size + 1, 3, none⟩) (by show w.heap.size ≤ w2.heap.size + 1; omega) (.int .i64 v3)
  obtain ⟨_, _, _, _, bf0, bf1, bf2, bf3⟩ := b3.four
  go_wp2_with fail
  refine (l1Chance _ _ _ A m c (0 + 4 + 1) l 2 s4 (by omega) (by omega)).mono ?_
  rintro e w5 ⟨ch, rfl, s5, hw5, -⟩
  have B7 := hw5.below B6 B6.size (by omega)
  have q5 := q4.within hw5 (by omega)
  have p5 := p4.within hw5 (by omega)
  have a5 := a4.within hw5 (by omega)
  have b5 := (show At _ _ _ #[.int .i64 y0, .int .i64 y1, .int .i64 y2, .int .i64 v3] from b4).within hw5 (by omega)
  have lb5 := b5.lt
  clear bf0 bf1 bf2 bf3 a3 b3 a4 b4 q3 q4 p3 p4 s3 s4
  cases ch
  · go_wp2_with fail
    obtain ⟨c0, c1, c2, c3, f0, f1, f2, f3⟩ := q5.four
    obtain ⟨d0, d1, d2, d3, e0, e1, e2, e3⟩ := p5.four
    have na : w2.heap.size ≠ w.heap.size := by omega
    have nb : w2.heap.size ≠ w.heap.size + 1 := by omega
    have nc : w2.heap.size + 1 ≠ w.heap.size := by omega
    have nd : w2.heap.size + 1 ≠ w.heap.size + 1 := by omega
    refine wp_region_mix [(0, false), (1, false), (2, true), (3, true)] (fun u => At u w2.heap.size 25 #[.int .i64 y0, .int .i64 y1, .int .i64 y2, .int .i64 y3] ∧ At u (w2.heap.size + 1) 25 #[.int .i64 y0, .int .i64 y1, .int .i64 y2, .int .i64 v3]) (by kernel_rfl) (by kernel_rfl) (fun _ _ _ _ _ h => h) ⟨a5.drew, b5.drew⟩ ?_
    simp only [mixOps, List.map_cons, List.map_nil, List.getElem?_cons_succ, List.getElem?_cons_zero, Option.getD_some]
    iterate 2
      refine mix_pure (v := ?_) (by rfl) (fun u hu => ?_) ?_
      rotate_left
      · obtain ⟨_, _, _, _, _, _, _, _⟩ := hu.1.four
        obtain ⟨_, _, _, _, _, _, _, _⟩ := hu.2.four
        go_simp
        (with_reducible rfl)
      (try simp only [Act.put, List.setIfInBounds_toArray, List.set_cons_zero, List.set_cons_succ])
    
    have A1 := (a5.put4 na (.int .i64 y0) (.int .i64 y1) (.int .i64 y2) (.int .i64 y3))
    have A2 := A1.put4 nb (.int .i64 y0) (.int .i64 y1) (.int .i64 y2) (.int .i64 v3)
    have D1 := (b5.put4 nc (.int .i64 y0) (.int .i64 y1) (.int .i64 y2) (.int .i64 y3))
    have D2 := D1.put4 nd (.int .i64 y0) (.int .i64 y1) (.int .i64 y2) (.int .i64 v3)
    have G1 := Below.put4 B7 (Nat.le_refl _) (.int .i64 y0) (.int .i64 y1) (.int .i64 y2) (.int .i64 y3)
    have G2 := Below.put4 G1 (Nat.le_succ _) (.int .i64 y0) (.int .i64 y1) (.int .i64 y2) (.int .i64 v3)
    refine mix_call (by rfl) (fun K hK => ?_)
    go_simp
    refine hK _ _ _ (fun _ h => h) ⟨A1.drew, D1.drew⟩ ?_
    (try simp only [Act.put, List.setIfInBounds_toArray, List.set_cons_zero, List.set_cons_succ])
    refine mix_call (by rfl) (fun K hK => ?_)
    go_simp
    refine hK _ _ _ (fun _ h => h) ⟨A2.drew, D2.drew⟩ ?_
    (try simp only [Act.put, List.setIfInBounds_toArray, List.set_cons_zero, List.set_cons_succ])
    refine mix_nil ?_
    go_wp2
    refine bodyPost_ret (v := .tuple #[.agg #[.int .i64 y0, .int .i64 y1, .int .i64 y2, .int .i64 y3], .agg #[.int .i64 y0, .int .i64 y1, .int .i64 y2, .int .i64 v3]]) (by simp [results, Tryd.results13, go_sem, c0, c1, c2, c3, d0, d1, d2, d3]) rfl ?_
    exact ⟨y0, y1, y2, y3, y0, y1, y2, v3, rfl, G2.drew⟩
  · go_wp2_with fail
    refine (l2Draw _ (w.heap.size + 1 + 1) (w.heap.size + 1 + 1) A m c (0 + 4 + 1 + 1) l s5 (by omega)).mono ?_
    rintro e w6 ⟨m0, m1, m2, m3, rfl, -, -, -, -, s6, hw6⟩
    have B8 := hw6.below B7 B7.size (by omega)
    have q6 := q5.within hw6 (by omega)
    have p6 := p5.within hw6 (by omega)
    have a6 := a5.within hw6 (by omega)
    have b6 := b5.within hw6 (by omega)
    generalize ((m3 : Int) - 1000) = m3 at *
    generalize (m0 : Int) = m0 at *
    generalize (m1 : Int) = m1 at *
    generalize (m2 : Int) = m2 at *
    have q7 := q6.put4 (show w.heap.size ≠ w2.heap.size + 1 by omega) (.int .i64 m0) (.int .i64 m1) (.int .i64 m2) (.int .i64 m3)
    have p7 := p6.put4 (show w.heap.size + 1 ≠ w2.heap.size + 1 by omega) (.int .i64 m0) (.int .i64 m1) (.int .i64 m2) (.int .i64 m3)
    have a7 := a6.put4 (show w2.heap.size ≠ w2.heap.size + 1 by omega) (.int .i64 m0) (.int .i64 m1) (.int .i64 m2) (.int .i64 m3)
    have b7 := b6.set4 (.int .i64 m0) (.int .i64 m1) (.int .i64 m2) (.int .i64 m3)
    have B9 := Below.put4 B8 (show w.heap.size ≤ w2.heap.size + 1 by omega) (.int .i64 m0) (.int .i64 m1) (.int .i64 m2) (.int .i64 m3)
    obtain ⟨_, _, _, _, bf0, bf1, bf2, bf3⟩ := b6.four
    go_wp2_with fail
    clear bf0 bf1 bf2 bf3
    generalize hW : ((((w6.setCell ⟨w2.heap.size + 1, 0, none⟩ (.int .i64 m0)).setCell ⟨w2.heap.size + 1, 1, none⟩ (.int .i64 m1)).setCell ⟨w2.heap.size + 1, 2, none⟩ (.int .i64 m2)).setCell ⟨w2.heap.size + 1, 3, none⟩ (.int .i64 m3)) = W at *
    obtain ⟨c0, c1, c2, c3, f0, f1, f2, f3⟩ := q7.four
    obtain ⟨d0, d1, d2, d3, e0, e1, e2, e3⟩ := p7.four
    have na : w2.heap.size ≠ w.heap.size := by omega
    have nb : w2.heap.size ≠ w.heap.size + 1 := by omega
    have nc : w2.heap.size + 1 ≠ w.heap.size := by omega
    have nd : w2.heap.size + 1 ≠ w.heap.size + 1 := by omega
    refine wp_region_mix [(0, false), (1, false), (2, true), (3, true)] (fun u => At u w2.heap.size 25 #[.int .i64 y0, .int .i64 y1, .int .i64 y2, .int .i64 y3] ∧ At u (w2.heap.size + 1) 25 #[.int .i64 m0, .int .i64 m1, .int .i64 m2, .int .i64 m3]) (by kernel_rfl) (by kernel_rfl) (fun _ _ _ _ _ h => h) ⟨a7.drew, b7.drew⟩ ?_
    simp only [mixOps, List.map_cons, List.map_nil, List.getElem?_cons_succ, List.getElem?_cons_zero, Option.getD_some]
    iterate 2
      refine mix_pure (v := ?_) (by rfl) (fun u hu => ?_) ?_
      rotate_left
      · obtain ⟨_, _, _, _, _, _, _, _⟩ := hu.1.four
        obtain ⟨_, _, _, _, _, _, _, _⟩ := hu.2.four
        go_simp
        (with_reducible rfl)
      (try simp only [Act.put, List.setIfInBounds_toArray, List.set_cons_zero, List.set_cons_succ])
    
    have A1 := (a7.put4 na (.int .i64 y0) (.int .i64 y1) (.int .i64 y2) (.int .i64 y3))
    have A2 := A1.put4 nb (.int .i64 m0) (.int .i64 m1) (.int .i64 m2) (.int .i64 m3)
    have D1 := (b7.put4 nc (.int .i64 y0) (.int .i64 y1) (.int .i64 y2) (.int .i64 y3))
    have D2 := D1.put4 nd (.int .i64 m0) (.int .i64 m1) (.int .i64 m2) (.int .i64 m3)
    have G1 := Below.put4 B9 (Nat.le_refl _) (.int .i64 y0) (.int .i64 y1) (.int .i64 y2) (.int .i64 y3)
    have G2 := Below.put4 G1 (Nat.le_succ _) (.int .i64 m0) (.int .i64 m1) (.int .i64 m2) (.int .i64 m3)
    refine mix_call (by rfl) (fun K hK => ?_)
    go_simp
    refine hK _ _ _ (fun _ h => h) ⟨A1.drew, D1.drew⟩ ?_
    (try simp only [Act.put, List.setIfInBounds_toArray, List.set_cons_zero, List.set_cons_succ])
    refine mix_call (by rfl) (fun K hK => ?_)
    go_simp
    refine hK _ _ _ (fun _ h => h) ⟨A2.drew, D2.drew⟩ ?_
    (try simp only [Act.put, List.setIfInBounds_toArray, List.set_cons_zero, List.set_cons_succ])
    refine mix_nil ?_
    go_wp2
    refine bodyPost_ret (v := .tuple #[.agg #[.int .i64 y0, .int .i64 y1, .int .i64 y2, .int .i64 y3], .agg #[.int .i64 m0, .int .i64 m1, .int .i64 m2, .int .i64 m3]]) (by simp [results, Tryd.results13, go_sem, c0, c1, c2, c3, d0, d1, d2, d3]) rfl ?_
    exact ⟨y0, y1, y2, y3, m0, m1, m2, m3, rfl, G2.drew⟩

set_option maxHeartbeats 2000000 in
theorem drawDecodeSample (A : Option Addr) (m c : Nat) (l : List UInt8) (w : World) (ha : Rd eB w w.heap.size A l) (hn : l.length = m) (hm : m ≤ 1048576) :
    Calls Tryd.prog 10 #[.slice A m c] w fun e w' => ∃ (A : Option Addr) (n c : Nat) (xs : List UInt8), e = .returned (.slice A n c) ∧ n ≤ 7 ∧ xs.length = n ∧ Rd eB w' w'.heap.size A xs ∧ Below w.heap.size w w' := by
  go_enter Tryd.func10, Tryd.ntmps10
  go_wp2_with fail
  refine (l1Source A m c l _ ha hn hm).mono ?_
  rintro e w1 ⟨rfl, s1, B1, -⟩
  have g1 := s1.at_.lt
  go_wp2_with fail
  refine (l2Draw _ w.heap.size w.heap.size A m c 0 l s1 (by omega)).mono ?_
  rintro e w2 ⟨n0, n1, n2, n3, rfl, k0, k1, k2, k3, s2, hw2⟩
  have B2 := hw2.below B1 B1.size (Nat.le_refl _)
  have g2 := s2.at_.lt
  have x2 := At.new w2 25 #[.int .i64 n0, .int .i64 n1, .int .i64 n2, .int .i64 ((n3 : Int) - 1000)]
  have s2' := s2.alloc (.cells #[.int .i64 n0, .int .i64 n1, .int .i64 n2, .int .i64 ((n3 : Int) - 1000)] 25)
  have B2' := B2.alloc B2.size (.cells #[.int .i64 n0, .int .i64 n1, .int .i64 n2, .int .i64 ((n3 : Int) - 1000)] 25)
  have e2 : (w2.alloc (.cells #[.int .i64 n0, .int .i64 n1, .int .i64 n2, .int .i64 ((n3 : Int) - 1000)] 25)).heap.size = w2.heap.size + 1 := by simp
  go_wp2_with fail
  refine (l2Encode w2.heap.size n0 n1 n2 n3 _ x2 k0 k1 k2 k3).mono ?_
  rintro e w3 ⟨A3, c3, rfl, ow3, hb3⟩
  have B3 := B2'.trans (hb3.mono B2'.size)
  have s3 := s2'.below hb3 (by omega)
  rw [e2] at ow3
  have hcap := ow3.cap
  generalize encL n0 n1 n2 n3 = xs at *
  have hxl := ow3.len okB
  obtain ⟨g3, rfl, lg3, hg3⟩ := ow3.form (by omega)
  clear x2 s2' B2' e2 hb3 hw2
  go_wp2_with fail
  refine (l1Next _ w.heap.size w.heap.size A m c (0 + 4) l 4 s3 (by omega) (by omega)).mono ?_
  rintro e w4 ⟨r, rfl, hr, -, s4, hw4, -⟩
  obtain ⟨hr0, hr1⟩ := hr (by omega)
  have B4 := hw4.below B3 B3.size (Nat.le_refl _)
  have ow4 := ow3.past hw4 (by omega)
  clear hr ow3 s3
  rcases (show r = 0 ∨ r = 1 ∨ 2 ≤ r by omega) with rfl | rfl | hr2
  · go_wp2_with fail
    refine (l1Next _ w.heap.size w.heap.size A m c (0 + 4 + 1) l 7 s4 (by omega) (by omega)).mono ?_
    rintro e w5 ⟨r5, rfl, hr5, -, s5, hw5, -⟩
    obtain ⟨h50, h51⟩ := hr5 (by omega)
    obtain ⟨j, rfl⟩ := Int.eq_ofNat_of_zero_le h50
    have B5 := hw5.below B4 B4.size (Nat.le_refl _)
    have ow5 := ow4.past hw5 (by omega)
    have hj : j < 7 := by omega
    clear hr5 ow4 s4
    go_wp2_with fail
    refine (l1Pick (w5.alloc (.cells #[.int .i64 0, .int .i64 9, .int .i64 10, .int .i64 39, .int .i64 255] 2)) w.heap.size w.heap.size A m c (0 + 4 + 1 + 1) l w5.heap.size #[.int .i64 0, .int .i64 9, .int .i64 10, .int .i64 39, .int .i64 255] [0, 9, 10, 39, 255] 5 5 (s5.alloc _) (by omega) (At.new _ _ _) (by simp [intCells]) (by have := s5.at_.lt; omega) rfl (by omega) (by omega)).mono ?_
    rintro e w6 ⟨v6, hv6, rfl, s6, hw6, -⟩
    obtain ⟨q, rfl, hq⟩ := pick_nat 255 hv6 rfl
    have B6 := hw6.below (B5.alloc B5.size (.cells #[.int .i64 0, .int .i64 9, .int .i64 10, .int .i64 39, .int .i64 255] 2)) (B5.alloc B5.size (.cells #[.int .i64 0, .int .i64 9, .int .i64 10, .int .i64 39, .int .i64 255] 2)).size (Nat.le_refl _)
    have ow6 := (ow5.alloc (.cells #[.int .i64 0, .int .i64 9, .int .i64 10, .int .i64 39, .int .i64 255] 2)).past hw6 (by omega)
    clear hv6 ow5 s5
    obtain ⟨a, hz⟩ : ∃ a, xs[j]? = some a := ⟨xs[j], List.getElem?_eq_getElem (by omega)⟩
    have cb := ow6.byteAt hz
    have fb := ow6.frozenAt j
    have hst := (ow6.byteSet hj (UInt8.ofNat q)).1
    rw [byte_small1 (show q < 256 by omega)] at hst
    have hwr : IntKind.u8.wrap (q : Int) = (q : Int) := IntWalk.u8_in _ (by omega)
    have Hst := Lib.hid hst
    have jp : (0 : Int) ≤ (j : Int) := by omega
    have j7 : (j : Int) < 7 := by omega
    clear hz hst
    go_wp2
    go_ret
    exact ⟨_, 7, c3, _, rfl, by omega, Hst.out.len okB, Hst.out.rd okB, B6.setCell (by show w.heap.size ≤ g3; omega) _⟩
  · go_wp2_with fail
    refine (l1Next _ w.heap.size w.heap.size A m c (0 + 4 + 1) l 7 s4 (by omega) (by omega)).mono ?_
    rintro e w5 ⟨r5, rfl, hr5, -, s5, hw5, -⟩
    obtain ⟨h50, h51⟩ := hr5 (by omega)
    obtain ⟨j, rfl⟩ := Int.eq_ofNat_of_zero_le h50
    have B5 := hw5.below B4 B4.size (Nat.le_refl _)
    have ow5 := ow4.past hw5 (by omega)
    have hj : j < 7 := by omega
    clear hr5 ow4 s4
    have jp : (0 : Int) ≤ (j : Int) := by omega
    have jc : (j : Int) ≤ (c3 : Int) := by omega
    go_wp2
    go_ret
    exact ⟨_, j, c3, xs.take j, rfl, by omega, by rw [List.length_take]; omega, (ow5.rd okB).take j, B5⟩
  · have b0 : (r == 0) = false := by simp; omega
    have b1 : (r == 1) = false := by simp; omega
    go_wp2
    go_ret
    exact ⟨_, 7, c3, xs, rfl, by omega, hxl, ow4.rd okB, B4⟩
end Go.Proofs.YtpbpahdgdddneaaDoor
