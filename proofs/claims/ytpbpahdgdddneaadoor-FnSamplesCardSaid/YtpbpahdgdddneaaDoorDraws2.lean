/-
  Samples that are drawn, and bytes of samples.
-/
import Derived.Test.YtpbpahdgdddneaaDoorDraw
import Derived.Test.YtpbpahdgdddneaaDoorDraws1
import Derived.Test.YtpbpahdgdddneaaDoorEnc
namespace Go.Proofs.YtpbpahdgdddneaaDoor
open Go.RowKit
set_option linter.unusedSimpArgs false

theorem At.newAt {w : World} {g : Nat} {t : TypeId} {cs : Array Value} (h : w.heap.size = g) : At (w.alloc (.cells cs t)) g t cs := by
  subst h
  exact At.new w t cs
theorem pick_val {xs : List Int} {v : Int} (h : v ∈ xs) (ha : (xs.all fun x => decide (-1000 ≤ x ∧ x ≤ 1000)) = true) : ∃ q : Nat, v = (q : Int) - 1000 ∧ q ≤ 2000 := by
  have := List.all_eq_true.1 ha v h
  simp only [decide_eq_true_eq] at this
  exact ⟨(v + 1000).toNat, by omega, by omega⟩
theorem Within.put {a w : World} {lo hi : Nat} (h : Within lo hi w a) {p : Addr} (hp : w.heap.size ≤ p.block) (u : Value) : Within lo hi w (a.setCell p u) :=
  h.push (grown_setCell a p u) (fun g hg => by obtain rfl := Option.some.inj hg; exact hp)
theorem Src.put {w : World} {base g n c k : Nat} {A : Option Addr} {l : List UInt8} (h : Src w base g A n c k l) {p : Addr} (hp : g < p.block) (u : Value) : Src (w.setCell p u) base g A n c k l :=
  h.grown (grown_setCell w p u) (fun x hx => by obtain rfl := Option.some.inj hx; exact hp)

set_option maxHeartbeats 1000000 in
theorem l2Draw (w : World) (base g : Nat) (A : Option Addr) (m c k : Nat) (l : List UInt8) (h : Src w base g A m c k l) (hk : k < 1000000000) :
    Calls Tryd.prog 34 #[.pointer (some ⟨g, 0, none⟩)] w fun e w' => ∃ n0 n1 n2 n3 : Nat, e = .returned (.agg #[.int .i64 n0, .int .i64 n1, .int .i64 n2, .int .i64 ((n3 : Int) - 1000)]) ∧ n0 ≤ 9 ∧ n1 ≤ 999 ∧ n2 ≤ 9999 ∧ n3 ≤ 2000 ∧ Src w' base g A m c (k + 4) l ∧ Within g (g + 1) w w' := by
  have g0 := h.at_.lt
  have s0 := h.alloc (.cells #[.int .i64 0, .int .i64 0, .int .i64 0, .int .i64 0] 25)
  have WI0 := (Within.refl g (g + 1) w).alloc (.cells #[.int .i64 0, .int .i64 0, .int .i64 0, .int .i64 0] 25)
  have r0 := At.new w 25 #[.int .i64 0, .int .i64 0, .int .i64 0, .int .i64 0]
  go_enter Tryd.func34, Tryd.ntmps34
  go_wp2_with fail
  refine (l1Pick ((w.alloc (.cells #[.int .i64 0, .int .i64 0, .int .i64 0, .int .i64 0] 25)).alloc (.cells #[.int .i64 0, .int .i64 1, .int .i64 2, .int .i64 9] 2)) _ _ A m c k l (w.heap.size + 1) #[.int .i64 0, .int .i64 1, .int .i64 2, .int .i64 9] [0, 1, 2, 9] 4 4 (s0.alloc _) (by omega) (At.newAt (by first | rfl | simp)) (by simp [intCells]) (by omega) rfl (by omega) (by omega)).mono ?_
  rintro e w1 ⟨v1, hv1, rfl, s1, hw1, -⟩
  have g1 := s1.at_.lt
  have WI1 := (WI0.alloc (.cells #[.int .i64 0, .int .i64 1, .int .i64 2, .int .i64 9] 2)).trans hw1
  have z1 := WI1.size
  have r1 := (r0.alloc (.cells #[.int .i64 0, .int .i64 1, .int .i64 2, .int .i64 9] 2)).within hw1 (by omega)
  obtain ⟨q1, rfl, hq1⟩ := pick_nat 9 hv1 rfl
  clear hv1
  go_wp2_with fail
  refine (l1Pick (w1.alloc (.cells #[.int .i64 0, .int .i64 5, .int .i64 7, .int .i64 999, .int .i64 6] 2)) _ _ A m c (k + 1) l w1.heap.size #[.int .i64 0, .int .i64 5, .int .i64 7, .int .i64 999, .int .i64 6] [0, 5, 7, 999, 6] 5 5 (s1.alloc _) (by omega) (At.newAt (by first | rfl | simp)) (by simp [intCells]) (by omega) rfl (by omega) (by omega)).mono ?_
  rintro e w2 ⟨v2, hv2, rfl, s2, hw2, -⟩
  have g2 := s2.at_.lt
  have WI2 := (WI1.alloc (.cells #[.int .i64 0, .int .i64 5, .int .i64 7, .int .i64 999, .int .i64 6] 2)).trans hw2
  have z2 := WI2.size
  have r2 := (r1.alloc (.cells #[.int .i64 0, .int .i64 5, .int .i64 7, .int .i64 999, .int .i64 6] 2)).within hw2 (by omega)
  obtain ⟨q2, rfl, hq2⟩ := pick_nat 999 hv2 rfl
  clear hv2
  go_wp2_with fail
  refine (l1Pick (w2.alloc (.cells #[.int .i64 0, .int .i64 1, .int .i64 2, .int .i64 3, .int .i64 9999] 2)) _ _ A m c (k + 1 + 1) l w2.heap.size #[.int .i64 0, .int .i64 1, .int .i64 2, .int .i64 3, .int .i64 9999] [0, 1, 2, 3, 9999] 5 5 (s2.alloc _) (by omega) (At.newAt (by first | rfl | simp)) (by simp [intCells]) (by omega) rfl (by omega) (by omega)).mono ?_
  rintro e w3 ⟨v3, hv3, rfl, s3, hw3, -⟩
  have g3 := s3.at_.lt
  have WI3 := (WI2.alloc (.cells #[.int .i64 0, .int .i64 1, .int .i64 2, .int .i64 3, .int .i64 9999] 2)).trans hw3
  have z3 := WI3.size
  have r3 := (r2.alloc (.cells #[.int .i64 0, .int .i64 1, .int .i64 2, .int .i64 3, .int .i64 9999] 2)).within hw3 (by omega)
  obtain ⟨q3, rfl, hq3⟩ := pick_nat 9999 hv3 rfl
  clear hv3
  go_wp2_with fail
  refine (l1Pick (w3.alloc (.cells #[.int .i64 0, .int .i64 5, .int .i64 (-5), .int .i64 1000, .int .i64 (-1000)] 2)) _ _ A m c (k + 1 + 1 + 1) l w3.heap.size #[.int .i64 0, .int .i64 5, .int .i64 (-5), .int .i64 1000, .int .i64 (-1000)] [0, 5, (-5), 1000, (-1000)] 5 5 (s3.alloc _) (by omega) (At.newAt (by first | rfl | simp)) (by simp [intCells]) (by omega) rfl (by omega) (by omega)).mono ?_
  rintro e w4 ⟨v4, hv4, rfl, s4, hw4, -⟩
  have g4 := s4.at_.lt
  have WI4 := (WI3.alloc (.cells #[.int .i64 0, .int .i64 5, .int .i64 (-5), .int .i64 1000, .int .i64 (-1000)] 2)).trans hw4
  have z4 := WI4.size
  have r4 := (r3.alloc (.cells #[.int .i64 0, .int .i64 5, .int .i64 (-5), .int .i64 1000, .int .i64 (-1000)] 2)).within hw4 (by omega)
  obtain ⟨q4, rfl, hq4⟩ := pick_val hv4 rfl
  clear hv4
  obtain ⟨c0, c1, c2, c3, f0, f1, f2, f3⟩ := r4.four
  go_wp2_with fail
  refine bodyPost_ret (v := .agg #[.int .i64 q1, .int .i64 q2, .int .i64 q3, .int .i64 ((q4 : Int) - 1000)]) (by simp [results, Tryd.results34, go_sem, c0, c1, c2, c3]) rfl ?_
  exact ⟨q1, q2, q3, q4, rfl, hq1, hq2, hq3, hq4, (((s4.put (p := ⟨w.heap.size, 0, none⟩) g0 _).put (p := ⟨w.heap.size, 1, none⟩) g0 _).put (p := ⟨w.heap.size, 2, none⟩) g0 _).put (p := ⟨w.heap.size, 3, none⟩) g0 _, (((WI4.put (p := ⟨w.heap.size, 0, none⟩) (Nat.le_refl _) _).put (p := ⟨w.heap.size, 1, none⟩) (Nat.le_refl _) _).put (p := ⟨w.heap.size, 2, none⟩) (Nat.le_refl _) _).put (p := ⟨w.heap.size, 3, none⟩) (Nat.le_refl _) _⟩

set_option maxHeartbeats 2000000 in
theorem l2Bent (w : World) (base g : Nat) (A : Option Addr) (m c k : Nat) (l : List UInt8) (h : Src w base g A m c k l) (hk : k < 900000000) :
    Calls Tryd.prog 30 #[.pointer (some ⟨g, 0, none⟩)] w fun e w' => ∃ a0 a1 a2 a3 : Int, e = .returned (.agg #[.int .i64 a0, .int .i64 a1, .int .i64 a2, .int .i64 a3]) ∧ Within g (g + 1) w w' := by
  have g0 := h.at_.lt
  have s0 := h.alloc (.cells #[.int .i64 0, .int .i64 0, .int .i64 0, .int .i64 0] 25)
  have WI0 := (Within.refl g (g + 1) w).alloc (.cells #[.int .i64 0, .int .i64 0, .int .i64 0, .int .i64 0] 25)
  have r0 := At.new w 25 #[.int .i64 0, .int .i64 0, .int .i64 0, .int .i64 0]
  go_enter Tryd.func30, Tryd.ntmps30
  go_wp2_with fail
  refine (l2Draw _ base g A m c k l s0 (by omega)).mono ?_
  rintro e w1 ⟨n0, n1, n2, n3, rfl, -, -, -, -, s1, hw1⟩
  have WI1 := WI0.trans hw1
  have z1 := WI1.size
  have r1 := r0.within hw1 (by omega)
  have l1 := r1.lt
  have x1 := At.new w1 25 #[.int .i64 n0, .int .i64 n1, .int .i64 n2, .int .i64 ((n3 : Int) - 1000)]
  have s1' := s1.alloc (.cells #[.int .i64 n0, .int .i64 n1, .int .i64 n2, .int .i64 ((n3 : Int) - 1000)] 25)
  have r1' := r1.alloc (.cells #[.int .i64 n0, .int .i64 n1, .int .i64 n2, .int .i64 ((n3 : Int) - 1000)] 25)
  have WI1' := WI1.alloc (.cells #[.int .i64 n0, .int .i64 n1, .int .i64 n2, .int .i64 ((n3 : Int) - 1000)] 25)
  go_wp2_with fail
  refine (l1Next _ base g A m c (k + 4) l 12 s1' (by omega) (by omega)).mono ?_
  rintro e w2 ⟨r, rfl, hr, -, s2, hw2, -⟩
  obtain ⟨hr0, hr1⟩ := hr (by omega)
  have WI2 := WI1'.trans hw2
  have r2 := r1'.within hw2 (by omega)
  have x2 := x1.within hw2 (by have := s1.at_.lt; omega)
  have gx : g < w1.heap.size := s1.at_.lt
  have lx := x2.lt
  have z2 := WI2.size
  generalize ((n3 : Int) - 1000) = y3 at *
  generalize (n0 : Int) = y0 at *
  generalize (n1 : Int) = y1 at *
  generalize (n2 : Int) = y2 at *
  clear hr x1 r1 r1' s1' WI1' WI1 s1 hw1 hw2 WI0 s0 r0
  have hne : ¬ w.heap.size = w1.heap.size := by omega
  obtain ⟨c0, c1, c2, c3, f0, f1, f2, f3⟩ := r2.four
  obtain ⟨d0, d1, d2, d3, e0, e1, e2, e3⟩ := x2.four
  rcases (show r = 0 ∨ r = 1 ∨ r = 2 ∨ r = 3 ∨ 4 ≤ r by omega) with rfl | rfl | rfl | rfl | hr4
  · go_wp2_with fail
    refine (l1Pick (w2.alloc (.cells #[.int .i64 (-1), .int .i64 10] 2)) _ _ A m c (k + 4 + 1) l w2.heap.size #[.int .i64 (-1), .int .i64 10] [(-1), 10] 2 2 (s2.alloc _) (by omega) (At.newAt (by first | rfl | simp)) (by simp [intCells]) (by omega) rfl (by omega) (by omega)).mono ?_
    rintro e w3 ⟨v3, hv3, rfl, s3, hw3, -⟩
    have g3 := s3.at_.lt
    have WI3 := (WI2.alloc (.cells #[.int .i64 (-1), .int .i64 10] 2)).trans hw3
    have z3 := WI3.size
    have r3 := (r2.alloc (.cells #[.int .i64 (-1), .int .i64 10] 2)).within hw3 (by omega)
    have x3 := (x2.alloc (.cells #[.int .i64 (-1), .int .i64 10] 2)).within hw3 (by omega)
    clear c0 c1 c2 c3 f0 f1 f2 f3 d0 d1 d2 d3 e0 e1 e2 e3
    obtain ⟨c0, c1, c2, c3, f0, f1, f2, f3⟩ := r3.four
    obtain ⟨d0, d1, d2, d3, e0, e1, e2, e3⟩ := x3.four
    go_wp2_with fail
    refine bodyPost_ret (v := .agg #[.int .i64 v3, .int .i64 y1, .int .i64 y2, .int .i64 y3]) (by simp [results, Tryd.results30, go_sem, c0, c1, c2, c3]) rfl ?_
    exact ⟨_, _, _, _, rfl, ((((WI3.put (p := ⟨w1.heap.size, 0, none⟩) (by show w.heap.size ≤ w1.heap.size; omega) _).put (p := ⟨w.heap.size, 0, none⟩) (Nat.le_refl _) _).put (p := ⟨w.heap.size, 1, none⟩) (Nat.le_refl _) _).put (p := ⟨w.heap.size, 2, none⟩) (Nat.le_refl _) _).put (p := ⟨w.heap.size, 3, none⟩) (Nat.le_refl _) _⟩
  · go_wp2_with fail
    refine (l1Pick (w2.alloc (.cells #[.int .i64 (-1), .int .i64 1000] 2)) _ _ A m c (k + 4 + 1) l w2.heap.size #[.int .i64 (-1), .int .i64 1000] [(-1), 1000] 2 2 (s2.alloc _) (by omega) (At.newAt (by first | rfl | simp)) (by simp [intCells]) (by omega) rfl (by omega) (by omega)).mono ?_
    rintro e w3 ⟨v3, hv3, rfl, s3, hw3, -⟩
    have g3 := s3.at_.lt
    have WI3 := (WI2.alloc (.cells #[.int .i64 (-1), .int .i64 1000] 2)).trans hw3
    have z3 := WI3.size
    have r3 := (r2.alloc (.cells #[.int .i64 (-1), .int .i64 1000] 2)).within hw3 (by omega)
    have x3 := (x2.alloc (.cells #[.int .i64 (-1), .int .i64 1000] 2)).within hw3 (by omega)
    clear c0 c1 c2 c3 f0 f1 f2 f3 d0 d1 d2 d3 e0 e1 e2 e3
    obtain ⟨c0, c1, c2, c3, f0, f1, f2, f3⟩ := r3.four
    obtain ⟨d0, d1, d2, d3, e0, e1, e2, e3⟩ := x3.four
    go_wp2_with fail
    refine bodyPost_ret (v := .agg #[.int .i64 y0, .int .i64 v3, .int .i64 y2, .int .i64 y3]) (by simp [results, Tryd.results30, go_sem, c0, c1, c2, c3]) rfl ?_
    exact ⟨_, _, _, _, rfl, ((((WI3.put (p := ⟨w1.heap.size, 1, none⟩) (by show w.heap.size ≤ w1.heap.size; omega) _).put (p := ⟨w.heap.size, 0, none⟩) (Nat.le_refl _) _).put (p := ⟨w.heap.size, 1, none⟩) (Nat.le_refl _) _).put (p := ⟨w.heap.size, 2, none⟩) (Nat.le_refl _) _).put (p := ⟨w.heap.size, 3, none⟩) (Nat.le_refl _) _⟩
  · go_wp2_with fail
    refine (l1Pick (w2.alloc (.cells #[.int .i64 (-1), .int .i64 10000] 2)) _ _ A m c (k + 4 + 1) l w2.heap.size #[.int .i64 (-1), .int .i64 10000] [(-1), 10000] 2 2 (s2.alloc _) (by omega) (At.newAt (by first | rfl | simp)) (by simp [intCells]) (by omega) rfl (by omega) (by omega)).mono ?_
    rintro e w3 ⟨v3, hv3, rfl, s3, hw3, -⟩
    have g3 := s3.at_.lt
    have WI3 := (WI2.alloc (.cells #[.int .i64 (-1), .int .i64 10000] 2)).trans hw3
    have z3 := WI3.size
    have r3 := (r2.alloc (.cells #[.int .i64 (-1), .int .i64 10000] 2)).within hw3 (by omega)
    have x3 := (x2.alloc (.cells #[.int .i64 (-1), .int .i64 10000] 2)).within hw3 (by omega)
    clear c0 c1 c2 c3 f0 f1 f2 f3 d0 d1 d2 d3 e0 e1 e2 e3
    obtain ⟨c0, c1, c2, c3, f0, f1, f2, f3⟩ := r3.four
    obtain ⟨d0, d1, d2, d3, e0, e1, e2, e3⟩ := x3.four
    go_wp2_with fail
    refine bodyPost_ret (v := .agg #[.int .i64 y0, .int .i64 y1, .int .i64 v3, .int .i64 y3]) (by simp [results, Tryd.results30, go_sem, c0, c1, c2, c3]) rfl ?_
    exact ⟨_, _, _, _, rfl, ((((WI3.put (p := ⟨w1.heap.size, 2, none⟩) (by show w.heap.size ≤ w1.heap.size; omega) _).put (p := ⟨w.heap.size, 0, none⟩) (Nat.le_refl _) _).put (p := ⟨w.heap.size, 1, none⟩) (Nat.le_refl _) _).put (p := ⟨w.heap.size, 2, none⟩) (Nat.le_refl _) _).put (p := ⟨w.heap.size, 3, none⟩) (Nat.le_refl _) _⟩
  · go_wp2_with fail
    refine (l1Pick (w2.alloc (.cells #[.int .i64 (-1001), .int .i64 1001] 2)) _ _ A m c (k + 4 + 1) l w2.heap.size #[.int .i64 (-1001), .int .i64 1001] [(-1001), 1001] 2 2 (s2.alloc _) (by omega) (At.newAt (by first | rfl | simp)) (by simp [intCells]) (by omega) rfl (by omega) (by omega)).mono ?_
    rintro e w3 ⟨v3, hv3, rfl, s3, hw3, -⟩
    have g3 := s3.at_.lt
    have WI3 := (WI2.alloc (.cells #[.int .i64 (-1001), .int .i64 1001] 2)).trans hw3
    have z3 := WI3.size
    have r3 := (r2.alloc (.cells #[.int .i64 (-1001), .int .i64 1001] 2)).within hw3 (by omega)
    have x3 := (x2.alloc (.cells #[.int .i64 (-1001), .int .i64 1001] 2)).within hw3 (by omega)
    clear c0 c1 c2 c3 f0 f1 f2 f3 d0 d1 d2 d3 e0 e1 e2 e3
    obtain ⟨c0, c1, c2, c3, f0, f1, f2, f3⟩ := r3.four
    obtain ⟨d0, d1, d2, d3, e0, e1, e2, e3⟩ := x3.four
    go_wp2_with fail
    refine bodyPost_ret (v := .agg #[.int .i64 y0, .int .i64 y1, .int .i64 y2, .int .i64 v3]) (by simp [results, Tryd.results30, go_sem, c0, c1, c2, c3]) rfl ?_
    exact ⟨_, _, _, _, rfl, ((((WI3.put (p := ⟨w1.heap.size, 3, none⟩) (by show w.heap.size ≤ w1.heap.size; omega) _).put (p := ⟨w.heap.size, 0, none⟩) (Nat.le_refl _) _).put (p := ⟨w.heap.size, 1, none⟩) (Nat.le_refl _) _).put (p := ⟨w.heap.size, 2, none⟩) (Nat.le_refl _) _).put (p := ⟨w.heap.size, 3, none⟩) (Nat.le_refl _) _⟩
  · have b0 : (r == 0) = false := by simp; omega
    have b1 : (r == 1) = false := by simp; omega
    have b2 : (r == 2) = false := by simp; omega
    have b3 : (r == 3) = false := by simp; omega
    go_wp2_with fail
    refine bodyPost_ret (v := .agg #[.int .i64 y0, .int .i64 y1, .int .i64 y2, .int .i64 y3]) (by simp [results, Tryd.results30, go_sem, c0, c1, c2, c3]) rfl ?_
    exact ⟨_, _, _, _, rfl, (((WI2.put (p := ⟨w.heap.size, 0, none⟩) (Nat.le_refl _) _).put (p := ⟨w.heap.size, 1, none⟩) (Nat.le_refl _) _).put (p := ⟨w.heap.size, 2, none⟩) (Nat.le_refl _) _).put (p := ⟨w.heap.size, 3, none⟩) (Nat.le_refl _) _⟩

set_option maxHeartbeats 2000000 in
theorem drawEncodeSample (A : Option Addr) (m c : Nat) (l : List UInt8) (w : World) (ha : Rd eB w w.heap.size A l) (hn : l.length = m) (hm : m ≤ 1048576) :
    Calls Tryd.prog 8 #[.slice A m c] w fun e w' => ∃ a0 a1 a2 a3 : Int, e = .returned (.agg #[.int .i64 a0, .int .i64 a1, .int .i64 a2, .int .i64 a3]) ∧ Below w.heap.size w w' := by
  have B0 := Below.refl w.heap.size w
  have a0 := ha
  have B1 := B0.alloc B0.size (.cells #[.int .i64 0, .int .i64 0, .int .i64 0, .int .i64 0] 25)
  have q0 := At.newAt (cs := #[.int .i64 0, .int .i64 0, .int .i64 0, .int .i64 0]) (t := 25) (show w.heap.size = w.heap.size by simp)
  go_enter Tryd.func8, Tryd.ntmps8
  go_wp2_with fail
  refine (l1Source A m c l _ (ha.lift B1) hn hm).mono ?_
  rintro e w1 ⟨rfl, s1, hb1, -⟩
  have B2 := B1.trans (hb1.mono B1.size)
  have r1 := q0.below hb1 q0.lt
  rw [show (w.alloc (.cells #[.int .i64 0, .int .i64 0, .int .i64 0, .int .i64 0] 25)).heap.size = w.heap.size + 1 by simp] at s1
  have g1 := s1.at_.lt
  go_wp2_with fail
  refine (l2Bent w1 (w.heap.size + 1) (w.heap.size + 1) A m c 0 l s1 (by omega)).mono ?_
  rintro e w2 ⟨a0, a1, a2, a3, rfl, hw2⟩
  have B3 := hw2.below B2 B2.size (by omega)
  have r2 := r1.within hw2 (by omega)
  obtain ⟨c0, c1, c2, c3, f0, f1, f2, f3⟩ := r2.four
  go_wp2_with fail
  refine bodyPost_ret (v := .agg #[.int .i64 a0, .int .i64 a1, .int .i64 a2, .int .i64 a3]) (by simp [results, Tryd.results8, go_sem, c0, c1, c2, c3]) rfl ?_
  exact ⟨a0, a1, a2, a3, rfl, (((B3.setCell (by simp) _).setCell (by simp) _).setCell (by simp) _).setCell (by simp) _⟩
end Go.Proofs.YtpbpahdgdddneaaDoor
