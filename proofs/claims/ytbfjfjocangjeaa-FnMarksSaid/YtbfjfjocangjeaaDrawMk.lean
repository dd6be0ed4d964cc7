/-
  Marks and members that are drawn, and what the laws of chapter 7 draw.
-/
import Derived.Test.YtbfjfjocangjeaaDraws2
import Derived.Test.YtbfjfjocangjeaaAny
import Derived.Test.YtbfjfjocangjeaaMrks
namespace Go.Proofs.Ytbfjfjocangjeaa
set_option maxRecDepth 20000
open Go.RowKit
set_option linter.unusedSimpArgs false
set_option linter.unusedVariables false

theorem Src.drewMk {w : World} {base g n c k : Nat} {A : Option Addr} {l : List UInt8} (h : Src w base g A n c k l) : Src w.drew base g A n c k l := ⟨h.at_.drew, h.rd.drewN 1, h.len, h.big, h.low⟩

set_option maxHeartbeats 4000000 in
theorem l7Mark (w : World) (base g : Nat) (A : Option Addr) (m c k : Nat) (l : List UInt8) (h : Src w base g A m c k l) (hk : k < 900000000) :
    Calls Try.prog 63 #[.pointer (some ⟨g, 0, none⟩)] w fun e w' => ∃ a0 a1 : Int, e = .returned (.agg #[.int .i64 a0, .int .i64 a1]) ∧ (∃ k' : Nat, k' ≤ k + 8 ∧ Src w' base g A m c k' l) ∧ Within g (g + 1) w w' := by
  have g0 := h.at_.lt
  have WI0 := Within.refl g (g + 1) w
  have r := At.newAt' (w := w) (t := 25) (cs := #[.int .i64 0, .int .i64 0]) (show w.heap.size = w.heap.size by first | rfl | simp)
  have s1 := h.alloc (.cells #[.int .i64 0, .int .i64 0] 25)
  have g1 := s1.at_.lt
  have WI1 := WI0.alloc (.cells #[.int .i64 0, .int .i64 0] 25)
  have zw1 := WI1.size
  go_enter Try.func63, Try.ntmps63
  go_wp2_with fail
  refine (l1Next (w.alloc (.cells #[.int .i64 0, .int .i64 0] 25)) base g A m c k l 3 s1 (by omega) (by omega)).mono ?_
  rintro e w2 ⟨q, rfl, hr2, -, s2, hw2, -⟩
  have zs2 : w.heap.size + 1 ≤ w2.heap.size := by have q := hw2.size; first | exact q | (simp; done) | (simp at q; exact q) | (simp at q ⊢; omega)
  have r_2 := r.within hw2 (by first | omega | (simp; omega))
  have WI2 := WI1.trans hw2
  have zw2 := WI2.size
  have g2 := s2.at_.lt
  obtain ⟨hr2a, hr2b⟩ := hr2 (by omega)
  have hwq : IntKind.i64.wrap (1 + q) = 1 + q := IntWalk.i64_in _ (by omega)
  have r_3 := r_2.alloc (.cells #[.int .i64 0, .int .i64 1, .int .i64 2, .int .i64 3, .int .i64 60000] 2)
  have s3 := s2.alloc (.cells #[.int .i64 0, .int .i64 1, .int .i64 2, .int .i64 3, .int .i64 60000] 2)
  have g3 := s3.at_.lt
  have WI3 := WI2.alloc (.cells #[.int .i64 0, .int .i64 1, .int .i64 2, .int .i64 3, .int .i64 60000] 2)
  have zw3 := WI3.size
  go_wp2_with fail
  refine (l1Pick (w2.alloc (.cells #[.int .i64 0, .int .i64 1, .int .i64 2, .int .i64 3, .int .i64 60000] 2)) base g A m c (k + 1) l (w2.heap.size) #[.int .i64 0, .int .i64 1, .int .i64 2, .int .i64 3, .int .i64 60000] [0, 1, 2, 3, 60000] 5 5 s3 (by omega) (At.newAt' (show w2.heap.size = w2.heap.size by first | rfl | simp)) (by simp [intCells]) (by first | omega | (simp; omega)) rfl (by omega) (by omega)).mono ?_
  rintro e w4 ⟨v, hv4, rfl, s4, hw4, -⟩
  have zs4 : w2.heap.size + 1 ≤ w4.heap.size := by have q := hw4.size; first | exact q | (simp; done) | (simp at q; exact q) | (simp at q ⊢; omega)
  have r_4 := r_3.within hw4 (by first | omega | (simp; omega))
  have WI4 := WI3.trans hw4
  have zw4 := WI4.size
  have g4 := s4.at_.lt
  have x := At.newAt' (w := w4) (t := 25) (cs := #[.int .i64 (1 + q), .int .i64 v]) (show w4.heap.size = w4.heap.size by first | rfl | simp)
  have ln5_r : w.heap.size < w4.heap.size := by have q := r_4.lt; first | exact q | (simp; done) | (simp at q; exact q) | (simp at q ⊢; omega)
  have hn5_r : ¬ w.heap.size = w4.heap.size := by omega
  have hm5_r : ¬ w4.heap.size = w.heap.size := by omega
  have r_5 := r_4.alloc (.cells #[.int .i64 (1 + q), .int .i64 v] 25)
  have s5 := s4.alloc (.cells #[.int .i64 (1 + q), .int .i64 v] 25)
  have g5 := s5.at_.lt
  have WI5 := WI4.alloc (.cells #[.int .i64 (1 + q), .int .i64 v] 25)
  have zw5 := WI5.size
  go_wp2_with fail
  refine (l1Next (w4.alloc (.cells #[.int .i64 (1 + q), .int .i64 v] 25)) base g A m c ((k + 1) + 1) l 20 s5 (by omega) (by omega)).mono ?_
  rintro e w6 ⟨p, rfl, hr6, -, s6, hw6, -⟩
  have zs6 : w4.heap.size + 1 ≤ w6.heap.size := by have q := hw6.size; first | exact q | (simp; done) | (simp at q; exact q) | (simp at q ⊢; omega)
  have r_6 := r_5.within hw6 (by first | omega | (simp; omega))
  have x_6 := x.within hw6 (by first | omega | (simp; omega))
  have WI6 := WI5.trans hw6
  have zw6 := WI6.size
  have g6 := s6.at_.lt
  obtain ⟨hr6a, hr6b⟩ := hr6 (by omega)
  rcases (show p = 0 ∨ p = 1 ∨ 2 ≤ p by omega) with rfl | rfl | hp2
  · have r_7 := r_6.alloc (.cells #[.int .i64 0, .int .i64 4] 2)
    have x_7 := x_6.alloc (.cells #[.int .i64 0, .int .i64 4] 2)
    have s7 := s6.alloc (.cells #[.int .i64 0, .int .i64 4] 2)
    have g7 := s7.at_.lt
    have WI7 := WI6.alloc (.cells #[.int .i64 0, .int .i64 4] 2)
    have zw7 := WI7.size
    go_wp2_with fail
    refine (l1Pick (w6.alloc (.cells #[.int .i64 0, .int .i64 4] 2)) base g A m c (((k + 1) + 1) + 1) l (w6.heap.size) #[.int .i64 0, .int .i64 4] [0, 4] 2 2 s7 (by omega) (At.newAt' (show w6.heap.size = w6.heap.size by first | rfl | simp)) (by simp [intCells]) (by first | omega | (simp; omega)) rfl (by omega) (by omega)).mono ?_
    rintro e w8 ⟨u, hv8, rfl, s8, hw8, -⟩
    have zs8 : w6.heap.size + 1 ≤ w8.heap.size := by have q := hw8.size; first | exact q | (simp; done) | (simp at q; exact q) | (simp at q ⊢; omega)
    have r_8 := r_7.within hw8 (by first | omega | (simp; omega))
    have x_8 := x_7.within hw8 (by first | omega | (simp; omega))
    have WI8 := WI7.trans hw8
    have zw8 := WI8.size
    have g8 := s8.at_.lt
    have xc0 : World.cell? w8 ⟨w4.heap.size, 0, none⟩ = some (.int .i64 (1 + q)) := x_8.cell 0
    have xc1 : World.cell? w8 ⟨w4.heap.size, 1, none⟩ = some (.int .i64 v) := x_8.cell 1
    have xf0 : World.frozen? w8 ⟨w4.heap.size, 0, none⟩ = false := x_8.frozen 0
    have xf1 : World.frozen? w8 ⟨w4.heap.size, 1, none⟩ = false := x_8.frozen 1
    have rc0 : World.cell? w8 ⟨w.heap.size, 0, none⟩ = some (.int .i64 0) := r_8.cell 0
    have rc1 : World.cell? w8 ⟨w.heap.size, 1, none⟩ = some (.int .i64 0) := r_8.cell 1
    have rf0 : World.frozen? w8 ⟨w.heap.size, 0, none⟩ = false := r_8.frozen 0
    have rf1 : World.frozen? w8 ⟨w.heap.size, 1, none⟩ = false := r_8.frozen 1
    go_wp2_with fail
    have r_9 := r_8.far (p := ⟨w4.heap.size, 0, none⟩) (by show _ ≠ w4.heap.size; first | omega | (simp; omega)) (.int .i64 u)
    have s9 := s8.put (p := ⟨w4.heap.size, 0, none⟩) (by show _ < w4.heap.size; first | omega | (simp; omega)) (.int .i64 u)
    have WI9 := WI8.put (p := ⟨w4.heap.size, 0, none⟩) (by show _ ≤ w4.heap.size; first | exact Nat.le_refl _ | omega | (simp; omega)) (.int .i64 u)
    have x_9 := x_8.set 0 (.int .i64 u)
    have x_10 := x_9.far (p := ⟨w.heap.size, 0, none⟩) (by show _ ≠ w.heap.size; first | omega | (simp; omega)) (.int .i64 u)
    have s10 := s9.put (p := ⟨w.heap.size, 0, none⟩) (by show _ < w.heap.size; first | omega | (simp; omega)) (.int .i64 u)
    have WI10 := WI9.put (p := ⟨w.heap.size, 0, none⟩) (by show _ ≤ w.heap.size; first | exact Nat.le_refl _ | omega | (simp; omega)) (.int .i64 u)
    have r_10 := r_9.set 0 (.int .i64 u)
    have x_11 := x_10.far (p := ⟨w.heap.size, 1, none⟩) (by show _ ≠ w.heap.size; first | omega | (simp; omega)) (.int .i64 v)
    have s11 := s10.put (p := ⟨w.heap.size, 1, none⟩) (by show _ < w.heap.size; first | omega | (simp; omega)) (.int .i64 v)
    have WI11 := WI10.put (p := ⟨w.heap.size, 1, none⟩) (by show _ ≤ w.heap.size; first | exact Nat.le_refl _ | omega | (simp; omega)) (.int .i64 v)
    have r_11 := r_10.set 1 (.int .i64 v)
    refine bodyPost_ret (v := .agg #[.int .i64 u, .int .i64 v]) (by simp [results, Try.results63, go_sem, rc0, rc1, hn5_r, hm5_r]) rfl ?_
    exact ⟨_, _, rfl, ⟨_, by omega, s11⟩, WI11⟩
  · have r_7 := r_6.alloc (.cells #[.int .i64 (-1), .int .i64 60001] 2)
    have x_7 := x_6.alloc (.cells #[.int .i64 (-1), .int .i64 60001] 2)
    have s7 := s6.alloc (.cells #[.int .i64 (-1), .int .i64 60001] 2)
    have g7 := s7.at_.lt
    have WI7 := WI6.alloc (.cells #[.int .i64 (-1), .int .i64 60001] 2)
    have zw7 := WI7.size
    go_wp2_with fail
    refine (l1Pick (w6.alloc (.cells #[.int .i64 (-1), .int .i64 60001] 2)) base g A m c (((k + 1) + 1) + 1) l (w6.heap.size) #[.int .i64 (-1), .int .i64 60001] [(-1), 60001] 2 2 s7 (by omega) (At.newAt' (show w6.heap.size = w6.heap.size by first | rfl | simp)) (by simp [intCells]) (by first | omega | (simp; omega)) rfl (by omega) (by omega)).mono ?_
    rintro e w8 ⟨u, hv8, rfl, s8, hw8, -⟩
    have zs8 : w6.heap.size + 1 ≤ w8.heap.size := by have q := hw8.size; first | exact q | (simp; done) | (simp at q; exact q) | (simp at q ⊢; omega)
    have r_8 := r_7.within hw8 (by first | omega | (simp; omega))
    have x_8 := x_7.within hw8 (by first | omega | (simp; omega))
    have WI8 := WI7.trans hw8
    have zw8 := WI8.size
    have g8 := s8.at_.lt
    have xc0 : World.cell? w8 ⟨w4.heap.size, 0, none⟩ = some (.int .i64 (1 + q)) := x_8.cell 0
    have xc1 : World.cell? w8 ⟨w4.heap.size, 1, none⟩ = some (.int .i64 v) := x_8.cell 1
    have xf0 : World.frozen? w8 ⟨w4.heap.size, 0, none⟩ = false := x_8.frozen 0
    have xf1 : World.frozen? w8 ⟨w4.heap.size, 1, none⟩ = false := x_8.frozen 1
    have rc0 : World.cell? w8 ⟨w.heap.size, 0, none⟩ = some (.int .i64 0) := r_8.cell 0
    have rc1 : World.cell? w8 ⟨w.heap.size, 1, none⟩ = some (.int .i64 0) := r_8.cell 1
    have rf0 : World.frozen? w8 ⟨w.heap.size, 0, none⟩ = false := r_8.frozen 0
    have rf1 : World.frozen? w8 ⟨w.heap.size, 1, none⟩ = false := r_8.frozen 1
    go_wp2_with fail
    have r_9 := r_8.far (p := ⟨w4.heap.size, 1, none⟩) (by show _ ≠ w4.heap.size; first | omega | (simp; omega)) (.int .i64 u)
    have s9 := s8.put (p := ⟨w4.heap.size, 1, none⟩) (by show _ < w4.heap.size; first | omega | (simp; omega)) (.int .i64 u)
    have WI9 := WI8.put (p := ⟨w4.heap.size, 1, none⟩) (by show _ ≤ w4.heap.size; first | exact Nat.le_refl _ | omega | (simp; omega)) (.int .i64 u)
    have x_9 := x_8.set 1 (.int .i64 u)
    have x_10 := x_9.far (p := ⟨w.heap.size, 0, none⟩) (by show _ ≠ w.heap.size; first | omega | (simp; omega)) (.int .i64 (1 + q))
    have s10 := s9.put (p := ⟨w.heap.size, 0, none⟩) (by show _ < w.heap.size; first | omega | (simp; omega)) (.int .i64 (1 + q))
    have WI10 := WI9.put (p := ⟨w.heap.size, 0, none⟩) (by show _ ≤ w.heap.size; first | exact Nat.le_refl _ | omega | (simp; omega)) (.int .i64 (1 + q))
    have r_10 := r_9.set 0 (.int .i64 (1 + q))
    have x_11 := x_10.far (p := ⟨w.heap.size, 1, none⟩) (by show _ ≠ w.heap.size; first | omega | (simp; omega)) (.int .i64 u)
    have s11 := s10.put (p := ⟨w.heap.size, 1, none⟩) (by show _ < w.heap.size; first | omega | (simp; omega)) (.int .i64 u)
    have WI11 := WI10.put (p := ⟨w.heap.size, 1, none⟩) (by show _ ≤ w.heap.size; first | exact Nat.le_refl _ | omega | (simp; omega)) (.int .i64 u)
    have r_11 := r_10.set 1 (.int .i64 u)
    refine bodyPost_ret (v := .agg #[.int .i64 (1 + q), .int .i64 u]) (by simp [results, Try.results63, go_sem, rc0, rc1, hn5_r, hm5_r]) rfl ?_
    exact ⟨_, _, rfl, ⟨_, by omega, s11⟩, WI11⟩
  · have bq0 : (p == 0) = false := by simp; omega
    have bq1 : (p == 1) = false := by simp; omega
    have xc0 : World.cell? w6 ⟨w4.heap.size, 0, none⟩ = some (.int .i64 (1 + q)) := x_6.cell 0
    have xc1 : World.cell? w6 ⟨w4.heap.size, 1, none⟩ = some (.int .i64 v) := x_6.cell 1
    have xf0 : World.frozen? w6 ⟨w4.heap.size, 0, none⟩ = false := x_6.frozen 0
    have xf1 : World.frozen? w6 ⟨w4.heap.size, 1, none⟩ = false := x_6.frozen 1
    have rc0 : World.cell? w6 ⟨w.heap.size, 0, none⟩ = some (.int .i64 0) := r_6.cell 0
    have rc1 : World.cell? w6 ⟨w.heap.size, 1, none⟩ = some (.int .i64 0) := r_6.cell 1
    have rf0 : World.frozen? w6 ⟨w.heap.size, 0, none⟩ = false := r_6.frozen 0
    have rf1 : World.frozen? w6 ⟨w.heap.size, 1, none⟩ = false := r_6.frozen 1
    go_wp2_with fail
    have x_7 := x_6.far (p := ⟨w.heap.size, 0, none⟩) (by show _ ≠ w.heap.size; first | omega | (simp; omega)) (.int .i64 (1 + q))
    have s7 := s6.put (p := ⟨w.heap.size, 0, none⟩) (by show _ < w.heap.size; first | omega | (simp; omega)) (.int .i64 (1 + q))
    have WI7 := WI6.put (p := ⟨w.heap.size, 0, none⟩) (by show _ ≤ w.heap.size; first | exact Nat.le_refl _ | omega | (simp; omega)) (.int .i64 (1 + q))
    have r_7 := r_6.set 0 (.int .i64 (1 + q))
    have x_8 := x_7.far (p := ⟨w.heap.size, 1, none⟩) (by show _ ≠ w.heap.size; first | omega | (simp; omega)) (.int .i64 v)
    have s8 := s7.put (p := ⟨w.heap.size, 1, none⟩) (by show _ < w.heap.size; first | omega | (simp; omega)) (.int .i64 v)
    have WI8 := WI7.put (p := ⟨w.heap.size, 1, none⟩) (by show _ ≤ w.heap.size; first | exact Nat.le_refl _ | omega | (simp; omega)) (.int .i64 v)
    have r_8 := r_7.set 1 (.int .i64 v)
    refine bodyPost_ret (v := .agg #[.int .i64 (1 + q), .int .i64 v]) (by simp [results, Try.results63, go_sem, rc0, rc1, hn5_r, hm5_r]) rfl ?_
    exact ⟨_, _, rfl, ⟨_, by omega, s8⟩, WI8⟩

set_option maxHeartbeats 4000000 in
theorem l7Member (w : World) (base g : Nat) (A : Option Addr) (m c k : Nat) (l : List UInt8) (h : Src w base g A m c k l) (hk : k < 800000000) :
    Calls Try.prog 62 #[.pointer (some ⟨g, 0, none⟩)] w fun e w' => ∃ a0 a1 a2 : Int, e = .returned (.agg #[.int .i64 a0, .int .i64 a1, .int .i64 a2]) ∧ (∃ k' : Nat, k' ≤ k + 20 ∧ Src w' base g A m c k' l) ∧ Within g (g + 1) w w' := by
  have g0 := h.at_.lt
  have WI0 := Within.refl g (g + 1) w
  have r := At.newAt' (w := w) (t := 27) (cs := #[.int .i64 0, .int .i64 0, .int .i64 0]) (show w.heap.size = w.heap.size by first | rfl | simp)
  have s1 := h.alloc (.cells #[.int .i64 0, .int .i64 0, .int .i64 0] 27)
  have g1 := s1.at_.lt
  have WI1 := WI0.alloc (.cells #[.int .i64 0, .int .i64 0, .int .i64 0] 27)
  have zw1 := WI1.size
  go_enter Try.func62, Try.ntmps62
  go_wp2_with fail
  refine (l7Mark (w.alloc (.cells #[.int .i64 0, .int .i64 0, .int .i64 0] 27)) base g A m c k l s1 (by omega)).mono ?_
  rintro e w2 ⟨a0, a1, rfl, ⟨k2, hk2, s2⟩, hw2⟩
  have zs2 : w.heap.size + 1 ≤ w2.heap.size := by have q := hw2.size; first | exact q | (simp; done) | (simp at q; exact q) | (simp at q ⊢; omega)
  have r_2 := r.within hw2 (by first | omega | (simp; omega))
  have WI2 := WI1.trans hw2
  have zw2 := WI2.size
  have g2 := s2.at_.lt
  have r_3 := r_2.alloc (.cells #[.int .i64 0, .int .i64 5, .int .i64 9, .int .i64 100000, .int .i64 7, .int .i64 3, .int .i64 (-1), .int .i64 100001, .int .i64 4, .int .i64 6, .int .i64 8] 2)
  have s3 := s2.alloc (.cells #[.int .i64 0, .int .i64 5, .int .i64 9, .int .i64 100000, .int .i64 7, .int .i64 3, .int .i64 (-1), .int .i64 100001, .int .i64 4, .int .i64 6, .int .i64 8] 2)
  have g3 := s3.at_.lt
  have WI3 := WI2.alloc (.cells #[.int .i64 0, .int .i64 5, .int .i64 9, .int .i64 100000, .int .i64 7, .int .i64 3, .int .i64 (-1), .int .i64 100001, .int .i64 4, .int .i64 6, .int .i64 8] 2)
  have zw3 := WI3.size
  go_wp2_with fail
  refine (l1Pick (w2.alloc (.cells #[.int .i64 0, .int .i64 5, .int .i64 9, .int .i64 100000, .int .i64 7, .int .i64 3, .int .i64 (-1), .int .i64 100001, .int .i64 4, .int .i64 6, .int .i64 8] 2)) base g A m c k2 l (w2.heap.size) #[.int .i64 0, .int .i64 5, .int .i64 9, .int .i64 100000, .int .i64 7, .int .i64 3, .int .i64 (-1), .int .i64 100001, .int .i64 4, .int .i64 6, .int .i64 8] [0, 5, 9, 100000, 7, 3, (-1), 100001, 4, 6, 8] 11 11 s3 (by omega) (At.newAt' (show w2.heap.size = w2.heap.size by first | rfl | simp)) (by simp [intCells]) (by first | omega | (simp; omega)) rfl (by omega) (by omega)).mono ?_
  rintro e w4 ⟨v, hv4, rfl, s4, hw4, -⟩
  have zs4 : w2.heap.size + 1 ≤ w4.heap.size := by have q := hw4.size; first | exact q | (simp; done) | (simp at q; exact q) | (simp at q ⊢; omega)
  have r_4 := r_3.within hw4 (by first | omega | (simp; omega))
  have WI4 := WI3.trans hw4
  have zw4 := WI4.size
  have g4 := s4.at_.lt
  have rc0 : World.cell? w4 ⟨w.heap.size, 0, none⟩ = some (.int .i64 0) := r_4.cell 0
  have rc1 : World.cell? w4 ⟨w.heap.size, 1, none⟩ = some (.int .i64 0) := r_4.cell 1
  have rc2 : World.cell? w4 ⟨w.heap.size, 2, none⟩ = some (.int .i64 0) := r_4.cell 2
  have rf0 : World.frozen? w4 ⟨w.heap.size, 0, none⟩ = false := r_4.frozen 0
  have rf1 : World.frozen? w4 ⟨w.heap.size, 1, none⟩ = false := r_4.frozen 1
  have rf2 : World.frozen? w4 ⟨w.heap.size, 2, none⟩ = false := r_4.frozen 2
  go_wp2_with fail
  have s5 := s4.put (p := ⟨w.heap.size, 0, none⟩) (by show _ < w.heap.size; first | omega | (simp; omega)) (.int .i64 a0)
  have WI5 := WI4.put (p := ⟨w.heap.size, 0, none⟩) (by show _ ≤ w.heap.size; first | exact Nat.le_refl _ | omega | (simp; omega)) (.int .i64 a0)
  have r_5 := r_4.set 0 (.int .i64 a0)
  have s6 := s5.put (p := ⟨w.heap.size, 1, none⟩) (by show _ < w.heap.size; first | omega | (simp; omega)) (.int .i64 a1)
  have WI6 := WI5.put (p := ⟨w.heap.size, 1, none⟩) (by show _ ≤ w.heap.size; first | exact Nat.le_refl _ | omega | (simp; omega)) (.int .i64 a1)
  have r_6 := r_5.set 1 (.int .i64 a1)
  have s7 := s6.put (p := ⟨w.heap.size, 2, none⟩) (by show _ < w.heap.size; first | omega | (simp; omega)) (.int .i64 v)
  have WI7 := WI6.put (p := ⟨w.heap.size, 2, none⟩) (by show _ ≤ w.heap.size; first | exact Nat.le_refl _ | omega | (simp; omega)) (.int .i64 v)
  have r_7 := r_6.set 2 (.int .i64 v)
  refine bodyPost_ret (v := .agg #[.int .i64 a0, .int .i64 a1, .int .i64 v]) (by simp [results, Try.results62, go_sem, rc0, rc1, rc2]) rfl ?_
  exact ⟨_, _, _, rfl, ⟨_, by omega, s7⟩, WI7⟩

set_option maxHeartbeats 8000000 in
theorem drawHearMark (A : Option Addr) (m c : Nat) (l : List UInt8) (w : World) (ha : Rd eB w w.heap.size A l) (hn : l.length = m) (hm : m ≤ 1048576) :
    Calls Try.prog 17 #[.slice A m c] w fun e w' => ∃ a0 a1 a2 b0 b1 v : Int, e = .returned (.tuple #[.agg #[.int .i64 a0, .int .i64 a1, .int .i64 a2], .agg #[.int .i64 b0, .int .i64 b1], .int .i64 v]) ∧ Below w.heap.size w w' := by
  have B0 := Below.refl w.heap.size w
  have r := At.newAt' (w := w) (t := 27) (cs := #[.int .i64 0, .int .i64 0, .int .i64 0]) (show w.heap.size = w.heap.size by first | rfl | simp)
  have ha_1 := ha.lift ((Below.refl _ _).alloc (Nat.le_refl _) (.cells #[.int .i64 0, .int .i64 0, .int .i64 0] 27))
  have B1 := B0.alloc B0.size (.cells #[.int .i64 0, .int .i64 0, .int .i64 0] 27)
  have zb1 := B1.size
  have y := At.newAt' (w := (w.alloc (.cells #[.int .i64 0, .int .i64 0, .int .i64 0] 27))) (t := 25) (cs := #[.int .i64 0, .int .i64 0]) (show (w.alloc (.cells #[.int .i64 0, .int .i64 0, .int .i64 0] 27)).heap.size = w.heap.size + 1 by first | rfl | simp)
  have ln2_r : w.heap.size < w.heap.size + 1 := by have q := r.lt; first | exact q | (simp; done) | (simp at q; exact q) | (simp at q ⊢; omega)
  have hn2_r : ¬ w.heap.size = w.heap.size + 1 := by omega
  have hm2_r : ¬ w.heap.size + 1 = w.heap.size := by omega
  have r_2 := r.alloc (.cells #[.int .i64 0, .int .i64 0] 25)
  have ha_2 := ha_1.lift ((Below.refl _ _).alloc (Nat.le_refl _) (.cells #[.int .i64 0, .int .i64 0] 25))
  have B2 := B1.alloc B1.size (.cells #[.int .i64 0, .int .i64 0] 25)
  have zb2 := B2.size
  go_enter Try.func17, Try.ntmps17
  go_wp2_with fail
  refine (l1Source A m c l _ ha_2 hn hm).mono ?_
  rintro e w3 ⟨rfl, s3, hb3, -⟩
  rw [show ((w.alloc (.cells #[.int .i64 0, .int .i64 0, .int .i64 0] 27)).alloc (.cells #[.int .i64 0, .int .i64 0] 25)).heap.size = w.heap.size + 1 + 1 by simp] at s3
  have r_3 := r_2.below hb3 r_2.lt
  have y_3 := y.below hb3 y.lt
  have ha_3 := ha_2.lift hb3
  have B3 := B2.trans (hb3.mono B2.size)
  have zb3 := B3.size
  have g3 := s3.at_.lt
  go_wp2_with fail
  refine (l7Member w3 (w.heap.size + 1 + 1) (w.heap.size + 1 + 1) A m c 0 l s3 (by omega)).mono ?_
  rintro e w4 ⟨a0, a1, a2, rfl, ⟨k4, hk4, s4⟩, hw4⟩
  have zs4 : w3.heap.size ≤ w4.heap.size := by have q := hw4.size; first | exact q | (simp; done) | (simp at q; exact q) | (simp at q ⊢; omega)
  have r_4 := r_3.within hw4 (by first | omega | (simp; omega))
  have y_4 := y_3.within hw4 (by first | omega | (simp; omega))
  have B4 := hw4.below B3 B3.size (by first | exact Nat.le_refl _ | omega | (simp; done))
  have zb4 := B4.size
  have g4 := s4.at_.lt
  go_wp2_with fail
  refine (l7Mark w4 (w.heap.size + 1 + 1) (w.heap.size + 1 + 1) A m c k4 l s4 (by omega)).mono ?_
  rintro e w5 ⟨b0, b1, rfl, ⟨k5, hk5, s5⟩, hw5⟩
  have zs5 : w4.heap.size ≤ w5.heap.size := by have q := hw5.size; first | exact q | (simp; done) | (simp at q; exact q) | (simp at q ⊢; omega)
  have r_5 := r_4.within hw5 (by first | omega | (simp; omega))
  have y_5 := y_4.within hw5 (by first | omega | (simp; omega))
  have B5 := hw5.below B4 B4.size (by first | exact Nat.le_refl _ | omega | (simp; done))
  have zb5 := B5.size
  have g5 := s5.at_.lt
  have r_6 := r_5.alloc (.cells #[.int .i64 0, .int .i64 5, .int .i64 9, .int .i64 13, .int .i64 100000, .int .i64 100001, .int .i64 (-1)] 2)
  have y_6 := y_5.alloc (.cells #[.int .i64 0, .int .i64 5, .int .i64 9, .int .i64 13, .int .i64 100000, .int .i64 100001, .int .i64 (-1)] 2)
  have s6 := s5.alloc (.cells #[.int .i64 0, .int .i64 5, .int .i64 9, .int .i64 13, .int .i64 100000, .int .i64 100001, .int .i64 (-1)] 2)
  have g6 := s6.at_.lt
  have B6 := B5.alloc B5.size (.cells #[.int .i64 0, .int .i64 5, .int .i64 9, .int .i64 13, .int .i64 100000, .int .i64 100001, .int .i64 (-1)] 2)
  have zb6 := B6.size
  go_wp2_with fail
  refine (l1Pick (w5.alloc (.cells #[.int .i64 0, .int .i64 5, .int .i64 9, .int .i64 13, .int .i64 100000, .int .i64 100001, .int .i64 (-1)] 2)) (w.heap.size + 1 + 1) (w.heap.size + 1 + 1) A m c k5 l (w5.heap.size) #[.int .i64 0, .int .i64 5, .int .i64 9, .int .i64 13, .int .i64 100000, .int .i64 100001, .int .i64 (-1)] [0, 5, 9, 13, 100000, 100001, (-1)] 7 7 s6 (by omega) (At.newAt' (show w5.heap.size = w5.heap.size by first | rfl | simp)) (by simp [intCells]) (by first | omega | (simp; omega)) rfl (by omega) (by omega)).mono ?_
  rintro e w7 ⟨v, hv7, rfl, s7, hw7, -⟩
  have zs7 : w5.heap.size + 1 ≤ w7.heap.size := by have q := hw7.size; first | exact q | (simp; done) | (simp at q; exact q) | (simp at q ⊢; omega)
  have r_7 := r_6.within hw7 (by first | omega | (simp; omega))
  have y_7 := y_6.within hw7 (by first | omega | (simp; omega))
  have B7 := hw7.below B6 B6.size (by first | exact Nat.le_refl _ | omega | (simp; done))
  have zb7 := B7.size
  have g7 := s7.at_.lt
  have rc0 : World.cell? w7 ⟨w.heap.size, 0, none⟩ = some (.int .i64 0) := r_7.cell 0
  have rc1 : World.cell? w7 ⟨w.heap.size, 1, none⟩ = some (.int .i64 0) := r_7.cell 1
  have rc2 : World.cell? w7 ⟨w.heap.size, 2, none⟩ = some (.int .i64 0) := r_7.cell 2
  have rf0 : World.frozen? w7 ⟨w.heap.size, 0, none⟩ = false := r_7.frozen 0
  have rf1 : World.frozen? w7 ⟨w.heap.size, 1, none⟩ = false := r_7.frozen 1
  have rf2 : World.frozen? w7 ⟨w.heap.size, 2, none⟩ = false := r_7.frozen 2
  have yc0 : World.cell? w7 ⟨w.heap.size + 1, 0, none⟩ = some (.int .i64 0) := y_7.cell 0
  have yc1 : World.cell? w7 ⟨w.heap.size + 1, 1, none⟩ = some (.int .i64 0) := y_7.cell 1
  have yf0 : World.frozen? w7 ⟨w.heap.size + 1, 0, none⟩ = false := y_7.frozen 0
  have yf1 : World.frozen? w7 ⟨w.heap.size + 1, 1, none⟩ = false := y_7.frozen 1
  go_wp2_with fail
  have y_8 := y_7.far (p := ⟨w.heap.size, 0, none⟩) (by show _ ≠ w.heap.size; first | omega | (simp; omega)) (.int .i64 a0)
  have B8 := B7.setCell (p := ⟨w.heap.size, 0, none⟩) (by show _ ≤ w.heap.size; first | exact Nat.le_refl _ | omega | (simp; omega)) (.int .i64 a0)
  have r_8 := r_7.set 0 (.int .i64 a0)
  have y_9 := y_8.far (p := ⟨w.heap.size, 1, none⟩) (by show _ ≠ w.heap.size; first | omega | (simp; omega)) (.int .i64 a1)
  have B9 := B8.setCell (p := ⟨w.heap.size, 1, none⟩) (by show _ ≤ w.heap.size; first | exact Nat.le_refl _ | omega | (simp; omega)) (.int .i64 a1)
  have r_9 := r_8.set 1 (.int .i64 a1)
  have y_10 := y_9.far (p := ⟨w.heap.size, 2, none⟩) (by show _ ≠ w.heap.size; first | omega | (simp; omega)) (.int .i64 a2)
  have B10 := B9.setCell (p := ⟨w.heap.size, 2, none⟩) (by show _ ≤ w.heap.size; first | exact Nat.le_refl _ | omega | (simp; omega)) (.int .i64 a2)
  have r_10 := r_9.set 2 (.int .i64 a2)
  have r_11 := r_10.far (p := ⟨w.heap.size + 1, 0, none⟩) (by show _ ≠ w.heap.size + 1; first | omega | (simp; omega)) (.int .i64 b0)
  have B11 := B10.setCell (p := ⟨w.heap.size + 1, 0, none⟩) (by show _ ≤ w.heap.size + 1; first | exact Nat.le_refl _ | omega | (simp; omega)) (.int .i64 b0)
  have y_11 := y_10.set 0 (.int .i64 b0)
  have r_12 := r_11.far (p := ⟨w.heap.size + 1, 1, none⟩) (by show _ ≠ w.heap.size + 1; first | omega | (simp; omega)) (.int .i64 b1)
  have B12 := B11.setCell (p := ⟨w.heap.size + 1, 1, none⟩) (by show _ ≤ w.heap.size + 1; first | exact Nat.le_refl _ | omega | (simp; omega)) (.int .i64 b1)
  have y_12 := y_11.set 1 (.int .i64 b1)
  refine bodyPost_ret (v := .tuple #[.agg #[.int .i64 a0, .int .i64 a1, .int .i64 a2], .agg #[.int .i64 b0, .int .i64 b1], .int .i64 v]) (by simp [results, Try.results17, go_sem, rc0, rc1, rc2, yc0, yc1, hn2_r, hm2_r]) rfl ?_
  exact ⟨_, _, _, _, _, _, rfl, B12⟩

set_option maxHeartbeats 8000000 in
theorem drawSuspectMember (A : Option Addr) (m c : Nat) (l : List UInt8) (w : World) (ha : Rd eB w w.heap.size A l) (hn : l.length = m) (hm : m ≤ 1048576) :
    Calls Try.prog 69 #[.slice A m c] w fun e w' => ∃ a0 a1 a2 v : Int, e = .returned (.tuple #[.agg #[.int .i64 a0, .int .i64 a1, .int .i64 a2], .int .i64 v]) ∧ Below w.heap.size w w' := by
  have B0 := Below.refl w.heap.size w
  have r := At.newAt' (w := w) (t := 27) (cs := #[.int .i64 0, .int .i64 0, .int .i64 0]) (show w.heap.size = w.heap.size by first | rfl | simp)
  have ha_1 := ha.lift ((Below.refl _ _).alloc (Nat.le_refl _) (.cells #[.int .i64 0, .int .i64 0, .int .i64 0] 27))
  have B1 := B0.alloc B0.size (.cells #[.int .i64 0, .int .i64 0, .int .i64 0] 27)
  have zb1 := B1.size
  go_enter Try.func69, Try.ntmps69
  go_wp2_with fail
  refine (l1Source A m c l _ ha_1 hn hm).mono ?_
  rintro e w2 ⟨rfl, s2, hb2, -⟩
  rw [show (w.alloc (.cells #[.int .i64 0, .int .i64 0, .int .i64 0] 27)).heap.size = w.heap.size + 1 by simp] at s2
  have r_2 := r.below hb2 r.lt
  have ha_2 := ha_1.lift hb2
  have B2 := B1.trans (hb2.mono B1.size)
  have zb2 := B2.size
  have g2 := s2.at_.lt
  go_wp2_with fail
  refine (l7Member w2 (w.heap.size + 1) (w.heap.size + 1) A m c 0 l s2 (by omega)).mono ?_
  rintro e w3 ⟨a0, a1, a2, rfl, ⟨k3, hk3, s3⟩, hw3⟩
  have zs3 : w2.heap.size ≤ w3.heap.size := by have q := hw3.size; first | exact q | (simp; done) | (simp at q; exact q) | (simp at q ⊢; omega)
  have r_3 := r_2.within hw3 (by first | omega | (simp; omega))
  have B3 := hw3.below B2 B2.size (by first | exact Nat.le_refl _ | omega | (simp; done))
  have zb3 := B3.size
  have g3 := s3.at_.lt
  have r_4 := r_3.alloc (.cells #[.int .i64 0, .int .i64 5, .int .i64 9, .int .i64 13, .int .i64 100000, .int .i64 100001, .int .i64 (-1)] 2)
  have s4 := s3.alloc (.cells #[.int .i64 0, .int .i64 5, .int .i64 9, .int .i64 13, .int .i64 100000, .int .i64 100001, .int .i64 (-1)] 2)
  have g4 := s4.at_.lt
  have B4 := B3.alloc B3.size (.cells #[.int .i64 0, .int .i64 5, .int .i64 9, .int .i64 13, .int .i64 100000, .int .i64 100001, .int .i64 (-1)] 2)
  have zb4 := B4.size
  go_wp2_with fail
  refine (l1Pick (w3.alloc (.cells #[.int .i64 0, .int .i64 5, .int .i64 9, .int .i64 13, .int .i64 100000, .int .i64 100001, .int .i64 (-1)] 2)) (w.heap.size + 1) (w.heap.size + 1) A m c k3 l (w3.heap.size) #[.int .i64 0, .int .i64 5, .int .i64 9, .int .i64 13, .int .i64 100000, .int .i64 100001, .int .i64 (-1)] [0, 5, 9, 13, 100000, 100001, (-1)] 7 7 s4 (by omega) (At.newAt' (show w3.heap.size = w3.heap.size by first | rfl | simp)) (by simp [intCells]) (by first | omega | (simp; omega)) rfl (by omega) (by omega)).mono ?_
  rintro e w5 ⟨v, hv5, rfl, s5, hw5, -⟩
  have zs5 : w3.heap.size + 1 ≤ w5.heap.size := by have q := hw5.size; first | exact q | (simp; done) | (simp at q; exact q) | (simp at q ⊢; omega)
  have r_5 := r_4.within hw5 (by first | omega | (simp; omega))
  have B5 := hw5.below B4 B4.size (by first | exact Nat.le_refl _ | omega | (simp; done))
  have zb5 := B5.size
  have g5 := s5.at_.lt
  have rc0 : World.cell? w5 ⟨w.heap.size, 0, none⟩ = some (.int .i64 0) := r_5.cell 0
  have rc1 : World.cell? w5 ⟨w.heap.size, 1, none⟩ = some (.int .i64 0) := r_5.cell 1
  have rc2 : World.cell? w5 ⟨w.heap.size, 2, none⟩ = some (.int .i64 0) := r_5.cell 2
  have rf0 : World.frozen? w5 ⟨w.heap.size, 0, none⟩ = false := r_5.frozen 0
  have rf1 : World.frozen? w5 ⟨w.heap.size, 1, none⟩ = false := r_5.frozen 1
  have rf2 : World.frozen? w5 ⟨w.heap.size, 2, none⟩ = false := r_5.frozen 2
  go_wp2_with fail
  have B6 := B5.setCell (p := ⟨w.heap.size, 0, none⟩) (by show _ ≤ w.heap.size; first | exact Nat.le_refl _ | omega | (simp; omega)) (.int .i64 a0)
  have r_6 := r_5.set 0 (.int .i64 a0)
  have B7 := B6.setCell (p := ⟨w.heap.size, 1, none⟩) (by show _ ≤ w.heap.size; first | exact Nat.le_refl _ | omega | (simp; omega)) (.int .i64 a1)
  have r_7 := r_6.set 1 (.int .i64 a1)
  have B8 := B7.setCell (p := ⟨w.heap.size, 2, none⟩) (by show _ ≤ w.heap.size; first | exact Nat.le_refl _ | omega | (simp; omega)) (.int .i64 a2)
  have r_8 := r_7.set 2 (.int .i64 a2)
  refine bodyPost_ret (v := .tuple #[.agg #[.int .i64 a0, .int .i64 a1, .int .i64 a2], .int .i64 v]) (by simp [results, Try.results69, go_sem, rc0, rc1, rc2]) rfl ?_
  exact ⟨_, _, _, _, rfl, B8⟩

set_option maxHeartbeats 8000000 in
theorem drawAgeMember (A : Option Addr) (m c : Nat) (l : List UInt8) (w : World) (ha : Rd eB w w.heap.size A l) (hn : l.length = m) (hm : m ≤ 1048576) :
    Calls Try.prog 19 #[.slice A m c] w fun e w' => ∃ a0 a1 a2 v : Int, e = .returned (.tuple #[.agg #[.int .i64 a0, .int .i64 a1, .int .i64 a2], .int .i64 v]) ∧ Below w.heap.size w w' := by
  have B0 := Below.refl w.heap.size w
  have r := At.newAt' (w := w) (t := 27) (cs := #[.int .i64 0, .int .i64 0, .int .i64 0]) (show w.heap.size = w.heap.size by first | rfl | simp)
  have ha_1 := ha.lift ((Below.refl _ _).alloc (Nat.le_refl _) (.cells #[.int .i64 0, .int .i64 0, .int .i64 0] 27))
  have B1 := B0.alloc B0.size (.cells #[.int .i64 0, .int .i64 0, .int .i64 0] 27)
  have zb1 := B1.size
  go_enter Try.func19, Try.ntmps19
  go_wp2_with fail
  refine (drawSuspectMember A m c l _ ha_1 hn hm).mono ?_
  rintro e w2 ⟨a0, a1, a2, v, rfl, hb2⟩
  have zs2 : w.heap.size + 1 ≤ w2.heap.size := by have q := hb2.size; first | exact q | (simp; done) | (simp at q; exact q) | (simp at q ⊢; omega)
  have r_2 := r.below hb2 r.lt
  have ha_2 := ha_1.lift hb2
  have B2 := B1.trans (hb2.mono B1.size)
  have zb2 := B2.size
  have rc0 : World.cell? w2 ⟨w.heap.size, 0, none⟩ = some (.int .i64 0) := r_2.cell 0
  have rc1 : World.cell? w2 ⟨w.heap.size, 1, none⟩ = some (.int .i64 0) := r_2.cell 1
  have rc2 : World.cell? w2 ⟨w.heap.size, 2, none⟩ = some (.int .i64 0) := r_2.cell 2
  have rf0 : World.frozen? w2 ⟨w.heap.size, 0, none⟩ = false := r_2.frozen 0
  have rf1 : World.frozen? w2 ⟨w.heap.size, 1, none⟩ = false := r_2.frozen 1
  have rf2 : World.frozen? w2 ⟨w.heap.size, 2, none⟩ = false := r_2.frozen 2
  go_wp2_with fail
  have B3 := B2.setCell (p := ⟨w.heap.size, 0, none⟩) (by show _ ≤ w.heap.size; first | exact Nat.le_refl _ | omega | (simp; omega)) (.int .i64 a0)
  have r_3 := r_2.set 0 (.int .i64 a0)
  have B4 := B3.setCell (p := ⟨w.heap.size, 1, none⟩) (by show _ ≤ w.heap.size; first | exact Nat.le_refl _ | omega | (simp; omega)) (.int .i64 a1)
  have r_4 := r_3.set 1 (.int .i64 a1)
  have B5 := B4.setCell (p := ⟨w.heap.size, 2, none⟩) (by show _ ≤ w.heap.size; first | exact Nat.le_refl _ | omega | (simp; omega)) (.int .i64 a2)
  have r_5 := r_4.set 2 (.int .i64 a2)
  refine bodyPost_ret (v := .tuple #[.agg #[.int .i64 a0, .int .i64 a1, .int .i64 a2], .int .i64 v]) (by simp [results, Try.results19, go_sem, rc0, rc1, rc2]) rfl ?_
  exact ⟨_, _, _, _, rfl, B5⟩

set_option maxHeartbeats 8000000 in
theorem drawRefuteLife (A : Option Addr) (m c : Nat) (l : List UInt8) (w : World) (ha : Rd eB w w.heap.size A l) (hn : l.length = m) (hm : m ≤ 1048576) :
    Calls Try.prog 22 #[.slice A m c] w fun e w' => ∃ v b0 b1 : Int, e = .returned (.tuple #[.int .i64 v, .agg #[.int .i64 b0, .int .i64 b1]]) ∧ Below w.heap.size w w' := by
  have B0 := Below.refl w.heap.size w
  have y := At.newAt' (w := w) (t := 25) (cs := #[.int .i64 0, .int .i64 0]) (show w.heap.size = w.heap.size by first | rfl | simp)
  have ha_1 := ha.lift ((Below.refl _ _).alloc (Nat.le_refl _) (.cells #[.int .i64 0, .int .i64 0] 25))
  have B1 := B0.alloc B0.size (.cells #[.int .i64 0, .int .i64 0] 25)
  have zb1 := B1.size
  go_enter Try.func22, Try.ntmps22
  go_wp2_with fail
  refine (l1Source A m c l _ ha_1 hn hm).mono ?_
  rintro e w2 ⟨rfl, s2, hb2, -⟩
  rw [show (w.alloc (.cells #[.int .i64 0, .int .i64 0] 25)).heap.size = w.heap.size + 1 by simp] at s2
  have y_2 := y.below hb2 y.lt
  have ha_2 := ha_1.lift hb2
  have B2 := B1.trans (hb2.mono B1.size)
  have zb2 := B2.size
  have g2 := s2.at_.lt
  have y_3 := y_2.alloc (.cells #[.int .i64 0, .int .i64 1, .int .i64 2, .int .i64 3, .int .i64 60000, .int .i64 60001, .int .i64 (-1)] 2)
  have s3 := s2.alloc (.cells #[.int .i64 0, .int .i64 1, .int .i64 2, .int .i64 3, .int .i64 60000, .int .i64 60001, .int .i64 (-1)] 2)
  have g3 := s3.at_.lt
  have B3 := B2.alloc B2.size (.cells #[.int .i64 0, .int .i64 1, .int .i64 2, .int .i64 3, .int .i64 60000, .int .i64 60001, .int .i64 (-1)] 2)
  have zb3 := B3.size
  go_wp2_with fail
  refine (l1Pick (w2.alloc (.cells #[.int .i64 0, .int .i64 1, .int .i64 2, .int .i64 3, .int .i64 60000, .int .i64 60001, .int .i64 (-1)] 2)) (w.heap.size + 1) (w.heap.size + 1) A m c 0 l (w2.heap.size) #[.int .i64 0, .int .i64 1, .int .i64 2, .int .i64 3, .int .i64 60000, .int .i64 60001, .int .i64 (-1)] [0, 1, 2, 3, 60000, 60001, (-1)] 7 7 s3 (by omega) (At.newAt' (show w2.heap.size = w2.heap.size by first | rfl | simp)) (by simp [intCells]) (by first | omega | (simp; omega)) rfl (by omega) (by omega)).mono ?_
  rintro e w4 ⟨v, hv4, rfl, s4, hw4, -⟩
  have zs4 : w2.heap.size + 1 ≤ w4.heap.size := by have q := hw4.size; first | exact q | (simp; done) | (simp at q; exact q) | (simp at q ⊢; omega)
  have y_4 := y_3.within hw4 (by first | omega | (simp; omega))
  have B4 := hw4.below B3 B3.size (by first | exact Nat.le_refl _ | omega | (simp; done))
  have zb4 := B4.size
  have g4 := s4.at_.lt
  go_wp2_with fail
  refine (l7Mark w4 (w.heap.size + 1) (w.heap.size + 1) A m c (0 + 1) l s4 (by omega)).mono ?_
  rintro e w5 ⟨b0, b1, rfl, ⟨k5, hk5, s5⟩, hw5⟩
  have zs5 : w4.heap.size ≤ w5.heap.size := by have q := hw5.size; first | exact q | (simp; done) | (simp at q; exact q) | (simp at q ⊢; omega)
  have y_5 := y_4.within hw5 (by first | omega | (simp; omega))
  have B5 := hw5.below B4 B4.size (by first | exact Nat.le_refl _ | omega | (simp; done))
  have zb5 := B5.size
  have g5 := s5.at_.lt
  have yc0 : World.cell? w5 ⟨w.heap.size, 0, none⟩ = some (.int .i64 0) := y_5.cell 0
  have yc1 : World.cell? w5 ⟨w.heap.size, 1, none⟩ = some (.int .i64 0) := y_5.cell 1
  have yf0 : World.frozen? w5 ⟨w.heap.size, 0, none⟩ = false := y_5.frozen 0
  have yf1 : World.frozen? w5 ⟨w.heap.size, 1, none⟩ = false := y_5.frozen 1
  go_wp2_with fail
  have B6 := B5.setCell (p := ⟨w.heap.size, 0, none⟩) (by show _ ≤ w.heap.size; first | exact Nat.le_refl _ | omega | (simp; omega)) (.int .i64 b0)
  have y_6 := y_5.set 0 (.int .i64 b0)
  have B7 := B6.setCell (p := ⟨w.heap.size, 1, none⟩) (by show _ ≤ w.heap.size; first | exact Nat.le_refl _ | omega | (simp; omega)) (.int .i64 b1)
  have y_7 := y_6.set 1 (.int .i64 b1)
  refine bodyPost_ret (v := .tuple #[.int .i64 v, .agg #[.int .i64 b0, .int .i64 b1]]) (by simp [results, Try.results22, go_sem, yc0, yc1]) rfl ?_
  exact ⟨_, _, _, rfl, B7⟩

set_option maxHeartbeats 8000000 in
theorem drawIsStronger (A : Option Addr) (m c : Nat) (l : List UInt8) (w : World) (ha : Rd eB w w.heap.size A l) (hn : l.length = m) (hm : m ≤ 1048576) :
    Calls Try.prog 24 #[.slice A m c] w fun e w' => ∃ a0 a1 b0 b1 : Int, e = .returned (.tuple #[.agg #[.int .i64 a0, .int .i64 a1], .agg #[.int .i64 b0, .int .i64 b1]]) ∧ Below w.heap.size w w' := by
  have B0 := Below.refl w.heap.size w
  have r := At.newAt' (w := w) (t := 25) (cs := #[.int .i64 0, .int .i64 0]) (show w.heap.size = w.heap.size by first | rfl | simp)
  have ha_1 := ha.lift ((Below.refl _ _).alloc (Nat.le_refl _) (.cells #[.int .i64 0, .int .i64 0] 25))
  have B1 := B0.alloc B0.size (.cells #[.int .i64 0, .int .i64 0] 25)
  have zb1 := B1.size
  have y := At.newAt' (w := (w.alloc (.cells #[.int .i64 0, .int .i64 0] 25))) (t := 25) (cs := #[.int .i64 0, .int .i64 0]) (show (w.alloc (.cells #[.int .i64 0, .int .i64 0] 25)).heap.size = w.heap.size + 1 by first | rfl | simp)
  have ln2_r : w.heap.size < w.heap.size + 1 := by have q := r.lt; first | exact q | (simp; done) | (simp at q; exact q) | (simp at q ⊢; omega)
  have hn2_r : ¬ w.heap.size = w.heap.size + 1 := by omega
  have hm2_r : ¬ w.heap.size + 1 = w.heap.size := by omega
  have r_2 := r.alloc (.cells #[.int .i64 0, .int .i64 0] 25)
  have ha_2 := ha_1.lift ((Below.refl _ _).alloc (Nat.le_refl _) (.cells #[.int .i64 0, .int .i64 0] 25))
  have B2 := B1.alloc B1.size (.cells #[.int .i64 0, .int .i64 0] 25)
  have zb2 := B2.size
  go_enter Try.func24, Try.ntmps24
  go_wp2_with fail
  refine (l1Source A m c l _ ha_2 hn hm).mono ?_
  rintro e w3 ⟨rfl, s3, hb3, -⟩
  rw [show ((w.alloc (.cells #[.int .i64 0, .int .i64 0] 25)).alloc (.cells #[.int .i64 0, .int .i64 0] 25)).heap.size = w.heap.size + 1 + 1 by simp] at s3
  have r_3 := r_2.below hb3 r_2.lt
  have y_3 := y.below hb3 y.lt
  have ha_3 := ha_2.lift hb3
  have B3 := B2.trans (hb3.mono B2.size)
  have zb3 := B3.size
  have g3 := s3.at_.lt
  go_wp2_with fail
  refine (l7Mark w3 (w.heap.size + 1 + 1) (w.heap.size + 1 + 1) A m c 0 l s3 (by omega)).mono ?_
  rintro e w4 ⟨a0, a1, rfl, ⟨k4, hk4, s4⟩, hw4⟩
  have zs4 : w3.heap.size ≤ w4.heap.size := by have q := hw4.size; first | exact q | (simp; done) | (simp at q; exact q) | (simp at q ⊢; omega)
  have r_4 := r_3.within hw4 (by first | omega | (simp; omega))
  have y_4 := y_3.within hw4 (by first | omega | (simp; omega))
  have B4 := hw4.below B3 B3.size (by first | exact Nat.le_refl _ | omega | (simp; done))
  have zb4 := B4.size
  have g4 := s4.at_.lt
  go_wp2_with fail
  refine (l7Mark w4 (w.heap.size + 1 + 1) (w.heap.size + 1 + 1) A m c k4 l s4 (by omega)).mono ?_
  rintro e w5 ⟨b0, b1, rfl, ⟨k5, hk5, s5⟩, hw5⟩
  have zs5 : w4.heap.size ≤ w5.heap.size := by have q := hw5.size; first | exact q | (simp; done) | (simp at q; exact q) | (simp at q ⊢; omega)
  have r_5 := r_4.within hw5 (by first | omega | (simp; omega))
  have y_5 := y_4.within hw5 (by first | omega | (simp; omega))
  have B5 := hw5.below B4 B4.size (by first | exact Nat.le_refl _ | omega | (simp; done))
  have zb5 := B5.size
  have g5 := s5.at_.lt
  have rc0 : World.cell? w5 ⟨w.heap.size, 0, none⟩ = some (.int .i64 0) := r_5.cell 0
  have rc1 : World.cell? w5 ⟨w.heap.size, 1, none⟩ = some (.int .i64 0) := r_5.cell 1
  have rf0 : World.frozen? w5 ⟨w.heap.size, 0, none⟩ = false := r_5.frozen 0
  have rf1 : World.frozen? w5 ⟨w.heap.size, 1, none⟩ = false := r_5.frozen 1
  have yc0 : World.cell? w5 ⟨w.heap.size + 1, 0, none⟩ = some (.int .i64 0) := y_5.cell 0
  have yc1 : World.cell? w5 ⟨w.heap.size + 1, 1, none⟩ = some (.int .i64 0) := y_5.cell 1
  have yf0 : World.frozen? w5 ⟨w.heap.size + 1, 0, none⟩ = false := y_5.frozen 0
  have yf1 : World.frozen? w5 ⟨w.heap.size + 1, 1, none⟩ = false := y_5.frozen 1
  go_wp2_with fail
  have y_6 := y_5.far (p := ⟨w.heap.size, 0, none⟩) (by show _ ≠ w.heap.size; first | omega | (simp; omega)) (.int .i64 a0)
  have B6 := B5.setCell (p := ⟨w.heap.size, 0, none⟩) (by show _ ≤ w.heap.size; first | exact Nat.le_refl _ | omega | (simp; omega)) (.int .i64 a0)
  have r_6 := r_5.set 0 (.int .i64 a0)
  have y_7 := y_6.far (p := ⟨w.heap.size, 1, none⟩) (by show _ ≠ w.heap.size; first | omega | (simp; omega)) (.int .i64 a1)
  have B7 := B6.setCell (p := ⟨w.heap.size, 1, none⟩) (by show _ ≤ w.heap.size; first | exact Nat.le_refl _ | omega | (simp; omega)) (.int .i64 a1)
  have r_7 := r_6.set 1 (.int .i64 a1)
  have r_8 := r_7.far (p := ⟨w.heap.size + 1, 0, none⟩) (by show _ ≠ w.heap.size + 1; first | omega | (simp; omega)) (.int .i64 b0)
  have B8 := B7.setCell (p := ⟨w.heap.size + 1, 0, none⟩) (by show _ ≤ w.heap.size + 1; first | exact Nat.le_refl _ | omega | (simp; omega)) (.int .i64 b0)
  have y_8 := y_7.set 0 (.int .i64 b0)
  have r_9 := r_8.far (p := ⟨w.heap.size + 1, 1, none⟩) (by show _ ≠ w.heap.size + 1; first | omega | (simp; omega)) (.int .i64 b1)
  have B9 := B8.setCell (p := ⟨w.heap.size + 1, 1, none⟩) (by show _ ≤ w.heap.size + 1; first | exact Nat.le_refl _ | omega | (simp; omega)) (.int .i64 b1)
  have y_9 := y_8.set 1 (.int .i64 b1)
  refine bodyPost_ret (v := .tuple #[.agg #[.int .i64 a0, .int .i64 a1], .agg #[.int .i64 b0, .int .i64 b1]]) (by simp [results, Try.results24, go_sem, rc0, rc1, yc0, yc1, hn2_r, hm2_r]) rfl ?_
  exact ⟨_, _, _, _, rfl, B9⟩
end Go.Proofs.Ytbfjfjocangjeaa
