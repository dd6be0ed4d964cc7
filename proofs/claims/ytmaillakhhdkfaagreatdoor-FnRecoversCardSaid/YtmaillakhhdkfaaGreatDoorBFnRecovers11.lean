/-
  Texts of one proof, joined: each has its own namespace.
-/
import Derived.Test.YtmaillakhhdkfaaGreatDoorBFnRecovers6
import Derived.Test.YtmaillakhhdkfaaGreatDoorBFnRecovers10
import Derived.Test.YtmaillakhhdkfaaGreatDoorBFnRecovers7
import Derived.Test.YtmaillakhhdkfaaGreatDoorBFnRecovers5
/-
  Records and states that are drawn.
-/
namespace Go.Proofs.YtmaillakhhdkfaaGreatDoor
set_option maxRecDepth 20000
open Go.RowKit
set_option linter.unusedSimpArgs false
set_option linter.unusedVariables false

theorem fault_small {n0 n1 n2 n3 : Nat} (h0 : n0 ≤ 9) (h1 : n1 ≤ 999) (h2 : n2 ≤ 9999) (h3 : n3 ≤ 2000) : faultM ((n0 : Int), (n1 : Int), (n2 : Int), (n3 : Int) - 1000) = 0 := by
  unfold faultM bndsM
  rw [if_pos]
  simp [inB]
  omega
theorem node_small {r : Int} (h0 : 0 ≤ r) (h1 : r < 4) : inB (r, 0, 3) = true := by
  simp [inB]; omega
theorem pick_in {xs : List Int} {v : Int} (lo hi : Int) (h : v ∈ xs) (ha : (xs.all fun x => decide (lo ≤ x ∧ x ≤ hi)) = true) : inB (v, lo, hi) = true := by
  have := List.all_eq_true.1 ha v h
  simp only [decide_eq_true_eq] at this
  simp [inB]; omega

set_option maxHeartbeats 4000000 in
theorem l5Draw (w : World) (base g : Nat) (A : Option Addr) (m c k : Nat) (l : List UInt8) (h : Src w base g A m c k l) (hk : k < 900000000) :
    Calls Tryz.prog 39 #[.pointer (some ⟨g, 0, none⟩)] w fun e w' => ∃ a0 a1 a2 a3 a4 a5 a6 : Int, e = .returned (.agg #[.int .i64 a0, .int .i64 a1, .int .i64 a2, .int .i64 a3, .int .i64 a4, .int .i64 a5, .int .i64 a6]) ∧ recFaultM (a0, a1, (a2, a3, a4, a5), a6) = 0 ∧ (∃ k' : Nat, k' ≤ k + 8 ∧ Src w' base g A m c k' l) ∧ Within g (g + 1) w w' := by
  have g0 := h.at_.lt
  have WI0 := Within.refl g (g + 1) w
  have r := At.newAt' (w := w) (t := 27) (cs := #[.int .i64 0, .int .i64 0, .int .i64 0, .int .i64 0, .int .i64 0, .int .i64 0, .int .i64 0]) (show w.heap.size = w.heap.size by first | rfl | simp)
  have s1 := h.alloc (.cells #[.int .i64 0, .int .i64 0, .int .i64 0, .int .i64 0, .int .i64 0, .int .i64 0, .int .i64 0] 27)
  have g1 := s1.at_.lt
  have WI1 := WI0.alloc (.cells #[.int .i64 0, .int .i64 0, .int .i64 0, .int .i64 0, .int .i64 0, .int .i64 0, .int .i64 0] 27)
  have zw1 := WI1.size
  go_enter Tryz.func39, Tryz.ntmps39
  go_wp2_with fail
  refine (l1Next (w.alloc (.cells #[.int .i64 0, .int .i64 0, .int .i64 0, .int .i64 0, .int .i64 0, .int .i64 0, .int .i64 0] 27)) base g A m c k l 6 s1 (by omega) (by omega)).mono ?_
  rintro e w2 ⟨q, rfl, hr2, -, s2, hw2, -⟩
  have zs2 : w.heap.size + 1 ≤ w2.heap.size := by have q := hw2.size; first | exact q | (simp; done) | (simp at q; exact q) | (simp at q ⊢; omega)
  have r_2 := r.within hw2 (by first | omega | (simp; omega))
  have WI2 := WI1.trans hw2
  have zw2 := WI2.size
  have g2 := s2.at_.lt
  obtain ⟨hr2a, hr2b⟩ := hr2 (by omega)
  rcases (show q = 0 ∨ q = 1 ∨ q = 2 ∨ q = 3 ∨ q = 4 ∨ 5 ≤ q by omega) with rfl | rfl | rfl | rfl | rfl | hq5
  · go_wp2_with fail
    refine (l2Draw w2 base g A m c (k + 1) l s2 (by omega)).mono ?_
    rintro e w3 ⟨n0, n1, n2, n3, rfl, b0, b1, b2, b3, s3, hw3⟩
    have zs3 : w2.heap.size ≤ w3.heap.size := by have q := hw3.size; first | exact q | (simp; done) | (simp at q; exact q) | (simp at q ⊢; omega)
    have r_3 := r_2.within hw3 (by first | omega | (simp; omega))
    have WI3 := WI2.trans hw3
    have zw3 := WI3.size
    have g3 := s3.at_.lt
    have rc0 : World.cell? w3 ⟨w.heap.size, 0, none⟩ = some (.int .i64 0) := r_3.cell 0
    have rc1 : World.cell? w3 ⟨w.heap.size, 1, none⟩ = some (.int .i64 0) := r_3.cell 1
    have rc2 : World.cell? w3 ⟨w.heap.size, 2, none⟩ = some (.int .i64 0) := r_3.cell 2
    have rc3 : World.cell? w3 ⟨w.heap.size, 3, none⟩ = some (.int .i64 0) := r_3.cell 3
    have rc4 : World.cell? w3 ⟨w.heap.size, 4, none⟩ = some (.int .i64 0) := r_3.cell 4
    have rc5 : World.cell? w3 ⟨w.heap.size, 5, none⟩ = some (.int .i64 0) := r_3.cell 5
    have rc6 : World.cell? w3 ⟨w.heap.size, 6, none⟩ = some (.int .i64 0) := r_3.cell 6
    have rf0 : World.frozen? w3 ⟨w.heap.size, 0, none⟩ = false := r_3.frozen 0
    have rf1 : World.frozen? w3 ⟨w.heap.size, 1, none⟩ = false := r_3.frozen 1
    have rf2 : World.frozen? w3 ⟨w.heap.size, 2, none⟩ = false := r_3.frozen 2
    have rf3 : World.frozen? w3 ⟨w.heap.size, 3, none⟩ = false := r_3.frozen 3
    have rf4 : World.frozen? w3 ⟨w.heap.size, 4, none⟩ = false := r_3.frozen 4
    have rf5 : World.frozen? w3 ⟨w.heap.size, 5, none⟩ = false := r_3.frozen 5
    have rf6 : World.frozen? w3 ⟨w.heap.size, 6, none⟩ = false := r_3.frozen 6
    go_wp2_with fail
    have s4 := s3.put (p := ⟨w.heap.size, 0, none⟩) (by show _ < w.heap.size; first | omega | (simp; omega)) (.int .i64 1)
    have WI4 := WI3.put (p := ⟨w.heap.size, 0, none⟩) (by show _ ≤ w.heap.size; first | exact Nat.le_refl _ | omega | (simp; omega)) (.int .i64 1)
    have r_4 := r_3.set 0 (.int .i64 1)
    have s5 := s4.put (p := ⟨w.heap.size, 1, none⟩) (by show _ < w.heap.size; first | omega | (simp; omega)) (.int .i64 0)
    have WI5 := WI4.put (p := ⟨w.heap.size, 1, none⟩) (by show _ ≤ w.heap.size; first | exact Nat.le_refl _ | omega | (simp; omega)) (.int .i64 0)
    have r_5 := r_4.set 1 (.int .i64 0)
    have s6 := s5.put (p := ⟨w.heap.size, 2, none⟩) (by show _ < w.heap.size; first | omega | (simp; omega)) (.int .i64 n0)
    have WI6 := WI5.put (p := ⟨w.heap.size, 2, none⟩) (by show _ ≤ w.heap.size; first | exact Nat.le_refl _ | omega | (simp; omega)) (.int .i64 n0)
    have r_6 := r_5.set 2 (.int .i64 n0)
    have s7 := s6.put (p := ⟨w.heap.size, 3, none⟩) (by show _ < w.heap.size; first | omega | (simp; omega)) (.int .i64 n1)
    have WI7 := WI6.put (p := ⟨w.heap.size, 3, none⟩) (by show _ ≤ w.heap.size; first | exact Nat.le_refl _ | omega | (simp; omega)) (.int .i64 n1)
    have r_7 := r_6.set 3 (.int .i64 n1)
    have s8 := s7.put (p := ⟨w.heap.size, 4, none⟩) (by show _ < w.heap.size; first | omega | (simp; omega)) (.int .i64 n2)
    have WI8 := WI7.put (p := ⟨w.heap.size, 4, none⟩) (by show _ ≤ w.heap.size; first | exact Nat.le_refl _ | omega | (simp; omega)) (.int .i64 n2)
    have r_8 := r_7.set 4 (.int .i64 n2)
    have s9 := s8.put (p := ⟨w.heap.size, 5, none⟩) (by show _ < w.heap.size; first | omega | (simp; omega)) (.int .i64 ((n3 : Int) - 1000))
    have WI9 := WI8.put (p := ⟨w.heap.size, 5, none⟩) (by show _ ≤ w.heap.size; first | exact Nat.le_refl _ | omega | (simp; omega)) (.int .i64 ((n3 : Int) - 1000))
    have r_9 := r_8.set 5 (.int .i64 ((n3 : Int) - 1000))
    have s10 := s9.put (p := ⟨w.heap.size, 6, none⟩) (by show _ < w.heap.size; first | omega | (simp; omega)) (.int .i64 0)
    have WI10 := WI9.put (p := ⟨w.heap.size, 6, none⟩) (by show _ ≤ w.heap.size; first | exact Nat.le_refl _ | omega | (simp; omega)) (.int .i64 0)
    have r_10 := r_9.set 6 (.int .i64 0)
    refine bodyPost_ret (v := .agg #[.int .i64 1, .int .i64 0, .int .i64 n0, .int .i64 n1, .int .i64 n2, .int .i64 ((n3 : Int) - 1000), .int .i64 0]) (by simp [results, Tryz.results39, go_sem, rc0, rc1, rc2, rc3, rc4, rc5, rc6]) rfl ?_
    exact ⟨_, _, _, _, _, _, _, rfl, by rw [rec1]; exact fault_small b0 b1 b2 b3, ⟨_, by omega, s10⟩, WI10⟩
  · go_wp2_with fail
    refine (l2Draw w2 base g A m c (k + 1) l s2 (by omega)).mono ?_
    rintro e w3 ⟨n0, n1, n2, n3, rfl, b0, b1, b2, b3, s3, hw3⟩
    have zs3 : w2.heap.size ≤ w3.heap.size := by have q := hw3.size; first | exact q | (simp; done) | (simp at q; exact q) | (simp at q ⊢; omega)
    have r_3 := r_2.within hw3 (by first | omega | (simp; omega))
    have WI3 := WI2.trans hw3
    have zw3 := WI3.size
    have g3 := s3.at_.lt
    have rc0 : World.cell? w3 ⟨w.heap.size, 0, none⟩ = some (.int .i64 0) := r_3.cell 0
    have rc1 : World.cell? w3 ⟨w.heap.size, 1, none⟩ = some (.int .i64 0) := r_3.cell 1
    have rc2 : World.cell? w3 ⟨w.heap.size, 2, none⟩ = some (.int .i64 0) := r_3.cell 2
    have rc3 : World.cell? w3 ⟨w.heap.size, 3, none⟩ = some (.int .i64 0) := r_3.cell 3
    have rc4 : World.cell? w3 ⟨w.heap.size, 4, none⟩ = some (.int .i64 0) := r_3.cell 4
    have rc5 : World.cell? w3 ⟨w.heap.size, 5, none⟩ = some (.int .i64 0) := r_3.cell 5
    have rc6 : World.cell? w3 ⟨w.heap.size, 6, none⟩ = some (.int .i64 0) := r_3.cell 6
    have rf0 : World.frozen? w3 ⟨w.heap.size, 0, none⟩ = false := r_3.frozen 0
    have rf1 : World.frozen? w3 ⟨w.heap.size, 1, none⟩ = false := r_3.frozen 1
    have rf2 : World.frozen? w3 ⟨w.heap.size, 2, none⟩ = false := r_3.frozen 2
    have rf3 : World.frozen? w3 ⟨w.heap.size, 3, none⟩ = false := r_3.frozen 3
    have rf4 : World.frozen? w3 ⟨w.heap.size, 4, none⟩ = false := r_3.frozen 4
    have rf5 : World.frozen? w3 ⟨w.heap.size, 5, none⟩ = false := r_3.frozen 5
    have rf6 : World.frozen? w3 ⟨w.heap.size, 6, none⟩ = false := r_3.frozen 6
    go_wp2_with fail
    have s4 := s3.put (p := ⟨w.heap.size, 0, none⟩) (by show _ < w.heap.size; first | omega | (simp; omega)) (.int .i64 1)
    have WI4 := WI3.put (p := ⟨w.heap.size, 0, none⟩) (by show _ ≤ w.heap.size; first | exact Nat.le_refl _ | omega | (simp; omega)) (.int .i64 1)
    have r_4 := r_3.set 0 (.int .i64 1)
    have s5 := s4.put (p := ⟨w.heap.size, 1, none⟩) (by show _ < w.heap.size; first | omega | (simp; omega)) (.int .i64 0)
    have WI5 := WI4.put (p := ⟨w.heap.size, 1, none⟩) (by show _ ≤ w.heap.size; first | exact Nat.le_refl _ | omega | (simp; omega)) (.int .i64 0)
    have r_5 := r_4.set 1 (.int .i64 0)
    have s6 := s5.put (p := ⟨w.heap.size, 2, none⟩) (by show _ < w.heap.size; first | omega | (simp; omega)) (.int .i64 n0)
    have WI6 := WI5.put (p := ⟨w.heap.size, 2, none⟩) (by show _ ≤ w.heap.size; first | exact Nat.le_refl _ | omega | (simp; omega)) (.int .i64 n0)
    have r_6 := r_5.set 2 (.int .i64 n0)
    have s7 := s6.put (p := ⟨w.heap.size, 3, none⟩) (by show _ < w.heap.size; first | omega | (simp; omega)) (.int .i64 n1)
    have WI7 := WI6.put (p := ⟨w.heap.size, 3, none⟩) (by show _ ≤ w.heap.size; first | exact Nat.le_refl _ | omega | (simp; omega)) (.int .i64 n1)
    have r_7 := r_6.set 3 (.int .i64 n1)
    have s8 := s7.put (p := ⟨w.heap.size, 4, none⟩) (by show _ < w.heap.size; first | omega | (simp; omega)) (.int .i64 n2)
    have WI8 := WI7.put (p := ⟨w.heap.size, 4, none⟩) (by show _ ≤ w.heap.size; first | exact Nat.le_refl _ | omega | (simp; omega)) (.int .i64 n2)
    have r_8 := r_7.set 4 (.int .i64 n2)
    have s9 := s8.put (p := ⟨w.heap.size, 5, none⟩) (by show _ < w.heap.size; first | omega | (simp; omega)) (.int .i64 ((n3 : Int) - 1000))
    have WI9 := WI8.put (p := ⟨w.heap.size, 5, none⟩) (by show _ ≤ w.heap.size; first | exact Nat.le_refl _ | omega | (simp; omega)) (.int .i64 ((n3 : Int) - 1000))
    have r_9 := r_8.set 5 (.int .i64 ((n3 : Int) - 1000))
    have s10 := s9.put (p := ⟨w.heap.size, 6, none⟩) (by show _ < w.heap.size; first | omega | (simp; omega)) (.int .i64 0)
    have WI10 := WI9.put (p := ⟨w.heap.size, 6, none⟩) (by show _ ≤ w.heap.size; first | exact Nat.le_refl _ | omega | (simp; omega)) (.int .i64 0)
    have r_10 := r_9.set 6 (.int .i64 0)
    refine bodyPost_ret (v := .agg #[.int .i64 1, .int .i64 0, .int .i64 n0, .int .i64 n1, .int .i64 n2, .int .i64 ((n3 : Int) - 1000), .int .i64 0]) (by simp [results, Tryz.results39, go_sem, rc0, rc1, rc2, rc3, rc4, rc5, rc6]) rfl ?_
    exact ⟨_, _, _, _, _, _, _, rfl, by rw [rec1]; exact fault_small b0 b1 b2 b3, ⟨_, by omega, s10⟩, WI10⟩
  · go_wp2_with fail
    refine (l1Next w2 base g A m c (k + 1) l 4 s2 (by omega) (by omega)).mono ?_
    rintro e w3 ⟨p, rfl, hr3, -, s3, hw3, -⟩
    have zs3 : w2.heap.size ≤ w3.heap.size := by have q := hw3.size; first | exact q | (simp; done) | (simp at q; exact q) | (simp at q ⊢; omega)
    have r_3 := r_2.within hw3 (by first | omega | (simp; omega))
    have WI3 := WI2.trans hw3
    have zw3 := WI3.size
    have g3 := s3.at_.lt
    obtain ⟨hr3a, hr3b⟩ := hr3 (by omega)
    go_wp2_with fail
    refine (l2Draw w3 base g A m c ((k + 1) + 1) l s3 (by omega)).mono ?_
    rintro e w4 ⟨n0, n1, n2, n3, rfl, b0, b1, b2, b3, s4, hw4⟩
    have zs4 : w3.heap.size ≤ w4.heap.size := by have q := hw4.size; first | exact q | (simp; done) | (simp at q; exact q) | (simp at q ⊢; omega)
    have r_4 := r_3.within hw4 (by first | omega | (simp; omega))
    have WI4 := WI3.trans hw4
    have zw4 := WI4.size
    have g4 := s4.at_.lt
    have rc0 : World.cell? w4 ⟨w.heap.size, 0, none⟩ = some (.int .i64 0) := r_4.cell 0
    have rc1 : World.cell? w4 ⟨w.heap.size, 1, none⟩ = some (.int .i64 0) := r_4.cell 1
    have rc2 : World.cell? w4 ⟨w.heap.size, 2, none⟩ = some (.int .i64 0) := r_4.cell 2
    have rc3 : World.cell? w4 ⟨w.heap.size, 3, none⟩ = some (.int .i64 0) := r_4.cell 3
    have rc4 : World.cell? w4 ⟨w.heap.size, 4, none⟩ = some (.int .i64 0) := r_4.cell 4
    have rc5 : World.cell? w4 ⟨w.heap.size, 5, none⟩ = some (.int .i64 0) := r_4.cell 5
    have rc6 : World.cell? w4 ⟨w.heap.size, 6, none⟩ = some (.int .i64 0) := r_4.cell 6
    have rf0 : World.frozen? w4 ⟨w.heap.size, 0, none⟩ = false := r_4.frozen 0
    have rf1 : World.frozen? w4 ⟨w.heap.size, 1, none⟩ = false := r_4.frozen 1
    have rf2 : World.frozen? w4 ⟨w.heap.size, 2, none⟩ = false := r_4.frozen 2
    have rf3 : World.frozen? w4 ⟨w.heap.size, 3, none⟩ = false := r_4.frozen 3
    have rf4 : World.frozen? w4 ⟨w.heap.size, 4, none⟩ = false := r_4.frozen 4
    have rf5 : World.frozen? w4 ⟨w.heap.size, 5, none⟩ = false := r_4.frozen 5
    have rf6 : World.frozen? w4 ⟨w.heap.size, 6, none⟩ = false := r_4.frozen 6
    go_wp2_with fail
    have s5 := s4.put (p := ⟨w.heap.size, 0, none⟩) (by show _ < w.heap.size; first | omega | (simp; omega)) (.int .i64 2)
    have WI5 := WI4.put (p := ⟨w.heap.size, 0, none⟩) (by show _ ≤ w.heap.size; first | exact Nat.le_refl _ | omega | (simp; omega)) (.int .i64 2)
    have r_5 := r_4.set 0 (.int .i64 2)
    have s6 := s5.put (p := ⟨w.heap.size, 1, none⟩) (by show _ < w.heap.size; first | omega | (simp; omega)) (.int .i64 p)
    have WI6 := WI5.put (p := ⟨w.heap.size, 1, none⟩) (by show _ ≤ w.heap.size; first | exact Nat.le_refl _ | omega | (simp; omega)) (.int .i64 p)
    have r_6 := r_5.set 1 (.int .i64 p)
    have s7 := s6.put (p := ⟨w.heap.size, 2, none⟩) (by show _ < w.heap.size; first | omega | (simp; omega)) (.int .i64 n0)
    have WI7 := WI6.put (p := ⟨w.heap.size, 2, none⟩) (by show _ ≤ w.heap.size; first | exact Nat.le_refl _ | omega | (simp; omega)) (.int .i64 n0)
    have r_7 := r_6.set 2 (.int .i64 n0)
    have s8 := s7.put (p := ⟨w.heap.size, 3, none⟩) (by show _ < w.heap.size; first | omega | (simp; omega)) (.int .i64 n1)
    have WI8 := WI7.put (p := ⟨w.heap.size, 3, none⟩) (by show _ ≤ w.heap.size; first | exact Nat.le_refl _ | omega | (simp; omega)) (.int .i64 n1)
    have r_8 := r_7.set 3 (.int .i64 n1)
    have s9 := s8.put (p := ⟨w.heap.size, 4, none⟩) (by show _ < w.heap.size; first | omega | (simp; omega)) (.int .i64 n2)
    have WI9 := WI8.put (p := ⟨w.heap.size, 4, none⟩) (by show _ ≤ w.heap.size; first | exact Nat.le_refl _ | omega | (simp; omega)) (.int .i64 n2)
    have r_9 := r_8.set 4 (.int .i64 n2)
    have s10 := s9.put (p := ⟨w.heap.size, 5, none⟩) (by show _ < w.heap.size; first | omega | (simp; omega)) (.int .i64 ((n3 : Int) - 1000))
    have WI10 := WI9.put (p := ⟨w.heap.size, 5, none⟩) (by show _ ≤ w.heap.size; first | exact Nat.le_refl _ | omega | (simp; omega)) (.int .i64 ((n3 : Int) - 1000))
    have r_10 := r_9.set 5 (.int .i64 ((n3 : Int) - 1000))
    have s11 := s10.put (p := ⟨w.heap.size, 6, none⟩) (by show _ < w.heap.size; first | omega | (simp; omega)) (.int .i64 0)
    have WI11 := WI10.put (p := ⟨w.heap.size, 6, none⟩) (by show _ ≤ w.heap.size; first | exact Nat.le_refl _ | omega | (simp; omega)) (.int .i64 0)
    have r_11 := r_10.set 6 (.int .i64 0)
    refine bodyPost_ret (v := .agg #[.int .i64 2, .int .i64 p, .int .i64 n0, .int .i64 n1, .int .i64 n2, .int .i64 ((n3 : Int) - 1000), .int .i64 0]) (by simp [results, Tryz.results39, go_sem, rc0, rc1, rc2, rc3, rc4, rc5, rc6]) rfl ?_
    exact ⟨_, _, _, _, _, _, _, rfl, by rw [rec2, if_pos (node_small hr3a hr3b)]; exact fault_small b0 b1 b2 b3, ⟨_, by omega, s11⟩, WI11⟩
  · go_wp2_with fail
    refine (l1Next w2 base g A m c (k + 1) l 4 s2 (by omega) (by omega)).mono ?_
    rintro e w3 ⟨p, rfl, hr3, -, s3, hw3, -⟩
    have zs3 : w2.heap.size ≤ w3.heap.size := by have q := hw3.size; first | exact q | (simp; done) | (simp at q; exact q) | (simp at q ⊢; omega)
    have r_3 := r_2.within hw3 (by first | omega | (simp; omega))
    have WI3 := WI2.trans hw3
    have zw3 := WI3.size
    have g3 := s3.at_.lt
    obtain ⟨hr3a, hr3b⟩ := hr3 (by omega)
    go_wp2_with fail
    refine (l2Draw w3 base g A m c ((k + 1) + 1) l s3 (by omega)).mono ?_
    rintro e w4 ⟨n0, n1, n2, n3, rfl, b0, b1, b2, b3, s4, hw4⟩
    have zs4 : w3.heap.size ≤ w4.heap.size := by have q := hw4.size; first | exact q | (simp; done) | (simp at q; exact q) | (simp at q ⊢; omega)
    have r_4 := r_3.within hw4 (by first | omega | (simp; omega))
    have WI4 := WI3.trans hw4
    have zw4 := WI4.size
    have g4 := s4.at_.lt
    have rc0 : World.cell? w4 ⟨w.heap.size, 0, none⟩ = some (.int .i64 0) := r_4.cell 0
    have rc1 : World.cell? w4 ⟨w.heap.size, 1, none⟩ = some (.int .i64 0) := r_4.cell 1
    have rc2 : World.cell? w4 ⟨w.heap.size, 2, none⟩ = some (.int .i64 0) := r_4.cell 2
    have rc3 : World.cell? w4 ⟨w.heap.size, 3, none⟩ = some (.int .i64 0) := r_4.cell 3
    have rc4 : World.cell? w4 ⟨w.heap.size, 4, none⟩ = some (.int .i64 0) := r_4.cell 4
    have rc5 : World.cell? w4 ⟨w.heap.size, 5, none⟩ = some (.int .i64 0) := r_4.cell 5
    have rc6 : World.cell? w4 ⟨w.heap.size, 6, none⟩ = some (.int .i64 0) := r_4.cell 6
    have rf0 : World.frozen? w4 ⟨w.heap.size, 0, none⟩ = false := r_4.frozen 0
    have rf1 : World.frozen? w4 ⟨w.heap.size, 1, none⟩ = false := r_4.frozen 1
    have rf2 : World.frozen? w4 ⟨w.heap.size, 2, none⟩ = false := r_4.frozen 2
    have rf3 : World.frozen? w4 ⟨w.heap.size, 3, none⟩ = false := r_4.frozen 3
    have rf4 : World.frozen? w4 ⟨w.heap.size, 4, none⟩ = false := r_4.frozen 4
    have rf5 : World.frozen? w4 ⟨w.heap.size, 5, none⟩ = false := r_4.frozen 5
    have rf6 : World.frozen? w4 ⟨w.heap.size, 6, none⟩ = false := r_4.frozen 6
    go_wp2_with fail
    have s5 := s4.put (p := ⟨w.heap.size, 0, none⟩) (by show _ < w.heap.size; first | omega | (simp; omega)) (.int .i64 2)
    have WI5 := WI4.put (p := ⟨w.heap.size, 0, none⟩) (by show _ ≤ w.heap.size; first | exact Nat.le_refl _ | omega | (simp; omega)) (.int .i64 2)
    have r_5 := r_4.set 0 (.int .i64 2)
    have s6 := s5.put (p := ⟨w.heap.size, 1, none⟩) (by show _ < w.heap.size; first | omega | (simp; omega)) (.int .i64 p)
    have WI6 := WI5.put (p := ⟨w.heap.size, 1, none⟩) (by show _ ≤ w.heap.size; first | exact Nat.le_refl _ | omega | (simp; omega)) (.int .i64 p)
    have r_6 := r_5.set 1 (.int .i64 p)
    have s7 := s6.put (p := ⟨w.heap.size, 2, none⟩) (by show _ < w.heap.size; first | omega | (simp; omega)) (.int .i64 n0)
    have WI7 := WI6.put (p := ⟨w.heap.size, 2, none⟩) (by show _ ≤ w.heap.size; first | exact Nat.le_refl _ | omega | (simp; omega)) (.int .i64 n0)
    have r_7 := r_6.set 2 (.int .i64 n0)
    have s8 := s7.put (p := ⟨w.heap.size, 3, none⟩) (by show _ < w.heap.size; first | omega | (simp; omega)) (.int .i64 n1)
    have WI8 := WI7.put (p := ⟨w.heap.size, 3, none⟩) (by show _ ≤ w.heap.size; first | exact Nat.le_refl _ | omega | (simp; omega)) (.int .i64 n1)
    have r_8 := r_7.set 3 (.int .i64 n1)
    have s9 := s8.put (p := ⟨w.heap.size, 4, none⟩) (by show _ < w.heap.size; first | omega | (simp; omega)) (.int .i64 n2)
    have WI9 := WI8.put (p := ⟨w.heap.size, 4, none⟩) (by show _ ≤ w.heap.size; first | exact Nat.le_refl _ | omega | (simp; omega)) (.int .i64 n2)
    have r_9 := r_8.set 4 (.int .i64 n2)
    have s10 := s9.put (p := ⟨w.heap.size, 5, none⟩) (by show _ < w.heap.size; first | omega | (simp; omega)) (.int .i64 ((n3 : Int) - 1000))
    have WI10 := WI9.put (p := ⟨w.heap.size, 5, none⟩) (by show _ ≤ w.heap.size; first | exact Nat.le_refl _ | omega | (simp; omega)) (.int .i64 ((n3 : Int) - 1000))
    have r_10 := r_9.set 5 (.int .i64 ((n3 : Int) - 1000))
    have s11 := s10.put (p := ⟨w.heap.size, 6, none⟩) (by show _ < w.heap.size; first | omega | (simp; omega)) (.int .i64 0)
    have WI11 := WI10.put (p := ⟨w.heap.size, 6, none⟩) (by show _ ≤ w.heap.size; first | exact Nat.le_refl _ | omega | (simp; omega)) (.int .i64 0)
    have r_11 := r_10.set 6 (.int .i64 0)
    refine bodyPost_ret (v := .agg #[.int .i64 2, .int .i64 p, .int .i64 n0, .int .i64 n1, .int .i64 n2, .int .i64 ((n3 : Int) - 1000), .int .i64 0]) (by simp [results, Tryz.results39, go_sem, rc0, rc1, rc2, rc3, rc4, rc5, rc6]) rfl ?_
    exact ⟨_, _, _, _, _, _, _, rfl, by rw [rec2, if_pos (node_small hr3a hr3b)]; exact fault_small b0 b1 b2 b3, ⟨_, by omega, s11⟩, WI11⟩
  · go_wp2_with fail
    refine (l1Next w2 base g A m c (k + 1) l 4 s2 (by omega) (by omega)).mono ?_
    rintro e w3 ⟨p, rfl, hr3, -, s3, hw3, -⟩
    have zs3 : w2.heap.size ≤ w3.heap.size := by have q := hw3.size; first | exact q | (simp; done) | (simp at q; exact q) | (simp at q ⊢; omega)
    have r_3 := r_2.within hw3 (by first | omega | (simp; omega))
    have WI3 := WI2.trans hw3
    have zw3 := WI3.size
    have g3 := s3.at_.lt
    obtain ⟨hr3a, hr3b⟩ := hr3 (by omega)
    have r_4 := r_3.alloc (.cells #[.int .i64 0, .int .i64 1, .int .i64 2, .int .i64 3, .int .i64 9999] 2)
    have s4 := s3.alloc (.cells #[.int .i64 0, .int .i64 1, .int .i64 2, .int .i64 3, .int .i64 9999] 2)
    have g4 := s4.at_.lt
    have WI4 := WI3.alloc (.cells #[.int .i64 0, .int .i64 1, .int .i64 2, .int .i64 3, .int .i64 9999] 2)
    have zw4 := WI4.size
    go_wp2_with fail
    refine (l1Pick (w3.alloc (.cells #[.int .i64 0, .int .i64 1, .int .i64 2, .int .i64 3, .int .i64 9999] 2)) base g A m c ((k + 1) + 1) l (w3.heap.size) #[.int .i64 0, .int .i64 1, .int .i64 2, .int .i64 3, .int .i64 9999] [0, 1, 2, 3, 9999] 5 5 s4 (by omega) (At.newAt' (show w3.heap.size = w3.heap.size by first | rfl | simp)) (by simp [intCells]) (by first | omega | (simp; omega)) rfl (by omega) (by omega)).mono ?_
    rintro e w5 ⟨v, hv5, rfl, s5, hw5, -⟩
    have zs5 : w3.heap.size + 1 ≤ w5.heap.size := by have q := hw5.size; first | exact q | (simp; done) | (simp at q; exact q) | (simp at q ⊢; omega)
    have r_5 := r_4.within hw5 (by first | omega | (simp; omega))
    have WI5 := WI4.trans hw5
    have zw5 := WI5.size
    have g5 := s5.at_.lt
    have rc0 : World.cell? w5 ⟨w.heap.size, 0, none⟩ = some (.int .i64 0) := r_5.cell 0
    have rc1 : World.cell? w5 ⟨w.heap.size, 1, none⟩ = some (.int .i64 0) := r_5.cell 1
    have rc2 : World.cell? w5 ⟨w.heap.size, 2, none⟩ = some (.int .i64 0) := r_5.cell 2
    have rc3 : World.cell? w5 ⟨w.heap.size, 3, none⟩ = some (.int .i64 0) := r_5.cell 3
    have rc4 : World.cell? w5 ⟨w.heap.size, 4, none⟩ = some (.int .i64 0) := r_5.cell 4
    have rc5 : World.cell? w5 ⟨w.heap.size, 5, none⟩ = some (.int .i64 0) := r_5.cell 5
    have rc6 : World.cell? w5 ⟨w.heap.size, 6, none⟩ = some (.int .i64 0) := r_5.cell 6
    have rf0 : World.frozen? w5 ⟨w.heap.size, 0, none⟩ = false := r_5.frozen 0
    have rf1 : World.frozen? w5 ⟨w.heap.size, 1, none⟩ = false := r_5.frozen 1
    have rf2 : World.frozen? w5 ⟨w.heap.size, 2, none⟩ = false := r_5.frozen 2
    have rf3 : World.frozen? w5 ⟨w.heap.size, 3, none⟩ = false := r_5.frozen 3
    have rf4 : World.frozen? w5 ⟨w.heap.size, 4, none⟩ = false := r_5.frozen 4
    have rf5 : World.frozen? w5 ⟨w.heap.size, 5, none⟩ = false := r_5.frozen 5
    have rf6 : World.frozen? w5 ⟨w.heap.size, 6, none⟩ = false := r_5.frozen 6
    go_wp2_with fail
    have s6 := s5.put (p := ⟨w.heap.size, 0, none⟩) (by show _ < w.heap.size; first | omega | (simp; omega)) (.int .i64 3)
    have WI6 := WI5.put (p := ⟨w.heap.size, 0, none⟩) (by show _ ≤ w.heap.size; first | exact Nat.le_refl _ | omega | (simp; omega)) (.int .i64 3)
    have r_6 := r_5.set 0 (.int .i64 3)
    have s7 := s6.put (p := ⟨w.heap.size, 1, none⟩) (by show _ < w.heap.size; first | omega | (simp; omega)) (.int .i64 p)
    have WI7 := WI6.put (p := ⟨w.heap.size, 1, none⟩) (by show _ ≤ w.heap.size; first | exact Nat.le_refl _ | omega | (simp; omega)) (.int .i64 p)
    have r_7 := r_6.set 1 (.int .i64 p)
    have s8 := s7.put (p := ⟨w.heap.size, 2, none⟩) (by show _ < w.heap.size; first | omega | (simp; omega)) (.int .i64 0)
    have WI8 := WI7.put (p := ⟨w.heap.size, 2, none⟩) (by show _ ≤ w.heap.size; first | exact Nat.le_refl _ | omega | (simp; omega)) (.int .i64 0)
    have r_8 := r_7.set 2 (.int .i64 0)
    have s9 := s8.put (p := ⟨w.heap.size, 3, none⟩) (by show _ < w.heap.size; first | omega | (simp; omega)) (.int .i64 0)
    have WI9 := WI8.put (p := ⟨w.heap.size, 3, none⟩) (by show _ ≤ w.heap.size; first | exact Nat.le_refl _ | omega | (simp; omega)) (.int .i64 0)
    have r_9 := r_8.set 3 (.int .i64 0)
    have s10 := s9.put (p := ⟨w.heap.size, 4, none⟩) (by show _ < w.heap.size; first | omega | (simp; omega)) (.int .i64 0)
    have WI10 := WI9.put (p := ⟨w.heap.size, 4, none⟩) (by show _ ≤ w.heap.size; first | exact Nat.le_refl _ | omega | (simp; omega)) (.int .i64 0)
    have r_10 := r_9.set 4 (.int .i64 0)
    have s11 := s10.put (p := ⟨w.heap.size, 5, none⟩) (by show _ < w.heap.size; first | omega | (simp; omega)) (.int .i64 0)
    have WI11 := WI10.put (p := ⟨w.heap.size, 5, none⟩) (by show _ ≤ w.heap.size; first | exact Nat.le_refl _ | omega | (simp; omega)) (.int .i64 0)
    have r_11 := r_10.set 5 (.int .i64 0)
    have s12 := s11.put (p := ⟨w.heap.size, 6, none⟩) (by show _ < w.heap.size; first | omega | (simp; omega)) (.int .i64 v)
    have WI12 := WI11.put (p := ⟨w.heap.size, 6, none⟩) (by show _ ≤ w.heap.size; first | exact Nat.le_refl _ | omega | (simp; omega)) (.int .i64 v)
    have r_12 := r_11.set 6 (.int .i64 v)
    refine bodyPost_ret (v := .agg #[.int .i64 3, .int .i64 p, .int .i64 0, .int .i64 0, .int .i64 0, .int .i64 0, .int .i64 v]) (by simp [results, Tryz.results39, go_sem, rc0, rc1, rc2, rc3, rc4, rc5, rc6]) rfl ?_
    exact ⟨_, _, _, _, _, _, _, rfl, by rw [rec3, if_pos (by rw [node_small hr3a hr3b, pick_in 0 9999 hv5 rfl]; rfl)], ⟨_, by omega, s12⟩, WI12⟩
  · have bq0 : (q == 0) = false := by simp; omega
    have bq1 : (q == 1) = false := by simp; omega
    have bq2 : (q == 2) = false := by simp; omega
    have bq3 : (q == 3) = false := by simp; omega
    have bq4 : (q == 4) = false := by simp; omega
    have r_3 := r_2.alloc (.cells #[.int .i64 0, .int .i64 1, .int .i64 5, .int .i64 60000] 2)
    have s3 := s2.alloc (.cells #[.int .i64 0, .int .i64 1, .int .i64 5, .int .i64 60000] 2)
    have g3 := s3.at_.lt
    have WI3 := WI2.alloc (.cells #[.int .i64 0, .int .i64 1, .int .i64 5, .int .i64 60000] 2)
    have zw3 := WI3.size
    go_wp2_with fail
    refine (l1Pick (w2.alloc (.cells #[.int .i64 0, .int .i64 1, .int .i64 5, .int .i64 60000] 2)) base g A m c (k + 1) l (w2.heap.size) #[.int .i64 0, .int .i64 1, .int .i64 5, .int .i64 60000] [0, 1, 5, 60000] 4 4 s3 (by omega) (At.newAt' (show w2.heap.size = w2.heap.size by first | rfl | simp)) (by simp [intCells]) (by first | omega | (simp; omega)) rfl (by omega) (by omega)).mono ?_
    rintro e w4 ⟨v, hv4, rfl, s4, hw4, -⟩
    have zs4 : w2.heap.size + 1 ≤ w4.heap.size := by have q := hw4.size; first | exact q | (simp; done) | (simp at q; exact q) | (simp at q ⊢; omega)
    have r_4 := r_3.within hw4 (by first | omega | (simp; omega))
    have WI4 := WI3.trans hw4
    have zw4 := WI4.size
    have g4 := s4.at_.lt
    have rc0 : World.cell? w4 ⟨w.heap.size, 0, none⟩ = some (.int .i64 0) := r_4.cell 0
    have rc1 : World.cell? w4 ⟨w.heap.size, 1, none⟩ = some (.int .i64 0) := r_4.cell 1
    have rc2 : World.cell? w4 ⟨w.heap.size, 2, none⟩ = some (.int .i64 0) := r_4.cell 2
    have rc3 : World.cell? w4 ⟨w.heap.size, 3, none⟩ = some (.int .i64 0) := r_4.cell 3
    have rc4 : World.cell? w4 ⟨w.heap.size, 4, none⟩ = some (.int .i64 0) := r_4.cell 4
    have rc5 : World.cell? w4 ⟨w.heap.size, 5, none⟩ = some (.int .i64 0) := r_4.cell 5
    have rc6 : World.cell? w4 ⟨w.heap.size, 6, none⟩ = some (.int .i64 0) := r_4.cell 6
    have rf0 : World.frozen? w4 ⟨w.heap.size, 0, none⟩ = false := r_4.frozen 0
    have rf1 : World.frozen? w4 ⟨w.heap.size, 1, none⟩ = false := r_4.frozen 1
    have rf2 : World.frozen? w4 ⟨w.heap.size, 2, none⟩ = false := r_4.frozen 2
    have rf3 : World.frozen? w4 ⟨w.heap.size, 3, none⟩ = false := r_4.frozen 3
    have rf4 : World.frozen? w4 ⟨w.heap.size, 4, none⟩ = false := r_4.frozen 4
    have rf5 : World.frozen? w4 ⟨w.heap.size, 5, none⟩ = false := r_4.frozen 5
    have rf6 : World.frozen? w4 ⟨w.heap.size, 6, none⟩ = false := r_4.frozen 6
    go_wp2_with fail
    have s5 := s4.put (p := ⟨w.heap.size, 0, none⟩) (by show _ < w.heap.size; first | omega | (simp; omega)) (.int .i64 4)
    have WI5 := WI4.put (p := ⟨w.heap.size, 0, none⟩) (by show _ ≤ w.heap.size; first | exact Nat.le_refl _ | omega | (simp; omega)) (.int .i64 4)
    have r_5 := r_4.set 0 (.int .i64 4)
    have s6 := s5.put (p := ⟨w.heap.size, 1, none⟩) (by show _ < w.heap.size; first | omega | (simp; omega)) (.int .i64 0)
    have WI6 := WI5.put (p := ⟨w.heap.size, 1, none⟩) (by show _ ≤ w.heap.size; first | exact Nat.le_refl _ | omega | (simp; omega)) (.int .i64 0)
    have r_6 := r_5.set 1 (.int .i64 0)
    have s7 := s6.put (p := ⟨w.heap.size, 2, none⟩) (by show _ < w.heap.size; first | omega | (simp; omega)) (.int .i64 0)
    have WI7 := WI6.put (p := ⟨w.heap.size, 2, none⟩) (by show _ ≤ w.heap.size; first | exact Nat.le_refl _ | omega | (simp; omega)) (.int .i64 0)
    have r_7 := r_6.set 2 (.int .i64 0)
    have s8 := s7.put (p := ⟨w.heap.size, 3, none⟩) (by show _ < w.heap.size; first | omega | (simp; omega)) (.int .i64 0)
    have WI8 := WI7.put (p := ⟨w.heap.size, 3, none⟩) (by show _ ≤ w.heap.size; first | exact Nat.le_refl _ | omega | (simp; omega)) (.int .i64 0)
    have r_8 := r_7.set 3 (.int .i64 0)
    have s9 := s8.put (p := ⟨w.heap.size, 4, none⟩) (by show _ < w.heap.size; first | omega | (simp; omega)) (.int .i64 0)
    have WI9 := WI8.put (p := ⟨w.heap.size, 4, none⟩) (by show _ ≤ w.heap.size; first | exact Nat.le_refl _ | omega | (simp; omega)) (.int .i64 0)
    have r_9 := r_8.set 4 (.int .i64 0)
    have s10 := s9.put (p := ⟨w.heap.size, 5, none⟩) (by show _ < w.heap.size; first | omega | (simp; omega)) (.int .i64 0)
    have WI10 := WI9.put (p := ⟨w.heap.size, 5, none⟩) (by show _ ≤ w.heap.size; first | exact Nat.le_refl _ | omega | (simp; omega)) (.int .i64 0)
    have r_10 := r_9.set 5 (.int .i64 0)
    have s11 := s10.put (p := ⟨w.heap.size, 6, none⟩) (by show _ < w.heap.size; first | omega | (simp; omega)) (.int .i64 v)
    have WI11 := WI10.put (p := ⟨w.heap.size, 6, none⟩) (by show _ ≤ w.heap.size; first | exact Nat.le_refl _ | omega | (simp; omega)) (.int .i64 v)
    have r_11 := r_10.set 6 (.int .i64 v)
    refine bodyPost_ret (v := .agg #[.int .i64 4, .int .i64 0, .int .i64 0, .int .i64 0, .int .i64 0, .int .i64 0, .int .i64 v]) (by simp [results, Tryz.results39, go_sem, rc0, rc1, rc2, rc3, rc4, rc5, rc6]) rfl ?_
    exact ⟨_, _, _, _, _, _, _, rfl, by rw [rec4, if_pos (pick_in 0 60000 hv4 rfl)], ⟨_, by omega, s11⟩, WI11⟩

end Go.Proofs.YtmaillakhhdkfaaGreatDoor
/-
  What a disk says, of the pure answers; and what the laws of records and of disks say of them.
-/
namespace Go.Proofs.YtmaillakhhdkfaaGreatDoor
set_option maxRecDepth 20000
open Go.RowKit
set_option linter.unusedSimpArgs false
set_option linter.unusedVariables false

/-! ### Records and their bytes -/
theorem form_of {r : Rcd} (h : recFaultM r = 0) : recFormM r = true := by
  rcases hf : recFormM r
  · rw [recFault_form hf] at h; cases h
  · rfl
theorem dec_encSb {x : Smp} (h : faultM x = 0) : decodeM (encSb x) = (0, x) := by
  have := (encode_decode h).2
  rw [encodeM_encSb h] at this
  exact this
theorem node_byte {p : Int} (h : inB (p, 0, 3) = true) : (((UInt8.ofNat p.toNat).toNat : Nat) : Int) = p := by
  unfold inB at h
  simp only [Bool.and_eq_true, decide_eq_true_eq] at h
  rw [UInt8.toNat_ofNat']
  omega
theorem pack2_is (n : Nat) : packL n 2 = [UInt8.ofNat n, UInt8.ofNat (n / 256)] := by
  rw [packL_cons, packL_cons]; rfl
theorem two_bytes {n : Int} (h0 : 0 ≤ n) (h1 : n ≤ 60000) : (((UInt8.ofNat n.toNat).toNat + 256 * (UInt8.ofNat (n.toNat / 256)).toNat : Nat) : Int) = n := by
  rw [UInt8.toNat_ofNat', UInt8.toNat_ofNat']
  omega
theorem read_0 (x : UInt8) (m : List UInt8) : (readM (x :: m) 0 1).2 = (x.toNat : Int) := read1 (p := 0) rfl
theorem read_1 (x y : UInt8) (m : List UInt8) : (readM (x :: y :: m) 1 1).2 = (y.toNat : Int) := read1 (p := 1) rfl
theorem read_12 (x a b : UInt8) (m : List UInt8) : (readM (x :: a :: b :: m) 1 2).2 = ((a.toNat + 256 * b.toNat : Nat) : Int) := read2 (p := 1) rfl rfl
theorem read_22 (x y a b : UInt8) (m : List UInt8) : (readM (x :: y :: a :: b :: m) 2 2).2 = ((a.toNat + 256 * b.toNat : Nat) : Int) := read2 (p := 2) rfl rfl
theorem unp_enc {r : Rcd} (h : recFaultM r = 0) : unpR (encR r) = r := by
  obtain ⟨k, p, x, n⟩ := r
  have hf := form_of h
  unfold recFormM at hf
  by_cases k1 : k = 1
  · subst k1
    rw [if_pos rfl] at hf
    have hz : p = 0 ∧ n = 0 := by simpa [formM] using hf
    obtain ⟨rfl, rfl⟩ := hz
    rw [rec1] at h
    rw [encR_1, unpR_1 (by rw [read_0]; rfl), show (1 :: encSb x).drop 1 = encSb x from rfl, dec_encSb h]
  rw [if_neg k1] at hf
  by_cases k2 : k = 2
  · subst k2
    rw [if_pos rfl] at hf
    have hz : n = 0 := by simpa [formM] using hf
    subst hz
    rw [rec2] at h
    by_cases hp : inB (p, 0, 3) = true
    · rw [if_pos hp] at h
      rw [encR_2, unpR_2 (by rw [read_0]; rfl), read_1, node_byte hp, show (2 :: UInt8.ofNat p.toNat :: encSb x).drop 2 = encSb x from rfl, dec_encSb h]
    · rw [if_neg hp] at h; cases h
  rw [if_neg k2] at hf
  by_cases k3 : k = 3
  · subst k3
    rw [if_pos rfl] at hf
    have hz : x = (0, 0, 0, 0) := by simpa [formM] using hf
    subst hz
    rw [rec3] at h
    by_cases hp : (inB (p, 0, 3) && inB (n, 0, 9999)) = true
    · have hp' := hp
      rw [Bool.and_eq_true] at hp'
      have hn : 0 ≤ n ∧ n ≤ 9999 := by have := hp'.2; unfold inB at this; simpa using this
      rw [encR_3, unpR_3 (by rw [read_0]; rfl), read_1, node_byte hp'.1, pack2_is,
        read_22, two_bytes hn.1 (by omega)]
    · rw [if_neg hp] at h; cases h
  rw [if_neg k3] at hf
  by_cases k4 : k = 4
  · subst k4
    rw [if_pos rfl] at hf
    have hz : p = 0 ∧ x = (0, 0, 0, 0) := by simpa [formM] using hf
    obtain ⟨rfl, rfl⟩ := hz
    rw [rec4] at h
    by_cases hp : inB (n, 0, 60000) = true
    · have hn : 0 ≤ n ∧ n ≤ 60000 := by have := hp; unfold inB at this; simpa using this
      rw [encR_4, unpR_4 (by rw [read_0]; rfl), pack2_is,
        read_12, two_bytes hn.1 hn.2]
    · rw [if_neg hp] at h; cases h
  rw [if_neg k4] at hf
  cases hf
/-- What is written of a record is read. -/
theorem rec_back {r : Rcd} (h : recFaultM r = 0) : decodeRecM (encR r) = (0, r) := by
  rcases dec_or (encR r) with ⟨h1, -, -⟩ | ⟨-, h2⟩
  · rw [h1, unp_enc h]
  · exact absurd ⟨by rw [unp_enc h]; exact h, by rw [unp_enc h]⟩ h2
theorem decR_right {l : List UInt8} (h : (decR l).2 = true) : recFaultM (decR l).1 = 0 := by
  have hd : decodeRecM l = (0, (decR l).1) := by unfold decodeRecM; rw [if_pos h]
  rcases dec_or l with ⟨h1, h2, h3⟩ | ⟨h1, -⟩
  · rw [h1] at hd
    rw [← (Prod.mk.inj hd).2]; exact h2
  · rw [h1] at hd; cases (Prod.mk.inj hd).1
theorem decR_enc {r : Rcd} (h : recFaultM r = 0) : decR (encR r) = (r, true) := by
  have hb := rec_back h
  unfold decodeRecM at hb
  rcases hd : decR (encR r) with ⟨q, _ | _⟩
  · rw [hd] at hb; cases (Prod.mk.inj hb).1
  · rw [hd] at hb
    rw [if_pos rfl] at hb
    have he : q = r := (Prod.mk.inj hb).2
    rw [he]
theorem encR_few {r : Rcd} (h : recFaultM r = 0) : 1 ≤ (encR r).length ∧ (encR r).length ≤ 9 := by
  unfold encR encT
  split
  · rw [List.length_cons, encSb_len]; omega
  split
  · rw [List.length_cons, List.length_cons, encSb_len]; omega
  split <;> simp [pack2_is]

/-! ### A record put to a state -/
theorem step_no (s : Sta) (r : Rcd) (h : (stepR s r).1 ≠ 0) : (stepR s r).2 = s := by
  unfold stepR at h ⊢
  by_cases k1 : r.1 = 1
  · rw [if_pos k1] at h ⊢
    by_cases hc : (insertM s.1 r.2.2.1).1 = 0
    · rw [if_pos hc] at h; exact absurd rfl h
    · rw [if_neg hc]
  rw [if_neg k1] at h ⊢
  by_cases k2 : r.1 = 2
  · rw [if_pos k2] at h ⊢
    by_cases hc : (addM s.2.1 r.2.1 r.2.2.1).1 = 0
    · rw [if_pos hc] at h; exact absurd rfl h
    · rw [if_neg hc]
  rw [if_neg k2] at h ⊢
  by_cases k3 : r.1 = 3
  · rw [if_pos k3] at h ⊢
    by_cases hc : (doneM s.2.1 r.2.1 r.2.2.2).1 = 0
    · rw [if_pos hc] at h; exact absurd rfl h
    · rw [if_neg hc]
  rw [if_neg k3] at h ⊢
  by_cases k4 : r.2.2.2 < s.2.2
  · rw [if_pos k4]
  · rw [if_neg k4] at h; exact absurd rfl h
/-! ### What a disk says -/
def recF : Sta → List Rcd → Nat → List (List UInt8) → Sta × List Rcd × Nat
  | s, rs, n, [] => (s, rs, n)
  | s, rs, n, b :: bs => if (decR b).2 = true ∧ (stepR s (decR b).1).1 = 0 then recF (stepR s (decR b).1).2 (rs ++ [(decR b).1]) (n + b.length + 3) bs else (s, rs, n)
theorem recF_yes {s : Sta} {rs : List Rcd} {n : Nat} {b : List UInt8} {bs : List (List UInt8)} (h1 : (decR b).2 = true) (h2 : (stepR s (decR b).1).1 = 0) :
    recF s rs n (b :: bs) = recF (stepR s (decR b).1).2 (rs ++ [(decR b).1]) (n + b.length + 3) bs := by
  rw [recF, if_pos ⟨h1, h2⟩]
theorem recF_no {s : Sta} {rs : List Rcd} {n : Nat} {b : List UInt8} {bs : List (List UInt8)} (h : ¬ ((decR b).2 = true ∧ (stepR s (decR b).1).1 = 0)) : recF s rs n (b :: bs) = (s, rs, n) := by
  rw [recF, if_neg h]
/-- What RecoverDisk answers: the code, the state, the records, the size. -/
def recoverM (d : List UInt8) : Int × Sta × List Rcd × Nat :=
  if d.length ≤ 20000 then (0, recF zeroSta [] 0 (framesM d).2.1) else (2, zeroSta, [], 0)
/-- The program's way of one body. -/
theorem say_yes {s : Sta} {b : List UInt8} (hs : stateFaultM s = 0) (h1 : (decodeRecM b).1 = 0) (h2 : (applyM s (decodeRecM b).2).1 = 0) :
    (decR b).2 = true ∧ (stepR s (decR b).1).1 = 0 ∧ (decodeRecM b).2 = (decR b).1 ∧ (applyM s (decodeRecM b).2).2 = (stepR s (decR b).1).2 ∧ stateFaultM (stepR s (decR b).1).2 = 0 := by
  unfold decodeRecM at h1 h2 ⊢
  by_cases hd : (decR b).2 = true
  · rw [if_pos hd] at h2 ⊢
    have hr := decR_right hd
    have hc : (stepR s (decR b).1).1 = 0 := by rw [← apply_code hs hr]; exact h2
    refine ⟨hd, hc, rfl, ?_, step_right hs hr hc⟩
    show (applyM s (decR b).1).2 = _
    rw [apply_right hs hr, if_pos hc]
  · rw [if_neg hd] at h1; cases h1
theorem say_no {s : Sta} {b : List UInt8} (hs : stateFaultM s = 0) (h : (decodeRecM b).1 ≠ 0 ∨ (applyM s (decodeRecM b).2).1 ≠ 0) : ¬ ((decR b).2 = true ∧ (stepR s (decR b).1).1 = 0) := by
  rintro ⟨hd, hc⟩
  have hdd : decodeRecM b = (0, (decR b).1) := by unfold decodeRecM; rw [if_pos hd]
  rw [hdd] at h
  rcases h with h | h
  · exact h rfl
  · exact h (by show (applyM s (decR b).1).1 = 0; rw [apply_code hs (decR_right hd)]; exact hc)
/-- The records, put to a state one after another, lead to another one. -/
def Plays : Sta → List Rcd → Sta → Prop
  | s, [], t => s = t
  | s, r :: rs, t => recFaultM r = 0 ∧ (stepR s r).1 = 0 ∧ Plays (stepR s r).2 rs t
theorem plays_right : ∀ (rs : List Rcd) {s t : Sta}, Plays s rs t → stateFaultM s = 0 → stateFaultM t = 0
  | [], s, t, h, hs => by rw [← (show s = t from h)]; exact hs
  | r :: rs, s, t, h, hs => plays_right rs h.2.2 (step_right hs h.1 h.2.1)
theorem plays_apply {s t : Sta} {r : Rcd} {rs : List Rcd} (h : Plays s (r :: rs) t) (hs : stateFaultM s = 0) : applyM s r = (0, (stepR s r).2) ∧ stateFaultM (stepR s r).2 = 0 ∧ Plays (stepR s r).2 rs t := by
  refine ⟨?_, step_right hs h.1 h.2.1, h.2.2⟩
  rw [apply_right hs h.1, if_pos h.2.1]
/-- A disk's bodies, cut where the first one stands that says nothing. -/
theorem recF_cut : ∀ (bs : List (List UInt8)) (s : Sta) (rs : List Rcd) (n : Nat), ∃ (k : Nat) (t : Sta) (qs : List Rcd), k ≤ bs.length ∧ qs.length = k ∧ recF s rs n bs = (t, rs ++ qs, n + ((bs.take k).flatMap frameL).length) ∧ Plays s qs t
      ∧ ∀ more, recF s rs n (bs.take k ++ more) = recF t (rs ++ qs) (n + ((bs.take k).flatMap frameL).length) more
  | [], s, rs, n => ⟨0, s, [], Nat.le_refl _, rfl, by simp [recF], rfl, fun more => by simp⟩
  | b :: bs, s, rs, n => by
    by_cases h : (decR b).2 = true ∧ (stepR s (decR b).1).1 = 0
    · obtain ⟨k, t, qs, h1, h2, h3, h4, h5⟩ := recF_cut bs (stepR s (decR b).1).2 (rs ++ [(decR b).1]) (n + b.length + 3)
      have hl : n + b.length + 3 + ((bs.take k).flatMap frameL).length = n + (((b :: bs).take (k + 1)).flatMap frameL).length := by
        rw [List.take_succ_cons, List.flatMap_cons, List.length_append, frameL_len]; omega
      have ha : rs ++ [(decR b).1] ++ qs = rs ++ (decR b).1 :: qs := by simp
      refine ⟨k + 1, t, (decR b).1 :: qs, by simp; omega, by simp [h2], ?_, ⟨decR_right h.1, h.2, h4⟩, fun more => ?_⟩
      · rw [recF_yes h.1 h.2, h3, ha, hl]
      · rw [List.take_succ_cons, List.cons_append, recF_yes h.1 h.2, h5 more, ha, ← List.take_succ_cons, hl]
    · exact ⟨0, s, [], Nat.zero_le _, rfl, by rw [recF_no h]; simp, rfl, fun more => by simp⟩

/-! ### Frames one behind another -/
theorem firstM_append {b : List UInt8} (h1 : 1 ≤ b.length) (h2 : b.length ≤ 40) (rest : List UInt8) : firstM (frameL b ++ rest) = some b := by
  have hn : (UInt8.ofNat b.length).toNat = b.length := by rw [UInt8.toNat_ofNat']; omega
  have hF : frameL b ++ rest = UInt8.ofNat b.length :: (b ++ (sumL (frontL b) ++ rest)) := by simp [frameL, frontL]
  have ht : (b ++ (sumL (frontL b) ++ rest)).take b.length = b := by simp
  have := firstM_yes (b := UInt8.ofNat b.length) (r := b ++ (sumL (frontL b) ++ rest)) (by
    rw [hn, ht]
    refine ⟨h1, h2, by simp [sumL], ?_⟩
    rw [← hF, ← frameL_len b]
    exact List.take_left)
  rw [hn, ht] at this
  rw [hF]
  exact this
theorem pos_frames (rest : List UInt8) : ∀ (l : List (List UInt8)), (∀ b ∈ l, 1 ≤ b.length ∧ b.length ≤ 40) → ∀ j, j ≤ l.length → posF (l.flatMap frameL ++ rest) j = ((l.take j).flatMap frameL).length ∧ bodF (l.flatMap frameL ++ rest) j = l.take j := by
  intro l hl j
  induction j with
  | zero => intro _; simp [posF, bodF]
  | succ j ih =>
    intro hj
    obtain ⟨i1, i2⟩ := ih (by omega)
    have hd : (l.flatMap frameL ++ rest).drop (posF (l.flatMap frameL ++ rest) j) = frameL l[j] ++ ((l.drop (j + 1)).flatMap frameL ++ rest) := by
      rw [i1]
      conv => lhs; rw [← List.take_append_drop j l]
      rw [List.flatMap_append, List.append_assoc, List.take_left' (by simp; omega), List.drop_left, List.drop_eq_getElem_cons (by omega), List.flatMap_cons, List.append_assoc]
    have hb := hl l[j] (List.getElem_mem _)
    have hf : firstM ((l.flatMap frameL ++ rest).drop (posF (l.flatMap frameL ++ rest) j)) = some l[j] := by rw [hd]; exact firstM_append hb.1 hb.2 _
    constructor
    · rw [posF, frontM_yes hf, i1, List.take_succ_eq_append_getElem (by omega), List.flatMap_append, List.length_append]
      simp [frameL_len]
    · rw [bodF, hf, i2, List.take_succ_eq_append_getElem (by omega)]; rfl
/-- Frames, and behind them what is none. -/
theorem frames_many {l : List (List UInt8)} {rest : List UInt8} (hl : ∀ b ∈ l, 1 ≤ b.length ∧ b.length ≤ 40) (hr : firstM rest = none) (hm : (l.flatMap frameL ++ rest).length ≤ 20000) :
    framesM (l.flatMap frameL ++ rest) = (0, l, (((l.flatMap frameL).length : Nat) : Int)) := by
  have hp := pos_frames rest l hl
  have hE : EndF (l.flatMap frameL ++ rest) l.length := by
    refine ⟨?_, fun i hi => ?_⟩
    · rw [(hp l.length (Nat.le_refl _)).1, List.take_length, List.drop_left]; exact hr
    · have hs := (hp (i + 1) (by omega)).1
      intro hno
      rw [posF, frontM_no hno, (hp i (by omega)).1, List.take_succ_eq_append_getElem (by omega), List.flatMap_append, List.length_append] at hs
      simp [frameL_len] at hs
  rw [framesM_ok hm hE, (hp _ (Nat.le_refl _)).1, (hp _ (Nat.le_refl _)).2, List.take_length]
/-- A torn frame is none. -/
theorem first_torn {b : List UInt8} (h2 : b.length ≤ 40) {k : Nat} (hk : k < b.length + 3) : firstM ((frameL b).take k) = none := by
  rcases k with _ | k
  · rfl
  have hn : (UInt8.ofNat b.length).toNat = b.length := by rw [UInt8.toNat_ofNat']; omega
  have hF : (frameL b).take (k + 1) = UInt8.ofNat b.length :: (b ++ sumL (frontL b)).take k := by simp [frameL, frontL]
  rw [hF]
  refine firstM_no fun hc => ?_
  have := hc.2.2.1
  rw [hn, List.length_take] at this
  omega

/-! ### What the law of disks says -/
theorem recover_said {d : List UInt8} (hd : d.length ≤ 20000) : ∃ (l : List (List UInt8)) (t : Sta) (qs : List Rcd), recoverM d = (0, t, qs, (l.flatMap frameL).length) ∧ l.flatMap frameL = d.take (l.flatMap frameL).length ∧ (l.flatMap frameL).length ≤ d.length
    ∧ (∀ b ∈ l, 1 ≤ b.length ∧ b.length ≤ 40) ∧ qs.length = l.length ∧ Plays zeroSta qs t ∧ stateFaultM t = 0 ∧ ∀ more, recF zeroSta [] 0 (l ++ more) = recF t qs (l.flatMap frameL).length more := by
  obtain ⟨p, hp, hpl, hfl, hbs⟩ := frames_back hd
  obtain ⟨k, t, qs, h1, h2, h3, h4, h5⟩ := recF_cut (framesM d).2.1 zeroSta [] 0
  simp only [List.nil_append, Nat.zero_add] at h3 h5
  have hcat : ((framesM d).2.1.take k).flatMap frameL ++ ((framesM d).2.1.drop k).flatMap frameL = d.take p := by rw [← List.flatMap_append, List.take_append_drop]; exact hfl
  have hle : (((framesM d).2.1.take k).flatMap frameL).length ≤ p := by
    have := congrArg List.length hcat
    rw [List.length_append, List.length_take] at this
    omega
  refine ⟨(framesM d).2.1.take k, t, qs, ?_, ?_, by omega, fun b hb => hbs b (List.mem_of_mem_take hb), by rw [List.length_take]; omega, h4, plays_right qs h4 zero_state, h5⟩
  · unfold recoverM; rw [if_pos hd, h3]
  · have := congrArg (List.take (((framesM d).2.1.take k).flatMap frameL).length) hcat
    rw [List.take_left, List.take_take, Nat.min_eq_left hle] at this
    exact this
/-- A frame of the life behind what is said: one record more; the frame torn: what was said. -/
theorem recover_more {d : List UInt8} (hd : d.length ≤ 20000) : ∃ (n : Nat) (t : Sta) (qs : List Rcd), recoverM d = (0, t, qs, n) ∧ n ≤ d.length ∧ Plays zeroSta qs t ∧ stateFaultM t = 0
    ∧ (n + (frameL (encR (4, 0, (0, 0, 0, 0), t.2.2))).length ≤ 20000 → (recoverM (d.take n ++ frameL (encR (4, 0, (0, 0, 0, 0), t.2.2)))).2.2.1.length = qs.length + 1
      ∧ ∀ k, k < (frameL (encR (4, 0, (0, 0, 0, 0), t.2.2))).length → (recoverM (d.take n ++ (frameL (encR (4, 0, (0, 0, 0, 0), t.2.2))).take k)).2.2.2 = n) := by
  obtain ⟨l, t, qs, h1, h2, h3, h4, h5, h6, h7, h8⟩ := recover_said hd
  refine ⟨_, t, qs, h1, h3, h6, h7, fun hm => ?_⟩
  have hlife : recFaultM (4, 0, (0, 0, 0, 0), t.2.2) = 0 := by rw [rec4, if_pos ((stateFault_iff t).1 h7).2.2]
  obtain ⟨e1, e2⟩ := encR_few hlife
  rw [← h2]
  constructor
  · have hf := frames_many (l := l ++ [encR (4, 0, (0, 0, 0, 0), t.2.2)]) (rest := []) (fun b hb => by
      rcases List.mem_append.1 hb with hb | hb
      · exact h4 b hb
      · rw [List.mem_singleton.1 hb]; exact ⟨e1, by omega⟩) rfl (by simpa using hm)
    rw [List.flatMap_append, List.append_nil] at hf
    simp only [List.flatMap_cons, List.flatMap_nil, List.append_nil] at hf
    unfold recoverM
    rw [if_pos (by rw [List.length_append]; exact hm), hf]
    show (recF zeroSta [] 0 (l ++ [encR (4, 0, (0, 0, 0, 0), t.2.2)])).2.1.length = _
    rw [h8, recF_yes (by rw [decR_enc hlife]) (by rw [decR_enc hlife]; unfold stepR; simp), recF]
    simp
  · intro k hk
    rw [frameL_len] at hk
    have hf := frames_many (l := l) (rest := (frameL (encR (4, 0, (0, 0, 0, 0), t.2.2))).take k) h4 (first_torn (by omega) hk) (by
      rw [List.length_append, List.length_take]; omega)
    unfold recoverM
    rw [if_pos (by rw [List.length_append, List.length_take]; omega), hf]
    show (recF zeroSta [] 0 l).2.2 = _
    have := h8 []
    rw [List.append_nil, recF] at this
    rw [this]
end Go.Proofs.YtmaillakhhdkfaaGreatDoor
/-
  A disk that is drawn: frames of records, and something behind them, or less of them, or one byte turned.
-/
namespace Go.Proofs.YtmaillakhhdkfaaGreatDoor
set_option maxRecDepth 20000
open Go.RowKit

/-- What the rounds have laid. -/
def DiskRelR (A : Option Addr) (m c : Nat) (l : List UInt8) (q : Nat) (w : World) (vd vn : Value) (wr : World) : Prop :=
  ∃ (j : Nat) (A' : Option Addr) (L c' : Nat) (xs : List UInt8) (kk : Nat), j ≤ q ∧ vd = .slice A' L c' ∧ vn = .int .i64 ((q : Int) - (j : Int)) ∧ Ow eB wr (w.heap.size + 1) A' L c' xs ∧ L ≤ 12 * j ∧ Src wr w.heap.size w.heap.size A m c kk l ∧ kk ≤ 1 + 8 * j ∧ Below w.heap.size w wr

set_option maxHeartbeats 4000000 in
theorem drawRecoverDisk (A : Option Addr) (m c : Nat) (l : List UInt8) (w : World) (ha : Rd eB w w.heap.size A l) (hn : l.length = m) (hm : m ≤ 1048576) :
    Calls Tryz.prog 23 #[.slice A m c] w (RetRd w) := by
  have Hm := Lib.hid hm
  clear hm
  go_enter Tryz.func23, Tryz.ntmps23
  go_wp2_with fail
  refine (l1Source A m c l w ha hn Hm.out).mono ?_
  rintro e w1 ⟨rfl, s1, hb1, -⟩
  have g1 := s1.at_.lt
  have hB1 := hb1
  go_wp2_with fail
  refine (l1Next (w1.alloc (.cells #[] 5)) _ _ A m c 0 l 12 (s1.alloc _) (by omega) (by omega)).mono ?_
  rintro e w2 ⟨r2, rfl, hr2, hz2, s2, hw2, -⟩
  have g2 := s2.at_.lt
  have hB2 := hw2.below (hB1.alloc hB1.size _) (hB1.alloc hB1.size _).size (Nat.le_refl _)
  obtain ⟨q2, rfl⟩ := Int.eq_ofNat_of_zero_le (hr2 (by omega)).1
  have hq2 : q2 ≤ 11 := by have := (hr2 (by omega)).2; omega
  clear hr2 hz2
  have ow0 : Ow eB (w1.alloc (.cells #[] 5)) (w.heap.size + 1) (some ⟨w1.heap.size, 0, none⟩) 0 0 [] := Ow.lit w1 [] #[] 0 g1 (by unfold maxLen; omega) rfl rfl
  have ow2 := ow0.past hw2 (Nat.le_refl _)
  clear ow0 hw2
  go_wp2
  go_loopw [4, 5, 6] (fun vd vn _ wr => DiskRelR A m c l q2 w vd vn wr) (fun _ vn _ _ => (intOf vn).toNat)
  case atStart => exact ⟨0, _, 0, 0, [], 1, Nat.zero_le _, rfl, by simp, ow2, by omega, s2, by omega, hB2⟩
  case round =>
    clear ow2 s2 g2 hB2 hb1 hB1 s1 g1
    obtain ⟨j, A', L, c', xs, kk, hj, rfl, rfl, how, hL, hsrc, hkk, hbel⟩ := hrel
    have s2 := hsrc
    have g2 := s2.at_.lt
    have hB2 := hbel
    have ow0_2 := how
    have hcap := how.cap
    have hlen0 := how.len okB
    by_cases hlt : j < q2
    · go_wp2_with fail
      refine (l5Draw wr _ _ A m c kk l s2 (by omega)).mono ?_
      rintro e w3 ⟨a0, a1, a2, a3, a4, a5, a6, rfl, hf, ⟨k3, hk3, s3⟩, hw3⟩
      have g3 := s3.at_.lt
      have hB3 := hw3.below hB2 hB2.size (Nat.le_refl _)
      have ow0_3 := ow0_2.past hw3 (by omega)
      have x3 := At.new w3 27 #[.int .i64 a0, .int .i64 a1, .int .i64 a2, .int .i64 a3, .int .i64 a4, .int .i64 a5, .int .i64 a6]
      have s3' := s3.alloc (.cells #[.int .i64 a0, .int .i64 a1, .int .i64 a2, .int .i64 a3, .int .i64 a4, .int .i64 a5, .int .i64 a6] 27)
      have g3' := s3'.at_.lt
      have ow0_3' := ow0_3.alloc (.cells #[.int .i64 a0, .int .i64 a1, .int .i64 a2, .int .i64 a3, .int .i64 a4, .int .i64 a5, .int .i64 a6] 27)
      have hB3' := hB3.alloc hB3.size (.cells #[.int .i64 a0, .int .i64 a1, .int .i64 a2, .int .i64 a3, .int .i64 a4, .int .i64 a5, .int .i64 a6] 27)
      go_wp2_with fail
      refine (l5Encode w3.heap.size a0 a1 a2 a3 a4 a5 a6 _ x3 hf).mono ?_
      rintro e w4 ⟨A4, n4, c4, rfl, ow4, hb4⟩
      have hl4 := ow4.len okB
      have hfew := encR_few hf
      rw [hl4] at hfew
      generalize encR (a0, a1, (a2, a3, a4, a5), a6) = xs4 at *
      have s4 := s3'.below hb4 g3'
      have g4 := s4.at_.lt
      have ow0_4 := ow0_3'.below hb4 (Nat.le_refl _)
      have hB4 := hB3'.trans (hb4.mono hB3'.size)
      go_wp2_with fail
      refine (l1Frame A4 n4 c4 xs4 w4 (ow4.rd okB) hl4 (by omega)).mono ?_
      rintro e w5 ⟨A5, c5, rfl, ow5, hb5⟩
      have s5 := s4.below hb5 g4
      have g5 := s5.at_.lt
      have ow0_5 := ow0_4.below hb5 (Nat.le_refl _)
      have hB5 := hB4.trans (hb5.mono hB4.size)
      go_wp2_with (at_builtin; refine wpList_append_ow okB _ rfl (.tmp 18) (.tmp 20) _ rfl (w.heap.size + 1) info_u8 Tryz.underlying22 rfl A' L c' xs rfl ow0_5 A5 (n4 + 3) c5 _ (frameL xs4) rfl (ow5.rd okB) (ow5.len okB) (by unfold maxLen; omega) (by omega) g5 ?_; intro A6 c6 w6 ow6 hg6 _)
      have hr6 : ∀ x, A'.map (·.block) = some x → w.heap.size + 1 ≤ x := fun x hx => (how.lt x hx).1
      exact ⟨⟨j + 1, A6, L + (n4 + 3), c6, _, k3, by omega, rfl, by go_num, ow6, by omega, s5.grown hg6 (fun x hx => hr6 x hx), by omega, hB5.grown hg6 hB5.size (fun x hx => Nat.le_of_succ_le (hr6 x hx))⟩, by simp [intOf]; omega⟩
    · go_wp2_with fail
      refine (l1Next wr _ _ A m c kk l 8 s2 (by omega) (by omega)).mono ?_
      rintro e w3 ⟨r3, rfl, hr3, hz3, s3, hw3, -⟩
      have g3 := s3.at_.lt
      have hB3 := hw3.below hB2 hB2.size (Nat.le_refl _)
      have ow0_3 := ow0_2.past hw3 (by omega)
      obtain ⟨hr0, hr5⟩ := hr3 (by omega)
      have hkk2 : kk ≤ 300 := by omega
      have hL2 : L ≤ 172 := by omega
      clear hr3 hz3 hkk hr5 hj hL hlt
      rcases (show r3 = 0 ∨ r3 = 1 ∨ r3 = 2 ∨ r3 = 3 ∨ 3 < r3 by omega) with rfl | rfl | rfl | rfl | hbig
      · go_wp2_with fail
        refine (l1Next w3 _ _ A m c (kk + 1) l ((L : Int) + 1) s3 (by omega) (by omega)).mono ?_
        rintro e w4 ⟨r4, rfl, hr4, hz4, s4, hw4, -⟩
        have g4 := s4.at_.lt
        have hB4 := hw4.below hB3 hB3.size (Nat.le_refl _)
        have ow0_4 := ow0_3.past hw4 (by omega)
        obtain ⟨q4, rfl⟩ := Int.eq_ofNat_of_zero_le (hr4 (by omega)).1
        have hq4 : q4 ≤ L := by have := (hr4 (by omega)).2; omega
        have hq4c : q4 ≤ c' := by omega
        clear hr4 hz4
        go_wp2
        go_ret
        exact ⟨A', q4, c', xs.take q4, rfl, by rw [List.length_take]; omega, hq4c, how.capMax, by omega, (ow0_4.rd okB).take q4, hB4⟩
      · have o9 := ow_one w3 9 9 rfl
        have s3' := s3.alloc (.cells #[.int .u8 9] 5)
        have hB3' := hB3.alloc hB3.size (.cells #[.int .u8 9] 5)
        have ow0_3' := ow0_3.alloc (.cells #[.int .u8 9] 5)
        go_wp2_with fail
        refine (l1Frame (some ⟨w3.heap.size, 0, none⟩) 1 1 [9] (w3.alloc (.cells #[.int .u8 9] 5)) (o9.rd okB) rfl (by omega)).mono ?_
        rintro e w5 ⟨A5, c5, rfl, ow5, hb5⟩
        have s5 := s3'.below hb5 s3'.at_.lt
        have g5 := s5.at_.lt
        have ow0_5 := ow0_3'.below hb5 (Nat.le_refl _)
        have hB5 := hB3'.trans (hb5.mono hB3'.size)
        go_wp2_with (at_builtin; refine wpList_append_ow okB _ rfl (.tmp 35) (.tmp 37) _ rfl (w.heap.size + 1) info_u8 Tryz.underlying22 rfl A' L c' xs rfl ow0_5 A5 4 c5 _ (frameL [9]) rfl (ow5.rd okB) (ow5.len okB) (by unfold maxLen; omega) (by omega) g5 ?_; intro A6 c6 w6 ow6 hg6 _)
        go_ret
        exact retRd_of ow6 (by omega) (hB5.grown hg6 hB5.size (fun x hx => Nat.le_of_succ_le (how.lt x hx).1))
      · by_cases hL0 : L = 0
        · subst hL0
          go_wp2
          go_ret
          exact retRd_of ow0_3 (by omega) hB3
        · have hlen : decide ((0 : Int) < (L : Int)) = true := decide_eq_true (by omega)
          obtain ⟨gd, rfl, hgd, _⟩ := how.form (by omega)
          have sD : Src w3.drew w.heap.size w.heap.size A m c (kk + 1) l := ⟨s3.at_, s3.rd, s3.len, s3.big, s3.low⟩
          have owD : Ow eB w3.drew (w.heap.size + 1) (some ⟨gd, 0, none⟩) L c' xs := ow0_3
          have hBD := hB3.drew
          go_wp2
          refine wp_region_fork [(0, false), (1, false), (2, false), (3, false), (7, false), (4, true), (5, false)] [(8, true), (9, false), (10, false), (11, false), (12, false), (13, true)] [(9, false), (10, false), (6, true), (11, false), (12, false), (13, true)] 6 8 (by kernel_rfl) (by kernel_rfl) (fun _ _ _ _ _ h => h) ?_
          simp only [mixOps, List.map_cons, List.map_nil, List.getElem?_cons_succ, List.getElem?_cons_zero, Option.getD_some]
          repeat (first
            | (refine fork_skip (by rfl) ?_
               (try simp only [Act.put, List.setIfInBounds_toArray, List.set_cons_zero, List.set_cons_succ]))
            | (refine fork_pure (v := ?_) (by rfl) (fun u => ?_) ?_
               rotate_left
               · go_simp
                 (with_reducible rfl)
               (try simp only [Act.put, List.setIfInBounds_toArray, List.set_cons_zero, List.set_cons_succ])))
          refine fork_call (by rfl) (fun K hK => ?_)
          go_simp
          refine (l1Next _ _ _ A m c (kk + 1) l L sD (by omega) (by omega)).mono ?_
          rintro e w4 ⟨r4, rfl, hr4, -, s4, hw4, -⟩
          obtain ⟨i, rfl⟩ := Int.eq_ofNat_of_zero_le (hr4 (by omega)).1
          have hi : i < L := by have := (hr4 (by omega)).2; omega
          have hiI : (i : Int) < (L : Int) := by omega
          clear hr4
          have ow4 := owD.past hw4 (Nat.le_refl _)
          have hB4 := hw4.below hBD hBD.size (Nat.le_refl _)
          obtain ⟨x, hx⟩ : ∃ x, xs[i]? = some x := ⟨_, List.getElem?_eq_getElem (by omega)⟩
          have ca := ow4.byteAt hx
          refine hK _ _ ?_
          clear hK K
          (try simp only [Act.put, List.setIfInBounds_toArray, List.set_cons_zero, List.set_cons_succ])
          repeat (first
            | (refine fork_skip (by rfl) ?_
               (try simp only [Act.put, List.setIfInBounds_toArray, List.set_cons_zero, List.set_cons_succ]))
            | (refine fork_pure (v := ?_) (by rfl) (fun u => ?_) ?_
               rotate_left
               · go_simp
                 (with_reducible rfl)
               (try simp only [Act.put, List.setIfInBounds_toArray, List.set_cons_zero, List.set_cons_succ])))
          refine fork_nil ⟨?_, ?_⟩
          · refine fork_call (by rfl) (fun K hK => ?_)
            go_simp
            refine hK _ _ ?_
            clear hK K
            (try simp only [Act.put, List.setIfInBounds_toArray, List.set_cons_zero, List.set_cons_succ])
            refine fork_call (by rfl) (fun K hK => ?_)
            go_simp
            refine (l1Next w4 _ _ A m c (kk + 1 + 1) l 255 s4 (by omega) (by omega)).mono ?_
            rintro e w5 ⟨r5, rfl, hr5, -, s5, hw5, -⟩
            obtain ⟨q5, rfl⟩ := Int.eq_ofNat_of_zero_le (hr5 (by omega)).1
            have hq5 : q5 < 255 := by have := (hr5 (by omega)).2; omega
            clear hr5
            have ow5 := ow4.past hw5 (Nat.le_refl _)
            have hB5 := hw5.below hB4 hB4.size (Nat.le_refl _)
            have ca5 := ow5.byteAt hx
            have fa5 := ow5.frozenAt i
            have e1 : IntKind.i64.wrap (1 + (q5 : Int)) = 1 + (q5 : Int) := IntWalk.i64_in _ (by omega)
            have e2 : IntKind.u8.wrap (1 + (q5 : Int)) = 1 + (q5 : Int) := IntWalk.u8_in _ (by omega)
            have hxor := xor_u8 x (UInt8.ofNat (1 + q5))
            rw [byte_small (n := 1 + q5) (by omega)] at hxor
            push_cast at hxor
            have hset := ow5.byteSet hi (x ^^^ UInt8.ofNat (1 + q5))
            have Hset := Lib.hid hset
            clear hset hx
            refine hK _ _ ?_
            clear hK K
            (try simp only [Act.put, List.setIfInBounds_toArray, List.set_cons_zero, List.set_cons_succ])
            repeat (first
              | (refine fork_skip (by rfl) ?_
                 (try simp only [Act.put, List.setIfInBounds_toArray, List.set_cons_zero, List.set_cons_succ]))
              | (refine fork_pure (v := ?_) (by rfl) (fun u => ?_) ?_
                 rotate_left
                 · go_simp
                   (with_reducible rfl)
                 (try simp only [Act.put, List.setIfInBounds_toArray, List.set_cons_zero, List.set_cons_succ])))
            refine fork_call (by rfl) (fun K hK => ?_)
            go_simp
            refine hK _ _ ?_
            refine fork_nil ?_
            go_wp2
            go_ret
            exact retRd_of Hset.out.1 (by omega) (hB5.grown Hset.out.2 hB5.size (by simp; omega))
          · refine fork_call (by rfl) (fun K hK => ?_)
            go_simp
            refine (l1Next w4 _ _ A m c (kk + 1 + 1) l 255 s4 (by omega) (by omega)).mono ?_
            rintro e w5 ⟨r5, rfl, hr5, -, s5, hw5, -⟩
            obtain ⟨q5, rfl⟩ := Int.eq_ofNat_of_zero_le (hr5 (by omega)).1
            have hq5 : q5 < 255 := by have := (hr5 (by omega)).2; omega
            clear hr5
            have ow5 := ow4.past hw5 (Nat.le_refl _)
            have hB5 := hw5.below hB4 hB4.size (Nat.le_refl _)
            have ca5 := ow5.byteAt hx
            have fa5 := ow5.frozenAt i
            have e1 : IntKind.i64.wrap (1 + (q5 : Int)) = 1 + (q5 : Int) := IntWalk.i64_in _ (by omega)
            have e2 : IntKind.u8.wrap (1 + (q5 : Int)) = 1 + (q5 : Int) := IntWalk.u8_in _ (by omega)
            have hxor := xor_u8 x (UInt8.ofNat (1 + q5))
            rw [byte_small (n := 1 + q5) (by omega)] at hxor
            push_cast at hxor
            have hset := ow5.byteSet hi (x ^^^ UInt8.ofNat (1 + q5))
            have Hset := Lib.hid hset
            clear hset hx
            refine hK _ _ ?_
            clear hK K
            (try simp only [Act.put, List.setIfInBounds_toArray, List.set_cons_zero, List.set_cons_succ])
            repeat (first
              | (refine fork_skip (by rfl) ?_
                 (try simp only [Act.put, List.setIfInBounds_toArray, List.set_cons_zero, List.set_cons_succ]))
              | (refine fork_pure (v := ?_) (by rfl) (fun u => ?_) ?_
                 rotate_left
                 · go_simp
                   (with_reducible rfl)
                 (try simp only [Act.put, List.setIfInBounds_toArray, List.set_cons_zero, List.set_cons_succ])))
            refine fork_call (by rfl) (fun K hK => ?_)
            go_simp
            refine hK _ _ ?_
            clear hK K
            (try simp only [Act.put, List.setIfInBounds_toArray, List.set_cons_zero, List.set_cons_succ])
            repeat (first
              | (refine fork_skip (by rfl) ?_
                 (try simp only [Act.put, List.setIfInBounds_toArray, List.set_cons_zero, List.set_cons_succ]))
              | (refine fork_pure (v := ?_) (by rfl) (fun u => ?_) ?_
                 rotate_left
                 · go_simp
                   (with_reducible rfl)
                 (try simp only [Act.put, List.setIfInBounds_toArray, List.set_cons_zero, List.set_cons_succ])))
            refine fork_call (by rfl) (fun K hK => ?_)
            go_simp
            refine hK _ _ ?_
            refine fork_nil ?_
            go_wp2
            go_ret
            exact retRd_of Hset.out.1 (by omega) (hB5.grown Hset.out.2 hB5.size (by simp; omega))
      · go_wp2_with fail
        refine (l1Chance w3 _ _ A m c (kk + 1) l 12 s3 (by omega) (by omega)).mono ?_
        rintro e w4 ⟨b4, rfl, s4, hw4, -⟩
        have g4 := s4.at_.lt
        have hB4 := hw4.below hB3 hB3.size (Nat.le_refl _)
        have ow0_4 := ow0_3.past hw4 (by omega)
        cases b4
        · go_wp2
          go_ret
          exact retRd_of ow0_4 (by omega) hB4
        · go_wp2_with fail
          refine (l1Pick (w4.alloc (.cells #[.int .i64 20000, .int .i64 20001] 2)) _ _ A m c (kk + 1 + 1) l w4.heap.size #[.int .i64 20000, .int .i64 20001] [20000, 20001] 2 2 (s4.alloc _) (by omega) (At.new _ _ _) (by simp [intCells]) (by omega) rfl (by omega) (by omega)).mono ?_
          rintro e w5 ⟨v5, hv5, rfl, s5, hw5, -⟩
          have g5 := s5.at_.lt
          have hB5 := hw5.below (hB4.alloc hB4.size _) (hB4.alloc hB4.size _).size (Nat.le_refl _)
          have ow0_5 := (ow0_4.alloc _).past hw5 (by omega)
          obtain ⟨q5, rfl, hq5⟩ := pick_nat 20001 hv5 rfl
          clear hv5
          have hq' : (q5 : Int) ≤ 20001 := by omega
          clear hq5
          go_wp2_with (refine wpList_make_ow okB _ rfl _ _ _ rfl w.heap.size info_u8 Tryz.underlying22 0 rfl .i64 .i64 _ _ q5 rfl rfl rfl rfl (by omega) (by unfold maxLen; omega) hB5.size ?_; intro w9 how9 hg)
          go_ret
          exact retRd_of how9 (by omega) (hB5.grown hg hB5.size (by simp))
      · have e0 : (r3 == 0) = false := by rw [beq_eq_false_iff_ne]; omega
        have e1 : (r3 == 1) = false := by rw [beq_eq_false_iff_ne]; omega
        have e2 : (r3 == 2) = false := by rw [beq_eq_false_iff_ne]; omega
        have e3 : (r3 == 3) = false := by rw [beq_eq_false_iff_ne]; omega
        go_wp2
        go_ret
        exact retRd_of ow0_3 (by omega) hB3
end Go.Proofs.YtmaillakhhdkfaaGreatDoor
/-
  A record out of its bytes: the model's.
-/
namespace Go.Proofs.YtmaillakhhdkfaaGreatDoor
set_option maxRecDepth 20000
open Go.RowKit
set_option linter.unusedSimpArgs false
set_option linter.unusedVariables false
attribute [local irreducible] mixW

/-- A code and a record. -/
def RetRR (r : Int × Rcd) (w : World) (e : Ending) (w' : World) : Prop := e = .returned (.agg #[.int .i64 r.1, .int .i64 r.2.1, .int .i64 r.2.2.1, .int .i64 r.2.2.2.1.1, .int .i64 r.2.2.2.1.2.1, .int .i64 r.2.2.2.1.2.2.1, .int .i64 r.2.2.2.1.2.2.2, .int .i64 r.2.2.2.2]) ∧ Below w.heap.size w w'
/-- A record. -/
def RetRc (r : Rcd) (w : World) (e : Ending) (w' : World) : Prop := e = .returned (.agg #[.int .i64 r.1, .int .i64 r.2.1, .int .i64 r.2.2.1.1, .int .i64 r.2.2.1.2.1, .int .i64 r.2.2.1.2.2.1, .int .i64 r.2.2.1.2.2.2, .int .i64 r.2.2.2]) ∧ Below w.heap.size w w'
/-- A record, and whether it is right. -/
def RetDR (r : Rcd × Bool) (w : World) (e : Ending) (w' : World) : Prop := e = .returned (.tuple #[.agg #[.int .i64 r.1.1, .int .i64 r.1.2.1, .int .i64 r.1.2.2.1.1, .int .i64 r.1.2.2.1.2.1, .int .i64 r.1.2.2.1.2.2.1, .int .i64 r.1.2.2.1.2.2.2, .int .i64 r.1.2.2.2], .bool r.2]) ∧ Below w.heap.size w w'
theorem undrewD {w w' : World} {k : Nat} (h : Below (w.drewN k).heap.size (w.drewN k) w') : Below w.heap.size w w' := ⟨h.os, h.tape, h.output, h.size, h.block⟩

set_option maxHeartbeats 8000000 in
theorem l5Decode (A : Option Addr) (n c : Nat) (l : List UInt8) (w : World) (ha : Rd eB w w.heap.size A l) (hn : l.length = n) (hc : n ≤ c) (hcm : c ≤ maxLen) :
    Calls Tryz.prog 54 #[.slice A n c] w (RetDR (decR l) w) := by
  unfold maxLen at hcm
  by_cases h0 : n = 0
  · subst h0
    obtain rfl : l = [] := List.eq_nil_of_length_eq_zero hn
    have Hd := Lib.hid (show decR [] = (zeroR, false) from decR_o (by rw [read0_nil]; decide) (by rw [read0_nil]; decide) (by rw [read0_nil]; decide) (by rw [read0_nil]; decide))
    have hB2 : Below w.heap.size w (w.alloc (.cells #[.int .i64 0, .int .i64 0, .int .i64 0, .int .i64 0, .int .i64 0, .int .i64 0, .int .i64 0] 27)) := (Below.refl _ _).alloc (Nat.le_refl _) _
    clear ha hn
    go_enter Tryz.func54, Tryz.ntmps54
    go_wp2
    refine bodyPost_ret (v := .tuple #[.agg #[.int .i64 0, .int .i64 0, .int .i64 0, .int .i64 0, .int .i64 0, .int .i64 0, .int .i64 0], .bool false]) (by simp [results, Tryz.results54, go_sem]) rfl ?_
    rw [Hd.out]
    exact ⟨rfl, by repeat (first | exact hB2 | refine Below.setCell ?_ (by simp) _)⟩
  obtain ⟨g, o, x, rfl, hg, hx, cx⟩ := ha.byte (k := 0) (by omega)
  have cx0 : w.cell? ⟨g, o, none⟩ = some (.int .u8 (x.toNat : Int)) := by simpa using cx
  have hk0 : (readM l 0 1).2 = (x.toNat : Int) := read1 (p := 0) hx
  have hxb : x.toNat < 256 := x.toNat_lt
  have hw0 : IntKind.i64.wrap (x.toNat : Int) = (x.toNat : Int) := IntWalk.i64_in _ (by omega)
  have hnn : ¬ (n : Int) = 0 := by omega
  have hnb : ((n : Int) == 0) = false := by simpa using hnn
  have hn0 : 0 < n := by omega
  clear cx
  generalize hkk : (x.toNat : Int) = kk at *
  have hB2 : Below w.heap.size w ((w.alloc (.cells #[.int .i64 0, .int .i64 0, .int .i64 0, .int .i64 0, .int .i64 0, .int .i64 0, .int .i64 0] 27)).alloc (.cells #[.int .i64 kk, .int .i64 0, .int .i64 0, .int .i64 0, .int .i64 0, .int .i64 0, .int .i64 0] 27)) := ((Below.refl _ _).alloc (Nat.le_refl _) _).alloc (by simp) _
  have zb2 := (At.new w 27 #[.int .i64 0, .int .i64 0, .int .i64 0, .int .i64 0, .int .i64 0, .int .i64 0, .int .i64 0]).alloc (.cells #[.int .i64 kk, .int .i64 0, .int .i64 0, .int .i64 0, .int .i64 0, .int .i64 0, .int .i64 0] 27)
  have rb2 : At ((w.alloc (.cells #[.int .i64 0, .int .i64 0, .int .i64 0, .int .i64 0, .int .i64 0, .int .i64 0, .int .i64 0] 27)).alloc (.cells #[.int .i64 kk, .int .i64 0, .int .i64 0, .int .i64 0, .int .i64 0, .int .i64 0, .int .i64 0] 27)) (w.heap.size + 1) 27 #[.int .i64 kk, .int .i64 0, .int .i64 0, .int .i64 0, .int .i64 0, .int .i64 0, .int .i64 0] := by
    have := At.new (w.alloc (.cells #[.int .i64 0, .int .i64 0, .int .i64 0, .int .i64 0, .int .i64 0, .int .i64 0, .int .i64 0] 27)) 27 #[.int .i64 kk, .int .i64 0, .int .i64 0, .int .i64 0, .int .i64 0, .int .i64 0, .int .i64 0]
    simpa using this
  have hsz : ((w.alloc (.cells #[.int .i64 0, .int .i64 0, .int .i64 0, .int .i64 0, .int .i64 0, .int .i64 0, .int .i64 0] 27)).alloc (.cells #[.int .i64 kk, .int .i64 0, .int .i64 0, .int .i64 0, .int .i64 0, .int .i64 0, .int .i64 0] 27)).heap.size = w.heap.size + 2 := by simp
  have hR := fun (k : Nat) (hk : k < l.length) W (hW : Below w.heap.size w W) => (show Rd eB W W.heap.size (some ⟨g, o + k, none⟩) (l.drop k) from by
    obtain ⟨g', o', e, hr⟩ := (ha.lift hW).add hk
    obtain ⟨rfl, rfl⟩ : g = g' ∧ o = o' := by simpa using Option.some.inj e
    simpa [eB] using hr)
  by_cases k1 : kk = 1
  · subst k1
    by_cases hl : n = 8
    · subst hl
      have Hd0 := decR_1 hk0 hn
      obtain ⟨u0, u1, u2, u3, hu⟩ : ∃ u0 u1 u2 u3, unpM (l.drop 1) = (u0, u1, u2, u3) := ⟨_, _, _, _, rfl⟩
      rw [hu] at Hd0
      have LD := fun W hW => l2Decode _ (c - 1) (l.drop 1) W (hR 1 (by omega) W hW) (by rw [List.length_drop]; omega)
      rw [hu] at LD
      have hc1 : ¬ c = 1 := by omega
      generalize hfq : recFaultM (1, 0, (u0, u1, u2, u3), 0) = fq at Hd0
      have Hd := Lib.hid Hd0
      clear Hd0 ha hx hR hn hk0 hu
      obtain ⟨zc0, zc1, zc2, zc3, zc4, zc5, zc6⟩ := zb2.seven
      obtain ⟨zf0, zf1, zf2, zf3, zf4, zf5, zf6⟩ := zb2.sevenF
      obtain ⟨rc0, rc1, rc2, rc3, rc4, rc5, rc6⟩ := rb2.seven
      obtain ⟨rf0, rf1, rf2, rf3, rf4, rf5, rf6⟩ := rb2.sevenF
      go_enter Tryz.func54, Tryz.ntmps54
      go_wp2_with fail
      refine (LD _ hB2).mono ?_
      rintro e w3 ⟨rfl, hb3⟩
      have hB3 := hB2.trans (hb3.mono hB2.size)
      have zb3 := zb2.below hb3 zb2.lt
      have rb3 := rb2.below hb3 rb2.lt
      clear zc0 zc1 zc2 zc3 zc4 zc5 zc6 zf0 zf1 zf2 zf3 zf4 zf5 zf6 rc0 rc1 rc2 rc3 rc4 rc5 rc6 rf0 rf1 rf2 rf3 rf4 rf5 rf6
      obtain ⟨zc0, zc1, zc2, zc3, zc4, zc5, zc6⟩ := zb3.seven
      obtain ⟨zf0, zf1, zf2, zf3, zf4, zf5, zf6⟩ := zb3.sevenF
      obtain ⟨rc0, rc1, rc2, rc3, rc4, rc5, rc6⟩ := rb3.seven
      obtain ⟨rf0, rf1, rf2, rf3, rf4, rf5, rf6⟩ := rb3.sevenF
      go_wp2_with fail
      clear zc0 zc1 zc2 zc3 zc4 zc5 zc6 zf0 zf1 zf2 zf3 zf4 zf5 zf6 rc0 rc1 rc2 rc3 rc4 rc5 rc6 rf0 rf1 rf2 rf3 rf4 rf5 rf6
      have rb4 : At ((((w3.setCell ⟨w.heap.size + 1, 2, none⟩ (.int .i64 u0)).setCell ⟨w.heap.size + 1, 3, none⟩ (.int .i64 u1)).setCell ⟨w.heap.size + 1, 4, none⟩ (.int .i64 u2)).setCell ⟨w.heap.size + 1, 5, none⟩ (.int .i64 u3)) (w.heap.size + 1) 27 #[.int .i64 1, .int .i64 0, .int .i64 u0, .int .i64 u1, .int .i64 u2, .int .i64 u3, .int .i64 0] := ((((rb3.set 2 (.int .i64 u0)).set 3 (.int .i64 u1)).set 4 (.int .i64 u2)).set 5 (.int .i64 u3))
      have zb4 : At ((((w3.setCell ⟨w.heap.size + 1, 2, none⟩ (.int .i64 u0)).setCell ⟨w.heap.size + 1, 3, none⟩ (.int .i64 u1)).setCell ⟨w.heap.size + 1, 4, none⟩ (.int .i64 u2)).setCell ⟨w.heap.size + 1, 5, none⟩ (.int .i64 u3)) w.heap.size 27 #[.int .i64 0, .int .i64 0, .int .i64 0, .int .i64 0, .int .i64 0, .int .i64 0, .int .i64 0] := ((((zb3.far (p := ⟨w.heap.size + 1, 2, none⟩) (by simp) (.int .i64 u0)).far (p := ⟨w.heap.size + 1, 3, none⟩) (by simp) (.int .i64 u1)).far (p := ⟨w.heap.size + 1, 4, none⟩) (by simp) (.int .i64 u2)).far (p := ⟨w.heap.size + 1, 5, none⟩) (by simp) (.int .i64 u3))
      have hB4 : Below w.heap.size w ((((w3.setCell ⟨w.heap.size + 1, 2, none⟩ (.int .i64 u0)).setCell ⟨w.heap.size + 1, 3, none⟩ (.int .i64 u1)).setCell ⟨w.heap.size + 1, 4, none⟩ (.int .i64 u2)).setCell ⟨w.heap.size + 1, 5, none⟩ (.int .i64 u3)) := ((((hB3.setCell (p := ⟨w.heap.size + 1, 2, none⟩) (by simp) (.int .i64 u0)).setCell (p := ⟨w.heap.size + 1, 3, none⟩) (by simp) (.int .i64 u1)).setCell (p := ⟨w.heap.size + 1, 4, none⟩) (by simp) (.int .i64 u2)).setCell (p := ⟨w.heap.size + 1, 5, none⟩) (by simp) (.int .i64 u3))
      refine wp_region_mix [(0, false), (1, false), (2, true), (3, false), (4, true), (5, false)] (fun u => At u (w.heap.size + 1) 27 #[.int .i64 1, .int .i64 0, .int .i64 u0, .int .i64 u1, .int .i64 u2, .int .i64 u3, .int .i64 0]) (by kernel_rfl) (by kernel_rfl) (fun _ _ _ _ _ h => h) rb4.drew ?_
      simp only [mixOps, List.map_cons, List.map_nil, List.getElem?_cons_succ, List.getElem?_cons_zero, Option.getD_some]
      repeat (first
        | (refine mix_skip (by rfl) ?_
           (try simp only [Act.put, List.setIfInBounds_toArray, List.set_cons_zero, List.set_cons_succ]))
        | (refine mix_pure (v := ?_) (by rfl) (fun u hu => ?_) ?_
           rotate_left
           · obtain ⟨_, _, _, _, _, _, _⟩ := hu.seven
             go_simp
             (with_reducible rfl)
           (try simp only [Act.put, List.setIfInBounds_toArray, List.set_cons_zero, List.set_cons_succ])))
      refine mix_call (by rfl) (fun K hK => ?_)
      go_simp
      refine (specRecordFault 1 0 u0 u1 u2 u3 0 _).mono ?_
      rintro e w5 ⟨rfl, hb5⟩
      have hb5 := undrewD hb5
      rw [hfq]
      have r5 := rb4.below hb5 rb4.lt
      have z5 := zb4.below hb5 zb4.lt
      have hB5 := hB4.trans (hb5.mono hB4.size)
      refine hK _ _ (fun u => At u (w.heap.size + 1) 27 #[.int .i64 1, .int .i64 0, .int .i64 u0, .int .i64 u1, .int .i64 u2, .int .i64 u3, .int .i64 0]) (fun _ h => h) r5 ?_
      clear hK K
      (try simp only [Act.put, List.setIfInBounds_toArray, List.set_cons_zero, List.set_cons_succ])
      refine mix_pure (v := ?_) (by rfl) (fun u hu => ?_) ?_
      rotate_left
      · go_simp
        (with_reducible rfl)
      (try simp only [Act.put, List.setIfInBounds_toArray, List.set_cons_zero, List.set_cons_succ])
      obtain ⟨p0, p1, p2, p3, p4, p5, p6⟩ := z5.seven
      obtain ⟨s0, s1, s2, s3, s4, s5, s6⟩ := z5.sevenF
      refine mix_call (by rfl) (fun K hK => ?_)
      go_simp
      refine hK _ _ (fun u => At u (w.heap.size + 1) 27 #[.int .i64 1, .int .i64 0, .int .i64 u0, .int .i64 u1, .int .i64 u2, .int .i64 u3, .int .i64 0]) (fun _ h => h) (((((((r5.far (p := ⟨w.heap.size, 0, none⟩) (by simp) _).far (p := ⟨w.heap.size, 1, none⟩) (by simp) _).far (p := ⟨w.heap.size, 2, none⟩) (by simp) _).far (p := ⟨w.heap.size, 3, none⟩) (by simp) _).far (p := ⟨w.heap.size, 4, none⟩) (by simp) _).far (p := ⟨w.heap.size, 5, none⟩) (by simp) _).far (p := ⟨w.heap.size, 6, none⟩) (by simp) _) ?_
      clear hK K
      (try simp only [Act.put, List.setIfInBounds_toArray, List.set_cons_zero, List.set_cons_succ])
      refine mix_pure (v := ?_) (by rfl) (fun u hu => ?_) ?_
      rotate_left
      · go_simp
        (with_reducible rfl)
      (try simp only [Act.put, List.setIfInBounds_toArray, List.set_cons_zero, List.set_cons_succ])
      refine mix_nil ?_
      go_wp2
      refine bodyPost_ret (v := .tuple #[.agg #[.int .i64 1, .int .i64 0, .int .i64 u0, .int .i64 u1, .int .i64 u2, .int .i64 u3, .int .i64 0], .bool (fq == 0)]) (by simp [results, Tryz.results54, go_sem, p0, p1, p2, p3, p4, p5, p6]) rfl ?_
      rw [Hd.out]
      exact ⟨rfl, (((((((hB5.setCell (by simp) _).setCell (by simp) _).setCell (by simp) _).setCell (by simp) _).setCell (by simp) _).setCell (by simp) _).setCell (by simp) _)⟩
    · have Hd := Lib.hid (decR_1n hk0 (by rw [hn]; exact hl))
      have hbl : ((n : Int) == 8) = false := by simp; omega
      clear hk0 hn ha hx hR hl
      obtain ⟨zc0, zc1, zc2, zc3, zc4, zc5, zc6⟩ := zb2.seven
      obtain ⟨zf0, zf1, zf2, zf3, zf4, zf5, zf6⟩ := zb2.sevenF
      obtain ⟨rc0, rc1, rc2, rc3, rc4, rc5, rc6⟩ := rb2.seven
      obtain ⟨rf0, rf1, rf2, rf3, rf4, rf5, rf6⟩ := rb2.sevenF
      go_enter Tryz.func54, Tryz.ntmps54
      go_wp2
      refine bodyPost_ret (v := .tuple #[.agg #[.int .i64 0, .int .i64 0, .int .i64 0, .int .i64 0, .int .i64 0, .int .i64 0, .int .i64 0], .bool false]) (by simp [results, Tryz.results54, go_sem]) rfl ?_
      rw [Hd.out]
      exact ⟨rfl, by repeat (first | exact hB2 | refine Below.setCell ?_ (by simp) _)⟩
  by_cases k2 : kk = 2
  · subst k2
    by_cases hl : n = 9
    · subst hl
      have Hd0 := decR_2 hk0 hn
      obtain ⟨g', o', y, e', _, hy, cy⟩ := ha.byte (k := 1) (by omega)
      obtain ⟨rfl, rfl⟩ : g = g' ∧ o = o' := by simpa using Option.some.inj e'
      clear e'
      have hk1 : (readM l 1 1).2 = (y.toNat : Int) := read1 (p := 1) hy
      rw [hk1] at Hd0
      have hyb : y.toNat < 256 := y.toNat_lt
      have hwy : IntKind.i64.wrap (y.toNat : Int) = (y.toNat : Int) := IntWalk.i64_in _ (by omega)
      obtain ⟨u0, u1, u2, u3, hu⟩ : ∃ u0 u1 u2 u3, unpM (l.drop 2) = (u0, u1, u2, u3) := ⟨_, _, _, _, rfl⟩
      rw [hu] at Hd0
      have LD := fun W hW => l2Decode _ (c - 2) (l.drop 2) W (hR 2 (by omega) W hW) (by rw [List.length_drop]; omega)
      rw [hu] at LD
      have hc1 : ¬ c = 2 := by omega
      generalize (y.toNat : Int) = yy at *
      generalize hfq : recFaultM (2, yy, (u0, u1, u2, u3), 0) = fq at Hd0
      have Hd := Lib.hid Hd0
      clear Hd0 ha hx hR hn hk0 hy hk1 hu
      obtain ⟨zc0, zc1, zc2, zc3, zc4, zc5, zc6⟩ := zb2.seven
      obtain ⟨zf0, zf1, zf2, zf3, zf4, zf5, zf6⟩ := zb2.sevenF
      obtain ⟨rc0, rc1, rc2, rc3, rc4, rc5, rc6⟩ := rb2.seven
      obtain ⟨rf0, rf1, rf2, rf3, rf4, rf5, rf6⟩ := rb2.sevenF
      have hB1 : Below w.heap.size w ((w.alloc (.cells #[.int .i64 0, .int .i64 0, .int .i64 0, .int .i64 0, .int .i64 0, .int .i64 0, .int .i64 0] 27)).alloc (.cells #[.int .i64 2, .int .i64 yy, .int .i64 0, .int .i64 0, .int .i64 0, .int .i64 0, .int .i64 0] 27)) := ((Below.refl _ _).alloc (Nat.le_refl _) _).alloc (by simp) _
      have zb1 := (At.new w 27 #[.int .i64 0, .int .i64 0, .int .i64 0, .int .i64 0, .int .i64 0, .int .i64 0, .int .i64 0]).alloc (.cells #[.int .i64 2, .int .i64 yy, .int .i64 0, .int .i64 0, .int .i64 0, .int .i64 0, .int .i64 0] 27)
      have rb1 : At ((w.alloc (.cells #[.int .i64 0, .int .i64 0, .int .i64 0, .int .i64 0, .int .i64 0, .int .i64 0, .int .i64 0] 27)).alloc (.cells #[.int .i64 2, .int .i64 yy, .int .i64 0, .int .i64 0, .int .i64 0, .int .i64 0, .int .i64 0] 27)) (w.heap.size + 1) 27 #[.int .i64 2, .int .i64 yy, .int .i64 0, .int .i64 0, .int .i64 0, .int .i64 0, .int .i64 0] := by
        have := At.new (w.alloc (.cells #[.int .i64 0, .int .i64 0, .int .i64 0, .int .i64 0, .int .i64 0, .int .i64 0, .int .i64 0] 27)) 27 #[.int .i64 2, .int .i64 yy, .int .i64 0, .int .i64 0, .int .i64 0, .int .i64 0, .int .i64 0]
        simpa using this
      go_enter Tryz.func54, Tryz.ntmps54
      go_wp2_with fail
      refine (LD _ hB1).mono ?_
      rintro e w3 ⟨rfl, hb3⟩
      have hB3 := hB1.trans (hb3.mono hB1.size)
      have zb3 := zb1.below hb3 zb1.lt
      have rb3 := rb1.below hb3 rb1.lt
      clear zc0 zc1 zc2 zc3 zc4 zc5 zc6 zf0 zf1 zf2 zf3 zf4 zf5 zf6 rc0 rc1 rc2 rc3 rc4 rc5 rc6 rf0 rf1 rf2 rf3 rf4 rf5 rf6
      obtain ⟨zc0, zc1, zc2, zc3, zc4, zc5, zc6⟩ := zb3.seven
      obtain ⟨zf0, zf1, zf2, zf3, zf4, zf5, zf6⟩ := zb3.sevenF
      obtain ⟨rc0, rc1, rc2, rc3, rc4, rc5, rc6⟩ := rb3.seven
      obtain ⟨rf0, rf1, rf2, rf3, rf4, rf5, rf6⟩ := rb3.sevenF
      go_wp2_with fail
      clear zc0 zc1 zc2 zc3 zc4 zc5 zc6 zf0 zf1 zf2 zf3 zf4 zf5 zf6 rc0 rc1 rc2 rc3 rc4 rc5 rc6 rf0 rf1 rf2 rf3 rf4 rf5 rf6
      have rb4 : At ((((w3.setCell ⟨w.heap.size + 1, 2, none⟩ (.int .i64 u0)).setCell ⟨w.heap.size + 1, 3, none⟩ (.int .i64 u1)).setCell ⟨w.heap.size + 1, 4, none⟩ (.int .i64 u2)).setCell ⟨w.heap.size + 1, 5, none⟩ (.int .i64 u3)) (w.heap.size + 1) 27 #[.int .i64 2, .int .i64 yy, .int .i64 u0, .int .i64 u1, .int .i64 u2, .int .i64 u3, .int .i64 0] := ((((rb3.set 2 (.int .i64 u0)).set 3 (.int .i64 u1)).set 4 (.int .i64 u2)).set 5 (.int .i64 u3))
      have zb4 : At ((((w3.setCell ⟨w.heap.size + 1, 2, none⟩ (.int .i64 u0)).setCell ⟨w.heap.size + 1, 3, none⟩ (.int .i64 u1)).setCell ⟨w.heap.size + 1, 4, none⟩ (.int .i64 u2)).setCell ⟨w.heap.size + 1, 5, none⟩ (.int .i64 u3)) w.heap.size 27 #[.int .i64 0, .int .i64 0, .int .i64 0, .int .i64 0, .int .i64 0, .int .i64 0, .int .i64 0] := ((((zb3.far (p := ⟨w.heap.size + 1, 2, none⟩) (by simp) (.int .i64 u0)).far (p := ⟨w.heap.size + 1, 3, none⟩) (by simp) (.int .i64 u1)).far (p := ⟨w.heap.size + 1, 4, none⟩) (by simp) (.int .i64 u2)).far (p := ⟨w.heap.size + 1, 5, none⟩) (by simp) (.int .i64 u3))
      have hB4 : Below w.heap.size w ((((w3.setCell ⟨w.heap.size + 1, 2, none⟩ (.int .i64 u0)).setCell ⟨w.heap.size + 1, 3, none⟩ (.int .i64 u1)).setCell ⟨w.heap.size + 1, 4, none⟩ (.int .i64 u2)).setCell ⟨w.heap.size + 1, 5, none⟩ (.int .i64 u3)) := ((((hB3.setCell (p := ⟨w.heap.size + 1, 2, none⟩) (by simp) (.int .i64 u0)).setCell (p := ⟨w.heap.size + 1, 3, none⟩) (by simp) (.int .i64 u1)).setCell (p := ⟨w.heap.size + 1, 4, none⟩) (by simp) (.int .i64 u2)).setCell (p := ⟨w.heap.size + 1, 5, none⟩) (by simp) (.int .i64 u3))
      refine wp_region_mix [(0, false), (1, false), (2, true), (3, false), (4, true), (5, false)] (fun u => At u (w.heap.size + 1) 27 #[.int .i64 2, .int .i64 yy, .int .i64 u0, .int .i64 u1, .int .i64 u2, .int .i64 u3, .int .i64 0]) (by kernel_rfl) (by kernel_rfl) (fun _ _ _ _ _ h => h) rb4.drew ?_
      simp only [mixOps, List.map_cons, List.map_nil, List.getElem?_cons_succ, List.getElem?_cons_zero, Option.getD_some]
      repeat (first
        | (refine mix_skip (by rfl) ?_
           (try simp only [Act.put, List.setIfInBounds_toArray, List.set_cons_zero, List.set_cons_succ]))
        | (refine mix_pure (v := ?_) (by rfl) (fun u hu => ?_) ?_
           rotate_left
           · obtain ⟨_, _, _, _, _, _, _⟩ := hu.seven
             go_simp
             (with_reducible rfl)
           (try simp only [Act.put, List.setIfInBounds_toArray, List.set_cons_zero, List.set_cons_succ])))
      refine mix_call (by rfl) (fun K hK => ?_)
      go_simp
      refine (specRecordFault 2 yy u0 u1 u2 u3 0 _).mono ?_
      rintro e w5 ⟨rfl, hb5⟩
      have hb5 := undrewD hb5
      rw [hfq]
      have r5 := rb4.below hb5 rb4.lt
      have z5 := zb4.below hb5 zb4.lt
      have hB5 := hB4.trans (hb5.mono hB4.size)
      refine hK _ _ (fun u => At u (w.heap.size + 1) 27 #[.int .i64 2, .int .i64 yy, .int .i64 u0, .int .i64 u1, .int .i64 u2, .int .i64 u3, .int .i64 0]) (fun _ h => h) r5 ?_
      clear hK K
      (try simp only [Act.put, List.setIfInBounds_toArray, List.set_cons_zero, List.set_cons_succ])
      refine mix_pure (v := ?_) (by rfl) (fun u hu => ?_) ?_
      rotate_left
      · go_simp
        (with_reducible rfl)
      (try simp only [Act.put, List.setIfInBounds_toArray, List.set_cons_zero, List.set_cons_succ])
      obtain ⟨p0, p1, p2, p3, p4, p5, p6⟩ := z5.seven
      obtain ⟨s0, s1, s2, s3, s4, s5, s6⟩ := z5.sevenF
      refine mix_call (by rfl) (fun K hK => ?_)
      go_simp
      refine hK _ _ (fun u => At u (w.heap.size + 1) 27 #[.int .i64 2, .int .i64 yy, .int .i64 u0, .int .i64 u1, .int .i64 u2, .int .i64 u3, .int .i64 0]) (fun _ h => h) (((((((r5.far (p := ⟨w.heap.size, 0, none⟩) (by simp) _).far (p := ⟨w.heap.size, 1, none⟩) (by simp) _).far (p := ⟨w.heap.size, 2, none⟩) (by simp) _).far (p := ⟨w.heap.size, 3, none⟩) (by simp) _).far (p := ⟨w.heap.size, 4, none⟩) (by simp) _).far (p := ⟨w.heap.size, 5, none⟩) (by simp) _).far (p := ⟨w.heap.size, 6, none⟩) (by simp) _) ?_
      clear hK K
      (try simp only [Act.put, List.setIfInBounds_toArray, List.set_cons_zero, List.set_cons_succ])
      refine mix_pure (v := ?_) (by rfl) (fun u hu => ?_) ?_
      rotate_left
      · go_simp
        (with_reducible rfl)
      (try simp only [Act.put, List.setIfInBounds_toArray, List.set_cons_zero, List.set_cons_succ])
      refine mix_nil ?_
      go_wp2
      refine bodyPost_ret (v := .tuple #[.agg #[.int .i64 2, .int .i64 yy, .int .i64 u0, .int .i64 u1, .int .i64 u2, .int .i64 u3, .int .i64 0], .bool (fq == 0)]) (by simp [results, Tryz.results54, go_sem, p0, p1, p2, p3, p4, p5, p6]) rfl ?_
      rw [Hd.out]
      exact ⟨rfl, (((((((hB5.setCell (by simp) _).setCell (by simp) _).setCell (by simp) _).setCell (by simp) _).setCell (by simp) _).setCell (by simp) _).setCell (by simp) _)⟩
    · have Hd := Lib.hid (decR_2n hk0 (by rw [hn]; exact hl))
      have hbl : ((n : Int) == 9) = false := by simp; omega
      clear hk0 hn ha hx hR hl
      obtain ⟨zc0, zc1, zc2, zc3, zc4, zc5, zc6⟩ := zb2.seven
      obtain ⟨zf0, zf1, zf2, zf3, zf4, zf5, zf6⟩ := zb2.sevenF
      obtain ⟨rc0, rc1, rc2, rc3, rc4, rc5, rc6⟩ := rb2.seven
      obtain ⟨rf0, rf1, rf2, rf3, rf4, rf5, rf6⟩ := rb2.sevenF
      go_enter Tryz.func54, Tryz.ntmps54
      go_wp2
      refine bodyPost_ret (v := .tuple #[.agg #[.int .i64 0, .int .i64 0, .int .i64 0, .int .i64 0, .int .i64 0, .int .i64 0, .int .i64 0], .bool false]) (by simp [results, Tryz.results54, go_sem]) rfl ?_
      rw [Hd.out]
      exact ⟨rfl, by repeat (first | exact hB2 | refine Below.setCell ?_ (by simp) _)⟩
  by_cases k3 : kk = 3
  · subst k3
    by_cases hl : n = 4
    · subst hl
      have Hd0 := decR_3 hk0 hn
      obtain ⟨g', o', y, e', _, hy, cy⟩ := ha.byte (k := 1) (by omega)
      obtain ⟨rfl, rfl⟩ : g = g' ∧ o = o' := by simpa using Option.some.inj e'
      clear e'
      have hk1 : (readM l 1 1).2 = (y.toNat : Int) := read1 (p := 1) hy
      rw [hk1] at Hd0
      have hyb : y.toNat < 256 := y.toNat_lt
      have hwy : IntKind.i64.wrap (y.toNat : Int) = (y.toNat : Int) := IntWalk.i64_in _ (by omega)
      have hq : (readM l 2 2).2 = ((readAt l 2 2 0 : Nat) : Int) := congrArg Prod.snd (readM_nat (l := l) (p := 2) (s := 2) ⟨by omega, by omega, by omega⟩)
      rw [hq] at Hd0
      have LR := fun W hW => l1Read (some ⟨g, o, none⟩) 4 c 2 2 l W (ha.lift hW) hn (by omega) (by omega) (by unfold maxLen; omega)
      have hqb : readAt l 2 2 0 < 4294967296 := readAt_lt l 2 2 0 (by omega)
      generalize readAt l 2 2 0 = qq at *
      clear hq
      generalize (y.toNat : Int) = yy at *
      generalize hfq : recFaultM (3, yy, (0, 0, 0, 0), (qq : Int)) = fq at Hd0
      have Hd := Lib.hid Hd0
      clear Hd0 ha hx hR hn hk0 hy hk1
      obtain ⟨zc0, zc1, zc2, zc3, zc4, zc5, zc6⟩ := zb2.seven
      obtain ⟨zf0, zf1, zf2, zf3, zf4, zf5, zf6⟩ := zb2.sevenF
      obtain ⟨rc0, rc1, rc2, rc3, rc4, rc5, rc6⟩ := rb2.seven
      obtain ⟨rf0, rf1, rf2, rf3, rf4, rf5, rf6⟩ := rb2.sevenF
      have hB1 : Below w.heap.size w ((w.alloc (.cells #[.int .i64 0, .int .i64 0, .int .i64 0, .int .i64 0, .int .i64 0, .int .i64 0, .int .i64 0] 27)).alloc (.cells #[.int .i64 3, .int .i64 yy, .int .i64 0, .int .i64 0, .int .i64 0, .int .i64 0, .int .i64 0] 27)) := ((Below.refl _ _).alloc (Nat.le_refl _) _).alloc (by simp) _
      have zb1 := (At.new w 27 #[.int .i64 0, .int .i64 0, .int .i64 0, .int .i64 0, .int .i64 0, .int .i64 0, .int .i64 0]).alloc (.cells #[.int .i64 3, .int .i64 yy, .int .i64 0, .int .i64 0, .int .i64 0, .int .i64 0, .int .i64 0] 27)
      have rb1 : At ((w.alloc (.cells #[.int .i64 0, .int .i64 0, .int .i64 0, .int .i64 0, .int .i64 0, .int .i64 0, .int .i64 0] 27)).alloc (.cells #[.int .i64 3, .int .i64 yy, .int .i64 0, .int .i64 0, .int .i64 0, .int .i64 0, .int .i64 0] 27)) (w.heap.size + 1) 27 #[.int .i64 3, .int .i64 yy, .int .i64 0, .int .i64 0, .int .i64 0, .int .i64 0, .int .i64 0] := by
        have := At.new (w.alloc (.cells #[.int .i64 0, .int .i64 0, .int .i64 0, .int .i64 0, .int .i64 0, .int .i64 0, .int .i64 0] 27)) 27 #[.int .i64 3, .int .i64 yy, .int .i64 0, .int .i64 0, .int .i64 0, .int .i64 0, .int .i64 0]
        simpa using this
      go_enter Tryz.func54, Tryz.ntmps54
      go_wp2_with fail
      refine (LR _ hB1).mono ?_
      rintro e w3 ⟨rfl, rfl⟩
      clear zc0 zc1 zc2 zc3 zc4 zc5 zc6 zf0 zf1 zf2 zf3 zf4 zf5 zf6 rc0 rc1 rc2 rc3 rc4 rc5 rc6 rf0 rf1 rf2 rf3 rf4 rf5 rf6
      obtain ⟨zc0, zc1, zc2, zc3, zc4, zc5, zc6⟩ := zb1.seven
      obtain ⟨zf0, zf1, zf2, zf3, zf4, zf5, zf6⟩ := zb1.sevenF
      obtain ⟨rc0, rc1, rc2, rc3, rc4, rc5, rc6⟩ := rb1.seven
      obtain ⟨rf0, rf1, rf2, rf3, rf4, rf5, rf6⟩ := rb1.sevenF
      go_wp2_with fail
      clear zc0 zc1 zc2 zc3 zc4 zc5 zc6 zf0 zf1 zf2 zf3 zf4 zf5 zf6 rc0 rc1 rc2 rc3 rc4 rc5 rc6 rf0 rf1 rf2 rf3 rf4 rf5 rf6
      have hB4 : Below w.heap.size w ((w.alloc (.cells #[.int .i64 0, .int .i64 0, .int .i64 0, .int .i64 0, .int .i64 0, .int .i64 0, .int .i64 0] 27)).alloc (.cells #[.int .i64 3, .int .i64 yy, .int .i64 0, .int .i64 0, .int .i64 0, .int .i64 0, .int .i64 (qq : Int)] 27)) := ((Below.refl _ _).alloc (Nat.le_refl _) _).alloc (by simp) _
      have zb4 := (At.new w 27 #[.int .i64 0, .int .i64 0, .int .i64 0, .int .i64 0, .int .i64 0, .int .i64 0, .int .i64 0]).alloc (.cells #[.int .i64 3, .int .i64 yy, .int .i64 0, .int .i64 0, .int .i64 0, .int .i64 0, .int .i64 (qq : Int)] 27)
      have rb4 : At ((w.alloc (.cells #[.int .i64 0, .int .i64 0, .int .i64 0, .int .i64 0, .int .i64 0, .int .i64 0, .int .i64 0] 27)).alloc (.cells #[.int .i64 3, .int .i64 yy, .int .i64 0, .int .i64 0, .int .i64 0, .int .i64 0, .int .i64 (qq : Int)] 27)) (w.heap.size + 1) 27 #[.int .i64 3, .int .i64 yy, .int .i64 0, .int .i64 0, .int .i64 0, .int .i64 0, .int .i64 (qq : Int)] := by
        have := At.new (w.alloc (.cells #[.int .i64 0, .int .i64 0, .int .i64 0, .int .i64 0, .int .i64 0, .int .i64 0, .int .i64 0] 27)) 27 #[.int .i64 3, .int .i64 yy, .int .i64 0, .int .i64 0, .int .i64 0, .int .i64 0, .int .i64 (qq : Int)]
        simpa using this
      refine wp_region_mix [(0, false), (1, false), (2, true), (3, false), (4, true), (5, false)] (fun u => At u (w.heap.size + 1) 27 #[.int .i64 3, .int .i64 yy, .int .i64 0, .int .i64 0, .int .i64 0, .int .i64 0, .int .i64 (qq : Int)]) (by kernel_rfl) (by kernel_rfl) (fun _ _ _ _ _ h => h) rb4.drew ?_
      simp only [mixOps, List.map_cons, List.map_nil, List.getElem?_cons_succ, List.getElem?_cons_zero, Option.getD_some]
      repeat (first
        | (refine mix_skip (by rfl) ?_
           (try simp only [Act.put, List.setIfInBounds_toArray, List.set_cons_zero, List.set_cons_succ]))
        | (refine mix_pure (v := ?_) (by rfl) (fun u hu => ?_) ?_
           rotate_left
           · obtain ⟨_, _, _, _, _, _, _⟩ := hu.seven
             go_simp
             (with_reducible rfl)
           (try simp only [Act.put, List.setIfInBounds_toArray, List.set_cons_zero, List.set_cons_succ])))
      refine mix_call (by rfl) (fun K hK => ?_)
      go_simp
      refine (specRecordFault 3 yy 0 0 0 0 (qq : Int) _).mono ?_
      rintro e w5 ⟨rfl, hb5⟩
      have hb5 := undrewD hb5
      rw [hfq]
      have r5 := rb4.below hb5 rb4.lt
      have z5 := zb4.below hb5 zb4.lt
      have hB5 := hB4.trans (hb5.mono hB4.size)
      refine hK _ _ (fun u => At u (w.heap.size + 1) 27 #[.int .i64 3, .int .i64 yy, .int .i64 0, .int .i64 0, .int .i64 0, .int .i64 0, .int .i64 (qq : Int)]) (fun _ h => h) r5 ?_
      clear hK K
      (try simp only [Act.put, List.setIfInBounds_toArray, List.set_cons_zero, List.set_cons_succ])
      refine mix_pure (v := ?_) (by rfl) (fun u hu => ?_) ?_
      rotate_left
      · go_simp
        (with_reducible rfl)
      (try simp only [Act.put, List.setIfInBounds_toArray, List.set_cons_zero, List.set_cons_succ])
      obtain ⟨p0, p1, p2, p3, p4, p5, p6⟩ := z5.seven
      obtain ⟨s0, s1, s2, s3, s4, s5, s6⟩ := z5.sevenF
      refine mix_call (by rfl) (fun K hK => ?_)
      go_simp
      refine hK _ _ (fun u => At u (w.heap.size + 1) 27 #[.int .i64 3, .int .i64 yy, .int .i64 0, .int .i64 0, .int .i64 0, .int .i64 0, .int .i64 (qq : Int)]) (fun _ h => h) (((((((r5.far (p := ⟨w.heap.size, 0, none⟩) (by simp) _).far (p := ⟨w.heap.size, 1, none⟩) (by simp) _).far (p := ⟨w.heap.size, 2, none⟩) (by simp) _).far (p := ⟨w.heap.size, 3, none⟩) (by simp) _).far (p := ⟨w.heap.size, 4, none⟩) (by simp) _).far (p := ⟨w.heap.size, 5, none⟩) (by simp) _).far (p := ⟨w.heap.size, 6, none⟩) (by simp) _) ?_
      clear hK K
      (try simp only [Act.put, List.setIfInBounds_toArray, List.set_cons_zero, List.set_cons_succ])
      refine mix_pure (v := ?_) (by rfl) (fun u hu => ?_) ?_
      rotate_left
      · go_simp
        (with_reducible rfl)
      (try simp only [Act.put, List.setIfInBounds_toArray, List.set_cons_zero, List.set_cons_succ])
      refine mix_nil ?_
      go_wp2
      refine bodyPost_ret (v := .tuple #[.agg #[.int .i64 3, .int .i64 yy, .int .i64 0, .int .i64 0, .int .i64 0, .int .i64 0, .int .i64 (qq : Int)], .bool (fq == 0)]) (by simp [results, Tryz.results54, go_sem, p0, p1, p2, p3, p4, p5, p6]) rfl ?_
      rw [Hd.out]
      exact ⟨rfl, (((((((hB5.setCell (by simp) _).setCell (by simp) _).setCell (by simp) _).setCell (by simp) _).setCell (by simp) _).setCell (by simp) _).setCell (by simp) _)⟩
    · have Hd := Lib.hid (decR_3n hk0 (by rw [hn]; exact hl))
      have hbl : ((n : Int) == 4) = false := by simp; omega
      clear hk0 hn ha hx hR hl
      obtain ⟨zc0, zc1, zc2, zc3, zc4, zc5, zc6⟩ := zb2.seven
      obtain ⟨zf0, zf1, zf2, zf3, zf4, zf5, zf6⟩ := zb2.sevenF
      obtain ⟨rc0, rc1, rc2, rc3, rc4, rc5, rc6⟩ := rb2.seven
      obtain ⟨rf0, rf1, rf2, rf3, rf4, rf5, rf6⟩ := rb2.sevenF
      go_enter Tryz.func54, Tryz.ntmps54
      go_wp2
      refine bodyPost_ret (v := .tuple #[.agg #[.int .i64 0, .int .i64 0, .int .i64 0, .int .i64 0, .int .i64 0, .int .i64 0, .int .i64 0], .bool false]) (by simp [results, Tryz.results54, go_sem]) rfl ?_
      rw [Hd.out]
      exact ⟨rfl, by repeat (first | exact hB2 | refine Below.setCell ?_ (by simp) _)⟩
  by_cases k4 : kk = 4
  · subst k4
    by_cases hl : n = 3
    · subst hl
      have Hd0 := decR_4 hk0 hn
      have hq : (readM l 1 2).2 = ((readAt l 1 2 0 : Nat) : Int) := congrArg Prod.snd (readM_nat (l := l) (p := 1) (s := 2) ⟨by omega, by omega, by omega⟩)
      rw [hq] at Hd0
      have LR := fun W hW => l1Read (some ⟨g, o, none⟩) 3 c 1 2 l W (ha.lift hW) hn (by omega) (by omega) (by unfold maxLen; omega)
      have hqb : readAt l 1 2 0 < 4294967296 := readAt_lt l 1 2 0 (by omega)
      generalize readAt l 1 2 0 = qq at *
      clear hq
      generalize hfq : recFaultM (4, 0, (0, 0, 0, 0), (qq : Int)) = fq at Hd0
      have Hd := Lib.hid Hd0
      clear Hd0 ha hx hR hn hk0
      obtain ⟨zc0, zc1, zc2, zc3, zc4, zc5, zc6⟩ := zb2.seven
      obtain ⟨zf0, zf1, zf2, zf3, zf4, zf5, zf6⟩ := zb2.sevenF
      obtain ⟨rc0, rc1, rc2, rc3, rc4, rc5, rc6⟩ := rb2.seven
      obtain ⟨rf0, rf1, rf2, rf3, rf4, rf5, rf6⟩ := rb2.sevenF
      go_enter Tryz.func54, Tryz.ntmps54
      go_wp2_with fail
      refine (LR _ hB2).mono ?_
      rintro e w3 ⟨rfl, rfl⟩
      go_wp2_with fail
      clear zc0 zc1 zc2 zc3 zc4 zc5 zc6 zf0 zf1 zf2 zf3 zf4 zf5 zf6 rc0 rc1 rc2 rc3 rc4 rc5 rc6 rf0 rf1 rf2 rf3 rf4 rf5 rf6
      have hB4 : Below w.heap.size w ((w.alloc (.cells #[.int .i64 0, .int .i64 0, .int .i64 0, .int .i64 0, .int .i64 0, .int .i64 0, .int .i64 0] 27)).alloc (.cells #[.int .i64 4, .int .i64 0, .int .i64 0, .int .i64 0, .int .i64 0, .int .i64 0, .int .i64 (qq : Int)] 27)) := ((Below.refl _ _).alloc (Nat.le_refl _) _).alloc (by simp) _
      have zb4 := (At.new w 27 #[.int .i64 0, .int .i64 0, .int .i64 0, .int .i64 0, .int .i64 0, .int .i64 0, .int .i64 0]).alloc (.cells #[.int .i64 4, .int .i64 0, .int .i64 0, .int .i64 0, .int .i64 0, .int .i64 0, .int .i64 (qq : Int)] 27)
      have rb4 : At ((w.alloc (.cells #[.int .i64 0, .int .i64 0, .int .i64 0, .int .i64 0, .int .i64 0, .int .i64 0, .int .i64 0] 27)).alloc (.cells #[.int .i64 4, .int .i64 0, .int .i64 0, .int .i64 0, .int .i64 0, .int .i64 0, .int .i64 (qq : Int)] 27)) (w.heap.size + 1) 27 #[.int .i64 4, .int .i64 0, .int .i64 0, .int .i64 0, .int .i64 0, .int .i64 0, .int .i64 (qq : Int)] := by
        have := At.new (w.alloc (.cells #[.int .i64 0, .int .i64 0, .int .i64 0, .int .i64 0, .int .i64 0, .int .i64 0, .int .i64 0] 27)) 27 #[.int .i64 4, .int .i64 0, .int .i64 0, .int .i64 0, .int .i64 0, .int .i64 0, .int .i64 (qq : Int)]
        simpa using this
      refine wp_region_mix [(0, false), (1, false), (2, true), (3, false), (4, true), (5, false)] (fun u => At u (w.heap.size + 1) 27 #[.int .i64 4, .int .i64 0, .int .i64 0, .int .i64 0, .int .i64 0, .int .i64 0, .int .i64 (qq : Int)]) (by kernel_rfl) (by kernel_rfl) (fun _ _ _ _ _ h => h) rb4.drew ?_
      simp only [mixOps, List.map_cons, List.map_nil, List.getElem?_cons_succ, List.getElem?_cons_zero, Option.getD_some]
      repeat (first
        | (refine mix_skip (by rfl) ?_
           (try simp only [Act.put, List.setIfInBounds_toArray, List.set_cons_zero, List.set_cons_succ]))
        | (refine mix_pure (v := ?_) (by rfl) (fun u hu => ?_) ?_
           rotate_left
           · obtain ⟨_, _, _, _, _, _, _⟩ := hu.seven
             go_simp
             (with_reducible rfl)
           (try simp only [Act.put, List.setIfInBounds_toArray, List.set_cons_zero, List.set_cons_succ])))
      refine mix_call (by rfl) (fun K hK => ?_)
      go_simp
      refine (specRecordFault 4 0 0 0 0 0 (qq : Int) _).mono ?_
      rintro e w5 ⟨rfl, hb5⟩
      have hb5 := undrewD hb5
      rw [hfq]
      have r5 := rb4.below hb5 rb4.lt
      have z5 := zb4.below hb5 zb4.lt
      have hB5 := hB4.trans (hb5.mono hB4.size)
      refine hK _ _ (fun u => At u (w.heap.size + 1) 27 #[.int .i64 4, .int .i64 0, .int .i64 0, .int .i64 0, .int .i64 0, .int .i64 0, .int .i64 (qq : Int)]) (fun _ h => h) r5 ?_
      clear hK K
      (try simp only [Act.put, List.setIfInBounds_toArray, List.set_cons_zero, List.set_cons_succ])
      refine mix_pure (v := ?_) (by rfl) (fun u hu => ?_) ?_
      rotate_left
      · go_simp
        (with_reducible rfl)
      (try simp only [Act.put, List.setIfInBounds_toArray, List.set_cons_zero, List.set_cons_succ])
      obtain ⟨p0, p1, p2, p3, p4, p5, p6⟩ := z5.seven
      obtain ⟨s0, s1, s2, s3, s4, s5, s6⟩ := z5.sevenF
      refine mix_call (by rfl) (fun K hK => ?_)
      go_simp
      refine hK _ _ (fun u => At u (w.heap.size + 1) 27 #[.int .i64 4, .int .i64 0, .int .i64 0, .int .i64 0, .int .i64 0, .int .i64 0, .int .i64 (qq : Int)]) (fun _ h => h) (((((((r5.far (p := ⟨w.heap.size, 0, none⟩) (by simp) _).far (p := ⟨w.heap.size, 1, none⟩) (by simp) _).far (p := ⟨w.heap.size, 2, none⟩) (by simp) _).far (p := ⟨w.heap.size, 3, none⟩) (by simp) _).far (p := ⟨w.heap.size, 4, none⟩) (by simp) _).far (p := ⟨w.heap.size, 5, none⟩) (by simp) _).far (p := ⟨w.heap.size, 6, none⟩) (by simp) _) ?_
      clear hK K
      (try simp only [Act.put, List.setIfInBounds_toArray, List.set_cons_zero, List.set_cons_succ])
      refine mix_pure (v := ?_) (by rfl) (fun u hu => ?_) ?_
      rotate_left
      · go_simp
        (with_reducible rfl)
      (try simp only [Act.put, List.setIfInBounds_toArray, List.set_cons_zero, List.set_cons_succ])
      refine mix_nil ?_
      go_wp2
      refine bodyPost_ret (v := .tuple #[.agg #[.int .i64 4, .int .i64 0, .int .i64 0, .int .i64 0, .int .i64 0, .int .i64 0, .int .i64 (qq : Int)], .bool (fq == 0)]) (by simp [results, Tryz.results54, go_sem, p0, p1, p2, p3, p4, p5, p6]) rfl ?_
      rw [Hd.out]
      exact ⟨rfl, (((((((hB5.setCell (by simp) _).setCell (by simp) _).setCell (by simp) _).setCell (by simp) _).setCell (by simp) _).setCell (by simp) _).setCell (by simp) _)⟩
    · have Hd := Lib.hid (decR_4n hk0 (by rw [hn]; exact hl))
      have hbl : ((n : Int) == 3) = false := by simp; omega
      clear hk0 hn ha hx hR hl
      obtain ⟨zc0, zc1, zc2, zc3, zc4, zc5, zc6⟩ := zb2.seven
      obtain ⟨zf0, zf1, zf2, zf3, zf4, zf5, zf6⟩ := zb2.sevenF
      obtain ⟨rc0, rc1, rc2, rc3, rc4, rc5, rc6⟩ := rb2.seven
      obtain ⟨rf0, rf1, rf2, rf3, rf4, rf5, rf6⟩ := rb2.sevenF
      go_enter Tryz.func54, Tryz.ntmps54
      go_wp2
      refine bodyPost_ret (v := .tuple #[.agg #[.int .i64 0, .int .i64 0, .int .i64 0, .int .i64 0, .int .i64 0, .int .i64 0, .int .i64 0], .bool false]) (by simp [results, Tryz.results54, go_sem]) rfl ?_
      rw [Hd.out]
      exact ⟨rfl, by repeat (first | exact hB2 | refine Below.setCell ?_ (by simp) _)⟩
  · have Hd := Lib.hid (decR_o (l := l) (by rw [hk0]; exact k1) (by rw [hk0]; exact k2) (by rw [hk0]; exact k3) (by rw [hk0]; exact k4))
    have b1 : (kk == 1) = false := by simpa using k1
    have b2 : (kk == 2) = false := by simpa using k2
    have b3 : (kk == 3) = false := by simpa using k3
    have b4 : (kk == 4) = false := by simpa using k4
    clear hk0 hn ha hx hR k1 k2 k3 k4
    obtain ⟨zc0, zc1, zc2, zc3, zc4, zc5, zc6⟩ := zb2.seven
    obtain ⟨zf0, zf1, zf2, zf3, zf4, zf5, zf6⟩ := zb2.sevenF
    obtain ⟨rc0, rc1, rc2, rc3, rc4, rc5, rc6⟩ := rb2.seven
    obtain ⟨rf0, rf1, rf2, rf3, rf4, rf5, rf6⟩ := rb2.sevenF
    go_enter Tryz.func54, Tryz.ntmps54
    go_wp2
    refine bodyPost_ret (v := .tuple #[.agg #[.int .i64 0, .int .i64 0, .int .i64 0, .int .i64 0, .int .i64 0, .int .i64 0, .int .i64 0], .bool false]) (by simp [results, Tryz.results54, go_sem]) rfl ?_
    rw [Hd.out]
    exact ⟨rfl, by repeat (first | exact hB2 | refine Below.setCell ?_ (by simp) _)⟩
end Go.Proofs.YtmaillakhhdkfaaGreatDoor
