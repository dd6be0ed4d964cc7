/-
  Texts of one proof, joined: each has its own namespace.
-/
import Derived.Test.YtmaillakhhdkfaaGreatDoorBFnRecords4
import Derived.Test.YtmaillakhhdkfaaGreatDoorBFnRecords8
import Derived.Test.YtmaillakhhdkfaaGreatDoorBFnRecords5
/-
  Records and states that are drawn.
-/
namespace Go.Proofs.YtmaillakhhdkfaaGreatDoor
set_option maxRecDepth 20000
open Go.RowKit
set_option linter.unusedSimpArgs false
set_option linter.unusedVariables false

theorem Src.drewS {w : World} {base g n c k : Nat} {A : Option Addr} {l : List UInt8} (h : Src w base g A n c k l) : Src w.drew base g A n c k l := ⟨h.at_.drew, h.rd.drewN 1, h.len, h.big, h.low⟩
theorem fault_small {n0 n1 n2 n3 : Nat} (h0 : n0 ≤ 9) (h1 : n1 ≤ 999) (h2 : n2 ≤ 9999) (h3 : n3 ≤ 2000) : faultM ((n0 : Int), (n1 : Int), (n2 : Int), (n3 : Int) - 1000) = 0 := by
  unfold faultM bndsM
  rw [if_pos]
  simp [inB]
  omega
theorem pick_bd {xs : List Int} {v : Int} (lo hi : Int) (h : v ∈ xs) (ha : (xs.all fun x => decide (lo ≤ x ∧ x ≤ hi)) = true) : lo ≤ v ∧ v ≤ hi := by
  have := List.all_eq_true.1 ha v h
  simpa using this
theorem node_small {r : Int} (h0 : 0 ≤ r) (h1 : r < 4) : inB (r, 0, 3) = true := by
  simp [inB]; omega
theorem pick_in {xs : List Int} {v : Int} (lo hi : Int) (h : v ∈ xs) (ha : (xs.all fun x => decide (lo ≤ x ∧ x ≤ hi)) = true) : inB (v, lo, hi) = true := by
  have := List.all_eq_true.1 ha v h
  simp only [decide_eq_true_eq] at this
  simp [inB]; omega

set_option maxHeartbeats 4000000 in
theorem l5Draw (w : World) (base g : Nat) (A : Option Addr) (m c k : Nat) (l : List UInt8) (h : Src w base g A m c k l) (hk : k < 900000000) :
    Calls Tryz.prog 39 #[.pointer (some ⟨g, 0, none⟩)] w fun e w' => ∃ a0 a1 a2 a3 a4 a5 a6 : Int, e = .returned (.agg #[.int .i64 a0, .int .i64 a1, .int .i64 a2, .int .i64 a3, .int .i64 a4, .int .i64 a5, .int .i64 a6]) ∧ recFaultM (a0, a1, (a2, a3, a4, a5), a6) = 0 ∧ (∃ k' : Nat, k' ≤ k + 8 ∧ Src w' base g A m c k' l) ∧ Within g (g + 1) w w' := by
  have g0 := h.at_.lt
  have WI0 := Within.refl g (g + 1) w
  have r := At.newAt' (w := w) (t := 27) (cs := #[.int .i64 0, .int .i64 0, .int .i64 0, .int .i64 0, .int .i64 0, .int .i64 0, .int .i64 0]) (show w.heap.size = w.heap.size by first | rfl | simp)
  have s1 := h.alloc (.cells #[.int .i64 0, .int .i64 0, .int .i64 0, .int .i64 0, .int .i64 0, .int .i64 0, .int .i64 0] 27)
  have g1 := s1.at_.lt
  have WI1 := WI0.alloc (.cells #[.int .i64 0, .int .i64 0, .int .i64 0, .int .i64 0, .int .i64 0, .int .i64 0, .int .i64 0] 27)
  have zw1 := WI1.size
  go_enter Tryz.func39, Tryz.ntmps39
  go_wp2_with fail
  refine (l1Next (w.alloc (.cells #[.int .i64 0, .int .i64 0, .int .i64 0, .int .i64 0, .int .i64 0, .int .i64 0, .int .i64 0] 27)) base g A m c k l 6 s1 (by omega) (by omega)).mono ?_
  rintro e w2 ⟨q, rfl, hr2, -, s2, hw2, -⟩
  have zs2 : w.heap.size + 1 ≤ w2.heap.size := by have q := hw2.size; first | exact q | (simp; done) | (simp at q; exact q) | (simp at q ⊢; omega)
  have r_2 := r.within hw2 (by first | omega | (simp; omega))
  have WI2 := WI1.trans hw2
  have zw2 := WI2.size
  have g2 := s2.at_.lt
  obtain ⟨hr2a, hr2b⟩ := hr2 (by omega)
  rcases (show q = 0 ∨ q = 1 ∨ q = 2 ∨ q = 3 ∨ q = 4 ∨ 5 ≤ q by omega) with rfl | rfl | rfl | rfl | rfl | hq5
  · go_wp2_with fail
    refine (l2Draw w2 base g A m c (k + 1) l s2 (by omega)).mono ?_
    rintro e w3 ⟨n0, n1, n2, n3, rfl, b0, b1, b2, b3, s3, hw3⟩
    have zs3 : w2.heap.size ≤ w3.heap.size := by have q := hw3.size; first | exact q | (simp; done) | (simp at q; exact q) | (simp at q ⊢; omega)
    have r_3 := r_2.within hw3 (by first | omega | (simp; omega))
    have WI3 := WI2.trans hw3
    have zw3 := WI3.size
    have g3 := s3.at_.lt
    have rc0 : World.cell? w3 ⟨w.heap.size, 0, none⟩ = some (.int .i64 0) := r_3.cell 0
    have rc1 : World.cell? w3 ⟨w.heap.size, 1, none⟩ = some (.int .i64 0) := r_3.cell 1
    have rc2 : World.cell? w3 ⟨w.heap.size, 2, none⟩ = some (.int .i64 0) := r_3.cell 2
    have rc3 : World.cell? w3 ⟨w.heap.size, 3, none⟩ = some (.int .i64 0) := r_3.cell 3
    have rc4 : World.cell? w3 ⟨w.heap.size, 4, none⟩ = some (.int .i64 0) := r_3.cell 4
    have rc5 : World.cell? w3 ⟨w.heap.size, 5, none⟩ = some (.int .i64 0) := r_3.cell 5
    have rc6 : World.cell? w3 ⟨w.heap.size, 6, none⟩ = some (.int .i64 0) := r_3.cell 6
    have rf0 : World.frozen? w3 ⟨w.heap.size, 0, none⟩ = false := r_3.frozen 0
    have rf1 : World.frozen? w3 ⟨w.heap.size, 1, none⟩ = false := r_3.frozen 1
    have rf2 : World.frozen? w3 ⟨w.heap.size, 2, none⟩ = false := r_3.frozen 2
    have rf3 : World.frozen? w3 ⟨w.heap.size, 3, none⟩ = false := r_3.frozen 3
    have rf4 : World.frozen? w3 ⟨w.heap.size, 4, none⟩ = false := r_3.frozen 4
    have rf5 : World.frozen? w3 ⟨w.heap.size, 5, none⟩ = false := r_3.frozen 5
    have rf6 : World.frozen? w3 ⟨w.heap.size, 6, none⟩ = false := r_3.frozen 6
    go_wp2_with fail
    have s4 := s3.put (p := ⟨w.heap.size, 0, none⟩) (by show _ < w.heap.size; first | omega | (simp; omega)) (.int .i64 1)
    have WI4 := WI3.put (p := ⟨w.heap.size, 0, none⟩) (by show _ ≤ w.heap.size; first | exact Nat.le_refl _ | omega | (simp; omega)) (.int .i64 1)
    have r_4 := r_3.set 0 (.int .i64 1)
    have s5 := s4.put (p := ⟨w.heap.size, 1, none⟩) (by show _ < w.heap.size; first | omega | (simp; omega)) (.int .i64 0)
    have WI5 := WI4.put (p := ⟨w.heap.size, 1, none⟩) (by show _ ≤ w.heap.size; first | exact Nat.le_refl _ | omega | (simp; omega)) (.int .i64 0)
    have r_5 := r_4.set 1 (.int .i64 0)
    have s6 := s5.put (p := ⟨w.heap.size, 2, none⟩) (by show _ < w.heap.size; first | omega | (simp; omega)) (.int .i64 n0)
    have WI6 := WI5.put (p := ⟨w.heap.size, 2, none⟩) (by show _ ≤ w.heap.size; first | exact Nat.le_refl _ | omega | (simp; omega)) (.int .i64 n0)
    have r_6 := r_5.set 2 (.int .i64 n0)
    have s7 := s6.put (p := ⟨w.heap.size, 3, none⟩) (by show _ < w.heap.size; first | omega | (simp; omega)) (.int .i64 n1)
    have WI7 := WI6.put (p := ⟨w.heap.size, 3, none⟩) (by show _ ≤ w.heap.size; first | exact Nat.le_refl _ | omega | (simp; omega)) (.int .i64 n1)
    have r_7 := r_6.set 3 (.int .i64 n1)
    have s8 := s7.put (p := ⟨w.heap.size, 4, none⟩) (by show _ < w.heap.size; first | omega | (simp; omega)) (.int .i64 n2)
    have WI8 := WI7.put (p := ⟨w.heap.size, 4, none⟩) (by show _ ≤ w.heap.size; first | exact Nat.le_refl _ | omega | (simp; omega)) (.int .i64 n2)
    have r_8 := r_7.set 4 (.int .i64 n2)
    have s9 := s8.put (p := ⟨w.heap.size, 5, none⟩) (by show _ < w.heap.size; first | omega | (simp; omega)) (.int .i64 ((n3 : Int) - 1000))
    have WI9 := WI8.put (p := ⟨w.heap.size, 5, none⟩) (by show _ ≤ w.heap.size; first | exact Nat.le_refl _ | omega | (simp; omega)) (.int .i64 ((n3 : Int) - 1000))
    have r_9 := r_8.set 5 (.int .i64 ((n3 : Int) - 1000))
    have s10 := s9.put (p := ⟨w.heap.size, 6, none⟩) (by show _ < w.heap.size; first | omega | (simp; omega)) (.int .i64 0)
    have WI10 := WI9.put (p := ⟨w.heap.size, 6, none⟩) (by show _ ≤ w.heap.size; first | exact Nat.le_refl _ | omega | (simp; omega)) (.int .i64 0)
    have r_10 := r_9.set 6 (.int .i64 0)
    refine bodyPost_ret (v := .agg #[.int .i64 1, .int .i64 0, .int .i64 n0, .int .i64 n1, .int .i64 n2, .int .i64 ((n3 : Int) - 1000), .int .i64 0]) (by simp [results, Tryz.results39, go_sem, rc0, rc1, rc2, rc3, rc4, rc5, rc6]) rfl ?_
    exact ⟨_, _, _, _, _, _, _, rfl, by rw [rec1]; exact fault_small b0 b1 b2 b3, ⟨_, by omega, s10⟩, WI10⟩
  · go_wp2_with fail
    refine (l2Draw w2 base g A m c (k + 1) l s2 (by omega)).mono ?_
    rintro e w3 ⟨n0, n1, n2, n3, rfl, b0, b1, b2, b3, s3, hw3⟩
    have zs3 : w2.heap.size ≤ w3.heap.size := by have q := hw3.size; first | exact q | (simp; done) | (simp at q; exact q) | (simp at q ⊢; omega)
    have r_3 := r_2.within hw3 (by first | omega | (simp; omega))
    have WI3 := WI2.trans hw3
    have zw3 := WI3.size
    have g3 := s3.at_.lt
    have rc0 : World.cell? w3 ⟨w.heap.size, 0, none⟩ = some (.int .i64 0) := r_3.cell 0
    have rc1 : World.cell? w3 ⟨w.heap.size, 1, none⟩ = some (.int .i64 0) := r_3.cell 1
    have rc2 : World.cell? w3 ⟨w.heap.size, 2, none⟩ = some (.int .i64 0) := r_3.cell 2
    have rc3 : World.cell? w3 ⟨w.heap.size, 3, none⟩ = some (.int .i64 0) := r_3.cell 3
    have rc4 : World.cell? w3 ⟨w.heap.size, 4, none⟩ = some (.int .i64 0) := r_3.cell 4
    have rc5 : World.cell? w3 ⟨w.heap.size, 5, none⟩ = some (.int .i64 0) := r_3.cell 5
    have rc6 : World.cell? w3 ⟨w.heap.size, 6, none⟩ = some (.int .i64 0) := r_3.cell 6
    have rf0 : World.frozen? w3 ⟨w.heap.size, 0, none⟩ = false := r_3.frozen 0
    have rf1 : World.frozen? w3 ⟨w.heap.size, 1, none⟩ = false := r_3.frozen 1
    have rf2 : World.frozen? w3 ⟨w.heap.size, 2, none⟩ = false := r_3.frozen 2
    have rf3 : World.frozen? w3 ⟨w.heap.size, 3, none⟩ = false := r_3.frozen 3
    have rf4 : World.frozen? w3 ⟨w.heap.size, 4, none⟩ = false := r_3.frozen 4
    have rf5 : World.frozen? w3 ⟨w.heap.size, 5, none⟩ = false := r_3.frozen 5
    have rf6 : World.frozen? w3 ⟨w.heap.size, 6, none⟩ = false := r_3.frozen 6
    go_wp2_with fail
    have s4 := s3.put (p := ⟨w.heap.size, 0, none⟩) (by show _ < w.heap.size; first | omega | (simp; omega)) (.int .i64 1)
    have WI4 := WI3.put (p := ⟨w.heap.size, 0, none⟩) (by show _ ≤ w.heap.size; first | exact Nat.le_refl _ | omega | (simp; omega)) (.int .i64 1)
    have r_4 := r_3.set 0 (.int .i64 1)
    have s5 := s4.put (p := ⟨w.heap.size, 1, none⟩) (by show _ < w.heap.size; first | omega | (simp; omega)) (.int .i64 0)
    have WI5 := WI4.put (p := ⟨w.heap.size, 1, none⟩) (by show _ ≤ w.heap.size; first | exact Nat.le_refl _ | omega | (simp; omega)) (.int .i64 0)
    have r_5 := r_4.set 1 (.int .i64 0)
    have s6 := s5.put (p := ⟨w.heap.size, 2, none⟩) (by show _ < w.heap.size; first | omega | (simp; omega)) (.int .i64 n0)
    have WI6 := WI5.put (p := ⟨w.heap.size, 2, none⟩) (by show _ ≤ w.heap.size; first | exact Nat.le_refl _ | omega | (simp; omega)) (.int .i64 n0)
    have r_6 := r_5.set 2 (.int .i64 n0)
    have s7 := s6.put (p := ⟨w.heap.size, 3, none⟩) (by show _ < w.heap.size; first | omega | (simp; omega)) (.int .i64 n1)
    have WI7 := WI6.put (p := ⟨w.heap.size, 3, none⟩) (by show _ ≤ w.heap.size; first | exact Nat.le_refl _ | omega | (simp; omega)) (.int .i64 n1)
    have r_7 := r_6.set 3 (.int .i64 n1)
    have s8 := s7.put (p := ⟨w.heap.size, 4, none⟩) (by show _ < w.heap.size; first | omega | (simp; omega)) (.int .i64 n2)
    have WI8 := WI7.put (p := ⟨w.heap.size, 4, none⟩) (by show _ ≤ w.heap.size; first | exact Nat.le_refl _ | omega | (simp; omega)) (.int .i64 n2)
    have r_8 := r_7.set 4 (.int .i64 n2)
    have s9 := s8.put (p := ⟨w.heap.size, 5, none⟩) (by show _ < w.heap.size; first | omega | (simp; omega)) (.int .i64 ((n3 : Int) - 1000))
    have WI9 := WI8.put (p := ⟨w.heap.size, 5, none⟩) (by show _ ≤ w.heap.size; first | exact Nat.le_refl _ | omega | (simp; omega)) (.int .i64 ((n3 : Int) - 1000))
    have r_9 := r_8.set 5 (.int .i64 ((n3 : Int) - 1000))
    have s10 := s9.put (p := ⟨w.heap.size, 6, none⟩) (by show _ < w.heap.size; first | omega | (simp; omega)) (.int .i64 0)
    have WI10 := WI9.put (p := ⟨w.heap.size, 6, none⟩) (by show _ ≤ w.heap.size; first | exact Nat.le_refl _ | omega | (simp; omega)) (.int .i64 0)
    have r_10 := r_9.set 6 (.int .i64 0)
    refine bodyPost_ret (v := .agg #[.int .i64 1, .int .i64 0, .int .i64 n0, .int .i64 n1, .int .i64 n2, .int .i64 ((n3 : Int) - 1000), .int .i64 0]) (by simp [results, Tryz.results39, go_sem, rc0, rc1, rc2, rc3, rc4, rc5, rc6]) rfl ?_
    exact ⟨_, _, _, _, _, _, _, rfl, by rw [rec1]; exact fault_small b0 b1 b2 b3, ⟨_, by omega, s10⟩, WI10⟩
  · go_wp2_with fail
    refine (l1Next w2 base g A m c (k + 1) l 4 s2 (by omega) (by omega)).mono ?_
    rintro e w3 ⟨p, rfl, hr3, -, s3, hw3, -⟩
    have zs3 : w2.heap.size ≤ w3.heap.size := by have q := hw3.size; first | exact q | (simp; done) | (simp at q; exact q) | (simp at q ⊢; omega)
    have r_3 := r_2.within hw3 (by first | omega | (simp; omega))
    have WI3 := WI2.trans hw3
    have zw3 := WI3.size
    have g3 := s3.at_.lt
    obtain ⟨hr3a, hr3b⟩ := hr3 (by omega)
    go_wp2_with fail
    refine (l2Draw w3 base g A m c ((k + 1) + 1) l s3 (by omega)).mono ?_
    rintro e w4 ⟨n0, n1, n2, n3, rfl, b0, b1, b2, b3, s4, hw4⟩
    have zs4 : w3.heap.size ≤ w4.heap.size := by have q := hw4.size; first | exact q | (simp; done) | (simp at q; exact q) | (simp at q ⊢; omega)
    have r_4 := r_3.within hw4 (by first | omega | (simp; omega))
    have WI4 := WI3.trans hw4
    have zw4 := WI4.size
    have g4 := s4.at_.lt
    have rc0 : World.cell? w4 ⟨w.heap.size, 0, none⟩ = some (.int .i64 0) := r_4.cell 0
    have rc1 : World.cell? w4 ⟨w.heap.size, 1, none⟩ = some (.int .i64 0) := r_4.cell 1
    have rc2 : World.cell? w4 ⟨w.heap.size, 2, none⟩ = some (.int .i64 0) := r_4.cell 2
    have rc3 : World.cell? w4 ⟨w.heap.size, 3, none⟩ = some (.int .i64 0) := r_4.cell 3
    have rc4 : World.cell? w4 ⟨w.heap.size, 4, none⟩ = some (.int .i64 0) := r_4.cell 4
    have rc5 : World.cell? w4 ⟨w.heap.size, 5, none⟩ = some (.int .i64 0) := r_4.cell 5
    have rc6 : World.cell? w4 ⟨w.heap.size, 6, none⟩ = some (.int .i64 0) := r_4.cell 6
    have rf0 : World.frozen? w4 ⟨w.heap.size, 0, none⟩ = false := r_4.frozen 0
    have rf1 : World.frozen? w4 ⟨w.heap.size, 1, none⟩ = false := r_4.frozen 1
    have rf2 : World.frozen? w4 ⟨w.heap.size, 2, none⟩ = false := r_4.frozen 2
    have rf3 : World.frozen? w4 ⟨w.heap.size, 3, none⟩ = false := r_4.frozen 3
    have rf4 : World.frozen? w4 ⟨w.heap.size, 4, none⟩ = false := r_4.frozen 4
    have rf5 : World.frozen? w4 ⟨w.heap.size, 5, none⟩ = false := r_4.frozen 5
    have rf6 : World.frozen? w4 ⟨w.heap.size, 6, none⟩ = false := r_4.frozen 6
    go_wp2_with fail
    have s5 := s4.put (p := ⟨w.heap.size, 0, none⟩) (by show _ < w.heap.size; first | omega | (simp; omega)) (.int .i64 2)
    have WI5 := WI4.put (p := ⟨w.heap.size, 0, none⟩) (by show _ ≤ w.heap.size; first | exact Nat.le_refl _ | omega | (simp; omega)) (.int .i64 2)
    have r_5 := r_4.set 0 (.int .i64 2)
    have s6 := s5.put (p := ⟨w.heap.size, 1, none⟩) (by show _ < w.heap.size; first | omega | (simp; omega)) (.int .i64 p)
    have WI6 := WI5.put (p := ⟨w.heap.size, 1, none⟩) (by show _ ≤ w.heap.size; first | exact Nat.le_refl _ | omega | (simp; omega)) (.int .i64 p)
    have r_6 := r_5.set 1 (.int .i64 p)
    have s7 := s6.put (p := ⟨w.heap.size, 2, none⟩) (by show _ < w.heap.size; first | omega | (simp; omega)) (.int .i64 n0)
    have WI7 := WI6.put (p := ⟨w.heap.size, 2, none⟩) (by show _ ≤ w.heap.size; first | exact Nat.le_refl _ | omega | (simp; omega)) (.int .i64 n0)
    have r_7 := r_6.set 2 (.int .i64 n0)
    have s8 := s7.put (p := ⟨w.heap.size, 3, none⟩) (by show _ < w.heap.size; first | omega | (simp; omega)) (.int .i64 n1)
    have WI8 := WI7.put (p := ⟨w.heap.size, 3, none⟩) (by show _ ≤ w.heap.size; first | exact Nat.le_refl _ | omega | (simp; omega)) (.int .i64 n1)
    have r_8 := r_7.set 3 (.int .i64 n1)
    have s9 := s8.put (p := ⟨w.heap.size, 4, none⟩) (by show _ < w.heap.size; first | omega | (simp; omega)) (.int .i64 n2)
    have WI9 := WI8.put (p := ⟨w.heap.size, 4, none⟩) (by show _ ≤ w.heap.size; first | exact Nat.le_refl _ | omega | (simp; omega)) (.int .i64 n2)
    have r_9 := r_8.set 4 (.int .i64 n2)
    have s10 := s9.put (p := ⟨w.heap.size, 5, none⟩) (by show _ < w.heap.size; first | omega | (simp; omega)) (.int .i64 ((n3 : Int) - 1000))
    have WI10 := WI9.put (p := ⟨w.heap.size, 5, none⟩) (by show _ ≤ w.heap.size; first | exact Nat.le_refl _ | omega | (simp; omega)) (.int .i64 ((n3 : Int) - 1000))
    have r_10 := r_9.set 5 (.int .i64 ((n3 : Int) - 1000))
    have s11 := s10.put (p := ⟨w.heap.size, 6, none⟩) (by show _ < w.heap.size; first | omega | (simp; omega)) (.int .i64 0)
    have WI11 := WI10.put (p := ⟨w.heap.size, 6, none⟩) (by show _ ≤ w.heap.size; first | exact Nat.le_refl _ | omega | (simp; omega)) (.int .i64 0)
    have r_11 := r_10.set 6 (.int .i64 0)
    refine bodyPost_ret (v := .agg #[.int .i64 2, .int .i64 p, .int .i64 n0, .int .i64 n1, .int .i64 n2, .int .i64 ((n3 : Int) - 1000), .int .i64 0]) (by simp [results, Tryz.results39, go_sem, rc0, rc1, rc2, rc3, rc4, rc5, rc6]) rfl ?_
    exact ⟨_, _, _, _, _, _, _, rfl, by rw [rec2, if_pos (node_small hr3a hr3b)]; exact fault_small b0 b1 b2 b3, ⟨_, by omega, s11⟩, WI11⟩
  · go_wp2_with fail
    refine (l1Next w2 base g A m c (k + 1) l 4 s2 (by omega) (by omega)).mono ?_
    rintro e w3 ⟨p, rfl, hr3, -, s3, hw3, -⟩
    have zs3 : w2.heap.size ≤ w3.heap.size := by have q := hw3.size; first | exact q | (simp; done) | (simp at q; exact q) | (simp at q ⊢; omega)
    have r_3 := r_2.within hw3 (by first | omega | (simp; omega))
    have WI3 := WI2.trans hw3
    have zw3 := WI3.size
    have g3 := s3.at_.lt
    obtain ⟨hr3a, hr3b⟩ := hr3 (by omega)
    go_wp2_with fail
    refine (l2Draw w3 base g A m c ((k + 1) + 1) l s3 (by omega)).mono ?_
    rintro e w4 ⟨n0, n1, n2, n3, rfl, b0, b1, b2, b3, s4, hw4⟩
    have zs4 : w3.heap.size ≤ w4.heap.size := by have q := hw4.size; first | exact q | (simp; done) | (simp at q; exact q) | (simp at q ⊢; omega)
    have r_4 := r_3.within hw4 (by first | omega | (simp; omega))
    have WI4 := WI3.trans hw4
    have zw4 := WI4.size
    have g4 := s4.at_.lt
    have rc0 : World.cell? w4 ⟨w.heap.size, 0, none⟩ = some (.int .i64 0) := r_4.cell 0
    have rc1 : World.cell? w4 ⟨w.heap.size, 1, none⟩ = some (.int .i64 0) := r_4.cell 1
    have rc2 : World.cell? w4 ⟨w.heap.size, 2, none⟩ = some (.int .i64 0) := r_4.cell 2
    have rc3 : World.cell? w4 ⟨w.heap.size, 3, none⟩ = some (.int .i64 0) := r_4.cell 3
    have rc4 : World.cell? w4 ⟨w.heap.size, 4, none⟩ = some (.int .i64 0) := r_4.cell 4
    have rc5 : World.cell? w4 ⟨w.heap.size, 5, none⟩ = some (.int .i64 0) := r_4.cell 5
    have rc6 : World.cell? w4 ⟨w.heap.size, 6, none⟩ = some (.int .i64 0) := r_4.cell 6
    have rf0 : World.frozen? w4 ⟨w.heap.size, 0, none⟩ = false := r_4.frozen 0
    have rf1 : World.frozen? w4 ⟨w.heap.size, 1, none⟩ = false := r_4.frozen 1
    have rf2 : World.frozen? w4 ⟨w.heap.size, 2, none⟩ = false := r_4.frozen 2
    have rf3 : World.frozen? w4 ⟨w.heap.size, 3, none⟩ = false := r_4.frozen 3
    have rf4 : World.frozen? w4 ⟨w.heap.size, 4, none⟩ = false := r_4.frozen 4
    have rf5 : World.frozen? w4 ⟨w.heap.size, 5, none⟩ = false := r_4.frozen 5
    have rf6 : World.frozen? w4 ⟨w.heap.size, 6, none⟩ = false := r_4.frozen 6
    go_wp2_with fail
    have s5 := s4.put (p := ⟨w.heap.size, 0, none⟩) (by show _ < w.heap.size; first | omega | (simp; omega)) (.int .i64 2)
    have WI5 := WI4.put (p := ⟨w.heap.size, 0, none⟩) (by show _ ≤ w.heap.size; first | exact Nat.le_refl _ | omega | (simp; omega)) (.int .i64 2)
    have r_5 := r_4.set 0 (.int .i64 2)
    have s6 := s5.put (p := ⟨w.heap.size, 1, none⟩) (by show _ < w.heap.size; first | omega | (simp; omega)) (.int .i64 p)
    have WI6 := WI5.put (p := ⟨w.heap.size, 1, none⟩) (by show _ ≤ w.heap.size; first | exact Nat.le_refl _ | omega | (simp; omega)) (.int .i64 p)
    have r_6 := r_5.set 1 (.int .i64 p)
    have s7 := s6.put (p := ⟨w.heap.size, 2, none⟩) (by show _ < w.heap.size; first | omega | (simp; omega)) (.int .i64 n0)
    have WI7 := WI6.put (p := ⟨w.heap.size, 2, none⟩) (by show _ ≤ w.heap.size; first | exact Nat.le_refl _ | omega | (simp; omega)) (.int .i64 n0)
    have r_7 := r_6.set 2 (.int .i64 n0)
    have s8 := s7.put (p := ⟨w.heap.size, 3, none⟩) (by show _ < w.heap.size; first | omega | (simp; omega)) (.int .i64 n1)
    have WI8 := WI7.put (p := ⟨w.heap.size, 3, none⟩) (by show _ ≤ w.heap.size; first | exact Nat.le_refl _ | omega | (simp; omega)) (.int .i64 n1)
    have r_8 := r_7.set 3 (.int .i64 n1)
    have s9 := s8.put (p := ⟨w.heap.size, 4, none⟩) (by show _ < w.heap.size; first | omega | (simp; omega)) (.int .i64 n2)
    have WI9 := WI8.put (p := ⟨w.heap.size, 4, none⟩) (by show _ ≤ w.heap.size; first | exact Nat.le_refl _ | omega | (simp; omega)) (.int .i64 n2)
    have r_9 := r_8.set 4 (.int .i64 n2)
    have s10 := s9.put (p := ⟨w.heap.size, 5, none⟩) (by show _ < w.heap.size; first | omega | (simp; omega)) (.int .i64 ((n3 : Int) - 1000))
    have WI10 := WI9.put (p := ⟨w.heap.size, 5, none⟩) (by show _ ≤ w.heap.size; first | exact Nat.le_refl _ | omega | (simp; omega)) (.int .i64 ((n3 : Int) - 1000))
    have r_10 := r_9.set 5 (.int .i64 ((n3 : Int) - 1000))
    have s11 := s10.put (p := ⟨w.heap.size, 6, none⟩) (by show _ < w.heap.size; first | omega | (simp; omega)) (.int .i64 0)
    have WI11 := WI10.put (p := ⟨w.heap.size, 6, none⟩) (by show _ ≤ w.heap.size; first | exact Nat.le_refl _ | omega | (simp; omega)) (.int .i64 0)
    have r_11 := r_10.set 6 (.int .i64 0)
    refine bodyPost_ret (v := .agg #[.int .i64 2, .int .i64 p, .int .i64 n0, .int .i64 n1, .int .i64 n2, .int .i64 ((n3 : Int) - 1000), .int .i64 0]) (by simp [results, Tryz.results39, go_sem, rc0, rc1, rc2, rc3, rc4, rc5, rc6]) rfl ?_
    exact ⟨_, _, _, _, _, _, _, rfl, by rw [rec2, if_pos (node_small hr3a hr3b)]; exact fault_small b0 b1 b2 b3, ⟨_, by omega, s11⟩, WI11⟩
  · go_wp2_with fail
    refine (l1Next w2 base g A m c (k + 1) l 4 s2 (by omega) (by omega)).mono ?_
    rintro e w3 ⟨p, rfl, hr3, -, s3, hw3, -⟩
    have zs3 : w2.heap.size ≤ w3.heap.size := by have q := hw3.size; first | exact q | (simp; done) | (simp at q; exact q) | (simp at q ⊢; omega)
    have r_3 := r_2.within hw3 (by first | omega | (simp; omega))
    have WI3 := WI2.trans hw3
    have zw3 := WI3.size
    have g3 := s3.at_.lt
    obtain ⟨hr3a, hr3b⟩ := hr3 (by omega)
    have r_4 := r_3.alloc (.cells #[.int .i64 0, .int .i64 1, .int .i64 2, .int .i64 3, .int .i64 9999] 2)
    have s4 := s3.alloc (.cells #[.int .i64 0, .int .i64 1, .int .i64 2, .int .i64 3, .int .i64 9999] 2)
    have g4 := s4.at_.lt
    have WI4 := WI3.alloc (.cells #[.int .i64 0, .int .i64 1, .int .i64 2, .int .i64 3, .int .i64 9999] 2)
    have zw4 := WI4.size
    go_wp2_with fail
    refine (l1Pick (w3.alloc (.cells #[.int .i64 0, .int .i64 1, .int .i64 2, .int .i64 3, .int .i64 9999] 2)) base g A m c ((k + 1) + 1) l (w3.heap.size) #[.int .i64 0, .int .i64 1, .int .i64 2, .int .i64 3, .int .i64 9999] [0, 1, 2, 3, 9999] 5 5 s4 (by omega) (At.newAt' (show w3.heap.size = w3.heap.size by first | rfl | simp)) (by simp [intCells]) (by first | omega | (simp; omega)) rfl (by omega) (by omega)).mono ?_
    rintro e w5 ⟨v, hv5, rfl, s5, hw5, -⟩
    have zs5 : w3.heap.size + 1 ≤ w5.heap.size := by have q := hw5.size; first | exact q | (simp; done) | (simp at q; exact q) | (simp at q ⊢; omega)
    have r_5 := r_4.within hw5 (by first | omega | (simp; omega))
    have WI5 := WI4.trans hw5
    have zw5 := WI5.size
    have g5 := s5.at_.lt
    have rc0 : World.cell? w5 ⟨w.heap.size, 0, none⟩ = some (.int .i64 0) := r_5.cell 0
    have rc1 : World.cell? w5 ⟨w.heap.size, 1, none⟩ = some (.int .i64 0) := r_5.cell 1
    have rc2 : World.cell? w5 ⟨w.heap.size, 2, none⟩ = some (.int .i64 0) := r_5.cell 2
    have rc3 : World.cell? w5 ⟨w.heap.size, 3, none⟩ = some (.int .i64 0) := r_5.cell 3
    have rc4 : World.cell? w5 ⟨w.heap.size, 4, none⟩ = some (.int .i64 0) := r_5.cell 4
    have rc5 : World.cell? w5 ⟨w.heap.size, 5, none⟩ = some (.int .i64 0) := r_5.cell 5
    have rc6 : World.cell? w5 ⟨w.heap.size, 6, none⟩ = some (.int .i64 0) := r_5.cell 6
    have rf0 : World.frozen? w5 ⟨w.heap.size, 0, none⟩ = false := r_5.frozen 0
    have rf1 : World.frozen? w5 ⟨w.heap.size, 1, none⟩ = false := r_5.frozen 1
    have rf2 : World.frozen? w5 ⟨w.heap.size, 2, none⟩ = false := r_5.frozen 2
    have rf3 : World.frozen? w5 ⟨w.heap.size, 3, none⟩ = false := r_5.frozen 3
    have rf4 : World.frozen? w5 ⟨w.heap.size, 4, none⟩ = false := r_5.frozen 4
    have rf5 : World.frozen? w5 ⟨w.heap.size, 5, none⟩ = false := r_5.frozen 5
    have rf6 : World.frozen? w5 ⟨w.heap.size, 6, none⟩ = false := r_5.frozen 6
    go_wp2_with fail
    have s6 := s5.put (p := ⟨w.heap.size, 0, none⟩) (by show _ < w.heap.size; first | omega | (simp; omega)) (.int .i64 3)
    have WI6 := WI5.put (p := ⟨w.heap.size, 0, none⟩) (by show _ ≤ w.heap.size; first | exact Nat.le_refl _ | omega | (simp; omega)) (.int .i64 3)
    have r_6 := r_5.set 0 (.int .i64 3)
    have s7 := s6.put (p := ⟨w.heap.size, 1, none⟩) (by show _ < w.heap.size; first | omega | (simp; omega)) (.int .i64 p)
    have WI7 := WI6.put (p := ⟨w.heap.size, 1, none⟩) (by show _ ≤ w.heap.size; first | exact Nat.le_refl _ | omega | (simp; omega)) (.int .i64 p)
    have r_7 := r_6.set 1 (.int .i64 p)
    have s8 := s7.put (p := ⟨w.heap.size, 2, none⟩) (by show _ < w.heap.size; first | omega | (simp; omega)) (.int .i64 0)
    have WI8 := WI7.put (p := ⟨w.heap.size, 2, none⟩) (by show _ ≤ w.heap.size; first | exact Nat.le_refl _ | omega | (simp; omega)) (.int .i64 0)
    have r_8 := r_7.set 2 (.int .i64 0)
    have s9 := s8.put (p := ⟨w.heap.size, 3, none⟩) (by show _ < w.heap.size; first | omega | (simp; omega)) (.int .i64 0)
    have WI9 := WI8.put (p := ⟨w.heap.size, 3, none⟩) (by show _ ≤ w.heap.size; first | exact Nat.le_refl _ | omega | (simp; omega)) (.int .i64 0)
    have r_9 := r_8.set 3 (.int .i64 0)
    have s10 := s9.put (p := ⟨w.heap.size, 4, none⟩) (by show _ < w.heap.size; first | omega | (simp; omega)) (.int .i64 0)
    have WI10 := WI9.put (p := ⟨w.heap.size, 4, none⟩) (by show _ ≤ w.heap.size; first | exact Nat.le_refl _ | omega | (simp; omega)) (.int .i64 0)
    have r_10 := r_9.set 4 (.int .i64 0)
    have s11 := s10.put (p := ⟨w.heap.size, 5, none⟩) (by show _ < w.heap.size; first | omega | (simp; omega)) (.int .i64 0)
    have WI11 := WI10.put (p := ⟨w.heap.size, 5, none⟩) (by show _ ≤ w.heap.size; first | exact Nat.le_refl _ | omega | (simp; omega)) (.int .i64 0)
    have r_11 := r_10.set 5 (.int .i64 0)
    have s12 := s11.put (p := ⟨w.heap.size, 6, none⟩) (by show _ < w.heap.size; first | omega | (simp; omega)) (.int .i64 v)
    have WI12 := WI11.put (p := ⟨w.heap.size, 6, none⟩) (by show _ ≤ w.heap.size; first | exact Nat.le_refl _ | omega | (simp; omega)) (.int .i64 v)
    have r_12 := r_11.set 6 (.int .i64 v)
    refine bodyPost_ret (v := .agg #[.int .i64 3, .int .i64 p, .int .i64 0, .int .i64 0, .int .i64 0, .int .i64 0, .int .i64 v]) (by simp [results, Tryz.results39, go_sem, rc0, rc1, rc2, rc3, rc4, rc5, rc6]) rfl ?_
    exact ⟨_, _, _, _, _, _, _, rfl, by rw [rec3, if_pos (by rw [node_small hr3a hr3b, pick_in 0 9999 hv5 rfl]; rfl)], ⟨_, by omega, s12⟩, WI12⟩
  · have bq0 : (q == 0) = false := by simp; omega
    have bq1 : (q == 1) = false := by simp; omega
    have bq2 : (q == 2) = false := by simp; omega
    have bq3 : (q == 3) = false := by simp; omega
    have bq4 : (q == 4) = false := by simp; omega
    have r_3 := r_2.alloc (.cells #[.int .i64 0, .int .i64 1, .int .i64 5, .int .i64 60000] 2)
    have s3 := s2.alloc (.cells #[.int .i64 0, .int .i64 1, .int .i64 5, .int .i64 60000] 2)
    have g3 := s3.at_.lt
    have WI3 := WI2.alloc (.cells #[.int .i64 0, .int .i64 1, .int .i64 5, .int .i64 60000] 2)
    have zw3 := WI3.size
    go_wp2_with fail
    refine (l1Pick (w2.alloc (.cells #[.int .i64 0, .int .i64 1, .int .i64 5, .int .i64 60000] 2)) base g A m c (k + 1) l (w2.heap.size) #[.int .i64 0, .int .i64 1, .int .i64 5, .int .i64 60000] [0, 1, 5, 60000] 4 4 s3 (by omega) (At.newAt' (show w2.heap.size = w2.heap.size by first | rfl | simp)) (by simp [intCells]) (by first | omega | (simp; omega)) rfl (by omega) (by omega)).mono ?_
    rintro e w4 ⟨v, hv4, rfl, s4, hw4, -⟩
    have zs4 : w2.heap.size + 1 ≤ w4.heap.size := by have q := hw4.size; first | exact q | (simp; done) | (simp at q; exact q) | (simp at q ⊢; omega)
    have r_4 := r_3.within hw4 (by first | omega | (simp; omega))
    have WI4 := WI3.trans hw4
    have zw4 := WI4.size
    have g4 := s4.at_.lt
    have rc0 : World.cell? w4 ⟨w.heap.size, 0, none⟩ = some (.int .i64 0) := r_4.cell 0
    have rc1 : World.cell? w4 ⟨w.heap.size, 1, none⟩ = some (.int .i64 0) := r_4.cell 1
    have rc2 : World.cell? w4 ⟨w.heap.size, 2, none⟩ = some (.int .i64 0) := r_4.cell 2
    have rc3 : World.cell? w4 ⟨w.heap.size, 3, none⟩ = some (.int .i64 0) := r_4.cell 3
    have rc4 : World.cell? w4 ⟨w.heap.size, 4, none⟩ = some (.int .i64 0) := r_4.cell 4
    have rc5 : World.cell? w4 ⟨w.heap.size, 5, none⟩ = some (.int .i64 0) := r_4.cell 5
    have rc6 : World.cell? w4 ⟨w.heap.size, 6, none⟩ = some (.int .i64 0) := r_4.cell 6
    have rf0 : World.frozen? w4 ⟨w.heap.size, 0, none⟩ = false := r_4.frozen 0
    have rf1 : World.frozen? w4 ⟨w.heap.size, 1, none⟩ = false := r_4.frozen 1
    have rf2 : World.frozen? w4 ⟨w.heap.size, 2, none⟩ = false := r_4.frozen 2
    have rf3 : World.frozen? w4 ⟨w.heap.size, 3, none⟩ = false := r_4.frozen 3
    have rf4 : World.frozen? w4 ⟨w.heap.size, 4, none⟩ = false := r_4.frozen 4
    have rf5 : World.frozen? w4 ⟨w.heap.size, 5, none⟩ = false := r_4.frozen 5
    have rf6 : World.frozen? w4 ⟨w.heap.size, 6, none⟩ = false := r_4.frozen 6
    go_wp2_with fail
    have s5 := s4.put (p := ⟨w.heap.size, 0, none⟩) (by show _ < w.heap.size; first | omega | (simp; omega)) (.int .i64 4)
    have WI5 := WI4.put (p := ⟨w.heap.size, 0, none⟩) (by show _ ≤ w.heap.size; first | exact Nat.le_refl _ | omega | (simp; omega)) (.int .i64 4)
    have r_5 := r_4.set 0 (.int .i64 4)
    have s6 := s5.put (p := ⟨w.heap.size, 1, none⟩) (by show _ < w.heap.size; first | omega | (simp; omega)) (.int .i64 0)
    have WI6 := WI5.put (p := ⟨w.heap.size, 1, none⟩) (by show _ ≤ w.heap.size; first | exact Nat.le_refl _ | omega | (simp; omega)) (.int .i64 0)
    have r_6 := r_5.set 1 (.int .i64 0)
    have s7 := s6.put (p := ⟨w.heap.size, 2, none⟩) (by show _ < w.heap.size; first | omega | (simp; omega)) (.int .i64 0)
    have WI7 := WI6.put (p := ⟨w.heap.size, 2, none⟩) (by show _ ≤ w.heap.size; first | exact Nat.le_refl _ | omega | (simp; omega)) (.int .i64 0)
    have r_7 := r_6.set 2 (.int .i64 0)
    have s8 := s7.put (p := ⟨w.heap.size, 3, none⟩) (by show _ < w.heap.size; first | omega | (simp; omega)) (.int .i64 0)
    have WI8 := WI7.put (p := ⟨w.heap.size, 3, none⟩) (by show _ ≤ w.heap.size; first | exact Nat.le_refl _ | omega | (simp; omega)) (.int .i64 0)
    have r_8 := r_7.set 3 (.int .i64 0)
    have s9 := s8.put (p := ⟨w.heap.size, 4, none⟩) (by show _ < w.heap.size; first | omega | (simp; omega)) (.int .i64 0)
    have WI9 := WI8.put (p := ⟨w.heap.size, 4, none⟩) (by show _ ≤ w.heap.size; first | exact Nat.le_refl _ | omega | (simp; omega)) (.int .i64 0)
    have r_9 := r_8.set 4 (.int .i64 0)
    have s10 := s9.put (p := ⟨w.heap.size, 5, none⟩) (by show _ < w.heap.size; first | omega | (simp; omega)) (.int .i64 0)
    have WI10 := WI9.put (p := ⟨w.heap.size, 5, none⟩) (by show _ ≤ w.heap.size; first | exact Nat.le_refl _ | omega | (simp; omega)) (.int .i64 0)
    have r_10 := r_9.set 5 (.int .i64 0)
    have s11 := s10.put (p := ⟨w.heap.size, 6, none⟩) (by show _ < w.heap.size; first | omega | (simp; omega)) (.int .i64 v)
    have WI11 := WI10.put (p := ⟨w.heap.size, 6, none⟩) (by show _ ≤ w.heap.size; first | exact Nat.le_refl _ | omega | (simp; omega)) (.int .i64 v)
    have r_11 := r_10.set 6 (.int .i64 v)
    refine bodyPost_ret (v := .agg #[.int .i64 4, .int .i64 0, .int .i64 0, .int .i64 0, .int .i64 0, .int .i64 0, .int .i64 v]) (by simp [results, Tryz.results39, go_sem, rc0, rc1, rc2, rc3, rc4, rc5, rc6]) rfl ?_
    exact ⟨_, _, _, _, _, _, _, rfl, by rw [rec4, if_pos (pick_in 0 60000 hv4 rfl)], ⟨_, by omega, s11⟩, WI11⟩

set_option maxHeartbeats 4000000 in
theorem l5Bent (w : World) (base g : Nat) (A : Option Addr) (m c k : Nat) (l : List UInt8) (h : Src w base g A m c k l) (hk : k < 800000000) :
    Calls Tryz.prog 34 #[.pointer (some ⟨g, 0, none⟩)] w fun e w' => ∃ a0 a1 a2 a3 a4 a5 a6 : Int, e = .returned (.agg #[.int .i64 a0, .int .i64 a1, .int .i64 a2, .int .i64 a3, .int .i64 a4, .int .i64 a5, .int .i64 a6]) ∧ (∃ k' : Nat, k' ≤ k + 20 ∧ Src w' base g A m c k' l) ∧ Within g (g + 1) w w' := by
  have g0 := h.at_.lt
  have WI0 := Within.refl g (g + 1) w
  have r := At.newAt' (w := w) (t := 27) (cs := #[.int .i64 0, .int .i64 0, .int .i64 0, .int .i64 0, .int .i64 0, .int .i64 0, .int .i64 0]) (show w.heap.size = w.heap.size by first | rfl | simp)
  have s1 := h.alloc (.cells #[.int .i64 0, .int .i64 0, .int .i64 0, .int .i64 0, .int .i64 0, .int .i64 0, .int .i64 0] 27)
  have g1 := s1.at_.lt
  have WI1 := WI0.alloc (.cells #[.int .i64 0, .int .i64 0, .int .i64 0, .int .i64 0, .int .i64 0, .int .i64 0, .int .i64 0] 27)
  have zw1 := WI1.size
  go_enter Tryz.func34, Tryz.ntmps34
  go_wp2_with fail
  refine (l5Draw (w.alloc (.cells #[.int .i64 0, .int .i64 0, .int .i64 0, .int .i64 0, .int .i64 0, .int .i64 0, .int .i64 0] 27)) base g A m c k l s1 (by omega)).mono ?_
  rintro e w2 ⟨a0, a1, a2, a3, a4, a5, a6, rfl, -, ⟨k2, hk2, s2⟩, hw2⟩
  have zs2 : w.heap.size + 1 ≤ w2.heap.size := by have q := hw2.size; first | exact q | (simp; done) | (simp at q; exact q) | (simp at q ⊢; omega)
  have r_2 := r.within hw2 (by first | omega | (simp; omega))
  have WI2 := WI1.trans hw2
  have zw2 := WI2.size
  have g2 := s2.at_.lt
  have x := At.newAt' (w := w2) (t := 27) (cs := #[.int .i64 a0, .int .i64 a1, .int .i64 a2, .int .i64 a3, .int .i64 a4, .int .i64 a5, .int .i64 a6]) (show w2.heap.size = w2.heap.size by first | rfl | simp)
  have ln3_r : w.heap.size < w2.heap.size := by have q := r_2.lt; first | exact q | (simp; done) | (simp at q; exact q) | (simp at q ⊢; omega)
  have hn3_r : ¬ w.heap.size = w2.heap.size := by omega
  have hm3_r : ¬ w2.heap.size = w.heap.size := by omega
  have r_3 := r_2.alloc (.cells #[.int .i64 a0, .int .i64 a1, .int .i64 a2, .int .i64 a3, .int .i64 a4, .int .i64 a5, .int .i64 a6] 27)
  have s3 := s2.alloc (.cells #[.int .i64 a0, .int .i64 a1, .int .i64 a2, .int .i64 a3, .int .i64 a4, .int .i64 a5, .int .i64 a6] 27)
  have g3 := s3.at_.lt
  have WI3 := WI2.alloc (.cells #[.int .i64 a0, .int .i64 a1, .int .i64 a2, .int .i64 a3, .int .i64 a4, .int .i64 a5, .int .i64 a6] 27)
  have zw3 := WI3.size
  go_wp2_with fail
  refine (l1Next (w2.alloc (.cells #[.int .i64 a0, .int .i64 a1, .int .i64 a2, .int .i64 a3, .int .i64 a4, .int .i64 a5, .int .i64 a6] 27)) base g A m c k2 l 12 s3 (by omega) (by omega)).mono ?_
  rintro e w4 ⟨q, rfl, hr4, -, s4, hw4, -⟩
  have zs4 : w2.heap.size + 1 ≤ w4.heap.size := by have q := hw4.size; first | exact q | (simp; done) | (simp at q; exact q) | (simp at q ⊢; omega)
  have r_4 := r_3.within hw4 (by first | omega | (simp; omega))
  have x_4 := x.within hw4 (by first | omega | (simp; omega))
  have WI4 := WI3.trans hw4
  have zw4 := WI4.size
  have g4 := s4.at_.lt
  obtain ⟨hr4a, hr4b⟩ := hr4 (by omega)
  rcases (show q = 0 ∨ q = 1 ∨ q = 2 ∨ q = 3 ∨ 4 ≤ q by omega) with rfl | rfl | rfl | rfl | hq4
  · have r_5 := r_4.alloc (.cells #[.int .i64 0, .int .i64 1, .int .i64 3, .int .i64 5] 2)
    have x_5 := x_4.alloc (.cells #[.int .i64 0, .int .i64 1, .int .i64 3, .int .i64 5] 2)
    have s5 := s4.alloc (.cells #[.int .i64 0, .int .i64 1, .int .i64 3, .int .i64 5] 2)
    have g5 := s5.at_.lt
    have WI5 := WI4.alloc (.cells #[.int .i64 0, .int .i64 1, .int .i64 3, .int .i64 5] 2)
    have zw5 := WI5.size
    go_wp2_with fail
    refine (l1Pick (w4.alloc (.cells #[.int .i64 0, .int .i64 1, .int .i64 3, .int .i64 5] 2)) base g A m c (k2 + 1) l (w4.heap.size) #[.int .i64 0, .int .i64 1, .int .i64 3, .int .i64 5] [0, 1, 3, 5] 4 4 s5 (by omega) (At.newAt' (show w4.heap.size = w4.heap.size by first | rfl | simp)) (by simp [intCells]) (by first | omega | (simp; omega)) rfl (by omega) (by omega)).mono ?_
    rintro e w6 ⟨v, hv6, rfl, s6, hw6, -⟩
    have zs6 : w4.heap.size + 1 ≤ w6.heap.size := by have q := hw6.size; first | exact q | (simp; done) | (simp at q; exact q) | (simp at q ⊢; omega)
    have r_6 := r_5.within hw6 (by first | omega | (simp; omega))
    have x_6 := x_5.within hw6 (by first | omega | (simp; omega))
    have WI6 := WI5.trans hw6
    have zw6 := WI6.size
    have g6 := s6.at_.lt
    have xc0 : World.cell? w6 ⟨w2.heap.size, 0, none⟩ = some (.int .i64 a0) := x_6.cell 0
    have xc1 : World.cell? w6 ⟨w2.heap.size, 1, none⟩ = some (.int .i64 a1) := x_6.cell 1
    have xc2 : World.cell? w6 ⟨w2.heap.size, 2, none⟩ = some (.int .i64 a2) := x_6.cell 2
    have xc3 : World.cell? w6 ⟨w2.heap.size, 3, none⟩ = some (.int .i64 a3) := x_6.cell 3
    have xc4 : World.cell? w6 ⟨w2.heap.size, 4, none⟩ = some (.int .i64 a4) := x_6.cell 4
    have xc5 : World.cell? w6 ⟨w2.heap.size, 5, none⟩ = some (.int .i64 a5) := x_6.cell 5
    have xc6 : World.cell? w6 ⟨w2.heap.size, 6, none⟩ = some (.int .i64 a6) := x_6.cell 6
    have xf0 : World.frozen? w6 ⟨w2.heap.size, 0, none⟩ = false := x_6.frozen 0
    have xf1 : World.frozen? w6 ⟨w2.heap.size, 1, none⟩ = false := x_6.frozen 1
    have xf2 : World.frozen? w6 ⟨w2.heap.size, 2, none⟩ = false := x_6.frozen 2
    have xf3 : World.frozen? w6 ⟨w2.heap.size, 3, none⟩ = false := x_6.frozen 3
    have xf4 : World.frozen? w6 ⟨w2.heap.size, 4, none⟩ = false := x_6.frozen 4
    have xf5 : World.frozen? w6 ⟨w2.heap.size, 5, none⟩ = false := x_6.frozen 5
    have xf6 : World.frozen? w6 ⟨w2.heap.size, 6, none⟩ = false := x_6.frozen 6
    have rc0 : World.cell? w6 ⟨w.heap.size, 0, none⟩ = some (.int .i64 0) := r_6.cell 0
    have rc1 : World.cell? w6 ⟨w.heap.size, 1, none⟩ = some (.int .i64 0) := r_6.cell 1
    have rc2 : World.cell? w6 ⟨w.heap.size, 2, none⟩ = some (.int .i64 0) := r_6.cell 2
    have rc3 : World.cell? w6 ⟨w.heap.size, 3, none⟩ = some (.int .i64 0) := r_6.cell 3
    have rc4 : World.cell? w6 ⟨w.heap.size, 4, none⟩ = some (.int .i64 0) := r_6.cell 4
    have rc5 : World.cell? w6 ⟨w.heap.size, 5, none⟩ = some (.int .i64 0) := r_6.cell 5
    have rc6 : World.cell? w6 ⟨w.heap.size, 6, none⟩ = some (.int .i64 0) := r_6.cell 6
    have rf0 : World.frozen? w6 ⟨w.heap.size, 0, none⟩ = false := r_6.frozen 0
    have rf1 : World.frozen? w6 ⟨w.heap.size, 1, none⟩ = false := r_6.frozen 1
    have rf2 : World.frozen? w6 ⟨w.heap.size, 2, none⟩ = false := r_6.frozen 2
    have rf3 : World.frozen? w6 ⟨w.heap.size, 3, none⟩ = false := r_6.frozen 3
    have rf4 : World.frozen? w6 ⟨w.heap.size, 4, none⟩ = false := r_6.frozen 4
    have rf5 : World.frozen? w6 ⟨w.heap.size, 5, none⟩ = false := r_6.frozen 5
    have rf6 : World.frozen? w6 ⟨w.heap.size, 6, none⟩ = false := r_6.frozen 6
    go_wp2_with fail
    have r_7 := r_6.far (p := ⟨w2.heap.size, 0, none⟩) (by show _ ≠ w2.heap.size; first | omega | (simp; omega)) (.int .i64 v)
    have s7 := s6.put (p := ⟨w2.heap.size, 0, none⟩) (by show _ < w2.heap.size; first | omega | (simp; omega)) (.int .i64 v)
    have WI7 := WI6.put (p := ⟨w2.heap.size, 0, none⟩) (by show _ ≤ w2.heap.size; first | exact Nat.le_refl _ | omega | (simp; omega)) (.int .i64 v)
    have x_7 := x_6.set 0 (.int .i64 v)
    have x_8 := x_7.far (p := ⟨w.heap.size, 0, none⟩) (by show _ ≠ w.heap.size; first | omega | (simp; omega)) (.int .i64 v)
    have s8 := s7.put (p := ⟨w.heap.size, 0, none⟩) (by show _ < w.heap.size; first | omega | (simp; omega)) (.int .i64 v)
    have WI8 := WI7.put (p := ⟨w.heap.size, 0, none⟩) (by show _ ≤ w.heap.size; first | exact Nat.le_refl _ | omega | (simp; omega)) (.int .i64 v)
    have r_8 := r_7.set 0 (.int .i64 v)
    have x_9 := x_8.far (p := ⟨w.heap.size, 1, none⟩) (by show _ ≠ w.heap.size; first | omega | (simp; omega)) (.int .i64 a1)
    have s9 := s8.put (p := ⟨w.heap.size, 1, none⟩) (by show _ < w.heap.size; first | omega | (simp; omega)) (.int .i64 a1)
    have WI9 := WI8.put (p := ⟨w.heap.size, 1, none⟩) (by show _ ≤ w.heap.size; first | exact Nat.le_refl _ | omega | (simp; omega)) (.int .i64 a1)
    have r_9 := r_8.set 1 (.int .i64 a1)
    have x_10 := x_9.far (p := ⟨w.heap.size, 2, none⟩) (by show _ ≠ w.heap.size; first | omega | (simp; omega)) (.int .i64 a2)
    have s10 := s9.put (p := ⟨w.heap.size, 2, none⟩) (by show _ < w.heap.size; first | omega | (simp; omega)) (.int .i64 a2)
    have WI10 := WI9.put (p := ⟨w.heap.size, 2, none⟩) (by show _ ≤ w.heap.size; first | exact Nat.le_refl _ | omega | (simp; omega)) (.int .i64 a2)
    have r_10 := r_9.set 2 (.int .i64 a2)
    have x_11 := x_10.far (p := ⟨w.heap.size, 3, none⟩) (by show _ ≠ w.heap.size; first | omega | (simp; omega)) (.int .i64 a3)
    have s11 := s10.put (p := ⟨w.heap.size, 3, none⟩) (by show _ < w.heap.size; first | omega | (simp; omega)) (.int .i64 a3)
    have WI11 := WI10.put (p := ⟨w.heap.size, 3, none⟩) (by show _ ≤ w.heap.size; first | exact Nat.le_refl _ | omega | (simp; omega)) (.int .i64 a3)
    have r_11 := r_10.set 3 (.int .i64 a3)
    have x_12 := x_11.far (p := ⟨w.heap.size, 4, none⟩) (by show _ ≠ w.heap.size; first | omega | (simp; omega)) (.int .i64 a4)
    have s12 := s11.put (p := ⟨w.heap.size, 4, none⟩) (by show _ < w.heap.size; first | omega | (simp; omega)) (.int .i64 a4)
    have WI12 := WI11.put (p := ⟨w.heap.size, 4, none⟩) (by show _ ≤ w.heap.size; first | exact Nat.le_refl _ | omega | (simp; omega)) (.int .i64 a4)
    have r_12 := r_11.set 4 (.int .i64 a4)
    have x_13 := x_12.far (p := ⟨w.heap.size, 5, none⟩) (by show _ ≠ w.heap.size; first | omega | (simp; omega)) (.int .i64 a5)
    have s13 := s12.put (p := ⟨w.heap.size, 5, none⟩) (by show _ < w.heap.size; first | omega | (simp; omega)) (.int .i64 a5)
    have WI13 := WI12.put (p := ⟨w.heap.size, 5, none⟩) (by show _ ≤ w.heap.size; first | exact Nat.le_refl _ | omega | (simp; omega)) (.int .i64 a5)
    have r_13 := r_12.set 5 (.int .i64 a5)
    have x_14 := x_13.far (p := ⟨w.heap.size, 6, none⟩) (by show _ ≠ w.heap.size; first | omega | (simp; omega)) (.int .i64 a6)
    have s14 := s13.put (p := ⟨w.heap.size, 6, none⟩) (by show _ < w.heap.size; first | omega | (simp; omega)) (.int .i64 a6)
    have WI14 := WI13.put (p := ⟨w.heap.size, 6, none⟩) (by show _ ≤ w.heap.size; first | exact Nat.le_refl _ | omega | (simp; omega)) (.int .i64 a6)
    have r_14 := r_13.set 6 (.int .i64 a6)
    refine bodyPost_ret (v := .agg #[.int .i64 v, .int .i64 a1, .int .i64 a2, .int .i64 a3, .int .i64 a4, .int .i64 a5, .int .i64 a6]) (by simp [results, Tryz.results34, go_sem, rc0, rc1, rc2, rc3, rc4, rc5, rc6, hn3_r, hm3_r]) rfl ?_
    exact ⟨_, _, _, _, _, _, _, rfl, ⟨_, by omega, s14⟩, WI14⟩
  · have r_5 := r_4.alloc (.cells #[.int .i64 (-1), .int .i64 4, .int .i64 1] 2)
    have x_5 := x_4.alloc (.cells #[.int .i64 (-1), .int .i64 4, .int .i64 1] 2)
    have s5 := s4.alloc (.cells #[.int .i64 (-1), .int .i64 4, .int .i64 1] 2)
    have g5 := s5.at_.lt
    have WI5 := WI4.alloc (.cells #[.int .i64 (-1), .int .i64 4, .int .i64 1] 2)
    have zw5 := WI5.size
    go_wp2_with fail
    refine (l1Pick (w4.alloc (.cells #[.int .i64 (-1), .int .i64 4, .int .i64 1] 2)) base g A m c (k2 + 1) l (w4.heap.size) #[.int .i64 (-1), .int .i64 4, .int .i64 1] [(-1), 4, 1] 3 3 s5 (by omega) (At.newAt' (show w4.heap.size = w4.heap.size by first | rfl | simp)) (by simp [intCells]) (by first | omega | (simp; omega)) rfl (by omega) (by omega)).mono ?_
    rintro e w6 ⟨v, hv6, rfl, s6, hw6, -⟩
    have zs6 : w4.heap.size + 1 ≤ w6.heap.size := by have q := hw6.size; first | exact q | (simp; done) | (simp at q; exact q) | (simp at q ⊢; omega)
    have r_6 := r_5.within hw6 (by first | omega | (simp; omega))
    have x_6 := x_5.within hw6 (by first | omega | (simp; omega))
    have WI6 := WI5.trans hw6
    have zw6 := WI6.size
    have g6 := s6.at_.lt
    have xc0 : World.cell? w6 ⟨w2.heap.size, 0, none⟩ = some (.int .i64 a0) := x_6.cell 0
    have xc1 : World.cell? w6 ⟨w2.heap.size, 1, none⟩ = some (.int .i64 a1) := x_6.cell 1
    have xc2 : World.cell? w6 ⟨w2.heap.size, 2, none⟩ = some (.int .i64 a2) := x_6.cell 2
    have xc3 : World.cell? w6 ⟨w2.heap.size, 3, none⟩ = some (.int .i64 a3) := x_6.cell 3
    have xc4 : World.cell? w6 ⟨w2.heap.size, 4, none⟩ = some (.int .i64 a4) := x_6.cell 4
    have xc5 : World.cell? w6 ⟨w2.heap.size, 5, none⟩ = some (.int .i64 a5) := x_6.cell 5
    have xc6 : World.cell? w6 ⟨w2.heap.size, 6, none⟩ = some (.int .i64 a6) := x_6.cell 6
    have xf0 : World.frozen? w6 ⟨w2.heap.size, 0, none⟩ = false := x_6.frozen 0
    have xf1 : World.frozen? w6 ⟨w2.heap.size, 1, none⟩ = false := x_6.frozen 1
    have xf2 : World.frozen? w6 ⟨w2.heap.size, 2, none⟩ = false := x_6.frozen 2
    have xf3 : World.frozen? w6 ⟨w2.heap.size, 3, none⟩ = false := x_6.frozen 3
    have xf4 : World.frozen? w6 ⟨w2.heap.size, 4, none⟩ = false := x_6.frozen 4
    have xf5 : World.frozen? w6 ⟨w2.heap.size, 5, none⟩ = false := x_6.frozen 5
    have xf6 : World.frozen? w6 ⟨w2.heap.size, 6, none⟩ = false := x_6.frozen 6
    have rc0 : World.cell? w6 ⟨w.heap.size, 0, none⟩ = some (.int .i64 0) := r_6.cell 0
    have rc1 : World.cell? w6 ⟨w.heap.size, 1, none⟩ = some (.int .i64 0) := r_6.cell 1
    have rc2 : World.cell? w6 ⟨w.heap.size, 2, none⟩ = some (.int .i64 0) := r_6.cell 2
    have rc3 : World.cell? w6 ⟨w.heap.size, 3, none⟩ = some (.int .i64 0) := r_6.cell 3
    have rc4 : World.cell? w6 ⟨w.heap.size, 4, none⟩ = some (.int .i64 0) := r_6.cell 4
    have rc5 : World.cell? w6 ⟨w.heap.size, 5, none⟩ = some (.int .i64 0) := r_6.cell 5
    have rc6 : World.cell? w6 ⟨w.heap.size, 6, none⟩ = some (.int .i64 0) := r_6.cell 6
    have rf0 : World.frozen? w6 ⟨w.heap.size, 0, none⟩ = false := r_6.frozen 0
    have rf1 : World.frozen? w6 ⟨w.heap.size, 1, none⟩ = false := r_6.frozen 1
    have rf2 : World.frozen? w6 ⟨w.heap.size, 2, none⟩ = false := r_6.frozen 2
    have rf3 : World.frozen? w6 ⟨w.heap.size, 3, none⟩ = false := r_6.frozen 3
    have rf4 : World.frozen? w6 ⟨w.heap.size, 4, none⟩ = false := r_6.frozen 4
    have rf5 : World.frozen? w6 ⟨w.heap.size, 5, none⟩ = false := r_6.frozen 5
    have rf6 : World.frozen? w6 ⟨w.heap.size, 6, none⟩ = false := r_6.frozen 6
    go_wp2_with fail
    have r_7 := r_6.far (p := ⟨w2.heap.size, 1, none⟩) (by show _ ≠ w2.heap.size; first | omega | (simp; omega)) (.int .i64 v)
    have s7 := s6.put (p := ⟨w2.heap.size, 1, none⟩) (by show _ < w2.heap.size; first | omega | (simp; omega)) (.int .i64 v)
    have WI7 := WI6.put (p := ⟨w2.heap.size, 1, none⟩) (by show _ ≤ w2.heap.size; first | exact Nat.le_refl _ | omega | (simp; omega)) (.int .i64 v)
    have x_7 := x_6.set 1 (.int .i64 v)
    have x_8 := x_7.far (p := ⟨w.heap.size, 0, none⟩) (by show _ ≠ w.heap.size; first | omega | (simp; omega)) (.int .i64 a0)
    have s8 := s7.put (p := ⟨w.heap.size, 0, none⟩) (by show _ < w.heap.size; first | omega | (simp; omega)) (.int .i64 a0)
    have WI8 := WI7.put (p := ⟨w.heap.size, 0, none⟩) (by show _ ≤ w.heap.size; first | exact Nat.le_refl _ | omega | (simp; omega)) (.int .i64 a0)
    have r_8 := r_7.set 0 (.int .i64 a0)
    have x_9 := x_8.far (p := ⟨w.heap.size, 1, none⟩) (by show _ ≠ w.heap.size; first | omega | (simp; omega)) (.int .i64 v)
    have s9 := s8.put (p := ⟨w.heap.size, 1, none⟩) (by show _ < w.heap.size; first | omega | (simp; omega)) (.int .i64 v)
    have WI9 := WI8.put (p := ⟨w.heap.size, 1, none⟩) (by show _ ≤ w.heap.size; first | exact Nat.le_refl _ | omega | (simp; omega)) (.int .i64 v)
    have r_9 := r_8.set 1 (.int .i64 v)
    have x_10 := x_9.far (p := ⟨w.heap.size, 2, none⟩) (by show _ ≠ w.heap.size; first | omega | (simp; omega)) (.int .i64 a2)
    have s10 := s9.put (p := ⟨w.heap.size, 2, none⟩) (by show _ < w.heap.size; first | omega | (simp; omega)) (.int .i64 a2)
    have WI10 := WI9.put (p := ⟨w.heap.size, 2, none⟩) (by show _ ≤ w.heap.size; first | exact Nat.le_refl _ | omega | (simp; omega)) (.int .i64 a2)
    have r_10 := r_9.set 2 (.int .i64 a2)
    have x_11 := x_10.far (p := ⟨w.heap.size, 3, none⟩) (by show _ ≠ w.heap.size; first | omega | (simp; omega)) (.int .i64 a3)
    have s11 := s10.put (p := ⟨w.heap.size, 3, none⟩) (by show _ < w.heap.size; first | omega | (simp; omega)) (.int .i64 a3)
    have WI11 := WI10.put (p := ⟨w.heap.size, 3, none⟩) (by show _ ≤ w.heap.size; first | exact Nat.le_refl _ | omega | (simp; omega)) (.int .i64 a3)
    have r_11 := r_10.set 3 (.int .i64 a3)
    have x_12 := x_11.far (p := ⟨w.heap.size, 4, none⟩) (by show _ ≠ w.heap.size; first | omega | (simp; omega)) (.int .i64 a4)
    have s12 := s11.put (p := ⟨w.heap.size, 4, none⟩) (by show _ < w.heap.size; first | omega | (simp; omega)) (.int .i64 a4)
    have WI12 := WI11.put (p := ⟨w.heap.size, 4, none⟩) (by show _ ≤ w.heap.size; first | exact Nat.le_refl _ | omega | (simp; omega)) (.int .i64 a4)
    have r_12 := r_11.set 4 (.int .i64 a4)
    have x_13 := x_12.far (p := ⟨w.heap.size, 5, none⟩) (by show _ ≠ w.heap.size; first | omega | (simp; omega)) (.int .i64 a5)
    have s13 := s12.put (p := ⟨w.heap.size, 5, none⟩) (by show _ < w.heap.size; first | omega | (simp; omega)) (.int .i64 a5)
    have WI13 := WI12.put (p := ⟨w.heap.size, 5, none⟩) (by show _ ≤ w.heap.size; first | exact Nat.le_refl _ | omega | (simp; omega)) (.int .i64 a5)
    have r_13 := r_12.set 5 (.int .i64 a5)
    have x_14 := x_13.far (p := ⟨w.heap.size, 6, none⟩) (by show _ ≠ w.heap.size; first | omega | (simp; omega)) (.int .i64 a6)
    have s14 := s13.put (p := ⟨w.heap.size, 6, none⟩) (by show _ < w.heap.size; first | omega | (simp; omega)) (.int .i64 a6)
    have WI14 := WI13.put (p := ⟨w.heap.size, 6, none⟩) (by show _ ≤ w.heap.size; first | exact Nat.le_refl _ | omega | (simp; omega)) (.int .i64 a6)
    have r_14 := r_13.set 6 (.int .i64 a6)
    refine bodyPost_ret (v := .agg #[.int .i64 a0, .int .i64 v, .int .i64 a2, .int .i64 a3, .int .i64 a4, .int .i64 a5, .int .i64 a6]) (by simp [results, Tryz.results34, go_sem, rc0, rc1, rc2, rc3, rc4, rc5, rc6, hn3_r, hm3_r]) rfl ?_
    exact ⟨_, _, _, _, _, _, _, rfl, ⟨_, by omega, s14⟩, WI14⟩
  · have r_5 := r_4.alloc (.cells #[.int .i64 (-1), .int .i64 10000, .int .i64 60001, .int .i64 1] 2)
    have x_5 := x_4.alloc (.cells #[.int .i64 (-1), .int .i64 10000, .int .i64 60001, .int .i64 1] 2)
    have s5 := s4.alloc (.cells #[.int .i64 (-1), .int .i64 10000, .int .i64 60001, .int .i64 1] 2)
    have g5 := s5.at_.lt
    have WI5 := WI4.alloc (.cells #[.int .i64 (-1), .int .i64 10000, .int .i64 60001, .int .i64 1] 2)
    have zw5 := WI5.size
    go_wp2_with fail
    refine (l1Pick (w4.alloc (.cells #[.int .i64 (-1), .int .i64 10000, .int .i64 60001, .int .i64 1] 2)) base g A m c (k2 + 1) l (w4.heap.size) #[.int .i64 (-1), .int .i64 10000, .int .i64 60001, .int .i64 1] [(-1), 10000, 60001, 1] 4 4 s5 (by omega) (At.newAt' (show w4.heap.size = w4.heap.size by first | rfl | simp)) (by simp [intCells]) (by first | omega | (simp; omega)) rfl (by omega) (by omega)).mono ?_
    rintro e w6 ⟨v, hv6, rfl, s6, hw6, -⟩
    have zs6 : w4.heap.size + 1 ≤ w6.heap.size := by have q := hw6.size; first | exact q | (simp; done) | (simp at q; exact q) | (simp at q ⊢; omega)
    have r_6 := r_5.within hw6 (by first | omega | (simp; omega))
    have x_6 := x_5.within hw6 (by first | omega | (simp; omega))
    have WI6 := WI5.trans hw6
    have zw6 := WI6.size
    have g6 := s6.at_.lt
    have xc0 : World.cell? w6 ⟨w2.heap.size, 0, none⟩ = some (.int .i64 a0) := x_6.cell 0
    have xc1 : World.cell? w6 ⟨w2.heap.size, 1, none⟩ = some (.int .i64 a1) := x_6.cell 1
    have xc2 : World.cell? w6 ⟨w2.heap.size, 2, none⟩ = some (.int .i64 a2) := x_6.cell 2
    have xc3 : World.cell? w6 ⟨w2.heap.size, 3, none⟩ = some (.int .i64 a3) := x_6.cell 3
    have xc4 : World.cell? w6 ⟨w2.heap.size, 4, none⟩ = some (.int .i64 a4) := x_6.cell 4
    have xc5 : World.cell? w6 ⟨w2.heap.size, 5, none⟩ = some (.int .i64 a5) := x_6.cell 5
    have xc6 : World.cell? w6 ⟨w2.heap.size, 6, none⟩ = some (.int .i64 a6) := x_6.cell 6
    have xf0 : World.frozen? w6 ⟨w2.heap.size, 0, none⟩ = false := x_6.frozen 0
    have xf1 : World.frozen? w6 ⟨w2.heap.size, 1, none⟩ = false := x_6.frozen 1
    have xf2 : World.frozen? w6 ⟨w2.heap.size, 2, none⟩ = false := x_6.frozen 2
    have xf3 : World.frozen? w6 ⟨w2.heap.size, 3, none⟩ = false := x_6.frozen 3
    have xf4 : World.frozen? w6 ⟨w2.heap.size, 4, none⟩ = false := x_6.frozen 4
    have xf5 : World.frozen? w6 ⟨w2.heap.size, 5, none⟩ = false := x_6.frozen 5
    have xf6 : World.frozen? w6 ⟨w2.heap.size, 6, none⟩ = false := x_6.frozen 6
    have rc0 : World.cell? w6 ⟨w.heap.size, 0, none⟩ = some (.int .i64 0) := r_6.cell 0
    have rc1 : World.cell? w6 ⟨w.heap.size, 1, none⟩ = some (.int .i64 0) := r_6.cell 1
    have rc2 : World.cell? w6 ⟨w.heap.size, 2, none⟩ = some (.int .i64 0) := r_6.cell 2
    have rc3 : World.cell? w6 ⟨w.heap.size, 3, none⟩ = some (.int .i64 0) := r_6.cell 3
    have rc4 : World.cell? w6 ⟨w.heap.size, 4, none⟩ = some (.int .i64 0) := r_6.cell 4
    have rc5 : World.cell? w6 ⟨w.heap.size, 5, none⟩ = some (.int .i64 0) := r_6.cell 5
    have rc6 : World.cell? w6 ⟨w.heap.size, 6, none⟩ = some (.int .i64 0) := r_6.cell 6
    have rf0 : World.frozen? w6 ⟨w.heap.size, 0, none⟩ = false := r_6.frozen 0
    have rf1 : World.frozen? w6 ⟨w.heap.size, 1, none⟩ = false := r_6.frozen 1
    have rf2 : World.frozen? w6 ⟨w.heap.size, 2, none⟩ = false := r_6.frozen 2
    have rf3 : World.frozen? w6 ⟨w.heap.size, 3, none⟩ = false := r_6.frozen 3
    have rf4 : World.frozen? w6 ⟨w.heap.size, 4, none⟩ = false := r_6.frozen 4
    have rf5 : World.frozen? w6 ⟨w.heap.size, 5, none⟩ = false := r_6.frozen 5
    have rf6 : World.frozen? w6 ⟨w.heap.size, 6, none⟩ = false := r_6.frozen 6
    go_wp2_with fail
    have r_7 := r_6.far (p := ⟨w2.heap.size, 6, none⟩) (by show _ ≠ w2.heap.size; first | omega | (simp; omega)) (.int .i64 v)
    have s7 := s6.put (p := ⟨w2.heap.size, 6, none⟩) (by show _ < w2.heap.size; first | omega | (simp; omega)) (.int .i64 v)
    have WI7 := WI6.put (p := ⟨w2.heap.size, 6, none⟩) (by show _ ≤ w2.heap.size; first | exact Nat.le_refl _ | omega | (simp; omega)) (.int .i64 v)
    have x_7 := x_6.set 6 (.int .i64 v)
    have x_8 := x_7.far (p := ⟨w.heap.size, 0, none⟩) (by show _ ≠ w.heap.size; first | omega | (simp; omega)) (.int .i64 a0)
    have s8 := s7.put (p := ⟨w.heap.size, 0, none⟩) (by show _ < w.heap.size; first | omega | (simp; omega)) (.int .i64 a0)
    have WI8 := WI7.put (p := ⟨w.heap.size, 0, none⟩) (by show _ ≤ w.heap.size; first | exact Nat.le_refl _ | omega | (simp; omega)) (.int .i64 a0)
    have r_8 := r_7.set 0 (.int .i64 a0)
    have x_9 := x_8.far (p := ⟨w.heap.size, 1, none⟩) (by show _ ≠ w.heap.size; first | omega | (simp; omega)) (.int .i64 a1)
    have s9 := s8.put (p := ⟨w.heap.size, 1, none⟩) (by show _ < w.heap.size; first | omega | (simp; omega)) (.int .i64 a1)
    have WI9 := WI8.put (p := ⟨w.heap.size, 1, none⟩) (by show _ ≤ w.heap.size; first | exact Nat.le_refl _ | omega | (simp; omega)) (.int .i64 a1)
    have r_9 := r_8.set 1 (.int .i64 a1)
    have x_10 := x_9.far (p := ⟨w.heap.size, 2, none⟩) (by show _ ≠ w.heap.size; first | omega | (simp; omega)) (.int .i64 a2)
    have s10 := s9.put (p := ⟨w.heap.size, 2, none⟩) (by show _ < w.heap.size; first | omega | (simp; omega)) (.int .i64 a2)
    have WI10 := WI9.put (p := ⟨w.heap.size, 2, none⟩) (by show _ ≤ w.heap.size; first | exact Nat.le_refl _ | omega | (simp; omega)) (.int .i64 a2)
    have r_10 := r_9.set 2 (.int .i64 a2)
    have x_11 := x_10.far (p := ⟨w.heap.size, 3, none⟩) (by show _ ≠ w.heap.size; first | omega | (simp; omega)) (.int .i64 a3)
    have s11 := s10.put (p := ⟨w.heap.size, 3, none⟩) (by show _ < w.heap.size; first | omega | (simp; omega)) (.int .i64 a3)
    have WI11 := WI10.put (p := ⟨w.heap.size, 3, none⟩) (by show _ ≤ w.heap.size; first | exact Nat.le_refl _ | omega | (simp; omega)) (.int .i64 a3)
    have r_11 := r_10.set 3 (.int .i64 a3)
    have x_12 := x_11.far (p := ⟨w.heap.size, 4, none⟩) (by show _ ≠ w.heap.size; first | omega | (simp; omega)) (.int .i64 a4)
    have s12 := s11.put (p := ⟨w.heap.size, 4, none⟩) (by show _ < w.heap.size; first | omega | (simp; omega)) (.int .i64 a4)
    have WI12 := WI11.put (p := ⟨w.heap.size, 4, none⟩) (by show _ ≤ w.heap.size; first | exact Nat.le_refl _ | omega | (simp; omega)) (.int .i64 a4)
    have r_12 := r_11.set 4 (.int .i64 a4)
    have x_13 := x_12.far (p := ⟨w.heap.size, 5, none⟩) (by show _ ≠ w.heap.size; first | omega | (simp; omega)) (.int .i64 a5)
    have s13 := s12.put (p := ⟨w.heap.size, 5, none⟩) (by show _ < w.heap.size; first | omega | (simp; omega)) (.int .i64 a5)
    have WI13 := WI12.put (p := ⟨w.heap.size, 5, none⟩) (by show _ ≤ w.heap.size; first | exact Nat.le_refl _ | omega | (simp; omega)) (.int .i64 a5)
    have r_13 := r_12.set 5 (.int .i64 a5)
    have x_14 := x_13.far (p := ⟨w.heap.size, 6, none⟩) (by show _ ≠ w.heap.size; first | omega | (simp; omega)) (.int .i64 v)
    have s14 := s13.put (p := ⟨w.heap.size, 6, none⟩) (by show _ < w.heap.size; first | omega | (simp; omega)) (.int .i64 v)
    have WI14 := WI13.put (p := ⟨w.heap.size, 6, none⟩) (by show _ ≤ w.heap.size; first | exact Nat.le_refl _ | omega | (simp; omega)) (.int .i64 v)
    have r_14 := r_13.set 6 (.int .i64 v)
    refine bodyPost_ret (v := .agg #[.int .i64 a0, .int .i64 a1, .int .i64 a2, .int .i64 a3, .int .i64 a4, .int .i64 a5, .int .i64 v]) (by simp [results, Tryz.results34, go_sem, rc0, rc1, rc2, rc3, rc4, rc5, rc6, hn3_r, hm3_r]) rfl ?_
    exact ⟨_, _, _, _, _, _, _, rfl, ⟨_, by omega, s14⟩, WI14⟩
  · go_wp2_with fail
    refine (l2Bent w4 base g A m c (k2 + 1) l s4 (by omega)).mono ?_
    rintro e w5 ⟨b0, b1, b2, b3, rfl, ⟨k5, hk5, s5⟩, hw5⟩
    have zs5 : w4.heap.size ≤ w5.heap.size := by have q := hw5.size; first | exact q | (simp; done) | (simp at q; exact q) | (simp at q ⊢; omega)
    have r_5 := r_4.within hw5 (by first | omega | (simp; omega))
    have x_5 := x_4.within hw5 (by first | omega | (simp; omega))
    have WI5 := WI4.trans hw5
    have zw5 := WI5.size
    have g5 := s5.at_.lt
    have xc0 : World.cell? w5 ⟨w2.heap.size, 0, none⟩ = some (.int .i64 a0) := x_5.cell 0
    have xc1 : World.cell? w5 ⟨w2.heap.size, 1, none⟩ = some (.int .i64 a1) := x_5.cell 1
    have xc2 : World.cell? w5 ⟨w2.heap.size, 2, none⟩ = some (.int .i64 a2) := x_5.cell 2
    have xc3 : World.cell? w5 ⟨w2.heap.size, 3, none⟩ = some (.int .i64 a3) := x_5.cell 3
    have xc4 : World.cell? w5 ⟨w2.heap.size, 4, none⟩ = some (.int .i64 a4) := x_5.cell 4
    have xc5 : World.cell? w5 ⟨w2.heap.size, 5, none⟩ = some (.int .i64 a5) := x_5.cell 5
    have xc6 : World.cell? w5 ⟨w2.heap.size, 6, none⟩ = some (.int .i64 a6) := x_5.cell 6
    have xf0 : World.frozen? w5 ⟨w2.heap.size, 0, none⟩ = false := x_5.frozen 0
    have xf1 : World.frozen? w5 ⟨w2.heap.size, 1, none⟩ = false := x_5.frozen 1
    have xf2 : World.frozen? w5 ⟨w2.heap.size, 2, none⟩ = false := x_5.frozen 2
    have xf3 : World.frozen? w5 ⟨w2.heap.size, 3, none⟩ = false := x_5.frozen 3
    have xf4 : World.frozen? w5 ⟨w2.heap.size, 4, none⟩ = false := x_5.frozen 4
    have xf5 : World.frozen? w5 ⟨w2.heap.size, 5, none⟩ = false := x_5.frozen 5
    have xf6 : World.frozen? w5 ⟨w2.heap.size, 6, none⟩ = false := x_5.frozen 6
    have rc0 : World.cell? w5 ⟨w.heap.size, 0, none⟩ = some (.int .i64 0) := r_5.cell 0
    have rc1 : World.cell? w5 ⟨w.heap.size, 1, none⟩ = some (.int .i64 0) := r_5.cell 1
    have rc2 : World.cell? w5 ⟨w.heap.size, 2, none⟩ = some (.int .i64 0) := r_5.cell 2
    have rc3 : World.cell? w5 ⟨w.heap.size, 3, none⟩ = some (.int .i64 0) := r_5.cell 3
    have rc4 : World.cell? w5 ⟨w.heap.size, 4, none⟩ = some (.int .i64 0) := r_5.cell 4
    have rc5 : World.cell? w5 ⟨w.heap.size, 5, none⟩ = some (.int .i64 0) := r_5.cell 5
    have rc6 : World.cell? w5 ⟨w.heap.size, 6, none⟩ = some (.int .i64 0) := r_5.cell 6
    have rf0 : World.frozen? w5 ⟨w.heap.size, 0, none⟩ = false := r_5.frozen 0
    have rf1 : World.frozen? w5 ⟨w.heap.size, 1, none⟩ = false := r_5.frozen 1
    have rf2 : World.frozen? w5 ⟨w.heap.size, 2, none⟩ = false := r_5.frozen 2
    have rf3 : World.frozen? w5 ⟨w.heap.size, 3, none⟩ = false := r_5.frozen 3
    have rf4 : World.frozen? w5 ⟨w.heap.size, 4, none⟩ = false := r_5.frozen 4
    have rf5 : World.frozen? w5 ⟨w.heap.size, 5, none⟩ = false := r_5.frozen 5
    have rf6 : World.frozen? w5 ⟨w.heap.size, 6, none⟩ = false := r_5.frozen 6
    go_wp2_with fail
    have r_6 := r_5.far (p := ⟨w2.heap.size, 2, none⟩) (by show _ ≠ w2.heap.size; first | omega | (simp; omega)) (.int .i64 b0)
    have s6 := s5.put (p := ⟨w2.heap.size, 2, none⟩) (by show _ < w2.heap.size; first | omega | (simp; omega)) (.int .i64 b0)
    have WI6 := WI5.put (p := ⟨w2.heap.size, 2, none⟩) (by show _ ≤ w2.heap.size; first | exact Nat.le_refl _ | omega | (simp; omega)) (.int .i64 b0)
    have x_6 := x_5.set 2 (.int .i64 b0)
    have r_7 := r_6.far (p := ⟨w2.heap.size, 3, none⟩) (by show _ ≠ w2.heap.size; first | omega | (simp; omega)) (.int .i64 b1)
    have s7 := s6.put (p := ⟨w2.heap.size, 3, none⟩) (by show _ < w2.heap.size; first | omega | (simp; omega)) (.int .i64 b1)
    have WI7 := WI6.put (p := ⟨w2.heap.size, 3, none⟩) (by show _ ≤ w2.heap.size; first | exact Nat.le_refl _ | omega | (simp; omega)) (.int .i64 b1)
    have x_7 := x_6.set 3 (.int .i64 b1)
    have r_8 := r_7.far (p := ⟨w2.heap.size, 4, none⟩) (by show _ ≠ w2.heap.size; first | omega | (simp; omega)) (.int .i64 b2)
    have s8 := s7.put (p := ⟨w2.heap.size, 4, none⟩) (by show _ < w2.heap.size; first | omega | (simp; omega)) (.int .i64 b2)
    have WI8 := WI7.put (p := ⟨w2.heap.size, 4, none⟩) (by show _ ≤ w2.heap.size; first | exact Nat.le_refl _ | omega | (simp; omega)) (.int .i64 b2)
    have x_8 := x_7.set 4 (.int .i64 b2)
    have r_9 := r_8.far (p := ⟨w2.heap.size, 5, none⟩) (by show _ ≠ w2.heap.size; first | omega | (simp; omega)) (.int .i64 b3)
    have s9 := s8.put (p := ⟨w2.heap.size, 5, none⟩) (by show _ < w2.heap.size; first | omega | (simp; omega)) (.int .i64 b3)
    have WI9 := WI8.put (p := ⟨w2.heap.size, 5, none⟩) (by show _ ≤ w2.heap.size; first | exact Nat.le_refl _ | omega | (simp; omega)) (.int .i64 b3)
    have x_9 := x_8.set 5 (.int .i64 b3)
    have x_10 := x_9.far (p := ⟨w.heap.size, 0, none⟩) (by show _ ≠ w.heap.size; first | omega | (simp; omega)) (.int .i64 a0)
    have s10 := s9.put (p := ⟨w.heap.size, 0, none⟩) (by show _ < w.heap.size; first | omega | (simp; omega)) (.int .i64 a0)
    have WI10 := WI9.put (p := ⟨w.heap.size, 0, none⟩) (by show _ ≤ w.heap.size; first | exact Nat.le_refl _ | omega | (simp; omega)) (.int .i64 a0)
    have r_10 := r_9.set 0 (.int .i64 a0)
    have x_11 := x_10.far (p := ⟨w.heap.size, 1, none⟩) (by show _ ≠ w.heap.size; first | omega | (simp; omega)) (.int .i64 a1)
    have s11 := s10.put (p := ⟨w.heap.size, 1, none⟩) (by show _ < w.heap.size; first | omega | (simp; omega)) (.int .i64 a1)
    have WI11 := WI10.put (p := ⟨w.heap.size, 1, none⟩) (by show _ ≤ w.heap.size; first | exact Nat.le_refl _ | omega | (simp; omega)) (.int .i64 a1)
    have r_11 := r_10.set 1 (.int .i64 a1)
    have x_12 := x_11.far (p := ⟨w.heap.size, 2, none⟩) (by show _ ≠ w.heap.size; first | omega | (simp; omega)) (.int .i64 b0)
    have s12 := s11.put (p := ⟨w.heap.size, 2, none⟩) (by show _ < w.heap.size; first | omega | (simp; omega)) (.int .i64 b0)
    have WI12 := WI11.put (p := ⟨w.heap.size, 2, none⟩) (by show _ ≤ w.heap.size; first | exact Nat.le_refl _ | omega | (simp; omega)) (.int .i64 b0)
    have r_12 := r_11.set 2 (.int .i64 b0)
    have x_13 := x_12.far (p := ⟨w.heap.size, 3, none⟩) (by show _ ≠ w.heap.size; first | omega | (simp; omega)) (.int .i64 b1)
    have s13 := s12.put (p := ⟨w.heap.size, 3, none⟩) (by show _ < w.heap.size; first | omega | (simp; omega)) (.int .i64 b1)
    have WI13 := WI12.put (p := ⟨w.heap.size, 3, none⟩) (by show _ ≤ w.heap.size; first | exact Nat.le_refl _ | omega | (simp; omega)) (.int .i64 b1)
    have r_13 := r_12.set 3 (.int .i64 b1)
    have x_14 := x_13.far (p := ⟨w.heap.size, 4, none⟩) (by show _ ≠ w.heap.size; first | omega | (simp; omega)) (.int .i64 b2)
    have s14 := s13.put (p := ⟨w.heap.size, 4, none⟩) (by show _ < w.heap.size; first | omega | (simp; omega)) (.int .i64 b2)
    have WI14 := WI13.put (p := ⟨w.heap.size, 4, none⟩) (by show _ ≤ w.heap.size; first | exact Nat.le_refl _ | omega | (simp; omega)) (.int .i64 b2)
    have r_14 := r_13.set 4 (.int .i64 b2)
    have x_15 := x_14.far (p := ⟨w.heap.size, 5, none⟩) (by show _ ≠ w.heap.size; first | omega | (simp; omega)) (.int .i64 b3)
    have s15 := s14.put (p := ⟨w.heap.size, 5, none⟩) (by show _ < w.heap.size; first | omega | (simp; omega)) (.int .i64 b3)
    have WI15 := WI14.put (p := ⟨w.heap.size, 5, none⟩) (by show _ ≤ w.heap.size; first | exact Nat.le_refl _ | omega | (simp; omega)) (.int .i64 b3)
    have r_15 := r_14.set 5 (.int .i64 b3)
    have x_16 := x_15.far (p := ⟨w.heap.size, 6, none⟩) (by show _ ≠ w.heap.size; first | omega | (simp; omega)) (.int .i64 a6)
    have s16 := s15.put (p := ⟨w.heap.size, 6, none⟩) (by show _ < w.heap.size; first | omega | (simp; omega)) (.int .i64 a6)
    have WI16 := WI15.put (p := ⟨w.heap.size, 6, none⟩) (by show _ ≤ w.heap.size; first | exact Nat.le_refl _ | omega | (simp; omega)) (.int .i64 a6)
    have r_16 := r_15.set 6 (.int .i64 a6)
    refine bodyPost_ret (v := .agg #[.int .i64 a0, .int .i64 a1, .int .i64 b0, .int .i64 b1, .int .i64 b2, .int .i64 b3, .int .i64 a6]) (by simp [results, Tryz.results34, go_sem, rc0, rc1, rc2, rc3, rc4, rc5, rc6, hn3_r, hm3_r]) rfl ?_
    exact ⟨_, _, _, _, _, _, _, rfl, ⟨_, by omega, s16⟩, WI16⟩
  · have bq0 : (q == 0) = false := by simp; omega
    have bq1 : (q == 1) = false := by simp; omega
    have bq2 : (q == 2) = false := by simp; omega
    have bq3 : (q == 3) = false := by simp; omega
    have xc0 : World.cell? w4 ⟨w2.heap.size, 0, none⟩ = some (.int .i64 a0) := x_4.cell 0
    have xc1 : World.cell? w4 ⟨w2.heap.size, 1, none⟩ = some (.int .i64 a1) := x_4.cell 1
    have xc2 : World.cell? w4 ⟨w2.heap.size, 2, none⟩ = some (.int .i64 a2) := x_4.cell 2
    have xc3 : World.cell? w4 ⟨w2.heap.size, 3, none⟩ = some (.int .i64 a3) := x_4.cell 3
    have xc4 : World.cell? w4 ⟨w2.heap.size, 4, none⟩ = some (.int .i64 a4) := x_4.cell 4
    have xc5 : World.cell? w4 ⟨w2.heap.size, 5, none⟩ = some (.int .i64 a5) := x_4.cell 5
    have xc6 : World.cell? w4 ⟨w2.heap.size, 6, none⟩ = some (.int .i64 a6) := x_4.cell 6
    have xf0 : World.frozen? w4 ⟨w2.heap.size, 0, none⟩ = false := x_4.frozen 0
    have xf1 : World.frozen? w4 ⟨w2.heap.size, 1, none⟩ = false := x_4.frozen 1
    have xf2 : World.frozen? w4 ⟨w2.heap.size, 2, none⟩ = false := x_4.frozen 2
    have xf3 : World.frozen? w4 ⟨w2.heap.size, 3, none⟩ = false := x_4.frozen 3
    have xf4 : World.frozen? w4 ⟨w2.heap.size, 4, none⟩ = false := x_4.frozen 4
    have xf5 : World.frozen? w4 ⟨w2.heap.size, 5, none⟩ = false := x_4.frozen 5
    have xf6 : World.frozen? w4 ⟨w2.heap.size, 6, none⟩ = false := x_4.frozen 6
    have rc0 : World.cell? w4 ⟨w.heap.size, 0, none⟩ = some (.int .i64 0) := r_4.cell 0
    have rc1 : World.cell? w4 ⟨w.heap.size, 1, none⟩ = some (.int .i64 0) := r_4.cell 1
    have rc2 : World.cell? w4 ⟨w.heap.size, 2, none⟩ = some (.int .i64 0) := r_4.cell 2
    have rc3 : World.cell? w4 ⟨w.heap.size, 3, none⟩ = some (.int .i64 0) := r_4.cell 3
    have rc4 : World.cell? w4 ⟨w.heap.size, 4, none⟩ = some (.int .i64 0) := r_4.cell 4
    have rc5 : World.cell? w4 ⟨w.heap.size, 5, none⟩ = some (.int .i64 0) := r_4.cell 5
    have rc6 : World.cell? w4 ⟨w.heap.size, 6, none⟩ = some (.int .i64 0) := r_4.cell 6
    have rf0 : World.frozen? w4 ⟨w.heap.size, 0, none⟩ = false := r_4.frozen 0
    have rf1 : World.frozen? w4 ⟨w.heap.size, 1, none⟩ = false := r_4.frozen 1
    have rf2 : World.frozen? w4 ⟨w.heap.size, 2, none⟩ = false := r_4.frozen 2
    have rf3 : World.frozen? w4 ⟨w.heap.size, 3, none⟩ = false := r_4.frozen 3
    have rf4 : World.frozen? w4 ⟨w.heap.size, 4, none⟩ = false := r_4.frozen 4
    have rf5 : World.frozen? w4 ⟨w.heap.size, 5, none⟩ = false := r_4.frozen 5
    have rf6 : World.frozen? w4 ⟨w.heap.size, 6, none⟩ = false := r_4.frozen 6
    go_wp2_with fail
    have x_5 := x_4.far (p := ⟨w.heap.size, 0, none⟩) (by show _ ≠ w.heap.size; first | omega | (simp; omega)) (.int .i64 a0)
    have s5 := s4.put (p := ⟨w.heap.size, 0, none⟩) (by show _ < w.heap.size; first | omega | (simp; omega)) (.int .i64 a0)
    have WI5 := WI4.put (p := ⟨w.heap.size, 0, none⟩) (by show _ ≤ w.heap.size; first | exact Nat.le_refl _ | omega | (simp; omega)) (.int .i64 a0)
    have r_5 := r_4.set 0 (.int .i64 a0)
    have x_6 := x_5.far (p := ⟨w.heap.size, 1, none⟩) (by show _ ≠ w.heap.size; first | omega | (simp; omega)) (.int .i64 a1)
    have s6 := s5.put (p := ⟨w.heap.size, 1, none⟩) (by show _ < w.heap.size; first | omega | (simp; omega)) (.int .i64 a1)
    have WI6 := WI5.put (p := ⟨w.heap.size, 1, none⟩) (by show _ ≤ w.heap.size; first | exact Nat.le_refl _ | omega | (simp; omega)) (.int .i64 a1)
    have r_6 := r_5.set 1 (.int .i64 a1)
    have x_7 := x_6.far (p := ⟨w.heap.size, 2, none⟩) (by show _ ≠ w.heap.size; first | omega | (simp; omega)) (.int .i64 a2)
    have s7 := s6.put (p := ⟨w.heap.size, 2, none⟩) (by show _ < w.heap.size; first | omega | (simp; omega)) (.int .i64 a2)
    have WI7 := WI6.put (p := ⟨w.heap.size, 2, none⟩) (by show _ ≤ w.heap.size; first | exact Nat.le_refl _ | omega | (simp; omega)) (.int .i64 a2)
    have r_7 := r_6.set 2 (.int .i64 a2)
    have x_8 := x_7.far (p := ⟨w.heap.size, 3, none⟩) (by show _ ≠ w.heap.size; first | omega | (simp; omega)) (.int .i64 a3)
    have s8 := s7.put (p := ⟨w.heap.size, 3, none⟩) (by show _ < w.heap.size; first | omega | (simp; omega)) (.int .i64 a3)
    have WI8 := WI7.put (p := ⟨w.heap.size, 3, none⟩) (by show _ ≤ w.heap.size; first | exact Nat.le_refl _ | omega | (simp; omega)) (.int .i64 a3)
    have r_8 := r_7.set 3 (.int .i64 a3)
    have x_9 := x_8.far (p := ⟨w.heap.size, 4, none⟩) (by show _ ≠ w.heap.size; first | omega | (simp; omega)) (.int .i64 a4)
    have s9 := s8.put (p := ⟨w.heap.size, 4, none⟩) (by show _ < w.heap.size; first | omega | (simp; omega)) (.int .i64 a4)
    have WI9 := WI8.put (p := ⟨w.heap.size, 4, none⟩) (by show _ ≤ w.heap.size; first | exact Nat.le_refl _ | omega | (simp; omega)) (.int .i64 a4)
    have r_9 := r_8.set 4 (.int .i64 a4)
    have x_10 := x_9.far (p := ⟨w.heap.size, 5, none⟩) (by show _ ≠ w.heap.size; first | omega | (simp; omega)) (.int .i64 a5)
    have s10 := s9.put (p := ⟨w.heap.size, 5, none⟩) (by show _ < w.heap.size; first | omega | (simp; omega)) (.int .i64 a5)
    have WI10 := WI9.put (p := ⟨w.heap.size, 5, none⟩) (by show _ ≤ w.heap.size; first | exact Nat.le_refl _ | omega | (simp; omega)) (.int .i64 a5)
    have r_10 := r_9.set 5 (.int .i64 a5)
    have x_11 := x_10.far (p := ⟨w.heap.size, 6, none⟩) (by show _ ≠ w.heap.size; first | omega | (simp; omega)) (.int .i64 a6)
    have s11 := s10.put (p := ⟨w.heap.size, 6, none⟩) (by show _ < w.heap.size; first | omega | (simp; omega)) (.int .i64 a6)
    have WI11 := WI10.put (p := ⟨w.heap.size, 6, none⟩) (by show _ ≤ w.heap.size; first | exact Nat.le_refl _ | omega | (simp; omega)) (.int .i64 a6)
    have r_11 := r_10.set 6 (.int .i64 a6)
    refine bodyPost_ret (v := .agg #[.int .i64 a0, .int .i64 a1, .int .i64 a2, .int .i64 a3, .int .i64 a4, .int .i64 a5, .int .i64 a6]) (by simp [results, Tryz.results34, go_sem, rc0, rc1, rc2, rc3, rc4, rc5, rc6, hn3_r, hm3_r]) rfl ?_
    exact ⟨_, _, _, _, _, _, _, rfl, ⟨_, by omega, s11⟩, WI11⟩

set_option maxHeartbeats 4000000 in
theorem l5State (w : World) (base g : Nat) (A : Option Addr) (m c k : Nat) (l : List UInt8) (h : Src w base g A m c k l) (hk : k < 500000000) :
    Calls Tryz.prog 45 #[.pointer (some ⟨g, 0, none⟩)] w fun e w' => ∃ (X : Option Addr) (L cx : Nat) (xs : List Smp) (Y : Option Addr) (M cy : Nat) (ys : List Hnt) (u : Int), e = .returned (.agg #[.slice X L cx, .slice Y M cy, .int .i64 u]) ∧ L ≤ 200 ∧ M ≤ 16 ∧ (-1 ≤ u ∧ u ≤ 60001) ∧ Ow eS w' w.heap.size X L cx xs ∧ Ow eH w' w.heap.size Y M cy ys ∧ (∃ k' : Nat, k' ≤ k + 300 ∧ Src w' base g A m c k' l) ∧ Within g (g + 1) w w' := by
  have g0 := h.at_.lt
  have WI0 := Within.refl g (g + 1) w
  have r := At.newAt' (w := w) (t := 39) (cs := #[.slice none 0 0, .slice none 0 0, .int .i64 0]) (show w.heap.size = w.heap.size by first | rfl | simp)
  have s1 := h.alloc (.cells #[.slice none 0 0, .slice none 0 0, .int .i64 0] 39)
  have g1 := s1.at_.lt
  have WI1 := WI0.alloc (.cells #[.slice none 0 0, .slice none 0 0, .int .i64 0] 39)
  have zw1 := WI1.size
  go_enter Tryz.func45, Tryz.ntmps45
  go_wp2_with fail
  refine (l3Draw (w.alloc (.cells #[.slice none 0 0, .slice none 0 0, .int .i64 0] 39)) base g A m c k l s1 (by omega)).mono ?_
  rintro e w2 ⟨k2, X, L, cx, xs, rfl, hL, os, hk2, s2, hw2⟩
  have zs2 : w.heap.size + 1 ≤ w2.heap.size := by have q := hw2.size; first | exact q | (simp; done) | (simp at q; exact q) | (simp at q ⊢; omega)
  have r_2 := r.within hw2 (by first | omega | (simp; omega))
  have WI2 := WI1.trans hw2
  have zw2 := WI2.size
  have g2 := s2.at_.lt
  go_wp2_with fail
  refine (l4Draw w2 base g A m c k2 l s2 (by omega)).mono ?_
  rintro e w3 ⟨k3, Y, M, cy, ys, rfl, hM, oh, hk3, s3, hw3⟩
  have zs3 : w2.heap.size ≤ w3.heap.size := by have q := hw3.size; first | exact q | (simp; done) | (simp at q; exact q) | (simp at q ⊢; omega)
  have r_3 := r_2.within hw3 (by first | omega | (simp; omega))
  have os_3 := os.within hw3 os.lt (.inr g1)
  have WI3 := WI2.trans hw3
  have zw3 := WI3.size
  have g3 := s3.at_.lt
  have r_4 := r_3.alloc (.cells #[.int .i64 0, .int .i64 1, .int .i64 5, .int .i64 60000] 2)
  have os_4 := os_3.alloc (.cells #[.int .i64 0, .int .i64 1, .int .i64 5, .int .i64 60000] 2)
  have oh_4 := oh.alloc (.cells #[.int .i64 0, .int .i64 1, .int .i64 5, .int .i64 60000] 2)
  have s4 := s3.alloc (.cells #[.int .i64 0, .int .i64 1, .int .i64 5, .int .i64 60000] 2)
  have g4 := s4.at_.lt
  have WI4 := WI3.alloc (.cells #[.int .i64 0, .int .i64 1, .int .i64 5, .int .i64 60000] 2)
  have zw4 := WI4.size
  go_wp2_with fail
  refine (l1Pick (w3.alloc (.cells #[.int .i64 0, .int .i64 1, .int .i64 5, .int .i64 60000] 2)) base g A m c k3 l (w3.heap.size) #[.int .i64 0, .int .i64 1, .int .i64 5, .int .i64 60000] [0, 1, 5, 60000] 4 4 s4 (by omega) (At.newAt' (show w3.heap.size = w3.heap.size by first | rfl | simp)) (by simp [intCells]) (by first | omega | (simp; omega)) rfl (by omega) (by omega)).mono ?_
  rintro e w5 ⟨u, hv5, rfl, s5, hw5, -⟩
  have zs5 : w3.heap.size + 1 ≤ w5.heap.size := by have q := hw5.size; first | exact q | (simp; done) | (simp at q; exact q) | (simp at q ⊢; omega)
  have r_5 := r_4.within hw5 (by first | omega | (simp; omega))
  have os_5 := os_4.within hw5 os_4.lt (.inr g1)
  have oh_5 := oh_4.within hw5 oh_4.lt (.inr g2)
  have WI5 := WI4.trans hw5
  have zw5 := WI5.size
  have g5 := s5.at_.lt
  have hu' := pick_bd (-1) 60001 hv5 rfl
  have hL' : L ≤ 200 := by omega
  have hM' : M ≤ 16 := by omega
  have x := At.newAt' (w := w5) (t := 39) (cs := #[.slice X L cx, .slice Y M cy, .int .i64 u]) (show w5.heap.size = w5.heap.size by first | rfl | simp)
  have ln6_r : w.heap.size < w5.heap.size := by have q := r_5.lt; first | exact q | (simp; done) | (simp at q; exact q) | (simp at q ⊢; omega)
  have hn6_r : ¬ w.heap.size = w5.heap.size := by omega
  have hm6_r : ¬ w5.heap.size = w.heap.size := by omega
  have r_6 := r_5.alloc (.cells #[.slice X L cx, .slice Y M cy, .int .i64 u] 39)
  have os_6 := os_5.alloc (.cells #[.slice X L cx, .slice Y M cy, .int .i64 u] 39)
  have oh_6 := oh_5.alloc (.cells #[.slice X L cx, .slice Y M cy, .int .i64 u] 39)
  have s6 := s5.alloc (.cells #[.slice X L cx, .slice Y M cy, .int .i64 u] 39)
  have g6 := s6.at_.lt
  have WI6 := WI5.alloc (.cells #[.slice X L cx, .slice Y M cy, .int .i64 u] 39)
  have zw6 := WI6.size
  go_wp2_with fail
  refine (l1Next (w5.alloc (.cells #[.slice X L cx, .slice Y M cy, .int .i64 u] 39)) base g A m c (k3 + 1) l 14 s6 (by omega) (by omega)).mono ?_
  rintro e w7 ⟨q, rfl, hr7, -, s7, hw7, -⟩
  have zs7 : w5.heap.size + 1 ≤ w7.heap.size := by have q := hw7.size; first | exact q | (simp; done) | (simp at q; exact q) | (simp at q ⊢; omega)
  have r_7 := r_6.within hw7 (by first | omega | (simp; omega))
  have x_7 := x.within hw7 (by first | omega | (simp; omega))
  have os_7 := os_6.within hw7 os_6.lt (.inr g1)
  have oh_7 := oh_6.within hw7 oh_6.lt (.inr g2)
  have WI7 := WI6.trans hw7
  have zw7 := WI7.size
  have g7 := s7.at_.lt
  obtain ⟨hr7a, hr7b⟩ := hr7 (by omega)
  rcases (show q = 0 ∨ q = 1 ∨ q = 2 ∨ 3 ≤ q by omega) with rfl | rfl | rfl | hq3
  · go_wp2_with fail
    refine (l3Bent w7 base g A m c ((k3 + 1) + 1) l s7 (by omega)).mono ?_
    rintro e w8 ⟨k8, X2, L2, cx2, xs2, rfl, hL2, os2, hk8, s8, hw8⟩
    have zs8 : w7.heap.size ≤ w8.heap.size := by have q := hw8.size; first | exact q | (simp; done) | (simp at q; exact q) | (simp at q ⊢; omega)
    have r_8 := r_7.within hw8 (by first | omega | (simp; omega))
    have x_8 := x_7.within hw8 (by first | omega | (simp; omega))
    have os_8 := os_7.within hw8 os_7.lt (.inr g1)
    have oh_8 := oh_7.within hw8 oh_7.lt (.inr g2)
    have WI8 := WI7.trans hw8
    have zw8 := WI8.size
    have g8 := s8.at_.lt
    have xc0 : World.cell? w8 ⟨w5.heap.size, 0, none⟩ = some (.slice X L cx) := x_8.cell 0
    have xc1 : World.cell? w8 ⟨w5.heap.size, 1, none⟩ = some (.slice Y M cy) := x_8.cell 1
    have xc2 : World.cell? w8 ⟨w5.heap.size, 2, none⟩ = some (.int .i64 u) := x_8.cell 2
    have xf0 : World.frozen? w8 ⟨w5.heap.size, 0, none⟩ = false := x_8.frozen 0
    have xf1 : World.frozen? w8 ⟨w5.heap.size, 1, none⟩ = false := x_8.frozen 1
    have xf2 : World.frozen? w8 ⟨w5.heap.size, 2, none⟩ = false := x_8.frozen 2
    have rc0 : World.cell? w8 ⟨w.heap.size, 0, none⟩ = some (.slice none 0 0) := r_8.cell 0
    have rc1 : World.cell? w8 ⟨w.heap.size, 1, none⟩ = some (.slice none 0 0) := r_8.cell 1
    have rc2 : World.cell? w8 ⟨w.heap.size, 2, none⟩ = some (.int .i64 0) := r_8.cell 2
    have rf0 : World.frozen? w8 ⟨w.heap.size, 0, none⟩ = false := r_8.frozen 0
    have rf1 : World.frozen? w8 ⟨w.heap.size, 1, none⟩ = false := r_8.frozen 1
    have rf2 : World.frozen? w8 ⟨w.heap.size, 2, none⟩ = false := r_8.frozen 2
    go_wp2_with fail
    have r_9 := r_8.far (p := ⟨w5.heap.size, 0, none⟩) (by show _ ≠ w5.heap.size; first | omega | (simp; omega)) (.slice X2 L2 cx2)
    have os_9 := os_8.apart (by decide) x_8 0 (.slice X2 L2 cx2)
    have oh_9 := oh_8.apart (by decide) x_8 0 (.slice X2 L2 cx2)
    have os2_9 := os2.apart (by decide) x_8 0 (.slice X2 L2 cx2)
    have s9 := s8.put (p := ⟨w5.heap.size, 0, none⟩) (by show _ < w5.heap.size; first | omega | (simp; omega)) (.slice X2 L2 cx2)
    have WI9 := WI8.put (p := ⟨w5.heap.size, 0, none⟩) (by show _ ≤ w5.heap.size; first | exact Nat.le_refl _ | omega | (simp; omega)) (.slice X2 L2 cx2)
    have x_9 := x_8.set 0 (.slice X2 L2 cx2)
    have x_10 := x_9.far (p := ⟨w.heap.size, 0, none⟩) (by show _ ≠ w.heap.size; first | omega | (simp; omega)) (.slice X2 L2 cx2)
    have os_10 := os_9.apart (by decide) r_9 0 (.slice X2 L2 cx2)
    have oh_10 := oh_9.apart (by decide) r_9 0 (.slice X2 L2 cx2)
    have os2_10 := os2_9.apart (by decide) r_9 0 (.slice X2 L2 cx2)
    have s10 := s9.put (p := ⟨w.heap.size, 0, none⟩) (by show _ < w.heap.size; first | omega | (simp; omega)) (.slice X2 L2 cx2)
    have WI10 := WI9.put (p := ⟨w.heap.size, 0, none⟩) (by show _ ≤ w.heap.size; first | exact Nat.le_refl _ | omega | (simp; omega)) (.slice X2 L2 cx2)
    have r_10 := r_9.set 0 (.slice X2 L2 cx2)
    have x_11 := x_10.far (p := ⟨w.heap.size, 1, none⟩) (by show _ ≠ w.heap.size; first | omega | (simp; omega)) (.slice Y M cy)
    have os_11 := os_10.apart (by decide) r_10 1 (.slice Y M cy)
    have oh_11 := oh_10.apart (by decide) r_10 1 (.slice Y M cy)
    have os2_11 := os2_10.apart (by decide) r_10 1 (.slice Y M cy)
    have s11 := s10.put (p := ⟨w.heap.size, 1, none⟩) (by show _ < w.heap.size; first | omega | (simp; omega)) (.slice Y M cy)
    have WI11 := WI10.put (p := ⟨w.heap.size, 1, none⟩) (by show _ ≤ w.heap.size; first | exact Nat.le_refl _ | omega | (simp; omega)) (.slice Y M cy)
    have r_11 := r_10.set 1 (.slice Y M cy)
    have x_12 := x_11.far (p := ⟨w.heap.size, 2, none⟩) (by show _ ≠ w.heap.size; first | omega | (simp; omega)) (.int .i64 u)
    have os_12 := os_11.apart (by decide) r_11 2 (.int .i64 u)
    have oh_12 := oh_11.apart (by decide) r_11 2 (.int .i64 u)
    have os2_12 := os2_11.apart (by decide) r_11 2 (.int .i64 u)
    have s12 := s11.put (p := ⟨w.heap.size, 2, none⟩) (by show _ < w.heap.size; first | omega | (simp; omega)) (.int .i64 u)
    have WI12 := WI11.put (p := ⟨w.heap.size, 2, none⟩) (by show _ ≤ w.heap.size; first | exact Nat.le_refl _ | omega | (simp; omega)) (.int .i64 u)
    have r_12 := r_11.set 2 (.int .i64 u)
    refine bodyPost_ret (v := .agg #[.slice X2 L2 cx2, .slice Y M cy, .int .i64 u]) (by simp [results, Tryz.results45, go_sem, rc0, rc1, rc2, hn6_r, hm6_r]) rfl ?_
    exact ⟨_, _, _, _, _, _, _, _, _, rfl, hL2, hM', hu', (Ow.from_ (base' := w.heap.size) os2_12 (by first | omega | (simp at *; omega))), (Ow.from_ (base' := w.heap.size) oh_12 (by first | omega | (simp at *; omega))), ⟨_, by omega, s12⟩, WI12⟩
  · go_wp2_with fail
    refine (l4Bent w7 base g A m c ((k3 + 1) + 1) l s7 (by omega)).mono ?_
    rintro e w8 ⟨k8, Y2, M2, cy2, ys2, rfl, hM2, oh2, hk8, s8, hw8⟩
    have zs8 : w7.heap.size ≤ w8.heap.size := by have q := hw8.size; first | exact q | (simp; done) | (simp at q; exact q) | (simp at q ⊢; omega)
    have r_8 := r_7.within hw8 (by first | omega | (simp; omega))
    have x_8 := x_7.within hw8 (by first | omega | (simp; omega))
    have os_8 := os_7.within hw8 os_7.lt (.inr g1)
    have oh_8 := oh_7.within hw8 oh_7.lt (.inr g2)
    have WI8 := WI7.trans hw8
    have zw8 := WI8.size
    have g8 := s8.at_.lt
    have xc0 : World.cell? w8 ⟨w5.heap.size, 0, none⟩ = some (.slice X L cx) := x_8.cell 0
    have xc1 : World.cell? w8 ⟨w5.heap.size, 1, none⟩ = some (.slice Y M cy) := x_8.cell 1
    have xc2 : World.cell? w8 ⟨w5.heap.size, 2, none⟩ = some (.int .i64 u) := x_8.cell 2
    have xf0 : World.frozen? w8 ⟨w5.heap.size, 0, none⟩ = false := x_8.frozen 0
    have xf1 : World.frozen? w8 ⟨w5.heap.size, 1, none⟩ = false := x_8.frozen 1
    have xf2 : World.frozen? w8 ⟨w5.heap.size, 2, none⟩ = false := x_8.frozen 2
    have rc0 : World.cell? w8 ⟨w.heap.size, 0, none⟩ = some (.slice none 0 0) := r_8.cell 0
    have rc1 : World.cell? w8 ⟨w.heap.size, 1, none⟩ = some (.slice none 0 0) := r_8.cell 1
    have rc2 : World.cell? w8 ⟨w.heap.size, 2, none⟩ = some (.int .i64 0) := r_8.cell 2
    have rf0 : World.frozen? w8 ⟨w.heap.size, 0, none⟩ = false := r_8.frozen 0
    have rf1 : World.frozen? w8 ⟨w.heap.size, 1, none⟩ = false := r_8.frozen 1
    have rf2 : World.frozen? w8 ⟨w.heap.size, 2, none⟩ = false := r_8.frozen 2
    go_wp2_with fail
    have r_9 := r_8.far (p := ⟨w5.heap.size, 1, none⟩) (by show _ ≠ w5.heap.size; first | omega | (simp; omega)) (.slice Y2 M2 cy2)
    have os_9 := os_8.apart (by decide) x_8 1 (.slice Y2 M2 cy2)
    have oh_9 := oh_8.apart (by decide) x_8 1 (.slice Y2 M2 cy2)
    have oh2_9 := oh2.apart (by decide) x_8 1 (.slice Y2 M2 cy2)
    have s9 := s8.put (p := ⟨w5.heap.size, 1, none⟩) (by show _ < w5.heap.size; first | omega | (simp; omega)) (.slice Y2 M2 cy2)
    have WI9 := WI8.put (p := ⟨w5.heap.size, 1, none⟩) (by show _ ≤ w5.heap.size; first | exact Nat.le_refl _ | omega | (simp; omega)) (.slice Y2 M2 cy2)
    have x_9 := x_8.set 1 (.slice Y2 M2 cy2)
    have x_10 := x_9.far (p := ⟨w.heap.size, 0, none⟩) (by show _ ≠ w.heap.size; first | omega | (simp; omega)) (.slice X L cx)
    have os_10 := os_9.apart (by decide) r_9 0 (.slice X L cx)
    have oh_10 := oh_9.apart (by decide) r_9 0 (.slice X L cx)
    have oh2_10 := oh2_9.apart (by decide) r_9 0 (.slice X L cx)
    have s10 := s9.put (p := ⟨w.heap.size, 0, none⟩) (by show _ < w.heap.size; first | omega | (simp; omega)) (.slice X L cx)
    have WI10 := WI9.put (p := ⟨w.heap.size, 0, none⟩) (by show _ ≤ w.heap.size; first | exact Nat.le_refl _ | omega | (simp; omega)) (.slice X L cx)
    have r_10 := r_9.set 0 (.slice X L cx)
    have x_11 := x_10.far (p := ⟨w.heap.size, 1, none⟩) (by show _ ≠ w.heap.size; first | omega | (simp; omega)) (.slice Y2 M2 cy2)
    have os_11 := os_10.apart (by decide) r_10 1 (.slice Y2 M2 cy2)
    have oh_11 := oh_10.apart (by decide) r_10 1 (.slice Y2 M2 cy2)
    have oh2_11 := oh2_10.apart (by decide) r_10 1 (.slice Y2 M2 cy2)
    have s11 := s10.put (p := ⟨w.heap.size, 1, none⟩) (by show _ < w.heap.size; first | omega | (simp; omega)) (.slice Y2 M2 cy2)
    have WI11 := WI10.put (p := ⟨w.heap.size, 1, none⟩) (by show _ ≤ w.heap.size; first | exact Nat.le_refl _ | omega | (simp; omega)) (.slice Y2 M2 cy2)
    have r_11 := r_10.set 1 (.slice Y2 M2 cy2)
    have x_12 := x_11.far (p := ⟨w.heap.size, 2, none⟩) (by show _ ≠ w.heap.size; first | omega | (simp; omega)) (.int .i64 u)
    have os_12 := os_11.apart (by decide) r_11 2 (.int .i64 u)
    have oh_12 := oh_11.apart (by decide) r_11 2 (.int .i64 u)
    have oh2_12 := oh2_11.apart (by decide) r_11 2 (.int .i64 u)
    have s12 := s11.put (p := ⟨w.heap.size, 2, none⟩) (by show _ < w.heap.size; first | omega | (simp; omega)) (.int .i64 u)
    have WI12 := WI11.put (p := ⟨w.heap.size, 2, none⟩) (by show _ ≤ w.heap.size; first | exact Nat.le_refl _ | omega | (simp; omega)) (.int .i64 u)
    have r_12 := r_11.set 2 (.int .i64 u)
    refine bodyPost_ret (v := .agg #[.slice X L cx, .slice Y2 M2 cy2, .int .i64 u]) (by simp [results, Tryz.results45, go_sem, rc0, rc1, rc2, hn6_r, hm6_r]) rfl ?_
    exact ⟨_, _, _, _, _, _, _, _, _, rfl, hL', hM2, hu', (Ow.from_ (base' := w.heap.size) os_12 (by first | omega | (simp at *; omega))), (Ow.from_ (base' := w.heap.size) oh2_12 (by first | omega | (simp at *; omega))), ⟨_, by omega, s12⟩, WI12⟩
  · have r_8 := r_7.alloc (.cells #[.int .i64 (-1), .int .i64 60001] 2)
    have x_8 := x_7.alloc (.cells #[.int .i64 (-1), .int .i64 60001] 2)
    have os_8 := os_7.alloc (.cells #[.int .i64 (-1), .int .i64 60001] 2)
    have oh_8 := oh_7.alloc (.cells #[.int .i64 (-1), .int .i64 60001] 2)
    have s8 := s7.alloc (.cells #[.int .i64 (-1), .int .i64 60001] 2)
    have g8 := s8.at_.lt
    have WI8 := WI7.alloc (.cells #[.int .i64 (-1), .int .i64 60001] 2)
    have zw8 := WI8.size
    go_wp2_with fail
    refine (l1Pick (w7.alloc (.cells #[.int .i64 (-1), .int .i64 60001] 2)) base g A m c ((k3 + 1) + 1) l (w7.heap.size) #[.int .i64 (-1), .int .i64 60001] [(-1), 60001] 2 2 s8 (by omega) (At.newAt' (show w7.heap.size = w7.heap.size by first | rfl | simp)) (by simp [intCells]) (by first | omega | (simp; omega)) rfl (by omega) (by omega)).mono ?_
    rintro e w9 ⟨v, hv9, rfl, s9, hw9, -⟩
    have zs9 : w7.heap.size + 1 ≤ w9.heap.size := by have q := hw9.size; first | exact q | (simp; done) | (simp at q; exact q) | (simp at q ⊢; omega)
    have r_9 := r_8.within hw9 (by first | omega | (simp; omega))
    have x_9 := x_8.within hw9 (by first | omega | (simp; omega))
    have os_9 := os_8.within hw9 os_8.lt (.inr g1)
    have oh_9 := oh_8.within hw9 oh_8.lt (.inr g2)
    have WI9 := WI8.trans hw9
    have zw9 := WI9.size
    have g9 := s9.at_.lt
    have hv' := pick_bd (-1) 60001 hv9 rfl
    have xc0 : World.cell? w9 ⟨w5.heap.size, 0, none⟩ = some (.slice X L cx) := x_9.cell 0
    have xc1 : World.cell? w9 ⟨w5.heap.size, 1, none⟩ = some (.slice Y M cy) := x_9.cell 1
    have xc2 : World.cell? w9 ⟨w5.heap.size, 2, none⟩ = some (.int .i64 u) := x_9.cell 2
    have xf0 : World.frozen? w9 ⟨w5.heap.size, 0, none⟩ = false := x_9.frozen 0
    have xf1 : World.frozen? w9 ⟨w5.heap.size, 1, none⟩ = false := x_9.frozen 1
    have xf2 : World.frozen? w9 ⟨w5.heap.size, 2, none⟩ = false := x_9.frozen 2
    have rc0 : World.cell? w9 ⟨w.heap.size, 0, none⟩ = some (.slice none 0 0) := r_9.cell 0
    have rc1 : World.cell? w9 ⟨w.heap.size, 1, none⟩ = some (.slice none 0 0) := r_9.cell 1
    have rc2 : World.cell? w9 ⟨w.heap.size, 2, none⟩ = some (.int .i64 0) := r_9.cell 2
    have rf0 : World.frozen? w9 ⟨w.heap.size, 0, none⟩ = false := r_9.frozen 0
    have rf1 : World.frozen? w9 ⟨w.heap.size, 1, none⟩ = false := r_9.frozen 1
    have rf2 : World.frozen? w9 ⟨w.heap.size, 2, none⟩ = false := r_9.frozen 2
    go_wp2_with fail
    have r_10 := r_9.far (p := ⟨w5.heap.size, 2, none⟩) (by show _ ≠ w5.heap.size; first | omega | (simp; omega)) (.int .i64 v)
    have os_10 := os_9.apart (by decide) x_9 2 (.int .i64 v)
    have oh_10 := oh_9.apart (by decide) x_9 2 (.int .i64 v)
    have s10 := s9.put (p := ⟨w5.heap.size, 2, none⟩) (by show _ < w5.heap.size; first | omega | (simp; omega)) (.int .i64 v)
    have WI10 := WI9.put (p := ⟨w5.heap.size, 2, none⟩) (by show _ ≤ w5.heap.size; first | exact Nat.le_refl _ | omega | (simp; omega)) (.int .i64 v)
    have x_10 := x_9.set 2 (.int .i64 v)
    have x_11 := x_10.far (p := ⟨w.heap.size, 0, none⟩) (by show _ ≠ w.heap.size; first | omega | (simp; omega)) (.slice X L cx)
    have os_11 := os_10.apart (by decide) r_10 0 (.slice X L cx)
    have oh_11 := oh_10.apart (by decide) r_10 0 (.slice X L cx)
    have s11 := s10.put (p := ⟨w.heap.size, 0, none⟩) (by show _ < w.heap.size; first | omega | (simp; omega)) (.slice X L cx)
    have WI11 := WI10.put (p := ⟨w.heap.size, 0, none⟩) (by show _ ≤ w.heap.size; first | exact Nat.le_refl _ | omega | (simp; omega)) (.slice X L cx)
    have r_11 := r_10.set 0 (.slice X L cx)
    have x_12 := x_11.far (p := ⟨w.heap.size, 1, none⟩) (by show _ ≠ w.heap.size; first | omega | (simp; omega)) (.slice Y M cy)
    have os_12 := os_11.apart (by decide) r_11 1 (.slice Y M cy)
    have oh_12 := oh_11.apart (by decide) r_11 1 (.slice Y M cy)
    have s12 := s11.put (p := ⟨w.heap.size, 1, none⟩) (by show _ < w.heap.size; first | omega | (simp; omega)) (.slice Y M cy)
    have WI12 := WI11.put (p := ⟨w.heap.size, 1, none⟩) (by show _ ≤ w.heap.size; first | exact Nat.le_refl _ | omega | (simp; omega)) (.slice Y M cy)
    have r_12 := r_11.set 1 (.slice Y M cy)
    have x_13 := x_12.far (p := ⟨w.heap.size, 2, none⟩) (by show _ ≠ w.heap.size; first | omega | (simp; omega)) (.int .i64 v)
    have os_13 := os_12.apart (by decide) r_12 2 (.int .i64 v)
    have oh_13 := oh_12.apart (by decide) r_12 2 (.int .i64 v)
    have s13 := s12.put (p := ⟨w.heap.size, 2, none⟩) (by show _ < w.heap.size; first | omega | (simp; omega)) (.int .i64 v)
    have WI13 := WI12.put (p := ⟨w.heap.size, 2, none⟩) (by show _ ≤ w.heap.size; first | exact Nat.le_refl _ | omega | (simp; omega)) (.int .i64 v)
    have r_13 := r_12.set 2 (.int .i64 v)
    refine bodyPost_ret (v := .agg #[.slice X L cx, .slice Y M cy, .int .i64 v]) (by simp [results, Tryz.results45, go_sem, rc0, rc1, rc2, hn6_r, hm6_r]) rfl ?_
    exact ⟨_, _, _, _, _, _, _, _, _, rfl, hL', hM', hv', (Ow.from_ (base' := w.heap.size) os_13 (by first | omega | (simp at *; omega))), (Ow.from_ (base' := w.heap.size) oh_13 (by first | omega | (simp at *; omega))), ⟨_, by omega, s13⟩, WI13⟩
  · have bq0 : (q == 0) = false := by simp; omega
    have bq1 : (q == 1) = false := by simp; omega
    have bq2 : (q == 2) = false := by simp; omega
    have xc0 : World.cell? w7 ⟨w5.heap.size, 0, none⟩ = some (.slice X L cx) := x_7.cell 0
    have xc1 : World.cell? w7 ⟨w5.heap.size, 1, none⟩ = some (.slice Y M cy) := x_7.cell 1
    have xc2 : World.cell? w7 ⟨w5.heap.size, 2, none⟩ = some (.int .i64 u) := x_7.cell 2
    have xf0 : World.frozen? w7 ⟨w5.heap.size, 0, none⟩ = false := x_7.frozen 0
    have xf1 : World.frozen? w7 ⟨w5.heap.size, 1, none⟩ = false := x_7.frozen 1
    have xf2 : World.frozen? w7 ⟨w5.heap.size, 2, none⟩ = false := x_7.frozen 2
    have rc0 : World.cell? w7 ⟨w.heap.size, 0, none⟩ = some (.slice none 0 0) := r_7.cell 0
    have rc1 : World.cell? w7 ⟨w.heap.size, 1, none⟩ = some (.slice none 0 0) := r_7.cell 1
    have rc2 : World.cell? w7 ⟨w.heap.size, 2, none⟩ = some (.int .i64 0) := r_7.cell 2
    have rf0 : World.frozen? w7 ⟨w.heap.size, 0, none⟩ = false := r_7.frozen 0
    have rf1 : World.frozen? w7 ⟨w.heap.size, 1, none⟩ = false := r_7.frozen 1
    have rf2 : World.frozen? w7 ⟨w.heap.size, 2, none⟩ = false := r_7.frozen 2
    go_wp2_with fail
    have x_8 := x_7.far (p := ⟨w.heap.size, 0, none⟩) (by show _ ≠ w.heap.size; first | omega | (simp; omega)) (.slice X L cx)
    have os_8 := os_7.apart (by decide) r_7 0 (.slice X L cx)
    have oh_8 := oh_7.apart (by decide) r_7 0 (.slice X L cx)
    have s8 := s7.put (p := ⟨w.heap.size, 0, none⟩) (by show _ < w.heap.size; first | omega | (simp; omega)) (.slice X L cx)
    have WI8 := WI7.put (p := ⟨w.heap.size, 0, none⟩) (by show _ ≤ w.heap.size; first | exact Nat.le_refl _ | omega | (simp; omega)) (.slice X L cx)
    have r_8 := r_7.set 0 (.slice X L cx)
    have x_9 := x_8.far (p := ⟨w.heap.size, 1, none⟩) (by show _ ≠ w.heap.size; first | omega | (simp; omega)) (.slice Y M cy)
    have os_9 := os_8.apart (by decide) r_8 1 (.slice Y M cy)
    have oh_9 := oh_8.apart (by decide) r_8 1 (.slice Y M cy)
    have s9 := s8.put (p := ⟨w.heap.size, 1, none⟩) (by show _ < w.heap.size; first | omega | (simp; omega)) (.slice Y M cy)
    have WI9 := WI8.put (p := ⟨w.heap.size, 1, none⟩) (by show _ ≤ w.heap.size; first | exact Nat.le_refl _ | omega | (simp; omega)) (.slice Y M cy)
    have r_9 := r_8.set 1 (.slice Y M cy)
    have x_10 := x_9.far (p := ⟨w.heap.size, 2, none⟩) (by show _ ≠ w.heap.size; first | omega | (simp; omega)) (.int .i64 u)
    have os_10 := os_9.apart (by decide) r_9 2 (.int .i64 u)
    have oh_10 := oh_9.apart (by decide) r_9 2 (.int .i64 u)
    have s10 := s9.put (p := ⟨w.heap.size, 2, none⟩) (by show _ < w.heap.size; first | omega | (simp; omega)) (.int .i64 u)
    have WI10 := WI9.put (p := ⟨w.heap.size, 2, none⟩) (by show _ ≤ w.heap.size; first | exact Nat.le_refl _ | omega | (simp; omega)) (.int .i64 u)
    have r_10 := r_9.set 2 (.int .i64 u)
    refine bodyPost_ret (v := .agg #[.slice X L cx, .slice Y M cy, .int .i64 u]) (by simp [results, Tryz.results45, go_sem, rc0, rc1, rc2, hn6_r, hm6_r]) rfl ?_
    exact ⟨_, _, _, _, _, _, _, _, _, rfl, hL', hM', hu', (Ow.from_ (base' := w.heap.size) os_10 (by first | omega | (simp at *; omega))), (Ow.from_ (base' := w.heap.size) oh_10 (by first | omega | (simp at *; omega))), ⟨_, by omega, s10⟩, WI10⟩
end Go.Proofs.YtmaillakhhdkfaaGreatDoor
/-
  What a disk says, of the pure answers; and what the laws of records and of disks say of them.
-/
namespace Go.Proofs.YtmaillakhhdkfaaGreatDoor
set_option maxRecDepth 20000
open Go.RowKit
set_option linter.unusedSimpArgs false
set_option linter.unusedVariables false

/-! ### Records and their bytes -/
theorem form_of {r : Rcd} (h : recFaultM r = 0) : recFormM r = true := by
  rcases hf : recFormM r
  · rw [recFault_form hf] at h; cases h
  · rfl
theorem dec_encSb {x : Smp} (h : faultM x = 0) : decodeM (encSb x) = (0, x) := by
  have := (encode_decode h).2
  rw [encodeM_encSb h] at this
  exact this
theorem node_byte {p : Int} (h : inB (p, 0, 3) = true) : (((UInt8.ofNat p.toNat).toNat : Nat) : Int) = p := by
  unfold inB at h
  simp only [Bool.and_eq_true, decide_eq_true_eq] at h
  rw [UInt8.toNat_ofNat']
  omega
theorem pack2_is (n : Nat) : packL n 2 = [UInt8.ofNat n, UInt8.ofNat (n / 256)] := by
  rw [packL_cons, packL_cons]; rfl
theorem two_bytes {n : Int} (h0 : 0 ≤ n) (h1 : n ≤ 60000) : (((UInt8.ofNat n.toNat).toNat + 256 * (UInt8.ofNat (n.toNat / 256)).toNat : Nat) : Int) = n := by
  rw [UInt8.toNat_ofNat', UInt8.toNat_ofNat']
  omega
theorem read_0 (x : UInt8) (m : List UInt8) : (readM (x :: m) 0 1).2 = (x.toNat : Int) := read1 (p := 0) rfl
theorem read_1 (x y : UInt8) (m : List UInt8) : (readM (x :: y :: m) 1 1).2 = (y.toNat : Int) := read1 (p := 1) rfl
theorem read_12 (x a b : UInt8) (m : List UInt8) : (readM (x :: a :: b :: m) 1 2).2 = ((a.toNat + 256 * b.toNat : Nat) : Int) := read2 (p := 1) rfl rfl
theorem read_22 (x y a b : UInt8) (m : List UInt8) : (readM (x :: y :: a :: b :: m) 2 2).2 = ((a.toNat + 256 * b.toNat : Nat) : Int) := read2 (p := 2) rfl rfl
theorem unp_enc {r : Rcd} (h : recFaultM r = 0) : unpR (encR r) = r := by
  obtain ⟨k, p, x, n⟩ := r
  have hf := form_of h
  unfold recFormM at hf
  by_cases k1 : k = 1
  · subst k1
    rw [if_pos rfl] at hf
    have hz : p = 0 ∧ n = 0 := by simpa [formM] using hf
    obtain ⟨rfl, rfl⟩ := hz
    rw [rec1] at h
    rw [encR_1, unpR_1 (by rw [read_0]; rfl), show (1 :: encSb x).drop 1 = encSb x from rfl, dec_encSb h]
  rw [if_neg k1] at hf
  by_cases k2 : k = 2
  · subst k2
    rw [if_pos rfl] at hf
    have hz : n = 0 := by simpa [formM] using hf
    subst hz
    rw [rec2] at h
    by_cases hp : inB (p, 0, 3) = true
    · rw [if_pos hp] at h
      rw [encR_2, unpR_2 (by rw [read_0]; rfl), read_1, node_byte hp, show (2 :: UInt8.ofNat p.toNat :: encSb x).drop 2 = encSb x from rfl, dec_encSb h]
    · rw [if_neg hp] at h; cases h
  rw [if_neg k2] at hf
  by_cases k3 : k = 3
  · subst k3
    rw [if_pos rfl] at hf
    have hz : x = (0, 0, 0, 0) := by simpa [formM] using hf
    subst hz
    rw [rec3] at h
    by_cases hp : (inB (p, 0, 3) && inB (n, 0, 9999)) = true
    · have hp' := hp
      rw [Bool.and_eq_true] at hp'
      have hn : 0 ≤ n ∧ n ≤ 9999 := by have := hp'.2; unfold inB at this; simpa using this
      rw [encR_3, unpR_3 (by rw [read_0]; rfl), read_1, node_byte hp'.1, pack2_is,
        read_22, two_bytes hn.1 (by omega)]
    · rw [if_neg hp] at h; cases h
  rw [if_neg k3] at hf
  by_cases k4 : k = 4
  · subst k4
    rw [if_pos rfl] at hf
    have hz : p = 0 ∧ x = (0, 0, 0, 0) := by simpa [formM] using hf
    obtain ⟨rfl, rfl⟩ := hz
    rw [rec4] at h
    by_cases hp : inB (n, 0, 60000) = true
    · have hn : 0 ≤ n ∧ n ≤ 60000 := by have := hp; unfold inB at this; simpa using this
      rw [encR_4, unpR_4 (by rw [read_0]; rfl), pack2_is,
        read_12, two_bytes hn.1 hn.2]
    · rw [if_neg hp] at h; cases h
  rw [if_neg k4] at hf
  cases hf
/-- What is written of a record is read. -/
theorem rec_back {r : Rcd} (h : recFaultM r = 0) : decodeRecM (encR r) = (0, r) := by
  rcases dec_or (encR r) with ⟨h1, -, -⟩ | ⟨-, h2⟩
  · rw [h1, unp_enc h]
  · exact absurd ⟨by rw [unp_enc h]; exact h, by rw [unp_enc h]⟩ h2
/-- What is read of a record is written. -/
theorem rec_forth {l : List UInt8} (h : (decodeRecM l).1 = 0) : encRecM (decodeRecM l).2 = (0, l) := by
  rcases dec_or l with ⟨h1, h2, h3⟩ | ⟨h1, -⟩
  · rw [h1]; unfold encRecM; rw [if_pos h2, h3]
  · rw [h1] at h; cases h
theorem encRec_code (r : Rcd) : (encRecM r).1 = recFaultM r := by
  unfold encRecM
  by_cases h : recFaultM r = 0
  · rw [if_pos h, h]
  · rw [if_neg h]
theorem encR_few {r : Rcd} (h : recFaultM r = 0) : 1 ≤ (encR r).length ∧ (encR r).length ≤ 9 := by
  unfold encR encT
  split
  · rw [List.length_cons, encSb_len]; omega
  split
  · rw [List.length_cons, List.length_cons, encSb_len]; omega
  split <;> simp [pack2_is]

/-! ### A record put to a state -/
theorem step_life (s : Sta) (r : Rcd) (h : (stepR s r).1 = 0) : s.2.2 ≤ (stepR s r).2.2.2 ∧ s.1.length ≤ (stepR s r).2.1.length := by
  unfold stepR at h ⊢
  by_cases k1 : r.1 = 1
  · rw [if_pos k1] at h ⊢
    by_cases hc : (insertM s.1 r.2.2.1).1 = 0
    · rw [if_pos hc]
      refine ⟨Int.le_refl _, ?_⟩
      show s.1.length ≤ (insertM s.1 r.2.2.1).2.2.length
      unfold insertM at hc ⊢
      by_cases a1 : storeFaultM s.1 ≠ 0
      · rw [if_pos a1] at hc; exact absurd hc a1
      rw [if_neg a1] at hc ⊢
      by_cases a2 : faultM r.2.2.1 ≠ 0
      · rw [if_pos a2] at hc; exact absurd hc a2
      rw [if_neg a2] at hc ⊢
      by_cases a3 : 0 ≤ findI s.1 r.2.2.1
      · rw [if_pos a3]; exact Nat.le_refl _
      rw [if_neg a3] at hc ⊢
      by_cases a4 : 160 ≤ s.1.length
      · rw [if_pos a4] at hc; cases hc
      rw [if_neg a4]
      show s.1.length ≤ (insM s.1 r.2.2.1).length
      rw [insM_len]
      omega
    · rw [if_neg hc] at h; exact absurd h hc
  rw [if_neg k1] at h ⊢
  by_cases k2 : r.1 = 2
  · rw [if_pos k2] at h ⊢
    by_cases hc : (addM s.2.1 r.2.1 r.2.2.1).1 = 0
    · rw [if_pos hc]; exact ⟨Int.le_refl _, Nat.le_refl _⟩
    · rw [if_neg hc] at h; exact absurd h hc
  rw [if_neg k2] at h ⊢
  by_cases k3 : r.1 = 3
  · rw [if_pos k3] at h ⊢
    by_cases hc : (doneM s.2.1 r.2.1 r.2.2.2).1 = 0
    · rw [if_pos hc]; exact ⟨Int.le_refl _, Nat.le_refl _⟩
    · rw [if_neg hc] at h; exact absurd h hc
  rw [if_neg k3] at h ⊢
  by_cases k4 : r.2.2.2 < s.2.2
  · rw [if_pos k4] at h; cases h
  · rw [if_neg k4]; exact ⟨by show s.2.2 ≤ r.2.2.2; omega, Nat.le_refl _⟩
/-- What the law of records says of an applied record. -/
theorem apply_said {s s' : Sta} {r : Rcd} (h : applyM s r = (0, s')) : stateFaultM s' = 0 ∧ s.2.2 ≤ s'.2.2 ∧ s.1.length ≤ s'.1.length := by
  unfold applyM at h
  by_cases a1 : stateFaultM s ≠ 0
  · rw [if_pos a1] at h; exact absurd (Prod.mk.inj h).1 a1
  rw [if_neg a1] at h
  by_cases a2 : recFaultM r ≠ 0
  · rw [if_pos a2] at h; exact absurd (Prod.mk.inj h).1 a2
  rw [if_neg a2] at h
  by_cases a3 : (stepR s r).1 = 0
  · rw [if_pos a3] at h
    rw [← (Prod.mk.inj h).2]
    exact ⟨step_right (by simpa using a1) (by simpa using a2) a3, step_life s r a3⟩
  · rw [if_neg a3] at h; exact absurd (Prod.mk.inj h).1 a3

/-! ### What a disk says -/
/-! ### Frames one behind another -/
/-! ### What the law of disks says -/
end Go.Proofs.YtmaillakhhdkfaaGreatDoor
