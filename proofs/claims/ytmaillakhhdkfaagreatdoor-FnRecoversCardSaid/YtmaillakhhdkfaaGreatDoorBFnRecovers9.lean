/-
  Texts of one proof, joined: each has its own namespace.
-/
import Derived.Test.YtmaillakhhdkfaaGreatDoorBFnRecovers6
import Derived.Test.YtmaillakhhdkfaaGreatDoorBFnRecovers5
import Derived.Handy
import Derived.Test.YtmaillakhhdkfaaGreatDoorBFnRecovers7
import Derived.Test.YtmaillakhhdkfaaGreatDoorBFnRecovers8
/-
  A record as an entry of its own kind: the program's.
-/
namespace Go.Proofs.YtmaillakhhdkfaaGreatDoor
set_option maxRecDepth 20000
open Go.RowKit
set_option linter.unusedSimpArgs false
set_option linter.unusedVariables false

/-- The entry of a record; nil where the record has not the form of its kind. -/
def entV (r : Rcd) : Value := if recFormM r = true then (if r.1 = 1 then .iface 90 (.agg #[.int .i64 r.2.2.1.1, .int .i64 r.2.2.1.2.1, .int .i64 r.2.2.1.2.2.1, .int .i64 r.2.2.1.2.2.2]) else if r.1 = 2 then .iface 93 (.agg #[.int .i64 r.2.1, .int .i64 r.2.2.1.1, .int .i64 r.2.2.1.2.1, .int .i64 r.2.2.1.2.2.1, .int .i64 r.2.2.1.2.2.2]) else if r.1 = 3 then .iface 96 (.agg #[.int .i64 r.2.1, .int .i64 r.2.2.2]) else .iface 101 (.agg #[.int .i64 r.2.2.2])) else .nilIface
theorem entV_no {r : Rcd} (h : recFormM r = false) : entV r = .nilIface := by unfold entV; rw [if_neg (by simp [h])]
theorem entV_1 {a1 a2 a3 a4 a5 a6 : Int} (h : recFormM (1, a1, (a2, a3, a4, a5), a6) = true) : entV (1, a1, (a2, a3, a4, a5), a6) = .iface 90 (.agg #[.int .i64 a2, .int .i64 a3, .int .i64 a4, .int .i64 a5]) := by unfold entV; rw [if_pos h, if_pos rfl]
theorem entV_2 {a1 a2 a3 a4 a5 a6 : Int} (h : recFormM (2, a1, (a2, a3, a4, a5), a6) = true) : entV (2, a1, (a2, a3, a4, a5), a6) = .iface 93 (.agg #[.int .i64 a1, .int .i64 a2, .int .i64 a3, .int .i64 a4, .int .i64 a5]) := by unfold entV; rw [if_pos h, if_neg (show ¬ ((2 : Int) = 1) by decide), if_pos rfl]
theorem entV_3 {a1 a2 a3 a4 a5 a6 : Int} (h : recFormM (3, a1, (a2, a3, a4, a5), a6) = true) : entV (3, a1, (a2, a3, a4, a5), a6) = .iface 96 (.agg #[.int .i64 a1, .int .i64 a6]) := by unfold entV; rw [if_pos h, if_neg (show ¬ ((3 : Int) = 1) by decide), if_neg (show ¬ ((3 : Int) = 2) by decide), if_pos rfl]
theorem entV_4 {a1 a2 a3 a4 a5 a6 : Int} (h : recFormM (4, a1, (a2, a3, a4, a5), a6) = true) : entV (4, a1, (a2, a3, a4, a5), a6) = .iface 101 (.agg #[.int .i64 a6]) := by unfold entV; rw [if_pos h, if_neg (show ¬ ((4 : Int) = 1) by decide), if_neg (show ¬ ((4 : Int) = 2) by decide), if_neg (show ¬ ((4 : Int) = 3) by decide)]
theorem neqR1 (a1 a2 a3 a4 a5 a6 : Int) (u : World) : (binOp .neq 27 (.agg #[.int .i64 1, .int .i64 0, .int .i64 a2, .int .i64 a3, .int .i64 a4, .int .i64 a5, .int .i64 0]) (.agg #[.int .i64 1, .int .i64 a1, .int .i64 a2, .int .i64 a3, .int .i64 a4, .int .i64 a5, .int .i64 a6])).run Tryz.prog u = .ok (.bool (!(recFormM (1, a1, (a2, a3, a4, a5), a6)))) u := by
  have e : recFormM (1, a1, (a2, a3, a4, a5), a6) = ((decide (a1 = 0) && (decide (a6 = 0)))) := by unfold recFormM formM; simp [Bool.decide_and]
  rw [e]
  clear e
  go_simp
  by_cases ha1 : a1 = 0
  rotate_left
  · have ga1 : ¬ (0 : Int) = a1 := fun q => ha1 q.symm
    simp [ha1, ga1]
  by_cases ha6 : a6 = 0
  rotate_left
  · have ga6 : ¬ (0 : Int) = a6 := fun q => ha6 q.symm
    simp [ha1, ha6, ga6]
  · simp [ha1, ha6]
theorem neqR2 (a1 a2 a3 a4 a5 a6 : Int) (u : World) : (binOp .neq 27 (.agg #[.int .i64 2, .int .i64 a1, .int .i64 a2, .int .i64 a3, .int .i64 a4, .int .i64 a5, .int .i64 0]) (.agg #[.int .i64 2, .int .i64 a1, .int .i64 a2, .int .i64 a3, .int .i64 a4, .int .i64 a5, .int .i64 a6])).run Tryz.prog u = .ok (.bool (!(recFormM (2, a1, (a2, a3, a4, a5), a6)))) u := by
  have e : recFormM (2, a1, (a2, a3, a4, a5), a6) = ((decide (a6 = 0))) := by unfold recFormM formM; simp [Bool.decide_and]
  rw [e]
  clear e
  go_simp
  by_cases ha6 : a6 = 0
  rotate_left
  · have ga6 : ¬ (0 : Int) = a6 := fun q => ha6 q.symm
    simp [ha6, ga6]
  · simp [ha6]
theorem neqR3 (a1 a2 a3 a4 a5 a6 : Int) (u : World) : (binOp .neq 27 (.agg #[.int .i64 3, .int .i64 a1, .int .i64 0, .int .i64 0, .int .i64 0, .int .i64 0, .int .i64 a6]) (.agg #[.int .i64 3, .int .i64 a1, .int .i64 a2, .int .i64 a3, .int .i64 a4, .int .i64 a5, .int .i64 a6])).run Tryz.prog u = .ok (.bool (!(recFormM (3, a1, (a2, a3, a4, a5), a6)))) u := by
  have e : recFormM (3, a1, (a2, a3, a4, a5), a6) = ((decide (a2 = 0) && (decide (a3 = 0) && (decide (a4 = 0) && (decide (a5 = 0)))))) := by unfold recFormM formM; simp [Bool.decide_and]
  rw [e]
  clear e
  go_simp
  by_cases ha2 : a2 = 0
  rotate_left
  · have ga2 : ¬ (0 : Int) = a2 := fun q => ha2 q.symm
    simp [ha2, ga2]
  by_cases ha3 : a3 = 0
  rotate_left
  · have ga3 : ¬ (0 : Int) = a3 := fun q => ha3 q.symm
    simp [ha2, ha3, ga3]
  by_cases ha4 : a4 = 0
  rotate_left
  · have ga4 : ¬ (0 : Int) = a4 := fun q => ha4 q.symm
    simp [ha2, ha3, ha4, ga4]
  by_cases ha5 : a5 = 0
  rotate_left
  · have ga5 : ¬ (0 : Int) = a5 := fun q => ha5 q.symm
    simp [ha2, ha3, ha4, ha5, ga5]
  · simp [ha2, ha3, ha4, ha5]
theorem neqR4 (a1 a2 a3 a4 a5 a6 : Int) (u : World) : (binOp .neq 27 (.agg #[.int .i64 4, .int .i64 0, .int .i64 0, .int .i64 0, .int .i64 0, .int .i64 0, .int .i64 a6]) (.agg #[.int .i64 4, .int .i64 a1, .int .i64 a2, .int .i64 a3, .int .i64 a4, .int .i64 a5, .int .i64 a6])).run Tryz.prog u = .ok (.bool (!(recFormM (4, a1, (a2, a3, a4, a5), a6)))) u := by
  have e : recFormM (4, a1, (a2, a3, a4, a5), a6) = ((decide (a1 = 0) && (decide (a2 = 0) && (decide (a3 = 0) && (decide (a4 = 0) && (decide (a5 = 0))))))) := by unfold recFormM formM; simp [Bool.decide_and]
  rw [e]
  clear e
  go_simp
  by_cases ha1 : a1 = 0
  rotate_left
  · have ga1 : ¬ (0 : Int) = a1 := fun q => ha1 q.symm
    simp [ha1, ga1]
  by_cases ha2 : a2 = 0
  rotate_left
  · have ga2 : ¬ (0 : Int) = a2 := fun q => ha2 q.symm
    simp [ha1, ha2, ga2]
  by_cases ha3 : a3 = 0
  rotate_left
  · have ga3 : ¬ (0 : Int) = a3 := fun q => ha3 q.symm
    simp [ha1, ha2, ha3, ga3]
  by_cases ha4 : a4 = 0
  rotate_left
  · have ga4 : ¬ (0 : Int) = a4 := fun q => ha4 q.symm
    simp [ha1, ha2, ha3, ha4, ga4]
  by_cases ha5 : a5 = 0
  rotate_left
  · have ga5 : ¬ (0 : Int) = a5 := fun q => ha5 q.symm
    simp [ha1, ha2, ha3, ha4, ha5, ga5]
  · simp [ha1, ha2, ha3, ha4, ha5]
set_option maxHeartbeats 1000000 in
theorem recOf1 (a2 a3 a4 a5 : Int) (w : World) :
    Calls Tryz.prog 215 #[.agg #[.int .i64 a2, .int .i64 a3, .int .i64 a4, .int .i64 a5]] w fun e w' => e = .returned (.agg #[.int .i64 1, .int .i64 0, .int .i64 a2, .int .i64 a3, .int .i64 a4, .int .i64 a5, .int .i64 0]) ∧ Below w.heap.size w w' := by
  have hB0 : Below w.heap.size w ((w.alloc (.cells #[.int .i64 a2, .int .i64 a3, .int .i64 a4, .int .i64 a5] 90)).alloc (.cells #[.int .i64 0, .int .i64 0, .int .i64 0, .int .i64 0, .int .i64 0, .int .i64 0, .int .i64 0] 27)) := ((Below.refl _ _).alloc (Nat.le_refl _) _).alloc (by simp) _
  go_enter Tryz.func215, Tryz.ntmps215
  go_wp2
  refine bodyPost_ret (v := .agg #[.int .i64 1, .int .i64 0, .int .i64 a2, .int .i64 a3, .int .i64 a4, .int .i64 a5, .int .i64 0]) (by simp [results, Tryz.results215, go_sem]) rfl ?_
  exact ⟨rfl, by repeat (first | exact Below.refl _ _ | refine Below.setCell ?_ (by simp) _ | refine Below.alloc ?_ (by simp) _)⟩
set_option maxHeartbeats 1000000 in
theorem recOf2 (a1 a2 a3 a4 a5 : Int) (w : World) :
    Calls Tryz.prog 216 #[.agg #[.int .i64 a1, .int .i64 a2, .int .i64 a3, .int .i64 a4, .int .i64 a5]] w fun e w' => e = .returned (.agg #[.int .i64 2, .int .i64 a1, .int .i64 a2, .int .i64 a3, .int .i64 a4, .int .i64 a5, .int .i64 0]) ∧ Below w.heap.size w w' := by
  have hB0 : Below w.heap.size w ((w.alloc (.cells #[.int .i64 a1, .int .i64 a2, .int .i64 a3, .int .i64 a4, .int .i64 a5] 93)).alloc (.cells #[.int .i64 0, .int .i64 0, .int .i64 0, .int .i64 0, .int .i64 0, .int .i64 0, .int .i64 0] 27)) := ((Below.refl _ _).alloc (Nat.le_refl _) _).alloc (by simp) _
  go_enter Tryz.func216, Tryz.ntmps216
  go_wp2
  refine bodyPost_ret (v := .agg #[.int .i64 2, .int .i64 a1, .int .i64 a2, .int .i64 a3, .int .i64 a4, .int .i64 a5, .int .i64 0]) (by simp [results, Tryz.results216, go_sem]) rfl ?_
  exact ⟨rfl, by repeat (first | exact Below.refl _ _ | refine Below.setCell ?_ (by simp) _ | refine Below.alloc ?_ (by simp) _)⟩
set_option maxHeartbeats 1000000 in
theorem recOf3 (a1 a6 : Int) (w : World) :
    Calls Tryz.prog 217 #[.agg #[.int .i64 a1, .int .i64 a6]] w fun e w' => e = .returned (.agg #[.int .i64 3, .int .i64 a1, .int .i64 0, .int .i64 0, .int .i64 0, .int .i64 0, .int .i64 a6]) ∧ Below w.heap.size w w' := by
  have hB0 : Below w.heap.size w ((w.alloc (.cells #[.int .i64 a1, .int .i64 a6] 96)).alloc (.cells #[.int .i64 0, .int .i64 0, .int .i64 0, .int .i64 0, .int .i64 0, .int .i64 0, .int .i64 0] 27)) := ((Below.refl _ _).alloc (Nat.le_refl _) _).alloc (by simp) _
  go_enter Tryz.func217, Tryz.ntmps217
  go_wp2
  refine bodyPost_ret (v := .agg #[.int .i64 3, .int .i64 a1, .int .i64 0, .int .i64 0, .int .i64 0, .int .i64 0, .int .i64 a6]) (by simp [results, Tryz.results217, go_sem]) rfl ?_
  exact ⟨rfl, by repeat (first | exact Below.refl _ _ | refine Below.setCell ?_ (by simp) _ | refine Below.alloc ?_ (by simp) _)⟩
set_option maxHeartbeats 1000000 in
theorem recOf4 (a6 : Int) (w : World) :
    Calls Tryz.prog 218 #[.agg #[.int .i64 a6]] w fun e w' => e = .returned (.agg #[.int .i64 4, .int .i64 0, .int .i64 0, .int .i64 0, .int .i64 0, .int .i64 0, .int .i64 a6]) ∧ Below w.heap.size w w' := by
  have hB0 : Below w.heap.size w ((w.alloc (.cells #[.int .i64 a6] 101)).alloc (.cells #[.int .i64 0, .int .i64 0, .int .i64 0, .int .i64 0, .int .i64 0, .int .i64 0, .int .i64 0] 27)) := ((Below.refl _ _).alloc (Nat.le_refl _) _).alloc (by simp) _
  go_enter Tryz.func218, Tryz.ntmps218
  go_wp2
  refine bodyPost_ret (v := .agg #[.int .i64 4, .int .i64 0, .int .i64 0, .int .i64 0, .int .i64 0, .int .i64 0, .int .i64 a6]) (by simp [results, Tryz.results218, go_sem]) rfl ?_
  exact ⟨rfl, by repeat (first | exact Below.refl _ _ | refine Below.setCell ?_ (by simp) _ | refine Below.alloc ?_ (by simp) _)⟩
theorem as0_1 (w : World) : (Instr.typeAssert .nilIface 66 90 true).run Tryz.prog w = .ok (.tuple #[.agg #[.int .i64 0, .int .i64 0, .int .i64 0, .int .i64 0], .bool false]) w := by kernel_rfl
theorem as0_2 (w : World) : (Instr.typeAssert .nilIface 66 93 true).run Tryz.prog w = .ok (.tuple #[.agg #[.int .i64 0, .int .i64 0, .int .i64 0, .int .i64 0, .int .i64 0], .bool false]) w := by kernel_rfl
theorem as0_3 (w : World) : (Instr.typeAssert .nilIface 66 96 true).run Tryz.prog w = .ok (.tuple #[.agg #[.int .i64 0, .int .i64 0], .bool false]) w := by kernel_rfl
theorem as0_4 (w : World) : (Instr.typeAssert .nilIface 66 101 true).run Tryz.prog w = .ok (.tuple #[.agg #[.int .i64 0], .bool false]) w := by kernel_rfl
theorem as1_1 (v : Value) (w : World) : (Instr.typeAssert (.iface 90 v) 66 90 true).run Tryz.prog w = .ok (.tuple #[v, .bool true]) w := by kernel_rfl
theorem as2_1 (v : Value) (w : World) : (Instr.typeAssert (.iface 93 v) 66 90 true).run Tryz.prog w = .ok (.tuple #[.agg #[.int .i64 0, .int .i64 0, .int .i64 0, .int .i64 0], .bool false]) w := by kernel_rfl
theorem as2_2 (v : Value) (w : World) : (Instr.typeAssert (.iface 93 v) 66 93 true).run Tryz.prog w = .ok (.tuple #[v, .bool true]) w := by kernel_rfl
theorem as3_1 (v : Value) (w : World) : (Instr.typeAssert (.iface 96 v) 66 90 true).run Tryz.prog w = .ok (.tuple #[.agg #[.int .i64 0, .int .i64 0, .int .i64 0, .int .i64 0], .bool false]) w := by kernel_rfl
theorem as3_2 (v : Value) (w : World) : (Instr.typeAssert (.iface 96 v) 66 93 true).run Tryz.prog w = .ok (.tuple #[.agg #[.int .i64 0, .int .i64 0, .int .i64 0, .int .i64 0, .int .i64 0], .bool false]) w := by kernel_rfl
theorem as3_3 (v : Value) (w : World) : (Instr.typeAssert (.iface 96 v) 66 96 true).run Tryz.prog w = .ok (.tuple #[v, .bool true]) w := by kernel_rfl
theorem as4_1 (v : Value) (w : World) : (Instr.typeAssert (.iface 101 v) 66 90 true).run Tryz.prog w = .ok (.tuple #[.agg #[.int .i64 0, .int .i64 0, .int .i64 0, .int .i64 0], .bool false]) w := by kernel_rfl
theorem as4_2 (v : Value) (w : World) : (Instr.typeAssert (.iface 101 v) 66 93 true).run Tryz.prog w = .ok (.tuple #[.agg #[.int .i64 0, .int .i64 0, .int .i64 0, .int .i64 0, .int .i64 0], .bool false]) w := by kernel_rfl
theorem as4_3 (v : Value) (w : World) : (Instr.typeAssert (.iface 101 v) 66 96 true).run Tryz.prog w = .ok (.tuple #[.agg #[.int .i64 0, .int .i64 0], .bool false]) w := by kernel_rfl
theorem as4_4 (v : Value) (w : World) : (Instr.typeAssert (.iface 101 v) 66 101 true).run Tryz.prog w = .ok (.tuple #[v, .bool true]) w := by kernel_rfl

set_option maxHeartbeats 4000000 in
theorem entryOf (a0 a1 a2 a3 a4 a5 a6 : Int) (w : World) :
    Calls Tryz.prog 38 #[.agg #[.int .i64 a0, .int .i64 a1, .int .i64 a2, .int .i64 a3, .int .i64 a4, .int .i64 a5, .int .i64 a6]] w fun e w' => e = .returned (entV (a0, a1, (a2, a3, a4, a5), a6)) ∧ Below w.heap.size w w' := by
  have hB0 : Below w.heap.size w (w.alloc (.cells #[.int .i64 a0, .int .i64 a1, .int .i64 a2, .int .i64 a3, .int .i64 a4, .int .i64 a5, .int .i64 a6] 27)) := (Below.refl _ _).alloc (Nat.le_refl _) _
  have r0 := At.new w 27 #[.int .i64 a0, .int .i64 a1, .int .i64 a2, .int .i64 a3, .int .i64 a4, .int .i64 a5, .int .i64 a6]
  obtain ⟨c0, c1, c2, c3, c4, c5, c6⟩ := r0.seven
  by_cases k1 : a0 = 1
  rotate_left
  by_cases k2 : a0 = 2
  rotate_left
  by_cases k3 : a0 = 3
  rotate_left
  by_cases k4 : a0 = 4
  rotate_left
  · have b1 : (a0 == 1) = false := by simpa using k1
    have b2 : (a0 == 2) = false := by simpa using k2
    have b3 : (a0 == 3) = false := by simpa using k3
    have b4 : (a0 == 4) = false := by simpa using k4
    have Hr := Lib.hid (entV_no (r := (a0, a1, (a2, a3, a4, a5), a6)) (by unfold recFormM; rw [if_neg k1, if_neg k2, if_neg k3, if_neg k4]))
    clear k1 k2 k3 k4
    go_enter Tryz.func38, Tryz.ntmps38
    go_wp2
    refine wp_region_mix [(0, false), (1, false), (2, false), (3, false), (5, false), (4, true), (6, false), (7, false)] (fun u => At u w.heap.size 27 #[.int .i64 a0, .int .i64 a1, .int .i64 a2, .int .i64 a3, .int .i64 a4, .int .i64 a5, .int .i64 a6]) (by kernel_rfl) (by kernel_rfl) (fun _ _ _ _ _ h => h) r0.drew ?_
    simp only [mixOps, List.map_cons, List.map_nil, List.getElem?_cons_succ, List.getElem?_cons_zero, Option.getD_some]
    repeat (first
      | (refine mix_skip (by rfl) ?_
         (try simp only [Act.put, List.setIfInBounds_toArray, List.set_cons_zero, List.set_cons_succ]))
      | (refine mix_pure (v := ?_) (by rfl) (fun u hu => ?_) ?_
         rotate_left
         · obtain ⟨_, _, _, _, _, _, _⟩ := hu.seven
           go_simp
           (with_reducible rfl)
         (try simp only [Act.put, List.setIfInBounds_toArray, List.set_cons_zero, List.set_cons_succ])))
    refine mix_nil ?_
    go_wp2
    go_ret
    exact ⟨by rw [Hr.out]; rfl, hB0.drew⟩
  · subst k1
    have NQ := neqR1 a1 a2 a3 a4 a5 a6
    rcases hf : recFormM (1, a1, (a2, a3, a4, a5), a6)
    · have Hr := Lib.hid (entV_no hf)
      rw [hf] at NQ
      clear hf
      go_enter Tryz.func38, Tryz.ntmps38
      go_wp2
      refine wp_region_mix [(0, false), (1, false), (2, false), (3, false), (5, false), (4, true), (6, false), (7, false)] (fun u => At u w.heap.size 27 #[.int .i64 1, .int .i64 a1, .int .i64 a2, .int .i64 a3, .int .i64 a4, .int .i64 a5, .int .i64 a6]) (by kernel_rfl) (by kernel_rfl) (fun _ _ _ _ _ h => h) r0.drew ?_
      simp only [mixOps, List.map_cons, List.map_nil, List.getElem?_cons_succ, List.getElem?_cons_zero, Option.getD_some]
      repeat (first
        | (refine mix_skip (by rfl) ?_
           (try simp only [Act.put, List.setIfInBounds_toArray, List.set_cons_zero, List.set_cons_succ]))
        | (refine mix_pure (v := ?_) (by rfl) (fun u hu => ?_) ?_
           rotate_left
           · obtain ⟨_, _, _, _, _, _, _⟩ := hu.seven
             go_simp
             (with_reducible rfl)
           (try simp only [Act.put, List.setIfInBounds_toArray, List.set_cons_zero, List.set_cons_succ])))
      refine mix_call (by rfl) (fun K hK => ?_)
      go_simp
      go_upon
      refine (recOf1 a2 a3 a4 a5 _).mono ?_
      rintro e w1 ⟨rfl, hb1⟩
      have hB1 := hB0.drew.trans (hb1.mono hB0.drew.size)
      have r1 := r0.drew.below hb1 r0.drew.lt
      refine hK _ _ (fun u => At u w.heap.size 27 #[.int .i64 1, .int .i64 a1, .int .i64 a2, .int .i64 a3, .int .i64 a4, .int .i64 a5, .int .i64 a6]) (fun _ h => h) r1 ?_
      clear hK K
      (try simp only [Act.put, List.setIfInBounds_toArray, List.set_cons_zero, List.set_cons_succ])
      repeat (first
        | (refine mix_skip (by rfl) ?_
           (try simp only [Act.put, List.setIfInBounds_toArray, List.set_cons_zero, List.set_cons_succ]))
        | (refine mix_pure (v := ?_) (by rfl) (fun u hu => ?_) ?_
           rotate_left
           · go_simp
             (with_reducible rfl)
           (try simp only [Act.put, List.setIfInBounds_toArray, List.set_cons_zero, List.set_cons_succ])))
      refine mix_nil ?_
      go_wp2
      go_ret
      exact ⟨by rw [Hr.out]; rfl, hB1⟩
    · have Hr := Lib.hid (entV_1 hf)
      rw [hf] at NQ
      clear hf
      go_enter Tryz.func38, Tryz.ntmps38
      go_wp2
      refine wp_region_mix [(0, false), (1, false), (2, false), (3, false), (5, false), (4, true), (6, false), (7, false)] (fun u => At u w.heap.size 27 #[.int .i64 1, .int .i64 a1, .int .i64 a2, .int .i64 a3, .int .i64 a4, .int .i64 a5, .int .i64 a6]) (by kernel_rfl) (by kernel_rfl) (fun _ _ _ _ _ h => h) r0.drew ?_
      simp only [mixOps, List.map_cons, List.map_nil, List.getElem?_cons_succ, List.getElem?_cons_zero, Option.getD_some]
      repeat (first
        | (refine mix_skip (by rfl) ?_
           (try simp only [Act.put, List.setIfInBounds_toArray, List.set_cons_zero, List.set_cons_succ]))
        | (refine mix_pure (v := ?_) (by rfl) (fun u hu => ?_) ?_
           rotate_left
           · obtain ⟨_, _, _, _, _, _, _⟩ := hu.seven
             go_simp
             (with_reducible rfl)
           (try simp only [Act.put, List.setIfInBounds_toArray, List.set_cons_zero, List.set_cons_succ])))
      refine mix_call (by rfl) (fun K hK => ?_)
      go_simp
      go_upon
      refine (recOf1 a2 a3 a4 a5 _).mono ?_
      rintro e w1 ⟨rfl, hb1⟩
      have hB1 := hB0.drew.trans (hb1.mono hB0.drew.size)
      have r1 := r0.drew.below hb1 r0.drew.lt
      refine hK _ _ (fun u => At u w.heap.size 27 #[.int .i64 1, .int .i64 a1, .int .i64 a2, .int .i64 a3, .int .i64 a4, .int .i64 a5, .int .i64 a6]) (fun _ h => h) r1 ?_
      clear hK K
      (try simp only [Act.put, List.setIfInBounds_toArray, List.set_cons_zero, List.set_cons_succ])
      repeat (first
        | (refine mix_skip (by rfl) ?_
           (try simp only [Act.put, List.setIfInBounds_toArray, List.set_cons_zero, List.set_cons_succ]))
        | (refine mix_pure (v := ?_) (by rfl) (fun u hu => ?_) ?_
           rotate_left
           · go_simp
             (with_reducible rfl)
           (try simp only [Act.put, List.setIfInBounds_toArray, List.set_cons_zero, List.set_cons_succ])))
      refine mix_nil ?_
      go_wp2
      go_ret
      exact ⟨by rw [Hr.out]; rfl, hB1⟩
  · subst k2
    clear k1
    have NQ := neqR2 a1 a2 a3 a4 a5 a6
    rcases hf : recFormM (2, a1, (a2, a3, a4, a5), a6)
    · have Hr := Lib.hid (entV_no hf)
      rw [hf] at NQ
      clear hf
      go_enter Tryz.func38, Tryz.ntmps38
      go_wp2
      refine wp_region_mix [(0, false), (1, false), (2, false), (3, false), (5, false), (4, true), (6, false), (7, false)] (fun u => At u w.heap.size 27 #[.int .i64 2, .int .i64 a1, .int .i64 a2, .int .i64 a3, .int .i64 a4, .int .i64 a5, .int .i64 a6]) (by kernel_rfl) (by kernel_rfl) (fun _ _ _ _ _ h => h) r0.drew ?_
      simp only [mixOps, List.map_cons, List.map_nil, List.getElem?_cons_succ, List.getElem?_cons_zero, Option.getD_some]
      repeat (first
        | (refine mix_skip (by rfl) ?_
           (try simp only [Act.put, List.setIfInBounds_toArray, List.set_cons_zero, List.set_cons_succ]))
        | (refine mix_pure (v := ?_) (by rfl) (fun u hu => ?_) ?_
           rotate_left
           · obtain ⟨_, _, _, _, _, _, _⟩ := hu.seven
             go_simp
             (with_reducible rfl)
           (try simp only [Act.put, List.setIfInBounds_toArray, List.set_cons_zero, List.set_cons_succ])))
      refine mix_call (by rfl) (fun K hK => ?_)
      go_simp
      go_upon
      refine (recOf2 a1 a2 a3 a4 a5 _).mono ?_
      rintro e w1 ⟨rfl, hb1⟩
      have hB1 := hB0.drew.trans (hb1.mono hB0.drew.size)
      have r1 := r0.drew.below hb1 r0.drew.lt
      refine hK _ _ (fun u => At u w.heap.size 27 #[.int .i64 2, .int .i64 a1, .int .i64 a2, .int .i64 a3, .int .i64 a4, .int .i64 a5, .int .i64 a6]) (fun _ h => h) r1 ?_
      clear hK K
      (try simp only [Act.put, List.setIfInBounds_toArray, List.set_cons_zero, List.set_cons_succ])
      repeat (first
        | (refine mix_skip (by rfl) ?_
           (try simp only [Act.put, List.setIfInBounds_toArray, List.set_cons_zero, List.set_cons_succ]))
        | (refine mix_pure (v := ?_) (by rfl) (fun u hu => ?_) ?_
           rotate_left
           · go_simp
             (with_reducible rfl)
           (try simp only [Act.put, List.setIfInBounds_toArray, List.set_cons_zero, List.set_cons_succ])))
      refine mix_nil ?_
      go_wp2
      go_ret
      exact ⟨by rw [Hr.out]; rfl, hB1⟩
    · have Hr := Lib.hid (entV_2 hf)
      rw [hf] at NQ
      clear hf
      go_enter Tryz.func38, Tryz.ntmps38
      go_wp2
      refine wp_region_mix [(0, false), (1, false), (2, false), (3, false), (5, false), (4, true), (6, false), (7, false)] (fun u => At u w.heap.size 27 #[.int .i64 2, .int .i64 a1, .int .i64 a2, .int .i64 a3, .int .i64 a4, .int .i64 a5, .int .i64 a6]) (by kernel_rfl) (by kernel_rfl) (fun _ _ _ _ _ h => h) r0.drew ?_
      simp only [mixOps, List.map_cons, List.map_nil, List.getElem?_cons_succ, List.getElem?_cons_zero, Option.getD_some]
      repeat (first
        | (refine mix_skip (by rfl) ?_
           (try simp only [Act.put, List.setIfInBounds_toArray, List.set_cons_zero, List.set_cons_succ]))
        | (refine mix_pure (v := ?_) (by rfl) (fun u hu => ?_) ?_
           rotate_left
           · obtain ⟨_, _, _, _, _, _, _⟩ := hu.seven
             go_simp
             (with_reducible rfl)
           (try simp only [Act.put, List.setIfInBounds_toArray, List.set_cons_zero, List.set_cons_succ])))
      refine mix_call (by rfl) (fun K hK => ?_)
      go_simp
      go_upon
      refine (recOf2 a1 a2 a3 a4 a5 _).mono ?_
      rintro e w1 ⟨rfl, hb1⟩
      have hB1 := hB0.drew.trans (hb1.mono hB0.drew.size)
      have r1 := r0.drew.below hb1 r0.drew.lt
      refine hK _ _ (fun u => At u w.heap.size 27 #[.int .i64 2, .int .i64 a1, .int .i64 a2, .int .i64 a3, .int .i64 a4, .int .i64 a5, .int .i64 a6]) (fun _ h => h) r1 ?_
      clear hK K
      (try simp only [Act.put, List.setIfInBounds_toArray, List.set_cons_zero, List.set_cons_succ])
      repeat (first
        | (refine mix_skip (by rfl) ?_
           (try simp only [Act.put, List.setIfInBounds_toArray, List.set_cons_zero, List.set_cons_succ]))
        | (refine mix_pure (v := ?_) (by rfl) (fun u hu => ?_) ?_
           rotate_left
           · go_simp
             (with_reducible rfl)
           (try simp only [Act.put, List.setIfInBounds_toArray, List.set_cons_zero, List.set_cons_succ])))
      refine mix_nil ?_
      go_wp2
      go_ret
      exact ⟨by rw [Hr.out]; rfl, hB1⟩
  · subst k3
    clear k1 k2
    have NQ := neqR3 a1 a2 a3 a4 a5 a6
    rcases hf : recFormM (3, a1, (a2, a3, a4, a5), a6)
    · have Hr := Lib.hid (entV_no hf)
      rw [hf] at NQ
      clear hf
      go_enter Tryz.func38, Tryz.ntmps38
      go_wp2
      refine wp_region_mix [(0, false), (1, false), (2, false), (3, false), (5, false), (4, true), (6, false), (7, false)] (fun u => At u w.heap.size 27 #[.int .i64 3, .int .i64 a1, .int .i64 a2, .int .i64 a3, .int .i64 a4, .int .i64 a5, .int .i64 a6]) (by kernel_rfl) (by kernel_rfl) (fun _ _ _ _ _ h => h) r0.drew ?_
      simp only [mixOps, List.map_cons, List.map_nil, List.getElem?_cons_succ, List.getElem?_cons_zero, Option.getD_some]
      repeat (first
        | (refine mix_skip (by rfl) ?_
           (try simp only [Act.put, List.setIfInBounds_toArray, List.set_cons_zero, List.set_cons_succ]))
        | (refine mix_pure (v := ?_) (by rfl) (fun u hu => ?_) ?_
           rotate_left
           · obtain ⟨_, _, _, _, _, _, _⟩ := hu.seven
             go_simp
             (with_reducible rfl)
           (try simp only [Act.put, List.setIfInBounds_toArray, List.set_cons_zero, List.set_cons_succ])))
      refine mix_call (by rfl) (fun K hK => ?_)
      go_simp
      go_upon
      refine (recOf3 a1 a6 _).mono ?_
      rintro e w1 ⟨rfl, hb1⟩
      have hB1 := hB0.drew.trans (hb1.mono hB0.drew.size)
      have r1 := r0.drew.below hb1 r0.drew.lt
      refine hK _ _ (fun u => At u w.heap.size 27 #[.int .i64 3, .int .i64 a1, .int .i64 a2, .int .i64 a3, .int .i64 a4, .int .i64 a5, .int .i64 a6]) (fun _ h => h) r1 ?_
      clear hK K
      (try simp only [Act.put, List.setIfInBounds_toArray, List.set_cons_zero, List.set_cons_succ])
      repeat (first
        | (refine mix_skip (by rfl) ?_
           (try simp only [Act.put, List.setIfInBounds_toArray, List.set_cons_zero, List.set_cons_succ]))
        | (refine mix_pure (v := ?_) (by rfl) (fun u hu => ?_) ?_
           rotate_left
           · go_simp
             (with_reducible rfl)
           (try simp only [Act.put, List.setIfInBounds_toArray, List.set_cons_zero, List.set_cons_succ])))
      refine mix_nil ?_
      go_wp2
      go_ret
      exact ⟨by rw [Hr.out]; rfl, hB1⟩
    · have Hr := Lib.hid (entV_3 hf)
      rw [hf] at NQ
      clear hf
      go_enter Tryz.func38, Tryz.ntmps38
      go_wp2
      refine wp_region_mix [(0, false), (1, false), (2, false), (3, false), (5, false), (4, true), (6, false), (7, false)] (fun u => At u w.heap.size 27 #[.int .i64 3, .int .i64 a1, .int .i64 a2, .int .i64 a3, .int .i64 a4, .int .i64 a5, .int .i64 a6]) (by kernel_rfl) (by kernel_rfl) (fun _ _ _ _ _ h => h) r0.drew ?_
      simp only [mixOps, List.map_cons, List.map_nil, List.getElem?_cons_succ, List.getElem?_cons_zero, Option.getD_some]
      repeat (first
        | (refine mix_skip (by rfl) ?_
           (try simp only [Act.put, List.setIfInBounds_toArray, List.set_cons_zero, List.set_cons_succ]))
        | (refine mix_pure (v := ?_) (by rfl) (fun u hu => ?_) ?_
           rotate_left
           · obtain ⟨_, _, _, _, _, _, _⟩ := hu.seven
             go_simp
             (with_reducible rfl)
           (try simp only [Act.put, List.setIfInBounds_toArray, List.set_cons_zero, List.set_cons_succ])))
      refine mix_call (by rfl) (fun K hK => ?_)
      go_simp
      go_upon
      refine (recOf3 a1 a6 _).mono ?_
      rintro e w1 ⟨rfl, hb1⟩
      have hB1 := hB0.drew.trans (hb1.mono hB0.drew.size)
      have r1 := r0.drew.below hb1 r0.drew.lt
      refine hK _ _ (fun u => At u w.heap.size 27 #[.int .i64 3, .int .i64 a1, .int .i64 a2, .int .i64 a3, .int .i64 a4, .int .i64 a5, .int .i64 a6]) (fun _ h => h) r1 ?_
      clear hK K
      (try simp only [Act.put, List.setIfInBounds_toArray, List.set_cons_zero, List.set_cons_succ])
      repeat (first
        | (refine mix_skip (by rfl) ?_
           (try simp only [Act.put, List.setIfInBounds_toArray, List.set_cons_zero, List.set_cons_succ]))
        | (refine mix_pure (v := ?_) (by rfl) (fun u hu => ?_) ?_
           rotate_left
           · go_simp
             (with_reducible rfl)
           (try simp only [Act.put, List.setIfInBounds_toArray, List.set_cons_zero, List.set_cons_succ])))
      refine mix_nil ?_
      go_wp2
      go_ret
      exact ⟨by rw [Hr.out]; rfl, hB1⟩
  · subst k4
    clear k1 k2 k3
    have NQ := neqR4 a1 a2 a3 a4 a5 a6
    rcases hf : recFormM (4, a1, (a2, a3, a4, a5), a6)
    · have Hr := Lib.hid (entV_no hf)
      rw [hf] at NQ
      clear hf
      go_enter Tryz.func38, Tryz.ntmps38
      go_wp2
      refine wp_region_mix [(0, false), (1, false), (2, false), (3, false), (5, false), (4, true), (6, false), (7, false)] (fun u => At u w.heap.size 27 #[.int .i64 4, .int .i64 a1, .int .i64 a2, .int .i64 a3, .int .i64 a4, .int .i64 a5, .int .i64 a6]) (by kernel_rfl) (by kernel_rfl) (fun _ _ _ _ _ h => h) r0.drew ?_
      simp only [mixOps, List.map_cons, List.map_nil, List.getElem?_cons_succ, List.getElem?_cons_zero, Option.getD_some]
      repeat (first
        | (refine mix_skip (by rfl) ?_
           (try simp only [Act.put, List.setIfInBounds_toArray, List.set_cons_zero, List.set_cons_succ]))
        | (refine mix_pure (v := ?_) (by rfl) (fun u hu => ?_) ?_
           rotate_left
           · obtain ⟨_, _, _, _, _, _, _⟩ := hu.seven
             go_simp
             (with_reducible rfl)
           (try simp only [Act.put, List.setIfInBounds_toArray, List.set_cons_zero, List.set_cons_succ])))
      refine mix_call (by rfl) (fun K hK => ?_)
      go_simp
      go_upon
      refine (recOf4 a6 _).mono ?_
      rintro e w1 ⟨rfl, hb1⟩
      have hB1 := hB0.drew.trans (hb1.mono hB0.drew.size)
      have r1 := r0.drew.below hb1 r0.drew.lt
      refine hK _ _ (fun u => At u w.heap.size 27 #[.int .i64 4, .int .i64 a1, .int .i64 a2, .int .i64 a3, .int .i64 a4, .int .i64 a5, .int .i64 a6]) (fun _ h => h) r1 ?_
      clear hK K
      (try simp only [Act.put, List.setIfInBounds_toArray, List.set_cons_zero, List.set_cons_succ])
      repeat (first
        | (refine mix_skip (by rfl) ?_
           (try simp only [Act.put, List.setIfInBounds_toArray, List.set_cons_zero, List.set_cons_succ]))
        | (refine mix_pure (v := ?_) (by rfl) (fun u hu => ?_) ?_
           rotate_left
           · go_simp
             (with_reducible rfl)
           (try simp only [Act.put, List.setIfInBounds_toArray, List.set_cons_zero, List.set_cons_succ])))
      refine mix_nil ?_
      go_wp2
      go_ret
      exact ⟨by rw [Hr.out]; rfl, hB1⟩
    · have Hr := Lib.hid (entV_4 hf)
      rw [hf] at NQ
      clear hf
      go_enter Tryz.func38, Tryz.ntmps38
      go_wp2
      refine wp_region_mix [(0, false), (1, false), (2, false), (3, false), (5, false), (4, true), (6, false), (7, false)] (fun u => At u w.heap.size 27 #[.int .i64 4, .int .i64 a1, .int .i64 a2, .int .i64 a3, .int .i64 a4, .int .i64 a5, .int .i64 a6]) (by kernel_rfl) (by kernel_rfl) (fun _ _ _ _ _ h => h) r0.drew ?_
      simp only [mixOps, List.map_cons, List.map_nil, List.getElem?_cons_succ, List.getElem?_cons_zero, Option.getD_some]
      repeat (first
        | (refine mix_skip (by rfl) ?_
           (try simp only [Act.put, List.setIfInBounds_toArray, List.set_cons_zero, List.set_cons_succ]))
        | (refine mix_pure (v := ?_) (by rfl) (fun u hu => ?_) ?_
           rotate_left
           · obtain ⟨_, _, _, _, _, _, _⟩ := hu.seven
             go_simp
             (with_reducible rfl)
           (try simp only [Act.put, List.setIfInBounds_toArray, List.set_cons_zero, List.set_cons_succ])))
      refine mix_call (by rfl) (fun K hK => ?_)
      go_simp
      go_upon
      refine (recOf4 a6 _).mono ?_
      rintro e w1 ⟨rfl, hb1⟩
      have hB1 := hB0.drew.trans (hb1.mono hB0.drew.size)
      have r1 := r0.drew.below hb1 r0.drew.lt
      refine hK _ _ (fun u => At u w.heap.size 27 #[.int .i64 4, .int .i64 a1, .int .i64 a2, .int .i64 a3, .int .i64 a4, .int .i64 a5, .int .i64 a6]) (fun _ h => h) r1 ?_
      clear hK K
      (try simp only [Act.put, List.setIfInBounds_toArray, List.set_cons_zero, List.set_cons_succ])
      repeat (first
        | (refine mix_skip (by rfl) ?_
           (try simp only [Act.put, List.setIfInBounds_toArray, List.set_cons_zero, List.set_cons_succ]))
        | (refine mix_pure (v := ?_) (by rfl) (fun u hu => ?_) ?_
           rotate_left
           · go_simp
             (with_reducible rfl)
           (try simp only [Act.put, List.setIfInBounds_toArray, List.set_cons_zero, List.set_cons_succ])))
      refine mix_nil ?_
      go_wp2
      go_ret
      exact ⟨by rw [Hr.out]; rfl, hB1⟩
end Go.Proofs.YtmaillakhhdkfaaGreatDoor
/-
  The program's fault of a record.
-/
namespace Go.Proofs.YtmaillakhhdkfaaGreatDoor
set_option maxRecDepth 20000
open Go.RowKit
set_option linter.unusedSimpArgs false
set_option linter.unusedVariables false

/-- What rangeFault answers. -/
def rngM (bs : List (Int × Int × Int)) : Int := if bs.all inB = true then 0 else 3
theorem rangeFault (g n c : Nat) (bs : List (Int × Int × Int)) (w : World) (hb : Bnds w g bs) (hg : g < w.heap.size) (hn : bs.length = n) (hm : n ≤ 1000) :
    Calls Tryz.prog 62 #[.slice (some ⟨g, 0, none⟩) n c] w fun e w' => e = .returned (.int .i64 (rngM bs)) ∧ Below w.heap.size w w' := by
  unfold rngM
  have HW := areWithin_any g n c bs w hb hg hn hm
  rcases hq : bs.all inB
  · rw [hq] at HW
    rw [if_neg (by simp)]
    clear hq hb hn
    go_enter Tryz.func62, Tryz.ntmps62
    go_wp2_with fail
    refine HW.mono ?_
    rintro e w1 ⟨rfl, hb1⟩
    go_wp2
    go_ret
    exact ⟨rfl, hb1⟩
  · rw [hq] at HW
    rw [if_pos rfl]
    clear hq hb hn
    go_enter Tryz.func62, Tryz.ntmps62
    go_wp2_with fail
    refine HW.mono ?_
    rintro e w1 ⟨rfl, hb1⟩
    go_wp2
    go_ret
    exact ⟨rfl, hb1⟩
theorem rec_kind1 {a1 a2 a3 a4 a5 a6 : Int} (h : recFormM (1, a1, (a2, a3, a4, a5), a6) = true) : recFaultM (1, a1, (a2, a3, a4, a5), a6) = faultM (a2, a3, a4, a5) := by
  have e : a1 = 0 ∧ a6 = 0 := by unfold recFormM formM at h; simpa using h
  rw [recFault_range h]; unfold rrangeM; rw [e.1, e.2, if_pos (by unfold mostM inB; simp)]
theorem rec_kind2 {a1 a2 a3 a4 a5 a6 : Int} (h : recFormM (2, a1, (a2, a3, a4, a5), a6) = true) : recFaultM (2, a1, (a2, a3, a4, a5), a6) = hfaultM (a1, (a2, a3, a4, a5), 0, 0) := by
  have e : a6 = 0 := by unfold recFormM formM at h; simpa using h
  have h0 : inB ((0 : Int), 0, 9999) = true := by decide
  have h4 : inB ((0 : Int), 0, 4) = true := by decide
  have h2 : inB ((0 : Int), 0, 200000) = true := by decide
  rw [recFault_range h]; unfold rrangeM hfaultM rangeH mostM
  rw [e]
  simp only [show ¬ ((2 : Int) = 4) by decide, if_false, h0, h4, h2, Bool.and_true]
  rcases faultM_or (a2, a3, a4, a5) with hf | hf <;> rcases hb : inB (a1, 0, 3) <;> simp [hf]
theorem rec_kind3 {a1 a2 a3 a4 a5 a6 : Int} (h : recFormM (3, a1, (a2, a3, a4, a5), a6) = true) : recFaultM (3, a1, (a2, a3, a4, a5), a6) = rngM [(a1, 0, 3), (a6, 0, 9999)] := by
  unfold rngM
  have e : (a2, a3, a4, a5) = ((0 : Int), (0 : Int), (0 : Int), (0 : Int)) := by unfold recFormM formM at h; simpa using h
  have hz : faultM (0, 0, 0, 0) = 0 := by decide
  rw [recFault_range h]; unfold rrangeM mostM
  rw [e, hz]
  simp only [show ¬ ((3 : Int) = 4) by decide, if_false, List.all_cons, List.all_nil, Bool.and_true]
theorem rec_kind4 {a1 a2 a3 a4 a5 a6 : Int} (h : recFormM (4, a1, (a2, a3, a4, a5), a6) = true) : recFaultM (4, a1, (a2, a3, a4, a5), a6) = rngM [(a6, 0, 60000)] := by
  unfold rngM
  have e : a1 = 0 ∧ (a2, a3, a4, a5) = ((0 : Int), (0 : Int), (0 : Int), (0 : Int)) := by unfold recFormM formM at h; simpa using h
  have hz : faultM (0, 0, 0, 0) = 0 := by decide
  have h0 : inB ((0 : Int), 0, 3) = true := by decide
  rw [recFault_range h]; unfold rrangeM mostM
  rw [e.1, e.2, hz]
  simp only [if_true, h0, List.all_cons, List.all_nil, Bool.and_true, Bool.true_and]

set_option maxHeartbeats 4000000 in
theorem implRecordFault (a0 a1 a2 a3 a4 a5 a6 : Int) (w : World) (hF : Flds w) :
    Calls Tryz.prog 19 #[.agg #[.int .i64 a0, .int .i64 a1, .int .i64 a2, .int .i64 a3, .int .i64 a4, .int .i64 a5, .int .i64 a6]] w fun e w' => e = .returned (.int .i64 (recFaultM (a0, a1, (a2, a3, a4, a5), a6))) ∧ Below w.heap.size w w' := by
  have hB0 : Below w.heap.size w (w.alloc (.cells #[.int .i64 a0, .int .i64 a1, .int .i64 a2, .int .i64 a3, .int .i64 a4, .int .i64 a5, .int .i64 a6] 27)) := (Below.refl _ _).alloc (Nat.le_refl _) _
  have r0 := At.new w 27 #[.int .i64 a0, .int .i64 a1, .int .i64 a2, .int .i64 a3, .int .i64 a4, .int .i64 a5, .int .i64 a6]
  obtain ⟨c0, c1, c2, c3, c4, c5, c6⟩ := r0.seven
  have hF0 := hF.below hB0
  have EN := entryOf a0 a1 a2 a3 a4 a5 a6 (w.alloc (.cells #[.int .i64 a0, .int .i64 a1, .int .i64 a2, .int .i64 a3, .int .i64 a4, .int .i64 a5, .int .i64 a6] 27))
  rcases hf : recFormM (a0, a1, (a2, a3, a4, a5), a6)
  · rw [entV_no hf] at EN
    have q1 := as0_1
    have q2 := as0_2
    have q3 := as0_3
    have q4 := as0_4
    have Hr := Lib.hid (recFault_form hf)
    clear hf
    go_enter Tryz.func19, Tryz.ntmps19
    go_wp2_with fail
    refine EN.mono ?_
    rintro e w1 ⟨rfl, hb1⟩
    have hB1 := hB0.trans (hb1.mono hB0.size)
    go_wp2
    go_ret
    exact ⟨by rw [Hr.out]; try rfl, hB1⟩
  by_cases k1 : a0 = 1
  rotate_left
  by_cases k2 : a0 = 2
  rotate_left
  by_cases k3 : a0 = 3
  rotate_left
  by_cases k4 : a0 = 4
  rotate_left
  · exact absurd hf (by unfold recFormM; rw [if_neg k1, if_neg k2, if_neg k3, if_neg k4]; decide)
  · subst k1
    have q1 := as1_1
    rw [entV_1 hf] at EN
    have Hr := Lib.hid (rec_kind1 hf)
    clear hf
    go_enter Tryz.func19, Tryz.ntmps19
    go_wp2_with fail
    refine EN.mono ?_
    rintro e w1 ⟨rfl, hb1⟩
    have hB1 := hB0.trans (hb1.mono hB0.size)
    have hF1 := hF0.below hb1
    have hB2 := hB1.alloc hB1.size (.cells #[.int .i64 a2, .int .i64 a3, .int .i64 a4, .int .i64 a5] 90)
    have hF2 := hF1.below ((Below.refl _ _).alloc (Nat.le_refl _) (.cells #[.int .i64 a2, .int .i64 a3, .int .i64 a4, .int .i64 a5] 90))
    go_wp2_with fail
    refine (implSampleFault a2 a3 a4 a5 _ hF2).mono ?_
    rintro e w3 ⟨rfl, hb3⟩
    have hB3 := hB2.trans (hb3.mono hB2.size)
    go_wp2
    go_ret
    exact ⟨by rw [Hr.out]; try rfl, hB3⟩
  · subst k2
    clear k1
    have q1 := as2_1
    have q2 := as2_2
    rw [entV_2 hf] at EN
    have Hr := Lib.hid (rec_kind2 hf)
    clear hf
    go_enter Tryz.func19, Tryz.ntmps19
    go_wp2_with fail
    refine EN.mono ?_
    rintro e w1 ⟨rfl, hb1⟩
    have hB1 := hB0.trans (hb1.mono hB0.size)
    have hF1 := hF0.below hb1
    have hB2 := hB1.alloc hB1.size (.cells #[.int .i64 a1, .int .i64 a2, .int .i64 a3, .int .i64 a4, .int .i64 a5] 93)
    have hF2 := hF1.below ((Below.refl _ _).alloc (Nat.le_refl _) (.cells #[.int .i64 a1, .int .i64 a2, .int .i64 a3, .int .i64 a4, .int .i64 a5] 93))
    go_wp2_with fail
    refine (implHintFault a1 a2 a3 a4 a5 0 0 _ hF2).mono ?_
    rintro e w3 ⟨rfl, hb3⟩
    have hB3 := hB2.trans (hb3.mono hB2.size)
    go_wp2
    go_ret
    exact ⟨by rw [Hr.out]; try rfl, hB3⟩
  · subst k3
    clear k1 k2
    have q1 := as3_1
    have q2 := as3_2
    have q3 := as3_3
    rw [entV_3 hf] at EN
    have Hr := Lib.hid (rec_kind3 hf)
    clear hf
    go_enter Tryz.func19, Tryz.ntmps19
    go_wp2_with fail
    refine EN.mono ?_
    rintro e w1 ⟨rfl, hb1⟩
    have hB1 := hB0.trans (hb1.mono hB0.size)
    have hF1 := hF0.below hb1
    have hB2 := hB1.alloc hB1.size (.cells #[.int .i64 a1, .int .i64 a6] 96)
    have hF2 := hF1.below ((Below.refl _ _).alloc (Nat.le_refl _) (.cells #[.int .i64 a1, .int .i64 a6] 96))
    go_wp2_with fail
    refine (rangeFault _ 2 _ [(a1, 0, 3), (a6, 0, 9999)] _ (bnds_two (by simp)) (by simp) rfl (by omega)).mono ?_
    rintro e w3 ⟨rfl, hb3⟩
    have hB2 := hB2.alloc hB2.size (.cells #[.int .i64 a1, .int .i64 0, .int .i64 3, .int .i64 a6, .int .i64 0, .int .i64 9999] 99)
    have hB3 := hB2.trans (hb3.mono hB2.size)
    go_wp2
    go_ret
    exact ⟨by rw [Hr.out]; try rfl, hB3⟩
  · subst k4
    clear k1 k2 k3
    have q1 := as4_1
    have q2 := as4_2
    have q3 := as4_3
    have q4 := as4_4
    rw [entV_4 hf] at EN
    have Hr := Lib.hid (rec_kind4 hf)
    clear hf
    go_enter Tryz.func19, Tryz.ntmps19
    go_wp2_with fail
    refine EN.mono ?_
    rintro e w1 ⟨rfl, hb1⟩
    have hB1 := hB0.trans (hb1.mono hB0.size)
    have hF1 := hF0.below hb1
    have hB2 := hB1.alloc hB1.size (.cells #[.int .i64 a6] 101)
    have hF2 := hF1.below ((Below.refl _ _).alloc (Nat.le_refl _) (.cells #[.int .i64 a6] 101))
    go_wp2_with fail
    refine (rangeFault _ 1 _ [(a6, 0, 60000)] _ (bnds_one (by simp)) (by simp) rfl (by omega)).mono ?_
    rintro e w3 ⟨rfl, hb3⟩
    have hB2 := hB2.alloc hB2.size (.cells #[.int .i64 a6, .int .i64 0, .int .i64 60000] 99)
    have hB3 := hB2.trans (hb3.mono hB2.size)
    go_wp2
    go_ret
    exact ⟨by rw [Hr.out]; try rfl, hB3⟩
end Go.Proofs.YtmaillakhhdkfaaGreatDoor
