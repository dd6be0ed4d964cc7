/-
  A record as an entry of its own kind: the program's.
-/
import Derived.Test.YteiclanlhnccnaaDoorRecS
import Derived.Test.YteiclanlhnccnaaDoorMix
import Derived.Handy
namespace Go.Proofs.YteiclanlhnccnaaDoor
set_option maxRecDepth 20000
open Go.RowKit
set_option linter.unusedSimpArgs false
set_option linter.unusedVariables false

/-- The entry of a record; nil where the record has not the form of its kind. -/
def entV (r : Rcd) : Value := if recFormM r = true then (if r.1 = 1 then .iface 66 (.agg #[.int .i64 r.2.2.1.1, .int .i64 r.2.2.1.2.1, .int .i64 r.2.2.1.2.2.1, .int .i64 r.2.2.1.2.2.2]) else if r.1 = 2 then .iface 69 (.agg #[.int .i64 r.2.1, .int .i64 r.2.2.1.1, .int .i64 r.2.2.1.2.1, .int .i64 r.2.2.1.2.2.1, .int .i64 r.2.2.1.2.2.2]) else if r.1 = 3 then .iface 74 (.agg #[.int .i64 r.2.1, .int .i64 r.2.2.2]) else .iface 79 (.agg #[.int .i64 r.2.2.2])) else .nilIface
theorem entV_no {r : Rcd} (h : recFormM r = false) : entV r = .nilIface := by unfold entV; rw [if_neg (by simp [h])]
theorem entV_1 {a1 a2 a3 a4 a5 a6 : Int} (h : recFormM (1, a1, (a2, a3, a4, a5), a6) = true) : entV (1, a1, (a2, a3, a4, a5), a6) = .iface 66 (.agg #[.int .i64 a2, .int .i64 a3, .int .i64 a4, .int .i64 a5]) := by unfold entV; rw [if_pos h, if_pos rfl]
theorem entV_2 {a1 a2 a3 a4 a5 a6 : Int} (h : recFormM (2, a1, (a2, a3, a4, a5), a6) = true) : entV (2, a1, (a2, a3, a4, a5), a6) = .iface 69 (.agg #[.int .i64 a1, .int .i64 a2, .int .i64 a3, .int .i64 a4, .int .i64 a5]) := by unfold entV; rw [if_pos h, if_neg (show ¬ ((2 : Int) = 1) by decide), if_pos rfl]
theorem entV_3 {a1 a2 a3 a4 a5 a6 : Int} (h : recFormM (3, a1, (a2, a3, a4, a5), a6) = true) : entV (3, a1, (a2, a3, a4, a5), a6) = .iface 74 (.agg #[.int .i64 a1, .int .i64 a6]) := by unfold entV; rw [if_pos h, if_neg (show ¬ ((3 : Int) = 1) by decide), if_neg (show ¬ ((3 : Int) = 2) by decide), if_pos rfl]
theorem entV_4 {a1 a2 a3 a4 a5 a6 : Int} (h : recFormM (4, a1, (a2, a3, a4, a5), a6) = true) : entV (4, a1, (a2, a3, a4, a5), a6) = .iface 79 (.agg #[.int .i64 a6]) := by unfold entV; rw [if_pos h, if_neg (show ¬ ((4 : Int) = 1) by decide), if_neg (show ¬ ((4 : Int) = 2) by decide), if_neg (show ¬ ((4 : Int) = 3) by decide)]
theorem neqR1 (a1 a2 a3 a4 a5 a6 : Int) (u : World) : (binOp .neq 29 (.agg #[.int .i64 1, .int .i64 0, .int .i64 a2, .int .i64 a3, .int .i64 a4, .int .i64 a5, .int .i64 0]) (.agg #[.int .i64 1, .int .i64 a1, .int .i64 a2, .int .i64 a3, .int .i64 a4, .int .i64 a5, .int .i64 a6])).run Tryd.prog u = .ok (.bool (!(recFormM (1, a1, (a2, a3, a4, a5), a6)))) u := by
  have e : recFormM (1, a1, (a2, a3, a4, a5), a6) = ((decide (a1 = 0) && (decide (a6 = 0)))) := by unfold recFormM formM; simp [Bool.decide_and]
  rw [e]
  clear e
  go_simp
  by_cases ha1 : a1 = 0
  rotate_left
  · have ga1 : ¬ (0 : Int) = a1 := fun q => ha1 q.symm
    simp [ha1, ga1]
  by_cases ha6 : a6 = 0
  rotate_left
  · have ga6 : ¬ (0 : Int) = a6 := fun q => ha6 q.symm
    simp [ha1, ha6, ga6]
  · simp [ha1, ha6]
theorem neqR2 (a1 a2 a3 a4 a5 a6 : Int) (u : World) : (binOp .neq 29 (.agg #[.int .i64 2, .int .i64 a1, .int .i64 a2, .int .i64 a3, .int .i64 a4, .int .i64 a5, .int .i64 0]) (.agg #[.int .i64 2, .int .i64 a1, .int .i64 a2, .int .i64 a3, .int .i64 a4, .int .i64 a5, .int .i64 a6])).run Tryd.prog u = .ok (.bool (!(recFormM (2, a1, (a2, a3, a4, a5), a6)))) u := by
  have e : recFormM (2, a1, (a2, a3, a4, a5), a6) = ((decide (a6 = 0))) := by unfold recFormM formM; simp [Bool.decide_and]
  rw [e]
  clear e
  go_simp
  by_cases ha6 : a6 = 0
  rotate_left
  · have ga6 : ¬ (0 : Int) = a6 := fun q => ha6 q.symm
    simp [ha6, ga6]
  · simp [ha6]
theorem neqR3 (a1 a2 a3 a4 a5 a6 : Int) (u : World) : (binOp .neq 29 (.agg #[.int .i64 3, .int .i64 a1, .int .i64 0, .int .i64 0, .int .i64 0, .int .i64 0, .int .i64 a6]) (.agg #[.int .i64 3, .int .i64 a1, .int .i64 a2, .int .i64 a3, .int .i64 a4, .int .i64 a5, .int .i64 a6])).run Tryd.prog u = .ok (.bool (!(recFormM (3, a1, (a2, a3, a4, a5), a6)))) u := by
  have e : recFormM (3, a1, (a2, a3, a4, a5), a6) = ((decide (a2 = 0) && (decide (a3 = 0) && (decide (a4 = 0) && (decide (a5 = 0)))))) := by unfold recFormM formM; simp [Bool.decide_and]
  rw [e]
  clear e
  go_simp
  by_cases ha2 : a2 = 0
  rotate_left
  · have ga2 : ¬ (0 : Int) = a2 := fun q => ha2 q.symm
    simp [ha2, ga2]
  by_cases ha3 : a3 = 0
  rotate_left
  · have ga3 : ¬ (0 : Int) = a3 := fun q => ha3 q.symm
    simp [ha2, ha3, ga3]
  by_cases ha4 : a4 = 0
  rotate_left
  · have ga4 : ¬ (0 : Int) = a4 := fun q => ha4 q.symm
    simp [ha2, ha3, ha4, ga4]
  by_cases ha5 : a5 = 0
  rotate_left
  · have ga5 : ¬ (0 : Int) = a5 := fun q => ha5 q.symm
    simp [ha2, ha3, ha4, ha5, ga5]
  · simp [ha2, ha3, ha4, ha5]
theorem neqR4 (a1 a2 a3 a4 a5 a6 : Int) (u : World) : (binOp .neq 29 (.agg #[.int .i64 4, .int .i64 0, .int .i64 0, .int .i64 0, .int .i64 0, .int .i64 0, .int .i64 a6]) (.agg #[.int .i64 4, .int .i64 a1, .int .i64 a2, .int .i64 a3, .int .i64 a4, .int .i64 a5, .int .i64 a6])).run Tryd.prog u = .ok (.bool (!(recFormM (4, a1, (a2, a3, a4, a5), a6)))) u := by
  have e : recFormM (4, a1, (a2, a3, a4, a5), a6) = ((decide (a1 = 0) && (decide (a2 = 0) && (decide (a3 = 0) && (decide (a4 = 0) && (decide (a5 = 0))))))) := by unfold recFormM formM; simp [Bool.decide_and]
  rw [e]
  clear e
  go_simp
  by_cases ha1 : a1 = 0
  rotate_left
  · have ga1 : ¬ (0 : Int) = a1 := fun q => ha1 q.symm
    simp [ha1, ga1]
  by_cases ha2 : a2 = 0
  rotate_left
  · have ga2 : ¬ (0 : Int) = a2 := fun q => ha2 q.symm
    simp [ha1, ha2, ga2]
  by_cases ha3 : a3 = 0
  rotate_left
  · have ga3 : ¬ (0 : Int) = a3 := fun q => ha3 q.symm
    simp [ha1, ha2, ha3, ga3]
  by_cases ha4 : a4 = 0
  rotate_left
  · have ga4 : ¬ (0 : Int) = a4 := fun q => ha4 q.symm
    simp [ha1, ha2, ha3, ha4, ga4]
  by_cases ha5 : a5 = 0
  rotate_left
  · have ga5 : ¬ (0 : Int) = a5 := fun q => ha5 q.symm
    simp [ha1, ha2, ha3, ha4, ha5, ga5]
  · simp [ha1, ha2, ha3, ha4, ha5]
set_option maxHeartbeats 1000000 in
theorem recOf1 (a2 a3 a4 a5 : Int) (w : World) :
    Calls Tryd.prog 99 #[.agg #[.int .i64 a2, .int .i64 a3, .int .i64 a4, .int .i64 a5]] w fun e w' => e = .returned (.agg #[.int .i64 1, .int .i64 0, .int .i64 a2, .int .i64 a3, .int .i64 a4, .int .i64 a5, .int .i64 0]) ∧ Below w.heap.size w w' := by
  have hB0 : Below w.heap.size w ((w.alloc (.cells #[.int .i64 a2, .int .i64 a3, .int .i64 a4, .int .i64 a5] 66)).alloc (.cells #[.int .i64 0, .int .i64 0, .int .i64 0, .int .i64 0, .int .i64 0, .int .i64 0, .int .i64 0] 29)) := ((Below.refl _ _).alloc (Nat.le_refl _) _).alloc (by simp) _
  go_enter Tryd.func99, Tryd.ntmps99
  go_wp2
  refine bodyPost_ret (v := .agg #[.int .i64 1, .int .i64 0, .int .i64 a2, .int .i64 a3, .int .i64 a4, .int .i64 a5, .int .i64 0]) (by simp [results, Tryd.results99, go_sem]) rfl ?_
  exact ⟨rfl, by repeat (first | exact Below.refl _ _ | refine Below.setCell ?_ (by simp) _ | refine Below.alloc ?_ (by simp) _)⟩
set_option maxHeartbeats 1000000 in
theorem recOf2 (a1 a2 a3 a4 a5 : Int) (w : World) :
    Calls Tryd.prog 100 #[.agg #[.int .i64 a1, .int .i64 a2, .int .i64 a3, .int .i64 a4, .int .i64 a5]] w fun e w' => e = .returned (.agg #[.int .i64 2, .int .i64 a1, .int .i64 a2, .int .i64 a3, .int .i64 a4, .int .i64 a5, .int .i64 0]) ∧ Below w.heap.size w w' := by
  have hB0 : Below w.heap.size w ((w.alloc (.cells #[.int .i64 a1, .int .i64 a2, .int .i64 a3, .int .i64 a4, .int .i64 a5] 69)).alloc (.cells #[.int .i64 0, .int .i64 0, .int .i64 0, .int .i64 0, .int .i64 0, .int .i64 0, .int .i64 0] 29)) := ((Below.refl _ _).alloc (Nat.le_refl _) _).alloc (by simp) _
  go_enter Tryd.func100, Tryd.ntmps100
  go_wp2
  refine bodyPost_ret (v := .agg #[.int .i64 2, .int .i64 a1, .int .i64 a2, .int .i64 a3, .int .i64 a4, .int .i64 a5, .int .i64 0]) (by simp [results, Tryd.results100, go_sem]) rfl ?_
  exact ⟨rfl, by repeat (first | exact Below.refl _ _ | refine Below.setCell ?_ (by simp) _ | refine Below.alloc ?_ (by simp) _)⟩
set_option maxHeartbeats 1000000 in
theorem recOf3 (a1 a6 : Int) (w : World) :
    Calls Tryd.prog 101 #[.agg #[.int .i64 a1, .int .i64 a6]] w fun e w' => e = .returned (.agg #[.int .i64 3, .int .i64 a1, .int .i64 0, .int .i64 0, .int .i64 0, .int .i64 0, .int .i64 a6]) ∧ Below w.heap.size w w' := by
  have hB0 : Below w.heap.size w ((w.alloc (.cells #[.int .i64 a1, .int .i64 a6] 74)).alloc (.cells #[.int .i64 0, .int .i64 0, .int .i64 0, .int .i64 0, .int .i64 0, .int .i64 0, .int .i64 0] 29)) := ((Below.refl _ _).alloc (Nat.le_refl _) _).alloc (by simp) _
  go_enter Tryd.func101, Tryd.ntmps101
  go_wp2
  refine bodyPost_ret (v := .agg #[.int .i64 3, .int .i64 a1, .int .i64 0, .int .i64 0, .int .i64 0, .int .i64 0, .int .i64 a6]) (by simp [results, Tryd.results101, go_sem]) rfl ?_
  exact ⟨rfl, by repeat (first | exact Below.refl _ _ | refine Below.setCell ?_ (by simp) _ | refine Below.alloc ?_ (by simp) _)⟩
set_option maxHeartbeats 1000000 in
theorem recOf4 (a6 : Int) (w : World) :
    Calls Tryd.prog 102 #[.agg #[.int .i64 a6]] w fun e w' => e = .returned (.agg #[.int .i64 4, .int .i64 0, .int .i64 0, .int .i64 0, .int .i64 0, .int .i64 0, .int .i64 a6]) ∧ Below w.heap.size w w' := by
  have hB0 : Below w.heap.size w ((w.alloc (.cells #[.int .i64 a6] 79)).alloc (.cells #[.int .i64 0, .int .i64 0, .int .i64 0, .int .i64 0, .int .i64 0, .int .i64 0, .int .i64 0] 29)) := ((Below.refl _ _).alloc (Nat.le_refl _) _).alloc (by simp) _
  go_enter Tryd.func102, Tryd.ntmps102
  go_wp2
  refine bodyPost_ret (v := .agg #[.int .i64 4, .int .i64 0, .int .i64 0, .int .i64 0, .int .i64 0, .int .i64 0, .int .i64 a6]) (by simp [results, Tryd.results102, go_sem]) rfl ?_
  exact ⟨rfl, by repeat (first | exact Below.refl _ _ | refine Below.setCell ?_ (by simp) _ | refine Below.alloc ?_ (by simp) _)⟩
theorem as0_1 (w : World) : (Instr.typeAssert .nilIface 63 66 true).run Tryd.prog w = .ok (.tuple #[.agg #[.int .i64 0, .int .i64 0, .int .i64 0, .int .i64 0], .bool false]) w := by kernel_rfl
theorem as0_2 (w : World) : (Instr.typeAssert .nilIface 63 69 true).run Tryd.prog w = .ok (.tuple #[.agg #[.int .i64 0, .int .i64 0, .int .i64 0, .int .i64 0, .int .i64 0], .bool false]) w := by kernel_rfl
theorem as0_3 (w : World) : (Instr.typeAssert .nilIface 63 74 true).run Tryd.prog w = .ok (.tuple #[.agg #[.int .i64 0, .int .i64 0], .bool false]) w := by kernel_rfl
theorem as0_4 (w : World) : (Instr.typeAssert .nilIface 63 79 true).run Tryd.prog w = .ok (.tuple #[.agg #[.int .i64 0], .bool false]) w := by kernel_rfl
theorem as1_1 (v : Value) (w : World) : (Instr.typeAssert (.iface 66 v) 63 66 true).run Tryd.prog w = .ok (.tuple #[v, .bool true]) w := by kernel_rfl
theorem as1_2 (v : Value) (w : World) : (Instr.typeAssert (.iface 66 v) 63 69 true).run Tryd.prog w = .ok (.tuple #[.agg #[.int .i64 0, .int .i64 0, .int .i64 0, .int .i64 0, .int .i64 0], .bool false]) w := by kernel_rfl
theorem as1_3 (v : Value) (w : World) : (Instr.typeAssert (.iface 66 v) 63 74 true).run Tryd.prog w = .ok (.tuple #[.agg #[.int .i64 0, .int .i64 0], .bool false]) w := by kernel_rfl
theorem as1_4 (v : Value) (w : World) : (Instr.typeAssert (.iface 66 v) 63 79 true).run Tryd.prog w = .ok (.tuple #[.agg #[.int .i64 0], .bool false]) w := by kernel_rfl
theorem as2_1 (v : Value) (w : World) : (Instr.typeAssert (.iface 69 v) 63 66 true).run Tryd.prog w = .ok (.tuple #[.agg #[.int .i64 0, .int .i64 0, .int .i64 0, .int .i64 0], .bool false]) w := by kernel_rfl
theorem as2_2 (v : Value) (w : World) : (Instr.typeAssert (.iface 69 v) 63 69 true).run Tryd.prog w = .ok (.tuple #[v, .bool true]) w := by kernel_rfl
theorem as2_3 (v : Value) (w : World) : (Instr.typeAssert (.iface 69 v) 63 74 true).run Tryd.prog w = .ok (.tuple #[.agg #[.int .i64 0, .int .i64 0], .bool false]) w := by kernel_rfl
theorem as2_4 (v : Value) (w : World) : (Instr.typeAssert (.iface 69 v) 63 79 true).run Tryd.prog w = .ok (.tuple #[.agg #[.int .i64 0], .bool false]) w := by kernel_rfl
theorem as3_1 (v : Value) (w : World) : (Instr.typeAssert (.iface 74 v) 63 66 true).run Tryd.prog w = .ok (.tuple #[.agg #[.int .i64 0, .int .i64 0, .int .i64 0, .int .i64 0], .bool false]) w := by kernel_rfl
theorem as3_2 (v : Value) (w : World) : (Instr.typeAssert (.iface 74 v) 63 69 true).run Tryd.prog w = .ok (.tuple #[.agg #[.int .i64 0, .int .i64 0, .int .i64 0, .int .i64 0, .int .i64 0], .bool false]) w := by kernel_rfl
theorem as3_3 (v : Value) (w : World) : (Instr.typeAssert (.iface 74 v) 63 74 true).run Tryd.prog w = .ok (.tuple #[v, .bool true]) w := by kernel_rfl
theorem as3_4 (v : Value) (w : World) : (Instr.typeAssert (.iface 74 v) 63 79 true).run Tryd.prog w = .ok (.tuple #[.agg #[.int .i64 0], .bool false]) w := by kernel_rfl
theorem as4_1 (v : Value) (w : World) : (Instr.typeAssert (.iface 79 v) 63 66 true).run Tryd.prog w = .ok (.tuple #[.agg #[.int .i64 0, .int .i64 0, .int .i64 0, .int .i64 0], .bool false]) w := by kernel_rfl
theorem as4_2 (v : Value) (w : World) : (Instr.typeAssert (.iface 79 v) 63 69 true).run Tryd.prog w = .ok (.tuple #[.agg #[.int .i64 0, .int .i64 0, .int .i64 0, .int .i64 0, .int .i64 0], .bool false]) w := by kernel_rfl
theorem as4_3 (v : Value) (w : World) : (Instr.typeAssert (.iface 79 v) 63 74 true).run Tryd.prog w = .ok (.tuple #[.agg #[.int .i64 0, .int .i64 0], .bool false]) w := by kernel_rfl
theorem as4_4 (v : Value) (w : World) : (Instr.typeAssert (.iface 79 v) 63 79 true).run Tryd.prog w = .ok (.tuple #[v, .bool true]) w := by kernel_rfl

set_option maxHeartbeats 4000000 in
theorem entryOf (a0 a1 a2 a3 a4 a5 a6 : Int) (w : World) :
    Calls Tryd.prog 28 #[.agg #[.int .i64 a0, .int .i64 a1, .int .i64 a2, .int .i64 a3, .int .i64 a4, .int .i64 a5, .int .i64 a6]] w fun e w' => e = .returned (entV (a0, a1, (a2, a3, a4, a5), a6)) ∧ Below w.heap.size w w' := by
  have hB0 : Below w.heap.size w (w.alloc (.cells #[.int .i64 a0, .int .i64 a1, .int .i64 a2, .int .i64 a3, .int .i64 a4, .int .i64 a5, .int .i64 a6] 29)) := (Below.refl _ _).alloc (Nat.le_refl _) _
  have r0 := At.new w 29 #[.int .i64 a0, .int .i64 a1, .int .i64 a2, .int .i64 a3, .int .i64 a4, .int .i64 a5, .int .i64 a6]
  obtain ⟨c0, c1, c2, c3, c4, c5, c6⟩ := r0.seven
  by_cases k1 : a0 = 1
  rotate_left
  by_cases k2 : a0 = 2
  rotate_left
  by_cases k3 : a0 = 3
  rotate_left
  by_cases k4 : a0 = 4
  rotate_left
  · have b1 : (a0 == 1) = false := by simpa using k1
    have b2 : (a0 == 2) = false := by simpa using k2
    have b3 : (a0 == 3) = false := by simpa using k3
    have b4 : (a0 == 4) = false := by simpa using k4
    have Hr := Lib.hid (entV_no (r := (a0, a1, (a2, a3, a4, a5), a6)) (by unfold recFormM; rw [if_neg k1, if_neg k2, if_neg k3, if_neg k4]))
    clear k1 k2 k3 k4
    go_enter Tryd.func28, Tryd.ntmps28
    go_wp2
    refine wp_region_mix [(0, false), (1, false), (2, false), (3, false), (5, false), (4, true), (6, false), (7, false)] (fun u => At u w.heap.size 29 #[.int .i64 a0, .int .i64 a1, .int .i64 a2, .int .i64 a3, .int .i64 a4, .int .i64 a5, .int .i64 a6]) (by kernel_rfl) (by kernel_rfl) (fun _ _ _ _ _ h => h) r0.drew ?_
    simp only [mixOps, List.map_cons, List.map_nil, List.getElem?_cons_succ, List.getElem?_cons_zero, Option.getD_some]
    repeat (first
      | (refine mix_skip (by rfl) ?_
         (try simp only [Act.put, List.setIfInBounds_toArray, List.set_cons_zero, List.set_cons_succ]))
      | (refine mix_pure (v := ?_) (by rfl) (fun u hu => ?_) ?_
         rotate_left
         · obtain ⟨_, _, _, _, _, _, _⟩ := hu.seven
           go_simp
           (with_reducible rfl)
         (try simp only [Act.put, List.setIfInBounds_toArray, List.set_cons_zero, List.set_cons_succ])))
    refine mix_nil ?_
    go_wp2
    go_ret
    exact ⟨by rw [Hr.out]; rfl, hB0.drew⟩
  · subst k1
    have NQ := neqR1 a1 a2 a3 a4 a5 a6
    rcases hf : recFormM (1, a1, (a2, a3, a4, a5), a6)
    · have Hr := Lib.hid (entV_no hf)
      rw [hf] at NQ
      clear hf
      go_enter Tryd.func28, Tryd.ntmps28
      go_wp2
      refine wp_region_mix [(0, false), (1, false), (2, false), (3, false), (5, false), (4, true), (6, false), (7, false)] (fun u => At u w.heap.size 29 #[.int .i64 1, .int .i64 a1, .int .i64 a2, .int .i64 a3, .int .i64 a4, .int .i64 a5, .int .i64 a6]) (by kernel_rfl) (by kernel_rfl) (fun _ _ _ _ _ h => h) r0.drew ?_
      simp only [mixOps, List.map_cons, List.map_nil, List.getElem?_cons_succ, List.getElem?_cons_zero, Option.getD_some]
      repeat (first
        | (refine mix_skip (by rfl) ?_
           (try simp only [Act.put, List.setIfInBounds_toArray, List.set_cons_zero, List.set_cons_succ]))
        | (refine mix_pure (v := ?_) (by rfl) (fun u hu => ?_) ?_
           rotate_left
           · obtain ⟨_, _, _, _, _, _, _⟩ := hu.seven
             go_simp
             (with_reducible rfl)
           (try simp only [Act.put, List.setIfInBounds_toArray, List.set_cons_zero, List.set_cons_succ])))
      refine mix_call (by rfl) (fun K hK => ?_)
      go_simp
      go_upon
      refine (recOf1 a2 a3 a4 a5 _).mono ?_
      rintro e w1 ⟨rfl, hb1⟩
      have hB1 := hB0.drew.trans (hb1.mono hB0.drew.size)
      have r1 := r0.drew.below hb1 r0.drew.lt
      refine hK _ _ (fun u => At u w.heap.size 29 #[.int .i64 1, .int .i64 a1, .int .i64 a2, .int .i64 a3, .int .i64 a4, .int .i64 a5, .int .i64 a6]) (fun _ h => h) r1 ?_
      clear hK K
      (try simp only [Act.put, List.setIfInBounds_toArray, List.set_cons_zero, List.set_cons_succ])
      repeat (first
        | (refine mix_skip (by rfl) ?_
           (try simp only [Act.put, List.setIfInBounds_toArray, List.set_cons_zero, List.set_cons_succ]))
        | (refine mix_pure (v := ?_) (by rfl) (fun u hu => ?_) ?_
           rotate_left
           · go_simp
             (with_reducible rfl)
           (try simp only [Act.put, List.setIfInBounds_toArray, List.set_cons_zero, List.set_cons_succ])))
      refine mix_nil ?_
      go_wp2
      go_ret
      exact ⟨by rw [Hr.out]; rfl, hB1⟩
    · have Hr := Lib.hid (entV_1 hf)
      rw [hf] at NQ
      clear hf
      go_enter Tryd.func28, Tryd.ntmps28
      go_wp2
      refine wp_region_mix [(0, false), (1, false), (2, false), (3, false), (5, false), (4, true), (6, false), (7, false)] (fun u => At u w.heap.size 29 #[.int .i64 1, .int .i64 a1, .int .i64 a2, .int .i64 a3, .int .i64 a4, .int .i64 a5, .int .i64 a6]) (by kernel_rfl) (by kernel_rfl) (fun _ _ _ _ _ h => h) r0.drew ?_
      simp only [mixOps, List.map_cons, List.map_nil, List.getElem?_cons_succ, List.getElem?_cons_zero, Option.getD_some]
      repeat (first
        | (refine mix_skip (by rfl) ?_
           (try simp only [Act.put, List.setIfInBounds_toArray, List.set_cons_zero, List.set_cons_succ]))
        | (refine mix_pure (v := ?_) (by rfl) (fun u hu => ?_) ?_
           rotate_left
           · obtain ⟨_, _, _, _, _, _, _⟩ := hu.seven
             go_simp
             (with_reducible rfl)
           (try simp only [Act.put, List.setIfInBounds_toArray, List.set_cons_zero, List.set_cons_succ])))
      refine mix_call (by rfl) (fun K hK => ?_)
      go_simp
      go_upon
      refine (recOf1 a2 a3 a4 a5 _).mono ?_
      rintro e w1 ⟨rfl, hb1⟩
      have hB1 := hB0.drew.trans (hb1.mono hB0.drew.size)
      have r1 := r0.drew.below hb1 r0.drew.lt
      refine hK _ _ (fun u => At u w.heap.size 29 #[.int .i64 1, .int .i64 a1, .int .i64 a2, .int .i64 a3, .int .i64 a4, .int .i64 a5, .int .i64 a6]) (fun _ h => h) r1 ?_
      clear hK K
      (try simp only [Act.put, List.setIfInBounds_toArray, List.set_cons_zero, List.set_cons_succ])
      repeat (first
        | (refine mix_skip (by rfl) ?_
           (try simp only [Act.put, List.setIfInBounds_toArray, List.set_cons_zero, List.set_cons_succ]))
        | (refine mix_pure (v := ?_) (by rfl) (fun u hu => ?_) ?_
           rotate_left
           · go_simp
             (with_reducible rfl)
           (try simp only [Act.put, List.setIfInBounds_toArray, List.set_cons_zero, List.set_cons_succ])))
      refine mix_nil ?_
      go_wp2
      go_ret
      exact ⟨by rw [Hr.out]; rfl, hB1⟩
  · subst k2
    clear k1
    have NQ := neqR2 a1 a2 a3 a4 a5 a6
    rcases hf : recFormM (2, a1, (a2, a3, a4, a5), a6)
    · have Hr := Lib.hid (entV_no hf)
      rw [hf] at NQ
      clear hf
      go_enter Tryd.func28, Tryd.ntmps28
      go_wp2
      refine wp_region_mix [(0, false), (1, false), (2, false), (3, false), (5, false), (4, true), (6, false), (7, false)] (fun u => At u w.heap.size 29 #[.int .i64 2, .int .i64 a1, .int .i64 a2, .int .i64 a3, .int .i64 a4, .int .i64 a5, .int .i64 a6]) (by kernel_rfl) (by kernel_rfl) (fun _ _ _ _ _ h => h) r0.drew ?_
      simp only [mixOps, List.map_cons, List.map_nil, List.getElem?_cons_succ, List.getElem?_cons_zero, Option.getD_some]
      repeat (first
        | (refine mix_skip (by rfl) ?_
           (try simp only [Act.put, List.setIfInBounds_toArray, List.set_cons_zero, List.set_cons_succ]))
        | (refine mix_pure (v := ?_) (by rfl) (fun u hu => ?_) ?_
           rotate_left
           · obtain ⟨_, _, _, _, _, _, _⟩ := hu.seven
             go_simp
             (with_reducible rfl)
           (try simp only [Act.put, List.setIfInBounds_toArray, List.set_cons_zero, List.set_cons_succ])))
      refine mix_call (by rfl) (fun K hK => ?_)
      go_simp
      go_upon
      refine (recOf2 a1 a2 a3 a4 a5 _).mono ?_
      rintro e w1 ⟨rfl, hb1⟩
      have hB1 := hB0.drew.trans (hb1.mono hB0.drew.size)
      have r1 := r0.drew.below hb1 r0.drew.lt
      refine hK _ _ (fun u => At u w.heap.size 29 #[.int .i64 2, .int .i64 a1, .int .i64 a2, .int .i64 a3, .int .i64 a4, .int .i64 a5, .int .i64 a6]) (fun _ h => h) r1 ?_
      clear hK K
      (try simp only [Act.put, List.setIfInBounds_toArray, List.set_cons_zero, List.set_cons_succ])
      repeat (first
        | (refine mix_skip (by rfl) ?_
           (try simp only [Act.put, List.setIfInBounds_toArray, List.set_cons_zero, List.set_cons_succ]))
        | (refine mix_pure (v := ?_) (by rfl) (fun u hu => ?_) ?_
           rotate_left
           · go_simp
             (with_reducible rfl)
           (try simp only [Act.put, List.setIfInBounds_toArray, List.set_cons_zero, List.set_cons_succ])))
      refine mix_nil ?_
      go_wp2
      go_ret
      exact ⟨by rw [Hr.out]; rfl, hB1⟩
    · have Hr := Lib.hid (entV_2 hf)
      rw [hf] at NQ
      clear hf
      go_enter Tryd.func28, Tryd.ntmps28
      go_wp2
      refine wp_region_mix [(0, false), (1, false), (2, false), (3, false), (5, false), (4, true), (6, false), (7, false)] (fun u => At u w.heap.size 29 #[.int .i64 2, .int .i64 a1, .int .i64 a2, .int .i64 a3, .int .i64 a4, .int .i64 a5, .int .i64 a6]) (by kernel_rfl) (by kernel_rfl) (fun _ _ _ _ _ h => h) r0.drew ?_
      simp only [mixOps, List.map_cons, List.map_nil, List.getElem?_cons_succ, List.getElem?_cons_zero, Option.getD_some]
      repeat (first
        | (refine mix_skip (by rfl) ?_
           (try simp only [Act.put, List.setIfInBounds_toArray, List.set_cons_zero, List.set_cons_succ]))
        | (refine mix_pure (v := ?_) (by rfl) (fun u hu => ?_) ?_
           rotate_left
           · obtain ⟨_, _, _, _, _, _, _⟩ := hu.seven
             go_simp
             (with_reducible rfl)
           (try simp only [Act.put, List.setIfInBounds_toArray, List.set_cons_zero, List.set_cons_succ])))
      refine mix_call (by rfl) (fun K hK => ?_)
      go_simp
      go_upon
      refine (recOf2 a1 a2 a3 a4 a5 _).mono ?_
      rintro e w1 ⟨rfl, hb1⟩
      have hB1 := hB0.drew.trans (hb1.mono hB0.drew.size)
      have r1 := r0.drew.below hb1 r0.drew.lt
      refine hK _ _ (fun u => At u w.heap.size 29 #[.int .i64 2, .int .i64 a1, .int .i64 a2, .int .i64 a3, .int .i64 a4, .int .i64 a5, .int .i64 a6]) (fun _ h => h) r1 ?_
      clear hK K
      (try simp only [Act.put, List.setIfInBounds_toArray, List.set_cons_zero, List.set_cons_succ])
      repeat (first
        | (refine mix_skip (by rfl) ?_
           (try simp only [Act.put, List.setIfInBounds_toArray, List.set_cons_zero, List.set_cons_succ]))
        | (refine mix_pure (v := ?_) (by rfl) (fun u hu => ?_) ?_
           rotate_left
           · go_simp
             (with_reducible rfl)
           (try simp only [Act.put, List.setIfInBounds_toArray, List.set_cons_zero, List.set_cons_succ])))
      refine mix_nil ?_
      go_wp2
      go_ret
      exact ⟨by rw [Hr.out]; rfl, hB1⟩
  · subst k3
    clear k1 k2
    have NQ := neqR3 a1 a2 a3 a4 a5 a6
    rcases hf : recFormM (3, a1, (a2, a3, a4, a5), a6)
    · have Hr := Lib.hid (entV_no hf)
      rw [hf] at NQ
      clear hf
      go_enter Tryd.func28, Tryd.ntmps28
      go_wp2
      refine wp_region_mix [(0, false), (1, false), (2, false), (3, false), (5, false), (4, true), (6, false), (7, false)] (fun u => At u w.heap.size 29 #[.int .i64 3, .int .i64 a1, .int .i64 a2, .int .i64 a3, .int .i64 a4, .int .i64 a5, .int .i64 a6]) (by kernel_rfl) (by kernel_rfl) (fun _ _ _ _ _ h => h) r0.drew ?_
      simp only [mixOps, List.map_cons, List.map_nil, List.getElem?_cons_succ, List.getElem?_cons_zero, Option.getD_some]
      repeat (first
        | (refine mix_skip (by rfl) ?_
           (try simp only [Act.put, List.setIfInBounds_toArray, List.set_cons_zero, List.set_cons_succ]))
        | (refine mix_pure (v := ?_) (by rfl) (fun u hu => ?_) ?_
           rotate_left
           · obtain ⟨_, _, _, _, _, _, _⟩ := hu.seven
             go_simp
             (with_reducible rfl)
           (try simp only [Act.put, List.setIfInBounds_toArray, List.set_cons_zero, List.set_cons_succ])))
      refine mix_call (by rfl) (fun K hK => ?_)
      go_simp
      go_upon
      refine (recOf3 a1 a6 _).mono ?_
      rintro e w1 ⟨rfl, hb1⟩
      have hB1 := hB0.drew.trans (hb1.mono hB0.drew.size)
      have r1 := r0.drew.below hb1 r0.drew.lt
      refine hK _ _ (fun u => At u w.heap.size 29 #[.int .i64 3, .int .i64 a1, .int .i64 a2, .int .i64 a3, .int .i64 a4, .int .i64 a5, .int .i64 a6]) (fun _ h => h) r1 ?_
      clear hK K
      (try simp only [Act.put, List.setIfInBounds_toArray, List.set_cons_zero, List.set_cons_succ])
      repeat (first
        | (refine mix_skip (by rfl) ?_
           (try simp only [Act.put, List.setIfInBounds_toArray, List.set_cons_zero, List.set_cons_succ]))
        | (refine mix_pure (v := ?_) (by rfl) (fun u hu => ?_) ?_
           rotate_left
           · go_simp
             (with_reducible rfl)
           (try simp only [Act.put, List.setIfInBounds_toArray, List.set_cons_zero, List.set_cons_succ])))
      refine mix_nil ?_
      go_wp2
      go_ret
      exact ⟨by rw [Hr.out]; rfl, hB1⟩
    · have Hr := Lib.hid (entV_3 hf)
      rw [hf] at NQ
      clear hf
      go_enter Tryd.func28, Tryd.ntmps28
      go_wp2
      refine wp_region_mix [(0, false), (1, false), (2, false), (3, false), (5, false), (4, true), (6, false), (7, false)] (fun u => At u w.heap.size 29 #[.int .i64 3, .int .i64 a1, .int .i64 a2, .int .i64 a3, .int .i64 a4, .int .i64 a5, .int .i64 a6]) (by kernel_rfl) (by kernel_rfl) (fun _ _ _ _ _ h => h) r0.drew ?_
      simp only [mixOps, List.map_cons, List.map_nil, List.getElem?_cons_succ, List.getElem?_cons_zero, Option.getD_some]
      repeat (first
        | (refine mix_skip (by rfl) ?_
           (try simp only [Act.put, List.setIfInBounds_toArray, List.set_cons_zero, List.set_cons_succ]))
        | (refine mix_pure (v := ?_) (by rfl) (fun u hu => ?_) ?_
           rotate_left
           · obtain ⟨_, _, _, _, _, _, _⟩ := hu.seven
             go_simp
             (with_reducible rfl)
           (try simp only [Act.put, List.setIfInBounds_toArray, List.set_cons_zero, List.set_cons_succ])))
      refine mix_call (by rfl) (fun K hK => ?_)
      go_simp
      go_upon
      refine (recOf3 a1 a6 _).mono ?_
      rintro e w1 ⟨rfl, hb1⟩
      have hB1 := hB0.drew.trans (hb1.mono hB0.drew.size)
      have r1 := r0.drew.below hb1 r0.drew.lt
      refine hK _ _ (fun u => At u w.heap.size 29 #[.int .i64 3, .int .i64 a1, .int .i64 a2, .int .i64 a3, .int .i64 a4, .int .i64 a5, .int .i64 a6]) (fun _ h => h) r1 ?_
      clear hK K
      (try simp only [Act.put, List.setIfInBounds_toArray, List.set_cons_zero, List.set_cons_succ])
      repeat (first
        | (refine mix_skip (by rfl) ?_
           (try simp only [Act.put, List.setIfInBounds_toArray, List.set_cons_zero, List.set_cons_succ]))
        | (refine mix_pure (v := ?_) (by rfl) (fun u hu => ?_) ?_
           rotate_left
           · go_simp
             (with_reducible rfl)
           (try simp only [Act.put, List.setIfInBounds_toArray, List.set_cons_zero, List.set_cons_succ])))
      refine mix_nil ?_
      go_wp2
      go_ret
      exact ⟨by rw [Hr.out]; rfl, hB1⟩
  · subst k4
    clear k1 k2 k3
    have NQ := neqR4 a1 a2 a3 a4 a5 a6
    rcases hf : recFormM (4, a1, (a2, a3, a4, a5), a6)
    · have Hr := Lib.hid (entV_no hf)
      rw [hf] at NQ
      clear hf
      go_enter Tryd.func28, Tryd.ntmps28
      go_wp2
      refine wp_region_mix [(0, false), (1, false), (2, false), (3, false), (5, false), (4, true), (6, false), (7, false)] (fun u => At u w.heap.size 29 #[.int .i64 4, .int .i64 a1, .int .i64 a2, .int .i64 a3, .int .i64 a4, .int .i64 a5, .int .i64 a6]) (by kernel_rfl) (by kernel_rfl) (fun _ _ _ _ _ h => h) r0.drew ?_
      simp only [mixOps, List.map_cons, List.map_nil, List.getElem?_cons_succ, List.getElem?_cons_zero, Option.getD_some]
      repeat (first
        | (refine mix_skip (by rfl) ?_
           (try simp only [Act.put, List.setIfInBounds_toArray, List.set_cons_zero, List.set_cons_succ]))
        | (refine mix_pure (v := ?_) (by rfl) (fun u hu => ?_) ?_
           rotate_left
           · obtain ⟨_, _, _, _, _, _, _⟩ := hu.seven
             go_simp
             (with_reducible rfl)
           (try simp only [Act.put, List.setIfInBounds_toArray, List.set_cons_zero, List.set_cons_succ])))
      refine mix_call (by rfl) (fun K hK => ?_)
      go_simp
      go_upon
      refine (recOf4 a6 _).mono ?_
      rintro e w1 ⟨rfl, hb1⟩
      have hB1 := hB0.drew.trans (hb1.mono hB0.drew.size)
      have r1 := r0.drew.below hb1 r0.drew.lt
      refine hK _ _ (fun u => At u w.heap.size 29 #[.int .i64 4, .int .i64 a1, .int .i64 a2, .int .i64 a3, .int .i64 a4, .int .i64 a5, .int .i64 a6]) (fun _ h => h) r1 ?_
      clear hK K
      (try simp only [Act.put, List.setIfInBounds_toArray, List.set_cons_zero, List.set_cons_succ])
      repeat (first
        | (refine mix_skip (by rfl) ?_
           (try simp only [Act.put, List.setIfInBounds_toArray, List.set_cons_zero, List.set_cons_succ]))
        | (refine mix_pure (v := ?_) (by rfl) (fun u hu => ?_) ?_
           rotate_left
           · go_simp
             (with_reducible rfl)
           (try simp only [Act.put, List.setIfInBounds_toArray, List.set_cons_zero, List.set_cons_succ])))
      refine mix_nil ?_
      go_wp2
      go_ret
      exact ⟨by rw [Hr.out]; rfl, hB1⟩
    · have Hr := Lib.hid (entV_4 hf)
      rw [hf] at NQ
      clear hf
      go_enter Tryd.func28, Tryd.ntmps28
      go_wp2
      refine wp_region_mix [(0, false), (1, false), (2, false), (3, false), (5, false), (4, true), (6, false), (7, false)] (fun u => At u w.heap.size 29 #[.int .i64 4, .int .i64 a1, .int .i64 a2, .int .i64 a3, .int .i64 a4, .int .i64 a5, .int .i64 a6]) (by kernel_rfl) (by kernel_rfl) (fun _ _ _ _ _ h => h) r0.drew ?_
      simp only [mixOps, List.map_cons, List.map_nil, List.getElem?_cons_succ, List.getElem?_cons_zero, Option.getD_some]
      repeat (first
        | (refine mix_skip (by rfl) ?_
           (try simp only [Act.put, List.setIfInBounds_toArray, List.set_cons_zero, List.set_cons_succ]))
        | (refine mix_pure (v := ?_) (by rfl) (fun u hu => ?_) ?_
           rotate_left
           · obtain ⟨_, _, _, _, _, _, _⟩ := hu.seven
             go_simp
             (with_reducible rfl)
           (try simp only [Act.put, List.setIfInBounds_toArray, List.set_cons_zero, List.set_cons_succ])))
      refine mix_call (by rfl) (fun K hK => ?_)
      go_simp
      go_upon
      refine (recOf4 a6 _).mono ?_
      rintro e w1 ⟨rfl, hb1⟩
      have hB1 := hB0.drew.trans (hb1.mono hB0.drew.size)
      have r1 := r0.drew.below hb1 r0.drew.lt
      refine hK _ _ (fun u => At u w.heap.size 29 #[.int .i64 4, .int .i64 a1, .int .i64 a2, .int .i64 a3, .int .i64 a4, .int .i64 a5, .int .i64 a6]) (fun _ h => h) r1 ?_
      clear hK K
      (try simp only [Act.put, List.setIfInBounds_toArray, List.set_cons_zero, List.set_cons_succ])
      repeat (first
        | (refine mix_skip (by rfl) ?_
           (try simp only [Act.put, List.setIfInBounds_toArray, List.set_cons_zero, List.set_cons_succ]))
        | (refine mix_pure (v := ?_) (by rfl) (fun u hu => ?_) ?_
           rotate_left
           · go_simp
             (with_reducible rfl)
           (try simp only [Act.put, List.setIfInBounds_toArray, List.set_cons_zero, List.set_cons_succ])))
      refine mix_nil ?_
      go_wp2
      go_ret
      exact ⟨by rw [Hr.out]; rfl, hB1⟩
end Go.Proofs.YteiclanlhnccnaaDoor
