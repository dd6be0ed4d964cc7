/-
  Texts of one proof, joined: each has its own namespace.
-/
import Derived.Test.YtmaillakhhdkfaaGreatDoorBExRecoverDisk2
import Derived.Test.YtmaillakhhdkfaaGreatDoorBExRecoverDisk0
import Derived.Handy
import Derived.Test.YtmaillakhhdkfaaGreatDoorBExRecoverDisk1
import Derived.Test.YtmaillakhhdkfaaGreatDoorBExRecoverDisk3
import Derived.Laws.AppendOwn
/-
  A record as an entry of its own kind: the program's.
-/
namespace Go.Proofs.YtmaillakhhdkfaaGreatDoor
set_option maxRecDepth 20000
open Go.RowKit
set_option linter.unusedSimpArgs false
set_option linter.unusedVariables false

/-- The entry of a record; nil where the record has not the form of its kind. -/
def entV (r : Rcd) : Value := if recFormM r = true then (if r.1 = 1 then .iface 90 (.agg #[.int .i64 r.2.2.1.1, .int .i64 r.2.2.1.2.1, .int .i64 r.2.2.1.2.2.1, .int .i64 r.2.2.1.2.2.2]) else if r.1 = 2 then .iface 93 (.agg #[.int .i64 r.2.1, .int .i64 r.2.2.1.1, .int .i64 r.2.2.1.2.1, .int .i64 r.2.2.1.2.2.1, .int .i64 r.2.2.1.2.2.2]) else if r.1 = 3 then .iface 96 (.agg #[.int .i64 r.2.1, .int .i64 r.2.2.2]) else .iface 101 (.agg #[.int .i64 r.2.2.2])) else .nilIface
theorem entV_no {r : Rcd} (h : recFormM r = false) : entV r = .nilIface := by unfold entV; rw [if_neg (by simp [h])]
theorem entV_1 {a1 a2 a3 a4 a5 a6 : Int} (h : recFormM (1, a1, (a2, a3, a4, a5), a6) = true) : entV (1, a1, (a2, a3, a4, a5), a6) = .iface 90 (.agg #[.int .i64 a2, .int .i64 a3, .int .i64 a4, .int .i64 a5]) := by unfold entV; rw [if_pos h, if_pos rfl]
theorem entV_2 {a1 a2 a3 a4 a5 a6 : Int} (h : recFormM (2, a1, (a2, a3, a4, a5), a6) = true) : entV (2, a1, (a2, a3, a4, a5), a6) = .iface 93 (.agg #[.int .i64 a1, .int .i64 a2, .int .i64 a3, .int .i64 a4, .int .i64 a5]) := by unfold entV; rw [if_pos h, if_neg (show ¬ ((2 : Int) = 1) by decide), if_pos rfl]
theorem entV_3 {a1 a2 a3 a4 a5 a6 : Int} (h : recFormM (3, a1, (a2, a3, a4, a5), a6) = true) : entV (3, a1, (a2, a3, a4, a5), a6) = .iface 96 (.agg #[.int .i64 a1, .int .i64 a6]) := by unfold entV; rw [if_pos h, if_neg (show ¬ ((3 : Int) = 1) by decide), if_neg (show ¬ ((3 : Int) = 2) by decide), if_pos rfl]
theorem entV_4 {a1 a2 a3 a4 a5 a6 : Int} (h : recFormM (4, a1, (a2, a3, a4, a5), a6) = true) : entV (4, a1, (a2, a3, a4, a5), a6) = .iface 101 (.agg #[.int .i64 a6]) := by unfold entV; rw [if_pos h, if_neg (show ¬ ((4 : Int) = 1) by decide), if_neg (show ¬ ((4 : Int) = 2) by decide), if_neg (show ¬ ((4 : Int) = 3) by decide)]
theorem neqR1 (a1 a2 a3 a4 a5 a6 : Int) (u : World) : (binOp .neq 27 (.agg #[.int .i64 1, .int .i64 0, .int .i64 a2, .int .i64 a3, .int .i64 a4, .int .i64 a5, .int .i64 0]) (.agg #[.int .i64 1, .int .i64 a1, .int .i64 a2, .int .i64 a3, .int .i64 a4, .int .i64 a5, .int .i64 a6])).run Tryz.prog u = .ok (.bool (!(recFormM (1, a1, (a2, a3, a4, a5), a6)))) u := by
  have e : recFormM (1, a1, (a2, a3, a4, a5), a6) = ((decide (a1 = 0) && (decide (a6 = 0)))) := by unfold recFormM formM; simp [Bool.decide_and]
  rw [e]
  clear e
  go_simp
  by_cases ha1 : a1 = 0
  rotate_left
  · have ga1 : ¬ (0 : Int) = a1 := fun q => ha1 q.symm
    simp [ha1, ga1]
  by_cases ha6 : a6 = 0
  rotate_left
  · have ga6 : ¬ (0 : Int) = a6 := fun q => ha6 q.symm
    simp [ha1, ha6, ga6]
  · simp [ha1, ha6]
theorem neqR2 (a1 a2 a3 a4 a5 a6 : Int) (u : World) : (binOp .neq 27 (.agg #[.int .i64 2, .int .i64 a1, .int .i64 a2, .int .i64 a3, .int .i64 a4, .int .i64 a5, .int .i64 0]) (.agg #[.int .i64 2, .int .i64 a1, .int .i64 a2, .int .i64 a3, .int .i64 a4, .int .i64 a5, .int .i64 a6])).run Tryz.prog u = .ok (.bool (!(recFormM (2, a1, (a2, a3, a4, a5), a6)))) u := by
  have e : recFormM (2, a1, (a2, a3, a4, a5), a6) = ((decide (a6 = 0))) := by unfold recFormM formM; simp [Bool.decide_and]
  rw [e]
  clear e
  go_simp
  by_cases ha6 : a6 = 0
  rotate_left
  · have ga6 : ¬ (0 : Int) = a6 := fun q => ha6 q.symm
    simp [ha6, ga6]
  · simp [ha6]
theorem neqR3 (a1 a2 a3 a4 a5 a6 : Int) (u : World) : (binOp .neq 27 (.agg #[.int .i64 3, .int .i64 a1, .int .i64 0, .int .i64 0, .int .i64 0, .int .i64 0, .int .i64 a6]) (.agg #[.int .i64 3, .int .i64 a1, .int .i64 a2, .int .i64 a3, .int .i64 a4, .int .i64 a5, .int .i64 a6])).run Tryz.prog u = .ok (.bool (!(recFormM (3, a1, (a2, a3, a4, a5), a6)))) u := by
  have e : recFormM (3, a1, (a2, a3, a4, a5), a6) = ((decide (a2 = 0) && (decide (a3 = 0) && (decide (a4 = 0) && (decide (a5 = 0)))))) := by unfold recFormM formM; simp [Bool.decide_and]
  rw [e]
  clear e
  go_simp
  by_cases ha2 : a2 = 0
  rotate_left
  · have ga2 : ¬ (0 : Int) = a2 := fun q => ha2 q.symm
    simp [ha2, ga2]
  by_cases ha3 : a3 = 0
  rotate_left
  · have ga3 : ¬ (0 : Int) = a3 := fun q => ha3 q.symm
    simp [ha2, ha3, ga3]
  by_cases ha4 : a4 = 0
  rotate_left
  · have ga4 : ¬ (0 : Int) = a4 := fun q => ha4 q.symm
    simp [ha2, ha3, ha4, ga4]
  by_cases ha5 : a5 = 0
  rotate_left
  · have ga5 : ¬ (0 : Int) = a5 := fun q => ha5 q.symm
    simp [ha2, ha3, ha4, ha5, ga5]
  · simp [ha2, ha3, ha4, ha5]
theorem neqR4 (a1 a2 a3 a4 a5 a6 : Int) (u : World) : (binOp .neq 27 (.agg #[.int .i64 4, .int .i64 0, .int .i64 0, .int .i64 0, .int .i64 0, .int .i64 0, .int .i64 a6]) (.agg #[.int .i64 4, .int .i64 a1, .int .i64 a2, .int .i64 a3, .int .i64 a4, .int .i64 a5, .int .i64 a6])).run Tryz.prog u = .ok (.bool (!(recFormM (4, a1, (a2, a3, a4, a5), a6)))) u := by
  have e : recFormM (4, a1, (a2, a3, a4, a5), a6) = ((decide (a1 = 0) && (decide (a2 = 0) && (decide (a3 = 0) && (decide (a4 = 0) && (decide (a5 = 0))))))) := by unfold recFormM formM; simp [Bool.decide_and]
  rw [e]
  clear e
  go_simp
  by_cases ha1 : a1 = 0
  rotate_left
  · have ga1 : ¬ (0 : Int) = a1 := fun q => ha1 q.symm
    simp [ha1, ga1]
  by_cases ha2 : a2 = 0
  rotate_left
  · have ga2 : ¬ (0 : Int) = a2 := fun q => ha2 q.symm
    simp [ha1, ha2, ga2]
  by_cases ha3 : a3 = 0
  rotate_left
  · have ga3 : ¬ (0 : Int) = a3 := fun q => ha3 q.symm
    simp [ha1, ha2, ha3, ga3]
  by_cases ha4 : a4 = 0
  rotate_left
  · have ga4 : ¬ (0 : Int) = a4 := fun q => ha4 q.symm
    simp [ha1, ha2, ha3, ha4, ga4]
  by_cases ha5 : a5 = 0
  rotate_left
  · have ga5 : ¬ (0 : Int) = a5 := fun q => ha5 q.symm
    simp [ha1, ha2, ha3, ha4, ha5, ga5]
  · simp [ha1, ha2, ha3, ha4, ha5]
set_option maxHeartbeats 1000000 in
theorem recOf1 (a2 a3 a4 a5 : Int) (w : World) :
    Calls Tryz.prog 215 #[.agg #[.int .i64 a2, .int .i64 a3, .int .i64 a4, .int .i64 a5]] w fun e w' => e = .returned (.agg #[.int .i64 1, .int .i64 0, .int .i64 a2, .int .i64 a3, .int .i64 a4, .int .i64 a5, .int .i64 0]) ∧ Below w.heap.size w w' := by
  have hB0 : Below w.heap.size w ((w.alloc (.cells #[.int .i64 a2, .int .i64 a3, .int .i64 a4, .int .i64 a5] 90)).alloc (.cells #[.int .i64 0, .int .i64 0, .int .i64 0, .int .i64 0, .int .i64 0, .int .i64 0, .int .i64 0] 27)) := ((Below.refl _ _).alloc (Nat.le_refl _) _).alloc (by simp) _
  go_enter Tryz.func215, Tryz.ntmps215
  go_wp2
  refine bodyPost_ret (v := .agg #[.int .i64 1, .int .i64 0, .int .i64 a2, .int .i64 a3, .int .i64 a4, .int .i64 a5, .int .i64 0]) (by simp [results, Tryz.results215, go_sem]) rfl ?_
  exact ⟨rfl, by repeat (first | exact Below.refl _ _ | refine Below.setCell ?_ (by simp) _ | refine Below.alloc ?_ (by simp) _)⟩
set_option maxHeartbeats 1000000 in
theorem recOf2 (a1 a2 a3 a4 a5 : Int) (w : World) :
    Calls Tryz.prog 216 #[.agg #[.int .i64 a1, .int .i64 a2, .int .i64 a3, .int .i64 a4, .int .i64 a5]] w fun e w' => e = .returned (.agg #[.int .i64 2, .int .i64 a1, .int .i64 a2, .int .i64 a3, .int .i64 a4, .int .i64 a5, .int .i64 0]) ∧ Below w.heap.size w w' := by
  have hB0 : Below w.heap.size w ((w.alloc (.cells #[.int .i64 a1, .int .i64 a2, .int .i64 a3, .int .i64 a4, .int .i64 a5] 93)).alloc (.cells #[.int .i64 0, .int .i64 0, .int .i64 0, .int .i64 0, .int .i64 0, .int .i64 0, .int .i64 0] 27)) := ((Below.refl _ _).alloc (Nat.le_refl _) _).alloc (by simp) _
  go_enter Tryz.func216, Tryz.ntmps216
  go_wp2
  refine bodyPost_ret (v := .agg #[.int .i64 2, .int .i64 a1, .int .i64 a2, .int .i64 a3, .int .i64 a4, .int .i64 a5, .int .i64 0]) (by simp [results, Tryz.results216, go_sem]) rfl ?_
  exact ⟨rfl, by repeat (first | exact Below.refl _ _ | refine Below.setCell ?_ (by simp) _ | refine Below.alloc ?_ (by simp) _)⟩
set_option maxHeartbeats 1000000 in
theorem recOf3 (a1 a6 : Int) (w : World) :
    Calls Tryz.prog 217 #[.agg #[.int .i64 a1, .int .i64 a6]] w fun e w' => e = .returned (.agg #[.int .i64 3, .int .i64 a1, .int .i64 0, .int .i64 0, .int .i64 0, .int .i64 0, .int .i64 a6]) ∧ Below w.heap.size w w' := by
  have hB0 : Below w.heap.size w ((w.alloc (.cells #[.int .i64 a1, .int .i64 a6] 96)).alloc (.cells #[.int .i64 0, .int .i64 0, .int .i64 0, .int .i64 0, .int .i64 0, .int .i64 0, .int .i64 0] 27)) := ((Below.refl _ _).alloc (Nat.le_refl _) _).alloc (by simp) _
  go_enter Tryz.func217, Tryz.ntmps217
  go_wp2
  refine bodyPost_ret (v := .agg #[.int .i64 3, .int .i64 a1, .int .i64 0, .int .i64 0, .int .i64 0, .int .i64 0, .int .i64 a6]) (by simp [results, Tryz.results217, go_sem]) rfl ?_
  exact ⟨rfl, by repeat (first | exact Below.refl _ _ | refine Below.setCell ?_ (by simp) _ | refine Below.alloc ?_ (by simp) _)⟩
set_option maxHeartbeats 1000000 in
theorem recOf4 (a6 : Int) (w : World) :
    Calls Tryz.prog 218 #[.agg #[.int .i64 a6]] w fun e w' => e = .returned (.agg #[.int .i64 4, .int .i64 0, .int .i64 0, .int .i64 0, .int .i64 0, .int .i64 0, .int .i64 a6]) ∧ Below w.heap.size w w' := by
  have hB0 : Below w.heap.size w ((w.alloc (.cells #[.int .i64 a6] 101)).alloc (.cells #[.int .i64 0, .int .i64 0, .int .i64 0, .int .i64 0, .int .i64 0, .int .i64 0, .int .i64 0] 27)) := ((Below.refl _ _).alloc (Nat.le_refl _) _).alloc (by simp) _
  go_enter Tryz.func218, Tryz.ntmps218
  go_wp2
  refine bodyPost_ret (v := .agg #[.int .i64 4, .int .i64 0, .int .i64 0, .int .i64 0, .int .i64 0, .int .i64 0, .int .i64 a6]) (by simp [results, Tryz.results218, go_sem]) rfl ?_
  exact ⟨rfl, by repeat (first | exact Below.refl _ _ | refine Below.setCell ?_ (by simp) _ | refine Below.alloc ?_ (by simp) _)⟩
theorem as0_1 (w : World) : (Instr.typeAssert .nilIface 66 90 true).run Tryz.prog w = .ok (.tuple #[.agg #[.int .i64 0, .int .i64 0, .int .i64 0, .int .i64 0], .bool false]) w := by kernel_rfl
theorem as0_2 (w : World) : (Instr.typeAssert .nilIface 66 93 true).run Tryz.prog w = .ok (.tuple #[.agg #[.int .i64 0, .int .i64 0, .int .i64 0, .int .i64 0, .int .i64 0], .bool false]) w := by kernel_rfl
theorem as0_3 (w : World) : (Instr.typeAssert .nilIface 66 96 true).run Tryz.prog w = .ok (.tuple #[.agg #[.int .i64 0, .int .i64 0], .bool false]) w := by kernel_rfl
theorem as0_4 (w : World) : (Instr.typeAssert .nilIface 66 101 true).run Tryz.prog w = .ok (.tuple #[.agg #[.int .i64 0], .bool false]) w := by kernel_rfl
theorem as1_1 (v : Value) (w : World) : (Instr.typeAssert (.iface 90 v) 66 90 true).run Tryz.prog w = .ok (.tuple #[v, .bool true]) w := by kernel_rfl
theorem as1_2 (v : Value) (w : World) : (Instr.typeAssert (.iface 90 v) 66 93 true).run Tryz.prog w = .ok (.tuple #[.agg #[.int .i64 0, .int .i64 0, .int .i64 0, .int .i64 0, .int .i64 0], .bool false]) w := by kernel_rfl
theorem as1_3 (v : Value) (w : World) : (Instr.typeAssert (.iface 90 v) 66 96 true).run Tryz.prog w = .ok (.tuple #[.agg #[.int .i64 0, .int .i64 0], .bool false]) w := by kernel_rfl
theorem as1_4 (v : Value) (w : World) : (Instr.typeAssert (.iface 90 v) 66 101 true).run Tryz.prog w = .ok (.tuple #[.agg #[.int .i64 0], .bool false]) w := by kernel_rfl
theorem as2_1 (v : Value) (w : World) : (Instr.typeAssert (.iface 93 v) 66 90 true).run Tryz.prog w = .ok (.tuple #[.agg #[.int .i64 0, .int .i64 0, .int .i64 0, .int .i64 0], .bool false]) w := by kernel_rfl
theorem as2_2 (v : Value) (w : World) : (Instr.typeAssert (.iface 93 v) 66 93 true).run Tryz.prog w = .ok (.tuple #[v, .bool true]) w := by kernel_rfl
theorem as2_3 (v : Value) (w : World) : (Instr.typeAssert (.iface 93 v) 66 96 true).run Tryz.prog w = .ok (.tuple #[.agg #[.int .i64 0, .int .i64 0], .bool false]) w := by kernel_rfl
theorem as2_4 (v : Value) (w : World) : (Instr.typeAssert (.iface 93 v) 66 101 true).run Tryz.prog w = .ok (.tuple #[.agg #[.int .i64 0], .bool false]) w := by kernel_rfl
theorem as3_1 (v : Value) (w : World) : (Instr.typeAssert (.iface 96 v) 66 90 true).run Tryz.prog w = .ok (.tuple #[.agg #[.int .i64 0, .int .i64 0, .int .i64 0, .int .i64 0], .bool false]) w := by kernel_rfl
theorem as3_2 (v : Value) (w : World) : (Instr.typeAssert (.iface 96 v) 66 93 true).run Tryz.prog w = .ok (.tuple #[.agg #[.int .i64 0, .int .i64 0, .int .i64 0, .int .i64 0, .int .i64 0], .bool false]) w := by kernel_rfl
theorem as3_3 (v : Value) (w : World) : (Instr.typeAssert (.iface 96 v) 66 96 true).run Tryz.prog w = .ok (.tuple #[v, .bool true]) w := by kernel_rfl
theorem as3_4 (v : Value) (w : World) : (Instr.typeAssert (.iface 96 v) 66 101 true).run Tryz.prog w = .ok (.tuple #[.agg #[.int .i64 0], .bool false]) w := by kernel_rfl
theorem as4_1 (v : Value) (w : World) : (Instr.typeAssert (.iface 101 v) 66 90 true).run Tryz.prog w = .ok (.tuple #[.agg #[.int .i64 0, .int .i64 0, .int .i64 0, .int .i64 0], .bool false]) w := by kernel_rfl
theorem as4_2 (v : Value) (w : World) : (Instr.typeAssert (.iface 101 v) 66 93 true).run Tryz.prog w = .ok (.tuple #[.agg #[.int .i64 0, .int .i64 0, .int .i64 0, .int .i64 0, .int .i64 0], .bool false]) w := by kernel_rfl
theorem as4_3 (v : Value) (w : World) : (Instr.typeAssert (.iface 101 v) 66 96 true).run Tryz.prog w = .ok (.tuple #[.agg #[.int .i64 0, .int .i64 0], .bool false]) w := by kernel_rfl
theorem as4_4 (v : Value) (w : World) : (Instr.typeAssert (.iface 101 v) 66 101 true).run Tryz.prog w = .ok (.tuple #[v, .bool true]) w := by kernel_rfl

set_option maxHeartbeats 4000000 in
theorem entryOf (a0 a1 a2 a3 a4 a5 a6 : Int) (w : World) :
    Calls Tryz.prog 38 #[.agg #[.int .i64 a0, .int .i64 a1, .int .i64 a2, .int .i64 a3, .int .i64 a4, .int .i64 a5, .int .i64 a6]] w fun e w' => e = .returned (entV (a0, a1, (a2, a3, a4, a5), a6)) ∧ Below w.heap.size w w' := by
  have hB0 : Below w.heap.size w (w.alloc (.cells #[.int .i64 a0, .int .i64 a1, .int .i64 a2, .int .i64 a3, .int .i64 a4, .int .i64 a5, .int .i64 a6] 27)) := (Below.refl _ _).alloc (Nat.le_refl _) _
  have r0 := At.new w 27 #[.int .i64 a0, .int .i64 a1, .int .i64 a2, .int .i64 a3, .int .i64 a4, .int .i64 a5, .int .i64 a6]
  obtain ⟨c0, c1, c2, c3, c4, c5, c6⟩ := r0.seven
  by_cases k1 : a0 = 1
  rotate_left
  by_cases k2 : a0 = 2
  rotate_left
  by_cases k3 : a0 = 3
  rotate_left
  by_cases k4 : a0 = 4
  rotate_left
  · have b1 : (a0 == 1) = false := by simpa using k1
    have b2 : (a0 == 2) = false := by simpa using k2
    have b3 : (a0 == 3) = false := by simpa using k3
    have b4 : (a0 == 4) = false := by simpa using k4
    have Hr := Lib.hid (entV_no (r := (a0, a1, (a2, a3, a4, a5), a6)) (by unfold recFormM; rw [if_neg k1, if_neg k2, if_neg k3, if_neg k4]))
    clear k1 k2 k3 k4
    go_enter Tryz.func38, Tryz.ntmps38
    go_wp2
    refine wp_region_mix [(0, false), (1, false), (2, false), (3, false), (5, false), (4, true), (6, false), (7, false)] (fun u => At u w.heap.size 27 #[.int .i64 a0, .int .i64 a1, .int .i64 a2, .int .i64 a3, .int .i64 a4, .int .i64 a5, .int .i64 a6]) (by kernel_rfl) (by kernel_rfl) (fun _ _ _ _ _ h => h) r0.drew ?_
    simp only [mixOps, List.map_cons, List.map_nil, List.getElem?_cons_succ, List.getElem?_cons_zero, Option.getD_some]
    repeat (first
      | (refine mix_skip (by rfl) ?_
         (try simp only [Act.put, List.setIfInBounds_toArray, List.set_cons_zero, List.set_cons_succ]))
      | (refine mix_pure (v := ?_) (by rfl) (fun u hu => ?_) ?_
         rotate_left
         · obtain ⟨_, _, _, _, _, _, _⟩ := hu.seven
           go_simp
           (with_reducible rfl)
         (try simp only [Act.put, List.setIfInBounds_toArray, List.set_cons_zero, List.set_cons_succ])))
    refine mix_nil ?_
    go_wp2
    go_ret
    exact ⟨by rw [Hr.out]; rfl, hB0.drew⟩
  · subst k1
    have NQ := neqR1 a1 a2 a3 a4 a5 a6
    rcases hf : recFormM (1, a1, (a2, a3, a4, a5), a6)
    · have Hr := Lib.hid (entV_no hf)
      rw [hf] at NQ
      clear hf
      go_enter Tryz.func38, Tryz.ntmps38
      go_wp2
      refine wp_region_mix [(0, false), (1, false), (2, false), (3, false), (5, false), (4, true), (6, false), (7, false)] (fun u => At u w.heap.size 27 #[.int .i64 1, .int .i64 a1, .int .i64 a2, .int .i64 a3, .int .i64 a4, .int .i64 a5, .int .i64 a6]) (by kernel_rfl) (by kernel_rfl) (fun _ _ _ _ _ h => h) r0.drew ?_
      simp only [mixOps, List.map_cons, List.map_nil, List.getElem?_cons_succ, List.getElem?_cons_zero, Option.getD_some]
      repeat (first
        | (refine mix_skip (by rfl) ?_
           (try simp only [Act.put, List.setIfInBounds_toArray, List.set_cons_zero, List.set_cons_succ]))
        | (refine mix_pure (v := ?_) (by rfl) (fun u hu => ?_) ?_
           rotate_left
           · obtain ⟨_, _, _, _, _, _, _⟩ := hu.seven
             go_simp
             (with_reducible rfl)
           (try simp only [Act.put, List.setIfInBounds_toArray, List.set_cons_zero, List.set_cons_succ])))
      refine mix_call (by rfl) (fun K hK => ?_)
      go_simp
      go_upon
      refine (recOf1 a2 a3 a4 a5 _).mono ?_
      rintro e w1 ⟨rfl, hb1⟩
      have hB1 := hB0.drew.trans (hb1.mono hB0.drew.size)
      have r1 := r0.drew.below hb1 r0.drew.lt
      refine hK _ _ (fun u => At u w.heap.size 27 #[.int .i64 1, .int .i64 a1, .int .i64 a2, .int .i64 a3, .int .i64 a4, .int .i64 a5, .int .i64 a6]) (fun _ h => h) r1 ?_
      clear hK K
      (try simp only [Act.put, List.setIfInBounds_toArray, List.set_cons_zero, List.set_cons_succ])
      repeat (first
        | (refine mix_skip (by rfl) ?_
           (try simp only [Act.put, List.setIfInBounds_toArray, List.set_cons_zero, List.set_cons_succ]))
        | (refine mix_pure (v := ?_) (by rfl) (fun u hu => ?_) ?_
           rotate_left
           · go_simp
             (with_reducible rfl)
           (try simp only [Act.put, List.setIfInBounds_toArray, List.set_cons_zero, List.set_cons_succ])))
      refine mix_nil ?_
      go_wp2
      go_ret
      exact ⟨by rw [Hr.out]; rfl, hB1⟩
    · have Hr := Lib.hid (entV_1 hf)
      rw [hf] at NQ
      clear hf
      go_enter Tryz.func38, Tryz.ntmps38
      go_wp2
      refine wp_region_mix [(0, false), (1, false), (2, false), (3, false), (5, false), (4, true), (6, false), (7, false)] (fun u => At u w.heap.size 27 #[.int .i64 1, .int .i64 a1, .int .i64 a2, .int .i64 a3, .int .i64 a4, .int .i64 a5, .int .i64 a6]) (by kernel_rfl) (by kernel_rfl) (fun _ _ _ _ _ h => h) r0.drew ?_
      simp only [mixOps, List.map_cons, List.map_nil, List.getElem?_cons_succ, List.getElem?_cons_zero, Option.getD_some]
      repeat (first
        | (refine mix_skip (by rfl) ?_
           (try simp only [Act.put, List.setIfInBounds_toArray, List.set_cons_zero, List.set_cons_succ]))
        | (refine mix_pure (v := ?_) (by rfl) (fun u hu => ?_) ?_
           rotate_left
           · obtain ⟨_, _, _, _, _, _, _⟩ := hu.seven
             go_simp
             (with_reducible rfl)
           (try simp only [Act.put, List.setIfInBounds_toArray, List.set_cons_zero, List.set_cons_succ])))
      refine mix_call (by rfl) (fun K hK => ?_)
      go_simp
      go_upon
      refine (recOf1 a2 a3 a4 a5 _).mono ?_
      rintro e w1 ⟨rfl, hb1⟩
      have hB1 := hB0.drew.trans (hb1.mono hB0.drew.size)
      have r1 := r0.drew.below hb1 r0.drew.lt
      refine hK _ _ (fun u => At u w.heap.size 27 #[.int .i64 1, .int .i64 a1, .int .i64 a2, .int .i64 a3, .int .i64 a4, .int .i64 a5, .int .i64 a6]) (fun _ h => h) r1 ?_
      clear hK K
      (try simp only [Act.put, List.setIfInBounds_toArray, List.set_cons_zero, List.set_cons_succ])
      repeat (first
        | (refine mix_skip (by rfl) ?_
           (try simp only [Act.put, List.setIfInBounds_toArray, List.set_cons_zero, List.set_cons_succ]))
        | (refine mix_pure (v := ?_) (by rfl) (fun u hu => ?_) ?_
           rotate_left
           · go_simp
             (with_reducible rfl)
           (try simp only [Act.put, List.setIfInBounds_toArray, List.set_cons_zero, List.set_cons_succ])))
      refine mix_nil ?_
      go_wp2
      go_ret
      exact ⟨by rw [Hr.out]; rfl, hB1⟩
  · subst k2
    clear k1
    have NQ := neqR2 a1 a2 a3 a4 a5 a6
    rcases hf : recFormM (2, a1, (a2, a3, a4, a5), a6)
    · have Hr := Lib.hid (entV_no hf)
      rw [hf] at NQ
      clear hf
      go_enter Tryz.func38, Tryz.ntmps38
      go_wp2
      refine wp_region_mix [(0, false), (1, false), (2, false), (3, false), (5, false), (4, true), (6, false), (7, false)] (fun u => At u w.heap.size 27 #[.int .i64 2, .int .i64 a1, .int .i64 a2, .int .i64 a3, .int .i64 a4, .int .i64 a5, .int .i64 a6]) (by kernel_rfl) (by kernel_rfl) (fun _ _ _ _ _ h => h) r0.drew ?_
      simp only [mixOps, List.map_cons, List.map_nil, List.getElem?_cons_succ, List.getElem?_cons_zero, Option.getD_some]
      repeat (first
        | (refine mix_skip (by rfl) ?_
           (try simp only [Act.put, List.setIfInBounds_toArray, List.set_cons_zero, List.set_cons_succ]))
        | (refine mix_pure (v := ?_) (by rfl) (fun u hu => ?_) ?_
           rotate_left
           · obtain ⟨_, _, _, _, _, _, _⟩ := hu.seven
             go_simp
             (with_reducible rfl)
           (try simp only [Act.put, List.setIfInBounds_toArray, List.set_cons_zero, List.set_cons_succ])))
      refine mix_call (by rfl) (fun K hK => ?_)
      go_simp
      go_upon
      refine (recOf2 a1 a2 a3 a4 a5 _).mono ?_
      rintro e w1 ⟨rfl, hb1⟩
      have hB1 := hB0.drew.trans (hb1.mono hB0.drew.size)
      have r1 := r0.drew.below hb1 r0.drew.lt
      refine hK _ _ (fun u => At u w.heap.size 27 #[.int .i64 2, .int .i64 a1, .int .i64 a2, .int .i64 a3, .int .i64 a4, .int .i64 a5, .int .i64 a6]) (fun _ h => h) r1 ?_
      clear hK K
      (try simp only [Act.put, List.setIfInBounds_toArray, List.set_cons_zero, List.set_cons_succ])
      repeat (first
        | (refine mix_skip (by rfl) ?_
           (try simp only [Act.put, List.setIfInBounds_toArray, List.set_cons_zero, List.set_cons_succ]))
        | (refine mix_pure (v := ?_) (by rfl) (fun u hu => ?_) ?_
           rotate_left
           · go_simp
             (with_reducible rfl)
           (try simp only [Act.put, List.setIfInBounds_toArray, List.set_cons_zero, List.set_cons_succ])))
      refine mix_nil ?_
      go_wp2
      go_ret
      exact ⟨by rw [Hr.out]; rfl, hB1⟩
    · have Hr := Lib.hid (entV_2 hf)
      rw [hf] at NQ
      clear hf
      go_enter Tryz.func38, Tryz.ntmps38
      go_wp2
      refine wp_region_mix [(0, false), (1, false), (2, false), (3, false), (5, false), (4, true), (6, false), (7, false)] (fun u => At u w.heap.size 27 #[.int .i64 2, .int .i64 a1, .int .i64 a2, .int .i64 a3, .int .i64 a4, .int .i64 a5, .int .i64 a6]) (by kernel_rfl) (by kernel_rfl) (fun _ _ _ _ _ h => h) r0.drew ?_
      simp only [mixOps, List.map_cons, List.map_nil, List.getElem?_cons_succ, List.getElem?_cons_zero, Option.getD_some]
      repeat (first
        | (refine mix_skip (by rfl) ?_
           (try simp only [Act.put, List.setIfInBounds_toArray, List.set_cons_zero, List.set_cons_succ]))
        | (refine mix_pure (v := ?_) (by rfl) (fun u hu => ?_) ?_
           rotate_left
           · obtain ⟨_, _, _, _, _, _, _⟩ := hu.seven
             go_simp
             (with_reducible rfl)
           (try simp only [Act.put, List.setIfInBounds_toArray, List.set_cons_zero, List.set_cons_succ])))
      refine mix_call (by rfl) (fun K hK => ?_)
      go_simp
      go_upon
      refine (recOf2 a1 a2 a3 a4 a5 _).mono ?_
      rintro e w1 ⟨rfl, hb1⟩
      have hB1 := hB0.drew.trans (hb1.mono hB0.drew.size)
      have r1 := r0.drew.below hb1 r0.drew.lt
      refine hK _ _ (fun u => At u w.heap.size 27 #[.int .i64 2, .int .i64 a1, .int .i64 a2, .int .i64 a3, .int .i64 a4, .int .i64 a5, .int .i64 a6]) (fun _ h => h) r1 ?_
      clear hK K
      (try simp only [Act.put, List.setIfInBounds_toArray, List.set_cons_zero, List.set_cons_succ])
      repeat (first
        | (refine mix_skip (by rfl) ?_
           (try simp only [Act.put, List.setIfInBounds_toArray, List.set_cons_zero, List.set_cons_succ]))
        | (refine mix_pure (v := ?_) (by rfl) (fun u hu => ?_) ?_
           rotate_left
           · go_simp
             (with_reducible rfl)
           (try simp only [Act.put, List.setIfInBounds_toArray, List.set_cons_zero, List.set_cons_succ])))
      refine mix_nil ?_
      go_wp2
      go_ret
      exact ⟨by rw [Hr.out]; rfl, hB1⟩
  · subst k3
    clear k1 k2
    have NQ := neqR3 a1 a2 a3 a4 a5 a6
    rcases hf : recFormM (3, a1, (a2, a3, a4, a5), a6)
    · have Hr := Lib.hid (entV_no hf)
      rw [hf] at NQ
      clear hf
      go_enter Tryz.func38, Tryz.ntmps38
      go_wp2
      refine wp_region_mix [(0, false), (1, false), (2, false), (3, false), (5, false), (4, true), (6, false), (7, false)] (fun u => At u w.heap.size 27 #[.int .i64 3, .int .i64 a1, .int .i64 a2, .int .i64 a3, .int .i64 a4, .int .i64 a5, .int .i64 a6]) (by kernel_rfl) (by kernel_rfl) (fun _ _ _ _ _ h => h) r0.drew ?_
      simp only [mixOps, List.map_cons, List.map_nil, List.getElem?_cons_succ, List.getElem?_cons_zero, Option.getD_some]
      repeat (first
        | (refine mix_skip (by rfl) ?_
           (try simp only [Act.put, List.setIfInBounds_toArray, List.set_cons_zero, List.set_cons_succ]))
        | (refine mix_pure (v := ?_) (by rfl) (fun u hu => ?_) ?_
           rotate_left
           · obtain ⟨_, _, _, _, _, _, _⟩ := hu.seven
             go_simp
             (with_reducible rfl)
           (try simp only [Act.put, List.setIfInBounds_toArray, List.set_cons_zero, List.set_cons_succ])))
      refine mix_call (by rfl) (fun K hK => ?_)
      go_simp
      go_upon
      refine (recOf3 a1 a6 _).mono ?_
      rintro e w1 ⟨rfl, hb1⟩
      have hB1 := hB0.drew.trans (hb1.mono hB0.drew.size)
      have r1 := r0.drew.below hb1 r0.drew.lt
      refine hK _ _ (fun u => At u w.heap.size 27 #[.int .i64 3, .int .i64 a1, .int .i64 a2, .int .i64 a3, .int .i64 a4, .int .i64 a5, .int .i64 a6]) (fun _ h => h) r1 ?_
      clear hK K
      (try simp only [Act.put, List.setIfInBounds_toArray, List.set_cons_zero, List.set_cons_succ])
      repeat (first
        | (refine mix_skip (by rfl) ?_
           (try simp only [Act.put, List.setIfInBounds_toArray, List.set_cons_zero, List.set_cons_succ]))
        | (refine mix_pure (v := ?_) (by rfl) (fun u hu => ?_) ?_
           rotate_left
           · go_simp
             (with_reducible rfl)
           (try simp only [Act.put, List.setIfInBounds_toArray, List.set_cons_zero, List.set_cons_succ])))
      refine mix_nil ?_
      go_wp2
      go_ret
      exact ⟨by rw [Hr.out]; rfl, hB1⟩
    · have Hr := Lib.hid (entV_3 hf)
      rw [hf] at NQ
      clear hf
      go_enter Tryz.func38, Tryz.ntmps38
      go_wp2
      refine wp_region_mix [(0, false), (1, false), (2, false), (3, false), (5, false), (4, true), (6, false), (7, false)] (fun u => At u w.heap.size 27 #[.int .i64 3, .int .i64 a1, .int .i64 a2, .int .i64 a3, .int .i64 a4, .int .i64 a5, .int .i64 a6]) (by kernel_rfl) (by kernel_rfl) (fun _ _ _ _ _ h => h) r0.drew ?_
      simp only [mixOps, List.map_cons, List.map_nil, List.getElem?_cons_succ, List.getElem?_cons_zero, Option.getD_some]
      repeat (first
        | (refine mix_skip (by rfl) ?_
           (try simp only [Act.put, List.setIfInBounds_toArray, List.set_cons_zero, List.set_cons_succ]))
        | (refine mix_pure (v := ?_) (by rfl) (fun u hu => ?_) ?_
           rotate_left
           · obtain ⟨_, _, _, _, _, _, _⟩ := hu.seven
             go_simp
             (with_reducible rfl)
           (try simp only [Act.put, List.setIfInBounds_toArray, List.set_cons_zero, List.set_cons_succ])))
      refine mix_call (by rfl) (fun K hK => ?_)
      go_simp
      go_upon
      refine (recOf3 a1 a6 _).mono ?_
      rintro e w1 ⟨rfl, hb1⟩
      have hB1 := hB0.drew.trans (hb1.mono hB0.drew.size)
      have r1 := r0.drew.below hb1 r0.drew.lt
      refine hK _ _ (fun u => At u w.heap.size 27 #[.int .i64 3, .int .i64 a1, .int .i64 a2, .int .i64 a3, .int .i64 a4, .int .i64 a5, .int .i64 a6]) (fun _ h => h) r1 ?_
      clear hK K
      (try simp only [Act.put, List.setIfInBounds_toArray, List.set_cons_zero, List.set_cons_succ])
      repeat (first
        | (refine mix_skip (by rfl) ?_
           (try simp only [Act.put, List.setIfInBounds_toArray, List.set_cons_zero, List.set_cons_succ]))
        | (refine mix_pure (v := ?_) (by rfl) (fun u hu => ?_) ?_
           rotate_left
           · go_simp
             (with_reducible rfl)
           (try simp only [Act.put, List.setIfInBounds_toArray, List.set_cons_zero, List.set_cons_succ])))
      refine mix_nil ?_
      go_wp2
      go_ret
      exact ⟨by rw [Hr.out]; rfl, hB1⟩
  · subst k4
    clear k1 k2 k3
    have NQ := neqR4 a1 a2 a3 a4 a5 a6
    rcases hf : recFormM (4, a1, (a2, a3, a4, a5), a6)
    · have Hr := Lib.hid (entV_no hf)
      rw [hf] at NQ
      clear hf
      go_enter Tryz.func38, Tryz.ntmps38
      go_wp2
      refine wp_region_mix [(0, false), (1, false), (2, false), (3, false), (5, false), (4, true), (6, false), (7, false)] (fun u => At u w.heap.size 27 #[.int .i64 4, .int .i64 a1, .int .i64 a2, .int .i64 a3, .int .i64 a4, .int .i64 a5, .int .i64 a6]) (by kernel_rfl) (by kernel_rfl) (fun _ _ _ _ _ h => h) r0.drew ?_
      simp only [mixOps, List.map_cons, List.map_nil, List.getElem?_cons_succ, List.getElem?_cons_zero, Option.getD_some]
      repeat (first
        | (refine mix_skip (by rfl) ?_
           (try simp only [Act.put, List.setIfInBounds_toArray, List.set_cons_zero, List.set_cons_succ]))
        | (refine mix_pure (v := ?_) (by rfl) (fun u hu => ?_) ?_
           rotate_left
           · obtain ⟨_, _, _, _, _, _, _⟩ := hu.seven
             go_simp
             (with_reducible rfl)
           (try simp only [Act.put, List.setIfInBounds_toArray, List.set_cons_zero, List.set_cons_succ])))
      refine mix_call (by rfl) (fun K hK => ?_)
      go_simp
      go_upon
      refine (recOf4 a6 _).mono ?_
      rintro e w1 ⟨rfl, hb1⟩
      have hB1 := hB0.drew.trans (hb1.mono hB0.drew.size)
      have r1 := r0.drew.below hb1 r0.drew.lt
      refine hK _ _ (fun u => At u w.heap.size 27 #[.int .i64 4, .int .i64 a1, .int .i64 a2, .int .i64 a3, .int .i64 a4, .int .i64 a5, .int .i64 a6]) (fun _ h => h) r1 ?_
      clear hK K
      (try simp only [Act.put, List.setIfInBounds_toArray, List.set_cons_zero, List.set_cons_succ])
      repeat (first
        | (refine mix_skip (by rfl) ?_
           (try simp only [Act.put, List.setIfInBounds_toArray, List.set_cons_zero, List.set_cons_succ]))
        | (refine mix_pure (v := ?_) (by rfl) (fun u hu => ?_) ?_
           rotate_left
           · go_simp
             (with_reducible rfl)
           (try simp only [Act.put, List.setIfInBounds_toArray, List.set_cons_zero, List.set_cons_succ])))
      refine mix_nil ?_
      go_wp2
      go_ret
      exact ⟨by rw [Hr.out]; rfl, hB1⟩
    · have Hr := Lib.hid (entV_4 hf)
      rw [hf] at NQ
      clear hf
      go_enter Tryz.func38, Tryz.ntmps38
      go_wp2
      refine wp_region_mix [(0, false), (1, false), (2, false), (3, false), (5, false), (4, true), (6, false), (7, false)] (fun u => At u w.heap.size 27 #[.int .i64 4, .int .i64 a1, .int .i64 a2, .int .i64 a3, .int .i64 a4, .int .i64 a5, .int .i64 a6]) (by kernel_rfl) (by kernel_rfl) (fun _ _ _ _ _ h => h) r0.drew ?_
      simp only [mixOps, List.map_cons, List.map_nil, List.getElem?_cons_succ, List.getElem?_cons_zero, Option.getD_some]
      repeat (first
        | (refine mix_skip (by rfl) ?_
           (try simp only [Act.put, List.setIfInBounds_toArray, List.set_cons_zero, List.set_cons_succ]))
        | (refine mix_pure (v := ?_) (by rfl) (fun u hu => ?_) ?_
           rotate_left
           · obtain ⟨_, _, _, _, _, _, _⟩ := hu.seven
             go_simp
             (with_reducible rfl)
           (try simp only [Act.put, List.setIfInBounds_toArray, List.set_cons_zero, List.set_cons_succ])))
      refine mix_call (by rfl) (fun K hK => ?_)
      go_simp
      go_upon
      refine (recOf4 a6 _).mono ?_
      rintro e w1 ⟨rfl, hb1⟩
      have hB1 := hB0.drew.trans (hb1.mono hB0.drew.size)
      have r1 := r0.drew.below hb1 r0.drew.lt
      refine hK _ _ (fun u => At u w.heap.size 27 #[.int .i64 4, .int .i64 a1, .int .i64 a2, .int .i64 a3, .int .i64 a4, .int .i64 a5, .int .i64 a6]) (fun _ h => h) r1 ?_
      clear hK K
      (try simp only [Act.put, List.setIfInBounds_toArray, List.set_cons_zero, List.set_cons_succ])
      repeat (first
        | (refine mix_skip (by rfl) ?_
           (try simp only [Act.put, List.setIfInBounds_toArray, List.set_cons_zero, List.set_cons_succ]))
        | (refine mix_pure (v := ?_) (by rfl) (fun u hu => ?_) ?_
           rotate_left
           · go_simp
             (with_reducible rfl)
           (try simp only [Act.put, List.setIfInBounds_toArray, List.set_cons_zero, List.set_cons_succ])))
      refine mix_nil ?_
      go_wp2
      go_ret
      exact ⟨by rw [Hr.out]; rfl, hB1⟩
end Go.Proofs.YtmaillakhhdkfaaGreatDoor
/-
  The program's fault of one hint.
-/
namespace Go.Proofs.YtmaillakhhdkfaaGreatDoor
set_option maxRecDepth 20000
open Go.RowKit
set_option linter.unusedSimpArgs false
set_option linter.unusedVariables false

theorem bnds_three {w : World} {t : TypeId} {x lo hi x' lo' hi' x'' lo'' hi'' : Int} {g : Nat} (hg : w.heap.size = g) : Bnds (w.alloc (.cells #[.int .i64 x, .int .i64 lo, .int .i64 hi, .int .i64 x', .int .i64 lo', .int .i64 hi', .int .i64 x'', .int .i64 lo'', .int .i64 hi''] t)) g [(x, lo, hi), (x', lo', hi'), (x'', lo'', hi'')] := by
  subst hg
  intro k b hk
  match k, hk with
  | 0, hk =>
    obtain rfl : (x, lo, hi) = b := by simpa using hk
    refine ⟨?_, ?_, ?_⟩ <;> (rw [cell_of_row _ _ _ _ _ _ (heap_alloc_new w _)]; rfl)
  | 1, hk =>
    obtain rfl : (x', lo', hi') = b := by simpa using hk
    refine ⟨?_, ?_, ?_⟩ <;> (rw [cell_of_row _ _ _ _ _ _ (heap_alloc_new w _)]; rfl)
  | 2, hk =>
    obtain rfl : (x'', lo'', hi'') = b := by simpa using hk
    refine ⟨?_, ?_, ?_⟩ <;> (rw [cell_of_row _ _ _ _ _ _ (heap_alloc_new w _)]; rfl)
  | k + 3, hk => simp at hk

set_option maxHeartbeats 1000000 in
theorem implHintFault (a0 a1 a2 a3 a4 a5 a6 : Int) (w : World) (hF : Flds w) :
    Calls Tryz.prog 61 #[.agg #[.int .i64 a0, .int .i64 a1, .int .i64 a2, .int .i64 a3, .int .i64 a4, .int .i64 a5, .int .i64 a6]] w fun e w' => e = .returned (.int .i64 (hfaultM (a0, (a1, a2, a3, a4), a5, a6))) ∧ Below w.heap.size w w' := by
  have hB0 : Below w.heap.size w (w.alloc (.cells #[.int .i64 a0, .int .i64 a1, .int .i64 a2, .int .i64 a3, .int .i64 a4, .int .i64 a5, .int .i64 a6] 75)) := (Below.refl _ _).alloc (Nat.le_refl _) _
  have x0 := At.new w 75 #[.int .i64 a0, .int .i64 a1, .int .i64 a2, .int .i64 a3, .int .i64 a4, .int .i64 a5, .int .i64 a6]
  have HS := implSampleFault a1 a2 a3 a4 _ (hF.below hB0)
  rcases faultM_or (a1, a2, a3, a4) with hf | hf
  rotate_left
  · rw [hf] at HS
    have Hr := Lib.hid (hfault_smp (h := (a0, (a1, a2, a3, a4), a5, a6)) hf)
    clear hf
    go_enter Tryz.func61, Tryz.ntmps61
    go_wp2_with fail
    refine HS.mono ?_
    rintro e w1 ⟨rfl, hb1⟩
    have hB1 := hB0.trans (hb1.mono hB0.size)
    go_wp2
    go_ret
    exact ⟨by rw [Hr.out]; rfl, hB1⟩
  rw [hf] at HS
  obtain ⟨r, hr⟩ : ∃ r, rangeH (a0, (a1, a2, a3, a4), a5, a6) = r := ⟨_, rfl⟩
  have Hb := Lib.hid (show ([(a0, 0, 3), (a5, 0, 4), (a6, 0, 200000)] : List (Int × Int × Int)).all inB = r by rw [← hr]; simp [rangeH])
  have Hr := Lib.hid (show hfaultM (a0, (a1, a2, a3, a4), a5, a6) = if r then 0 else 3 by
    cases r
    · exact hfault_no hf hr
    · exact hfault_yes hf hr)
  clear hf hr
  go_enter Tryz.func61, Tryz.ntmps61
  go_wp2_with fail
  refine HS.mono ?_
  rintro e w1 ⟨rfl, hb1⟩
  have hB1 := hB0.trans (hb1.mono hB0.size)
  obtain ⟨c0, c1, c2, c3, c4, c5, c6⟩ := (x0.below hb1 x0.lt).seven
  go_wp2_with fail
  refine (areWithin_any _ 3 _ [(a0, 0, 3), (a5, 0, 4), (a6, 0, 200000)] _ (bnds_three (by simp)) (by simp) rfl (by simp)).mono ?_
  rintro e w2 ⟨rfl, hb2⟩
  have hBa := hB1.alloc hB1.size (.cells #[.int .i64 a0, .int .i64 0, .int .i64 3, .int .i64 a5, .int .i64 0, .int .i64 4, .int .i64 a6, .int .i64 0, .int .i64 200000] 99)
  have hB2 := hBa.trans (hb2.mono hBa.size)
  rw [Hb.out]
  cases r
  · go_wp2
    go_ret
    exact ⟨by rw [Hr.out]; rfl, hB2⟩
  · go_wp2
    go_ret
    exact ⟨by rw [Hr.out]; rfl, hB2⟩
end Go.Proofs.YtmaillakhhdkfaaGreatDoor
/-
  The program's fault of a record.
-/
namespace Go.Proofs.YtmaillakhhdkfaaGreatDoor
set_option maxRecDepth 20000
open Go.RowKit
set_option linter.unusedSimpArgs false
set_option linter.unusedVariables false

/-- What rangeFault answers. -/
def rngM (bs : List (Int × Int × Int)) : Int := if bs.all inB = true then 0 else 3
theorem rangeFault (g n c : Nat) (bs : List (Int × Int × Int)) (w : World) (hb : Bnds w g bs) (hg : g < w.heap.size) (hn : bs.length = n) (hm : n ≤ 1000) :
    Calls Tryz.prog 62 #[.slice (some ⟨g, 0, none⟩) n c] w fun e w' => e = .returned (.int .i64 (rngM bs)) ∧ Below w.heap.size w w' := by
  unfold rngM
  have HW := areWithin_any g n c bs w hb hg hn hm
  rcases hq : bs.all inB
  · rw [hq] at HW
    rw [if_neg (by simp)]
    clear hq hb hn
    go_enter Tryz.func62, Tryz.ntmps62
    go_wp2_with fail
    refine HW.mono ?_
    rintro e w1 ⟨rfl, hb1⟩
    go_wp2
    go_ret
    exact ⟨rfl, hb1⟩
  · rw [hq] at HW
    rw [if_pos rfl]
    clear hq hb hn
    go_enter Tryz.func62, Tryz.ntmps62
    go_wp2_with fail
    refine HW.mono ?_
    rintro e w1 ⟨rfl, hb1⟩
    go_wp2
    go_ret
    exact ⟨rfl, hb1⟩
theorem rec_kind1 {a1 a2 a3 a4 a5 a6 : Int} (h : recFormM (1, a1, (a2, a3, a4, a5), a6) = true) : recFaultM (1, a1, (a2, a3, a4, a5), a6) = faultM (a2, a3, a4, a5) := by
  have e : a1 = 0 ∧ a6 = 0 := by unfold recFormM formM at h; simpa using h
  rw [recFault_range h]; unfold rrangeM; rw [e.1, e.2, if_pos (by unfold mostM inB; simp)]
theorem rec_kind2 {a1 a2 a3 a4 a5 a6 : Int} (h : recFormM (2, a1, (a2, a3, a4, a5), a6) = true) : recFaultM (2, a1, (a2, a3, a4, a5), a6) = hfaultM (a1, (a2, a3, a4, a5), 0, 0) := by
  have e : a6 = 0 := by unfold recFormM formM at h; simpa using h
  have h0 : inB ((0 : Int), 0, 9999) = true := by decide
  have h4 : inB ((0 : Int), 0, 4) = true := by decide
  have h2 : inB ((0 : Int), 0, 200000) = true := by decide
  rw [recFault_range h]; unfold rrangeM hfaultM rangeH mostM
  rw [e]
  simp only [show ¬ ((2 : Int) = 4) by decide, if_false, h0, h4, h2, Bool.and_true]
  rcases faultM_or (a2, a3, a4, a5) with hf | hf <;> rcases hb : inB (a1, 0, 3) <;> simp [hf]
theorem rec_kind3 {a1 a2 a3 a4 a5 a6 : Int} (h : recFormM (3, a1, (a2, a3, a4, a5), a6) = true) : recFaultM (3, a1, (a2, a3, a4, a5), a6) = rngM [(a1, 0, 3), (a6, 0, 9999)] := by
  unfold rngM
  have e : (a2, a3, a4, a5) = ((0 : Int), (0 : Int), (0 : Int), (0 : Int)) := by unfold recFormM formM at h; simpa using h
  have hz : faultM (0, 0, 0, 0) = 0 := by decide
  rw [recFault_range h]; unfold rrangeM mostM
  rw [e, hz]
  simp only [show ¬ ((3 : Int) = 4) by decide, if_false, List.all_cons, List.all_nil, Bool.and_true]
theorem rec_kind4 {a1 a2 a3 a4 a5 a6 : Int} (h : recFormM (4, a1, (a2, a3, a4, a5), a6) = true) : recFaultM (4, a1, (a2, a3, a4, a5), a6) = rngM [(a6, 0, 60000)] := by
  unfold rngM
  have e : a1 = 0 ∧ (a2, a3, a4, a5) = ((0 : Int), (0 : Int), (0 : Int), (0 : Int)) := by unfold recFormM formM at h; simpa using h
  have hz : faultM (0, 0, 0, 0) = 0 := by decide
  have h0 : inB ((0 : Int), 0, 3) = true := by decide
  rw [recFault_range h]; unfold rrangeM mostM
  rw [e.1, e.2, hz]
  simp only [if_true, h0, List.all_cons, List.all_nil, Bool.and_true, Bool.true_and]

set_option maxHeartbeats 4000000 in
theorem implRecordFault (a0 a1 a2 a3 a4 a5 a6 : Int) (w : World) (hF : Flds w) :
    Calls Tryz.prog 19 #[.agg #[.int .i64 a0, .int .i64 a1, .int .i64 a2, .int .i64 a3, .int .i64 a4, .int .i64 a5, .int .i64 a6]] w fun e w' => e = .returned (.int .i64 (recFaultM (a0, a1, (a2, a3, a4, a5), a6))) ∧ Below w.heap.size w w' := by
  have hB0 : Below w.heap.size w (w.alloc (.cells #[.int .i64 a0, .int .i64 a1, .int .i64 a2, .int .i64 a3, .int .i64 a4, .int .i64 a5, .int .i64 a6] 27)) := (Below.refl _ _).alloc (Nat.le_refl _) _
  have r0 := At.new w 27 #[.int .i64 a0, .int .i64 a1, .int .i64 a2, .int .i64 a3, .int .i64 a4, .int .i64 a5, .int .i64 a6]
  obtain ⟨c0, c1, c2, c3, c4, c5, c6⟩ := r0.seven
  have hF0 := hF.below hB0
  have EN := entryOf a0 a1 a2 a3 a4 a5 a6 (w.alloc (.cells #[.int .i64 a0, .int .i64 a1, .int .i64 a2, .int .i64 a3, .int .i64 a4, .int .i64 a5, .int .i64 a6] 27))
  rcases hf : recFormM (a0, a1, (a2, a3, a4, a5), a6)
  · rw [entV_no hf] at EN
    have q1 := as0_1
    have q2 := as0_2
    have q3 := as0_3
    have q4 := as0_4
    have Hr := Lib.hid (recFault_form hf)
    clear hf
    go_enter Tryz.func19, Tryz.ntmps19
    go_wp2_with fail
    refine EN.mono ?_
    rintro e w1 ⟨rfl, hb1⟩
    have hB1 := hB0.trans (hb1.mono hB0.size)
    go_wp2
    go_ret
    exact ⟨by rw [Hr.out]; try rfl, hB1⟩
  by_cases k1 : a0 = 1
  rotate_left
  by_cases k2 : a0 = 2
  rotate_left
  by_cases k3 : a0 = 3
  rotate_left
  by_cases k4 : a0 = 4
  rotate_left
  · exact absurd hf (by unfold recFormM; rw [if_neg k1, if_neg k2, if_neg k3, if_neg k4]; decide)
  · subst k1
    have q1 := as1_1
    rw [entV_1 hf] at EN
    have Hr := Lib.hid (rec_kind1 hf)
    clear hf
    go_enter Tryz.func19, Tryz.ntmps19
    go_wp2_with fail
    refine EN.mono ?_
    rintro e w1 ⟨rfl, hb1⟩
    have hB1 := hB0.trans (hb1.mono hB0.size)
    have hF1 := hF0.below hb1
    have hB2 := hB1.alloc hB1.size (.cells #[.int .i64 a2, .int .i64 a3, .int .i64 a4, .int .i64 a5] 90)
    have hF2 := hF1.below ((Below.refl _ _).alloc (Nat.le_refl _) (.cells #[.int .i64 a2, .int .i64 a3, .int .i64 a4, .int .i64 a5] 90))
    go_wp2_with fail
    refine (implSampleFault a2 a3 a4 a5 _ hF2).mono ?_
    rintro e w3 ⟨rfl, hb3⟩
    have hB3 := hB2.trans (hb3.mono hB2.size)
    go_wp2
    go_ret
    exact ⟨by rw [Hr.out]; try rfl, hB3⟩
  · subst k2
    clear k1
    have q1 := as2_1
    have q2 := as2_2
    rw [entV_2 hf] at EN
    have Hr := Lib.hid (rec_kind2 hf)
    clear hf
    go_enter Tryz.func19, Tryz.ntmps19
    go_wp2_with fail
    refine EN.mono ?_
    rintro e w1 ⟨rfl, hb1⟩
    have hB1 := hB0.trans (hb1.mono hB0.size)
    have hF1 := hF0.below hb1
    have hB2 := hB1.alloc hB1.size (.cells #[.int .i64 a1, .int .i64 a2, .int .i64 a3, .int .i64 a4, .int .i64 a5] 93)
    have hF2 := hF1.below ((Below.refl _ _).alloc (Nat.le_refl _) (.cells #[.int .i64 a1, .int .i64 a2, .int .i64 a3, .int .i64 a4, .int .i64 a5] 93))
    go_wp2_with fail
    refine (implHintFault a1 a2 a3 a4 a5 0 0 _ hF2).mono ?_
    rintro e w3 ⟨rfl, hb3⟩
    have hB3 := hB2.trans (hb3.mono hB2.size)
    go_wp2
    go_ret
    exact ⟨by rw [Hr.out]; try rfl, hB3⟩
  · subst k3
    clear k1 k2
    have q1 := as3_1
    have q2 := as3_2
    have q3 := as3_3
    rw [entV_3 hf] at EN
    have Hr := Lib.hid (rec_kind3 hf)
    clear hf
    go_enter Tryz.func19, Tryz.ntmps19
    go_wp2_with fail
    refine EN.mono ?_
    rintro e w1 ⟨rfl, hb1⟩
    have hB1 := hB0.trans (hb1.mono hB0.size)
    have hF1 := hF0.below hb1
    have hB2 := hB1.alloc hB1.size (.cells #[.int .i64 a1, .int .i64 a6] 96)
    have hF2 := hF1.below ((Below.refl _ _).alloc (Nat.le_refl _) (.cells #[.int .i64 a1, .int .i64 a6] 96))
    go_wp2_with fail
    refine (rangeFault _ 2 _ [(a1, 0, 3), (a6, 0, 9999)] _ (bnds_two (by simp)) (by simp) rfl (by omega)).mono ?_
    rintro e w3 ⟨rfl, hb3⟩
    have hB2 := hB2.alloc hB2.size (.cells #[.int .i64 a1, .int .i64 0, .int .i64 3, .int .i64 a6, .int .i64 0, .int .i64 9999] 99)
    have hB3 := hB2.trans (hb3.mono hB2.size)
    go_wp2
    go_ret
    exact ⟨by rw [Hr.out]; try rfl, hB3⟩
  · subst k4
    clear k1 k2 k3
    have q1 := as4_1
    have q2 := as4_2
    have q3 := as4_3
    have q4 := as4_4
    rw [entV_4 hf] at EN
    have Hr := Lib.hid (rec_kind4 hf)
    clear hf
    go_enter Tryz.func19, Tryz.ntmps19
    go_wp2_with fail
    refine EN.mono ?_
    rintro e w1 ⟨rfl, hb1⟩
    have hB1 := hB0.trans (hb1.mono hB0.size)
    have hF1 := hF0.below hb1
    have hB2 := hB1.alloc hB1.size (.cells #[.int .i64 a6] 101)
    have hF2 := hF1.below ((Below.refl _ _).alloc (Nat.le_refl _) (.cells #[.int .i64 a6] 101))
    go_wp2_with fail
    refine (rangeFault _ 1 _ [(a6, 0, 60000)] _ (bnds_one (by simp)) (by simp) rfl (by omega)).mono ?_
    rintro e w3 ⟨rfl, hb3⟩
    have hB2 := hB2.alloc hB2.size (.cells #[.int .i64 a6, .int .i64 0, .int .i64 60000] 99)
    have hB3 := hB2.trans (hb3.mono hB2.size)
    go_wp2
    go_ret
    exact ⟨by rw [Hr.out]; try rfl, hB3⟩
theorem hiRecordFault : ∀ (x0 x1 x2 x3 x4 x5 x6 : Int) (W : World), Flds W → Calls Tryz.prog 19 #[.agg #[.int .i64 x0, .int .i64 x1, .int .i64 x2, .int .i64 x3, .int .i64 x4, .int .i64 x5, .int .i64 x6]] W fun e W' => e = .returned (.int .i64 (recFaultM (x0, x1, (x2, x3, x4, x5), x6))) ∧ Below W.heap.size W W' :=
  fun x0 x1 x2 x3 x4 x5 x6 W hF => implRecordFault x0 x1 x2 x3 x4 x5 x6 W hF
end Go.Proofs.YtmaillakhhdkfaaGreatDoor
/-
  A record's bytes: the program's.
-/
namespace Go.Proofs.YtmaillakhhdkfaaGreatDoor
set_option maxRecDepth 20000
open Go.RowKit
set_option linter.unusedSimpArgs false
set_option linter.unusedVariables false
attribute [local irreducible] mixW

theorem packs2 {n : Nat} (h : n ≤ 60000) (w : World) : Calls Tryz.prog 36 #[.int .i64 (n : Int), .int .i64 2] w fun e w' => RetBR (0, packL n 2) w e w' := by
  have h1 := implPackWord (n : Int) 2 w
  have h2 : packM (n : Int) 2 = (0, packL n 2) := by simpa using packM_nat (m := n) (s := 2) (by omega) (by omega) (by omega)
  rw [h2] at h1
  exact h1
theorem packsK {k : Int} (h : 0 ≤ k ∧ k ≤ 9) (w : World) : Calls Tryz.prog 36 #[.int .i64 k, .int .i64 1] w fun e w' => RetBR (0, [UInt8.ofNat k.toNat]) w e w' := by
  obtain ⟨n, rfl⟩ := Int.eq_ofNat_of_zero_le h.1
  rw [Int.toNat_natCast]
  exact packs1 (by omega) w
/-- What packEntry hands back: bytes to be read. -/
def RetPE (r : Rcd) (w : World) (e : Ending) (w' : World) : Prop := ∃ A n c, e = .returned (.slice A n c) ∧ Rd eB w' w'.heap.size A (encT r) ∧ (encT r).length = n ∧ n ≤ 8 ∧ Below w.heap.size w w'
theorem encT_1 (p : Int) (y : Smp) (k : Int) : encT (1, p, y, k) = encSb y := by unfold encT; rw [if_pos rfl]
theorem encT_2 (p : Int) (y : Smp) (k : Int) : encT (2, p, y, k) = UInt8.ofNat p.toNat :: encSb y := by unfold encT; rw [if_neg ne21, if_pos rfl]
theorem encT_3 (p : Int) (y : Smp) (k : Int) : encT (3, p, y, k) = UInt8.ofNat p.toNat :: packL k.toNat 2 := by unfold encT; rw [if_neg ne31, if_neg ne32, if_pos rfl]
theorem encT_4 (p : Int) (y : Smp) (k : Int) : encT (4, p, y, k) = packL k.toNat 2 := by unfold encT; rw [if_neg ne41, if_neg ne42, if_neg ne43]

set_option maxHeartbeats 4000000 in
theorem packEntry (a0 a1 a2 a3 a4 a5 a6 : Int) (w : World) (hF : Flds w) (h : recFaultM (a0, a1, (a2, a3, a4, a5), a6) = 0) : Calls Tryz.prog 37 #[entV (a0, a1, (a2, a3, a4, a5), a6)] w (RetPE (a0, a1, (a2, a3, a4, a5), a6) w) := by
  obtain ⟨⟨n0, n1, n2, n3, rfl, rfl, rfl, rfl, k0, k1, k2, k3⟩, ⟨p, rfl, kp⟩, ⟨k, rfl, kk, kk2⟩, hk, hf, hfm⟩ := rec_nat h
  clear h
  have fB := fldB1'
  have HE := fun W hW => implEncodeSample (n0 : Int) (n1 : Int) (n2 : Int) ((n3 : Int) - 1000) W hW
  rw [encodeM_nat hfm] at HE
  clear hfm
  rcases hk with rfl | rfl | rfl | rfl
  · have hT := Lib.hid (show encT (1, (p : Int), ((n0 : Int), (n1 : Int), (n2 : Int), (n3 : Int) - 1000), (k : Int)) = encL n0 n1 n2 n3 by rw [encT_1, encSb_nat])
    rw [entV_1 hf]
    clear hf
    have q1 := as1_1
    have hB0 : Below w.heap.size w (w.alloc (.cells #[.int .i64 n0, .int .i64 n1, .int .i64 n2, .int .i64 ((n3 : Int) - 1000)] 90)) := (Below.refl _ _).alloc (Nat.le_refl _) _
    have x0 := At.new w 90 #[.int .i64 n0, .int .i64 n1, .int .i64 n2, .int .i64 ((n3 : Int) - 1000)]
    have hF0 := hF.below hB0
    go_enter Tryz.func37, Tryz.ntmps37
    go_wp2_with fail
    refine (HE _ hF0).mono ?_
    rintro e w1 ⟨A1, j1, c1', rfl, o1, hb1⟩
    have hB1 := hB0.trans (hb1.mono hB0.size)
    have hl := o1.len okA
    go_wp2
    go_ret
    refine ⟨A1, j1, c1', rfl, by rw [hT.out]; exact (o1.rd okA).ofA, by rw [hT.out]; exact hl, ?_, hB1⟩
    rw [← hl]
    try rw [encL_eq]
    simp [packL]
  · have hT := Lib.hid (show encT (2, (p : Int), ((n0 : Int), (n1 : Int), (n2 : Int), (n3 : Int) - 1000), (k : Int)) = UInt8.ofNat p :: encL n0 n1 n2 n3 by rw [encT_2, encSb_nat, Int.toNat_natCast])
    rw [entV_2 hf]
    clear hf
    have q1 := as2_1
    have q2 := as2_2
    have hB0 : Below w.heap.size w (w.alloc (.cells #[.int .i64 p, .int .i64 n0, .int .i64 n1, .int .i64 n2, .int .i64 ((n3 : Int) - 1000)] 93)) := (Below.refl _ _).alloc (Nat.le_refl _) _
    have x0 := At.new w 93 #[.int .i64 p, .int .i64 n0, .int .i64 n1, .int .i64 n2, .int .i64 ((n3 : Int) - 1000)]
    have hF0 := hF.below hB0
    go_enter Tryz.func37, Tryz.ntmps37
    go_wp2
    refine wp_region_mix [(0, false), (1, false), (4, false), (5, false), (2, true), (3, false), (6, true), (7, false), (8, true), (9, false)] (fun u => At u w.heap.size 93 #[.int .i64 p, .int .i64 n0, .int .i64 n1, .int .i64 n2, .int .i64 ((n3 : Int) - 1000)]) (by kernel_rfl) (by kernel_rfl) (fun _ _ _ _ _ h => h) x0.drew ?_
    simp only [mixOps, List.map_cons, List.map_nil, List.getElem?_cons_succ, List.getElem?_cons_zero, Option.getD_some]
    repeat (first
        | (refine mix_skip (by rfl) ?_
           (try simp only [Act.put, List.setIfInBounds_toArray, List.set_cons_zero, List.set_cons_succ]))
        | (refine mix_pure (v := ?_) (by rfl) (fun u hu => ?_) ?_
           rotate_left
           · obtain ⟨_, _, _, _, _, _, _, _, _, _⟩ := hu.five
             go_simp
             (with_reducible rfl)
           (try simp only [Act.put, List.setIfInBounds_toArray, List.set_cons_zero, List.set_cons_succ])))
    have hB0 := hB0.drew
    have X0 : At (w.alloc (.cells #[.int .i64 p, .int .i64 n0, .int .i64 n1, .int .i64 n2, .int .i64 ((n3 : Int) - 1000)] 93)).drew w.heap.size 93 #[.int .i64 p, .int .i64 n0, .int .i64 n1, .int .i64 n2, .int .i64 ((n3 : Int) - 1000)] := x0.drew
    have hF0 : Flds (w.alloc (.cells #[.int .i64 p, .int .i64 n0, .int .i64 n1, .int .i64 n2, .int .i64 ((n3 : Int) - 1000)] 93)).drew := hF0
    generalize (w.alloc (.cells #[.int .i64 p, .int .i64 n0, .int .i64 n1, .int .i64 n2, .int .i64 ((n3 : Int) - 1000)] 93)).drew = v0 at *
    refine mix_call (by rfl) (fun K hK => ?_)
    go_simp
    refine (packs1 (n := p) (by omega) _).mono ?_
    rintro e w4 ⟨A4, j4, c4', rfl, o4, hb4⟩
    obtain rfl : 1 = j4 := o4.len okB
    have hB4 := hB0.trans (hb4.mono hB0.size)
    have X4 := X0.below hb4 X0.lt
    have hF4 := hF0.below hb4
    refine hK _ _ (fun u => At u w.heap.size 93 #[.int .i64 p, .int .i64 n0, .int .i64 n1, .int .i64 n2, .int .i64 ((n3 : Int) - 1000)]) (fun _ h => h) X4 ?_
    clear hK K
    (try simp only [Act.put, List.setIfInBounds_toArray, List.set_cons_zero, List.set_cons_succ])
    refine mix_pure (v := ?_) (by rfl) (fun u hu => ?_) ?_
    rotate_left
    · go_simp
      (with_reducible rfl)
    (try simp only [Act.put, List.setIfInBounds_toArray, List.set_cons_zero, List.set_cons_succ])
    refine mix_call (by rfl) (fun K hK => ?_)
    go_simp
    refine (HE _ hF4).mono ?_
    rintro e w5 ⟨A5, j5, c5', rfl, o5, hb5⟩
    have hl5 := o5.len okA
    have hB5 := hB4.trans (hb5.mono hB4.size)
    have X5 := X4.below hb5 X4.lt
    have ow5 := (o4.below hb5 (Nat.le_refl _)).from_ hB0.size
    refine hK _ _ (fun u => At u w.heap.size 93 #[.int .i64 p, .int .i64 n0, .int .i64 n1, .int .i64 n2, .int .i64 ((n3 : Int) - 1000)]) (fun _ h => h) X5 ?_
    clear hK K
    (try simp only [Act.put, List.setIfInBounds_toArray, List.set_cons_zero, List.set_cons_succ])
    refine mix_pure (v := ?_) (by rfl) (fun u hu => ?_) ?_
    rotate_left
    · go_simp
      (with_reducible rfl)
    (try simp only [Act.put, List.setIfInBounds_toArray, List.set_cons_zero, List.set_cons_succ])
    refine mix_call (by rfl) (fun K hK => ?_)
    refine wp_append_ow okB _ (.tmp 21) (.tmp 25) _ rfl w.heap.size info_u8 Tryz.underlying22 rfl A4 1 c4' [UInt8.ofNat p] rfl ow5 A5 j5 c5' _ (encL n0 n1 n2 n3) rfl ((o5.rd okA).ofA) hl5 (by rw [← hl5]; unfold maxLen; (try rw [encL_eq]); simp [packL]) (by rw [← hl5]; (try rw [encL_eq]); simp [packL]) hB5.size ?_
    intro A9 c9 w9 ow9 hg9 _
    have hB9 : Below w.heap.size w w9 := hB5.grown hg9 hB5.size (fun g hg => (ow5.lt g hg).1)
    have X9 := X5.grown hg9 (fun e => by have := (ow5.lt _ e).1; have hz : w.heap.size < v0.heap.size := X0.lt; have := (o4.lt _ e).1; omega)
    refine hK _ _ (fun u => At u w.heap.size 93 #[.int .i64 p, .int .i64 n0, .int .i64 n1, .int .i64 n2, .int .i64 ((n3 : Int) - 1000)]) (fun _ h => h) X9 ?_
    clear hK K
    (try simp only [Act.put, List.setIfInBounds_toArray, List.set_cons_zero, List.set_cons_succ])
    refine mix_pure (v := ?_) (by rfl) (fun u hu => ?_) ?_
    rotate_left
    · go_simp
      (with_reducible rfl)
    (try simp only [Act.put, List.setIfInBounds_toArray, List.set_cons_zero, List.set_cons_succ])
    refine mix_nil ?_
    go_wp2
    go_ret
    refine ⟨A9, _, c9, rfl, by rw [hT.out]; exact ow9.rd okB, by rw [hT.out]; exact ow9.len okB, ?_, hB9⟩
    rw [← hl5]
    (try rw [encL_eq]); simp [packL]
  · have hT := Lib.hid (show encT (3, (p : Int), ((n0 : Int), (n1 : Int), (n2 : Int), (n3 : Int) - 1000), (k : Int)) = UInt8.ofNat p :: packL k 2 by rw [encT_3, packL_is, Int.toNat_natCast])
    rw [entV_3 hf]
    clear hf
    have q1 := as3_1
    have q2 := as3_2
    have q3 := as3_3
    have hB0 : Below w.heap.size w (w.alloc (.cells #[.int .i64 p, .int .i64 k] 96)) := (Below.refl _ _).alloc (Nat.le_refl _) _
    have x0 := At.new w 96 #[.int .i64 p, .int .i64 k]
    have hF0 := hF.below hB0
    go_enter Tryz.func37, Tryz.ntmps37
    go_wp2
    refine wp_region_mix [(0, false), (1, false), (4, false), (5, false), (2, true), (3, false), (6, true), (7, false), (8, true), (9, false)] (fun u => At u w.heap.size 96 #[.int .i64 p, .int .i64 k]) (by kernel_rfl) (by kernel_rfl) (fun _ _ _ _ _ h => h) x0.drew ?_
    simp only [mixOps, List.map_cons, List.map_nil, List.getElem?_cons_succ, List.getElem?_cons_zero, Option.getD_some]
    repeat (first
        | (refine mix_skip (by rfl) ?_
           (try simp only [Act.put, List.setIfInBounds_toArray, List.set_cons_zero, List.set_cons_succ]))
        | (refine mix_pure (v := ?_) (by rfl) (fun u hu => ?_) ?_
           rotate_left
           · obtain ⟨_, _, _, _⟩ := hu.two
             go_simp
             (with_reducible rfl)
           (try simp only [Act.put, List.setIfInBounds_toArray, List.set_cons_zero, List.set_cons_succ])))
    have hB0 := hB0.drew
    have X0 : At (w.alloc (.cells #[.int .i64 p, .int .i64 k] 96)).drew w.heap.size 96 #[.int .i64 p, .int .i64 k] := x0.drew
    have hF0 : Flds (w.alloc (.cells #[.int .i64 p, .int .i64 k] 96)).drew := hF0
    generalize (w.alloc (.cells #[.int .i64 p, .int .i64 k] 96)).drew = v0 at *
    refine mix_call (by rfl) (fun K hK => ?_)
    go_simp
    refine (packs1 (n := p) (by omega) _).mono ?_
    rintro e w4 ⟨A4, j4, c4', rfl, o4, hb4⟩
    obtain rfl : 1 = j4 := o4.len okB
    have hB4 := hB0.trans (hb4.mono hB0.size)
    have X4 := X0.below hb4 X0.lt
    have hF4 := hF0.below hb4
    refine hK _ _ (fun u => At u w.heap.size 96 #[.int .i64 p, .int .i64 k]) (fun _ h => h) X4 ?_
    clear hK K
    (try simp only [Act.put, List.setIfInBounds_toArray, List.set_cons_zero, List.set_cons_succ])
    refine mix_pure (v := ?_) (by rfl) (fun u hu => ?_) ?_
    rotate_left
    · go_simp
      (with_reducible rfl)
    (try simp only [Act.put, List.setIfInBounds_toArray, List.set_cons_zero, List.set_cons_succ])
    refine mix_call (by rfl) (fun K hK => ?_)
    go_simp
    refine (packs2 kk _).mono ?_
    rintro e w5 ⟨A5, j5, c5', rfl, o5, hb5⟩
    have hl5 := o5.len okB
    have hB5 := hB4.trans (hb5.mono hB4.size)
    have X5 := X4.below hb5 X4.lt
    have ow5 := (o4.below hb5 (Nat.le_refl _)).from_ hB0.size
    refine hK _ _ (fun u => At u w.heap.size 96 #[.int .i64 p, .int .i64 k]) (fun _ h => h) X5 ?_
    clear hK K
    (try simp only [Act.put, List.setIfInBounds_toArray, List.set_cons_zero, List.set_cons_succ])
    refine mix_pure (v := ?_) (by rfl) (fun u hu => ?_) ?_
    rotate_left
    · go_simp
      (with_reducible rfl)
    (try simp only [Act.put, List.setIfInBounds_toArray, List.set_cons_zero, List.set_cons_succ])
    refine mix_call (by rfl) (fun K hK => ?_)
    refine wp_append_ow okB _ (.tmp 33) (.tmp 37) _ rfl w.heap.size info_u8 Tryz.underlying22 rfl A4 1 c4' [UInt8.ofNat p] rfl ow5 A5 j5 c5' _ (packL k 2) rfl (o5.rd okB) hl5 (by rw [← hl5]; unfold maxLen; (try rw [encL_eq]); simp [packL]) (by rw [← hl5]; (try rw [encL_eq]); simp [packL]) hB5.size ?_
    intro A9 c9 w9 ow9 hg9 _
    have hB9 : Below w.heap.size w w9 := hB5.grown hg9 hB5.size (fun g hg => (ow5.lt g hg).1)
    have X9 := X5.grown hg9 (fun e => by have := (ow5.lt _ e).1; have hz : w.heap.size < v0.heap.size := X0.lt; have := (o4.lt _ e).1; omega)
    refine hK _ _ (fun u => At u w.heap.size 96 #[.int .i64 p, .int .i64 k]) (fun _ h => h) X9 ?_
    clear hK K
    (try simp only [Act.put, List.setIfInBounds_toArray, List.set_cons_zero, List.set_cons_succ])
    refine mix_pure (v := ?_) (by rfl) (fun u hu => ?_) ?_
    rotate_left
    · go_simp
      (with_reducible rfl)
    (try simp only [Act.put, List.setIfInBounds_toArray, List.set_cons_zero, List.set_cons_succ])
    refine mix_nil ?_
    go_wp2
    go_ret
    refine ⟨A9, _, c9, rfl, by rw [hT.out]; exact ow9.rd okB, by rw [hT.out]; exact ow9.len okB, ?_, hB9⟩
    rw [← hl5]
    (try rw [encL_eq]); simp [packL]
  · have hT := Lib.hid (show encT (4, (p : Int), ((n0 : Int), (n1 : Int), (n2 : Int), (n3 : Int) - 1000), (k : Int)) = packL k 2 by rw [encT_4, packL_is])
    rw [entV_4 hf]
    clear hf
    have q1 := as4_1
    have q2 := as4_2
    have q3 := as4_3
    have q4 := as4_4
    have hB0 : Below w.heap.size w (w.alloc (.cells #[.int .i64 k] 101)) := (Below.refl _ _).alloc (Nat.le_refl _) _
    have x0 := At.new w 101 #[.int .i64 k]
    have hF0 := hF.below hB0
    go_enter Tryz.func37, Tryz.ntmps37
    go_wp2_with fail
    refine (packs2 kk _).mono ?_
    rintro e w1 ⟨A1, j1, c1', rfl, o1, hb1⟩
    have hB1 := hB0.trans (hb1.mono hB0.size)
    have hl := o1.len okB
    go_wp2
    go_ret
    refine ⟨A1, j1, c1', rfl, by rw [hT.out]; exact o1.rd okB, by rw [hT.out]; exact hl, ?_, hB1⟩
    rw [← hl]
    try rw [encL_eq]
    simp [packL]

set_option maxHeartbeats 2000000 in
theorem implEncodeRecord (a0 a1 a2 a3 a4 a5 a6 : Int) (w : World) (hF : Flds w) :
    Calls Tryz.prog 8 #[.agg #[.int .i64 a0, .int .i64 a1, .int .i64 a2, .int .i64 a3, .int .i64 a4, .int .i64 a5, .int .i64 a6]] w fun e w' => RetBR (encRecM (a0, a1, (a2, a3, a4, a5), a6)) w e w' := by
  have hB0 : Below w.heap.size w ((w.alloc (.cells #[.int .i64 a0, .int .i64 a1, .int .i64 a2, .int .i64 a3, .int .i64 a4, .int .i64 a5, .int .i64 a6] 27)).alloc (.cells #[.int .i64 0, .slice none 0 0] 30)) := ((Below.refl _ _).alloc (Nat.le_refl _) _).alloc (by simp) _
  have x0 := (At.new w 27 #[.int .i64 a0, .int .i64 a1, .int .i64 a2, .int .i64 a3, .int .i64 a4, .int .i64 a5, .int .i64 a6]).alloc (.cells #[.int .i64 0, .slice none 0 0] 30)
  have r0 := At.new (w.alloc (.cells #[.int .i64 a0, .int .i64 a1, .int .i64 a2, .int .i64 a3, .int .i64 a4, .int .i64 a5, .int .i64 a6] 27)) 30 #[.int .i64 0, .slice none 0 0]
  rw [show (w.alloc (.cells #[.int .i64 a0, .int .i64 a1, .int .i64 a2, .int .i64 a3, .int .i64 a4, .int .i64 a5, .int .i64 a6] 27)).heap.size = w.heap.size + 1 by simp] at r0
  obtain ⟨c0, c1, c2, c3, c4, c5, c6⟩ := x0.seven
  have hF0 := hF.below hB0
  have hq := implRecordFault a0 a1 a2 a3 a4 a5 a6 _ hF0
  by_cases h : recFaultM (a0, a1, (a2, a3, a4, a5), a6) = 0
  · rw [h] at hq
    have Hr := Lib.hid (show encRecM (a0, a1, (a2, a3, a4, a5), a6) = (0, encR (a0, a1, (a2, a3, a4, a5), a6)) from if_pos h)
    have hka : 0 ≤ a0 ∧ a0 ≤ 9 := by
      have := (rec_nat h).2.2.2.1
      omega
    have PEN := fun W hW => packEntry a0 a1 a2 a3 a4 a5 a6 W hW h
    have fB := fldB1'
    have HT := Lib.hid (show encR (a0, a1, (a2, a3, a4, a5), a6) = UInt8.ofNat a0.toNat :: encT (a0, a1, (a2, a3, a4, a5), a6) from rfl)
    clear h
    go_enter Tryz.func8, Tryz.ntmps8
    go_wp2_with fail
    refine hq.mono ?_
    rintro e w1 ⟨rfl, hb1⟩
    have hB1 := hB0.trans (hb1.mono hB0.size)
    have x1 := x0.below hb1 x0.lt
    have r1 := r0.below hb1 r0.lt
    have hF1 := hF0.below hb1
    clear c0 c1 c2 c3 c4 c5 c6
    obtain ⟨c0, c1, c2, c3, c4, c5, c6⟩ := x1.seven
    go_wp2_with fail
    refine (packsK hka _).mono ?_
    rintro e w2 ⟨A2, j2, d2, rfl, o2, hb2⟩
    obtain rfl : 1 = j2 := o2.len okB
    have hB2 := hB1.trans (hb2.mono hB1.size)
    have x2 := x1.below hb2 x1.lt
    have r2 := r1.below hb2 r1.lt
    have hF2 := hF1.below hb2
    clear c0 c1 c2 c3 c4 c5 c6
    obtain ⟨c0, c1, c2, c3, c4, c5, c6⟩ := x2.seven
    go_wp2_with fail
    refine (entryOf a0 a1 a2 a3 a4 a5 a6 _).mono ?_
    rintro e w3 ⟨rfl, hb3⟩
    have hB3 := hB2.trans (hb3.mono hB2.size)
    have r3 := r2.below hb3 r2.lt
    have o3 := o2.below hb3 (Nat.le_refl _)
    have hF3 := hF2.below hb3
    go_wp2_with fail
    refine (PEN _ hF3).mono ?_
    rintro e w4 ⟨A4, j4, d4, rfl, rd4, hl4, hs4, hb4⟩
    have hB4 := hB3.trans (hb4.mono hB3.size)
    have r4 := r3.below hb4 r3.lt
    have o4 := o3.below hb4 (Nat.le_refl _)
    have hw14 : w1.heap.size ≤ w4.heap.size := Nat.le_trans hb2.size (Nat.le_trans hb3.size hb4.size)
    have Hl4 := Lib.hid hl4
    clear hl4 c0 c1 c2 c3 c4 c5 c6
    have lr1 := r1.lt
    obtain ⟨e0, e1, f0, f1⟩ := r4.two
    go_wp2_with (at_builtin; refine wpList_append_ow okB _ rfl (.tmp 15) (.tmp 18) _ rfl w1.heap.size info_u8 Tryz.underlying22 rfl A2 1 d2 [UInt8.ofNat a0.toNat] rfl o4 A4 j4 d4 _ (encT (a0, a1, (a2, a3, a4, a5), a6)) rfl rd4 Hl4.out (by unfold maxLen; omega) (by omega) hw14 ?_; intro A9 c9 w9 ow9 hg9 _; have r9 := r4.grown hg9 (fun e => by have := (o4.lt _ e).1; omega); have hB9 : Below w.heap.size w w9 := hB4.grown hg9 hB4.size (fun g hg => Nat.le_trans hB1.size (o4.lt g hg).1); clear e0 e1 f0 f1; obtain ⟨e0, e1, f0, f1⟩ := r9.two)
    refine bodyPost_ret (v := .agg #[.int .i64 0, .slice A9 (1 + j4) c9]) (by simp [results, Tryz.results8, go_sem, e0, e1]) rfl ?_
    rw [Hr.out, HT.out]
    exact ⟨A9, _, c9, rfl, ((ow9.under (p := ⟨w.heap.size + 1, 0, none⟩) lr1 _).under (p := ⟨w.heap.size + 1, 1, none⟩) lr1 _).from_ hB1.size, (hB9.setCell (by simp) _).setCell (by simp) _⟩
  · have Hr := Lib.hid (show encRecM (a0, a1, (a2, a3, a4, a5), a6) = (recFaultM (a0, a1, (a2, a3, a4, a5), a6), []) from if_neg h)
    have hne : (recFaultM (a0, a1, (a2, a3, a4, a5), a6) != 0) = true := by rw [bne_iff_ne]; exact h
    rw [Hr.out]
    clear Hr h
    generalize recFaultM (a0, a1, (a2, a3, a4, a5), a6) = rf at *
    go_enter Tryz.func8, Tryz.ntmps8
    go_wp2_with fail
    refine hq.mono ?_
    rintro e w1 ⟨rfl, hb1⟩
    have hB1 := hB0.trans (hb1.mono hB0.size)
    have r1 := r0.below hb1 r0.lt
    obtain ⟨d0, d1, f0, f1⟩ := r1.two
    go_wp2_with fail
    refine bodyPost_ret (v := .agg #[.int .i64 rf, .slice none 0 0]) (by simp [results, Tryz.results8, go_sem, d0, d1]) rfl ?_
    exact ⟨none, 0, 0, rfl, Ow.nil, (hB1.setCell (by simp) _).setCell (by simp) _⟩
end Go.Proofs.YtmaillakhhdkfaaGreatDoor
namespace Go.Proofs.YtmaillakhhdkfaaGreatDoor
set_option maxRecDepth 20000
open Go.RowKit

/-- The text of some bytes. -/
def txt (l : List UInt8) : ByteArray := ⟨l.toArray⟩
theorem txt_inj {a b : List UInt8} : (txt a = txt b) ↔ a = b := by
  constructor
  · intro h
    have : (txt a).data.toList = (txt b).data.toList := by rw [h]
    simpa [txt] using this
  · rintro rfl; rfl
theorem txt_list (l : List UInt8) : (txt l).toList = l := by simp [txt]
theorem beq_dec (a b : List UInt8) : (a == b) = decide (a = b) := by
  by_cases h : a = b
  · subst h; simp
  · rw [decide_eq_false h, beq_eq_false_iff_ne]
    exact h
theorem txt_beq (a b : List UInt8) : ((txt a).toList == (txt b).toList) = decide (a = b) := by rw [txt_list, txt_list, beq_dec]

theorem conv_bytes {w : World} {hi : Nat} {A : Option Addr} {l : List UInt8} {n c : Nat} (h : Rd eB w hi A l) (hn : l.length = n) :
    (convert 22 9 (.slice A n c)).run Tryz.prog w = .ok (.string (txt l)) w := by
  rw [run_convert_bytes_string w _ _ _ A n c Tryz.underlying22 Tryz.underlying5 Tryz.underlying9]
  have hs : strOfNums (l.map fun b => (b.toNat : Int)) = txt l := by
    have h1 : (strOfNums (l.map fun b => (b.toNat : Int))).data.toList = (txt l).data.toList := by
      rw [strOfNums_data, txt, List.map_map]
      apply List.ext_getElem?
      intro i
      simp only [List.getElem?_map]
      cases l[i]? <;> simp
    have h2 : ∀ a b : ByteArray, a.data.toList = b.data.toList → a = b := by
      intro a b h
      cases a; cases b
      simp only [ByteArray.mk.injEq]
      exact Array.toList_inj.1 h
    exact h2 _ _ h1
  cases A with
  | none =>
    have h0 : l = [] := by
      rcases l with _ | ⟨x, l⟩
      · rfl
      · obtain ⟨g, o, e, _⟩ := h (by simp)
        cases e
    subst h0
    simp [Conv.bytesToString, txt]
    rfl
  | some a =>
    have hl : (loadCells a n).run Tryz.prog w = .ok ((l.map fun b => (b.toNat : Int)).map (Value.int .u8)).toArray w := by
      have h3 := run_loadCells_list (P := Tryz.prog) w a ((l.map fun b => (b.toNat : Int)).map (Value.int .u8)) (fun j v hj => by
        have hjl : j < l.length := by
          have := getElem?_some_lt hj
          simpa using this
        obtain ⟨g, o, x, e, _, hx, hc⟩ := h.byte hjl
        obtain rfl := Option.some.inj e
        rw [addr_add, hc]
        rw [List.getElem?_map, List.getElem?_map, hx] at hj
        simpa using hj)
      simpa [hn] using h3
    rw [run_bytesToString w a n c (l.map fun b => (b.toNat : Int)) hl, foldl_push_bytes, ← hs]
    simp [strOfNums, ByteArray.empty, ByteArray.emptyWithCapacity]
    rfl

set_option maxHeartbeats 400000 in
theorem bytesEqual (A B : Option Addr) (n m c d : Nat) (xs ys : List UInt8) (w : World) (ha : Rd eB w w.heap.size A xs) (hb : Rd eB w w.heap.size B ys) (hx : xs.length = n) (hy : ys.length = m) :
    Calls Tryz.prog 89 #[.slice A n c, .slice B m d] w fun e w' => e = .returned (.bool (decide (xs = ys))) ∧ w = w' := by
  have h1 := conv_bytes (c := c) ha hx
  have h2 := conv_bytes (c := d) hb hy
  have Hb := Lib.hid (txt_beq xs ys)
  clear hx hy
  go_enter Tryz.func89, Tryz.ntmps89
  go_wp2
  go_ret
  exact ⟨by rw [← Hb.out]; rfl, rfl⟩

set_option maxHeartbeats 400000 in
theorem lwSame (A B : Option Addr) (n m c d : Nat) (xs ys : List UInt8) (w : World) (ha : Rd eB w w.heap.size A xs) (hb : Rd eB w w.heap.size B ys) (hx : xs.length = n) (hy : ys.length = m) :
    Calls Tryz.prog 22 #[.slice A n c, .slice B m d] w fun e w' => e = .returned (.bool (decide (xs = ys))) ∧ w = w' := by
  have h1 := conv_bytes (c := c) ha hx
  have h2 := conv_bytes (c := d) hb hy
  have Hb := Lib.hid (txt_beq xs ys)
  clear hx hy
  go_enter Tryz.func22, Tryz.ntmps22
  go_wp2
  go_ret
  exact ⟨by rw [← Hb.out]; rfl, rfl⟩

set_option maxHeartbeats 400000 in
theorem implSameBytes (A B : Option Addr) (n m c d : Nat) (xs ys : List UInt8) (w : World) (ha : Rd eB w w.heap.size A xs) (hb : Rd eB w w.heap.size B ys) (hx : xs.length = n) (hy : ys.length = m) :
    Calls Tryz.prog 44 #[.slice A n c, .slice B m d] w fun e w' => e = .returned (.bool (decide (xs = ys))) ∧ w = w' := by
  have H := Lib.hid (bytesEqual A B n m c d xs ys w ha hb hx hy)
  clear hx hy
  go_enter Tryz.func44, Tryz.ntmps44
  go_wp2_with (go_at_call 89; refine H.out.mono ?_; rintro e w' ⟨rfl, rfl⟩)
  go_ret
  exact ⟨rfl, rfl⟩
end Go.Proofs.YtmaillakhhdkfaaGreatDoor
/-
  A record out of its bytes: the program's.
-/
namespace Go.Proofs.YtmaillakhhdkfaaGreatDoor
set_option maxRecDepth 20000
open Go.RowKit
set_option linter.unusedSimpArgs false
set_option linter.unusedVariables false
attribute [local irreducible] mixW

theorem fldSR1 (z a b c d : Int) (u : World) : (Instr.field 179 (.agg #[.int .i64 z, .int .i64 a, .int .i64 b, .int .i64 c, .int .i64 d]) 1).run Tryz.prog u = .ok (.agg #[.int .i64 a, .int .i64 b, .int .i64 c, .int .i64 d]) u := by kernel_rfl
theorem Rd.cutAt {w : World} {hi : Nat} {A : Option Addr} {l : List UInt8} (h : Rd eB w hi A l) (p : Nat) (c : Nat) (hc : l.length ≤ c) : Rd eB w hi (if c = p then A else A.map (·.add p)) (l.drop p) := by
  rcases Nat.lt_or_ge p l.length with h1 | h1
  · obtain ⟨g, o, rfl, hr⟩ := h.add h1
    rw [if_neg (by omega)]
    simpa [eB, addr_add] using hr
  · rw [List.drop_of_length_le h1]
    exact Rd.nil
theorem specDecodeRecord (A : Option Addr) (n c : Nat) (l : List UInt8) (w : World) (ha : Rd eB w w.heap.size A l) (hn : l.length = n) (hc : n ≤ c) (hcm : c ≤ maxLen) :
    Calls Tryz.prog 15 #[.slice A n c] w fun e w' => RetRR (decodeRecM l) w e w' := by
  have hB0 : Below w.heap.size w (w.alloc (.cells #[.int .i64 0, .int .i64 0, .int .i64 0, .int .i64 0, .int .i64 0, .int .i64 0, .int .i64 0, .int .i64 0] 34)) := (Below.refl _ _).alloc (Nat.le_refl _) _
  have zb0 := At.new w 34 #[.int .i64 0, .int .i64 0, .int .i64 0, .int .i64 0, .int .i64 0, .int .i64 0, .int .i64 0, .int .i64 0]
  have LD := l5Decode A n c l _ (ha.lift hB0) hn hc hcm
  have Hd := Lib.hid (show decodeRecM l = if (decR l).2 = true then (0, (decR l).1) else (5, zeroR) from rfl)
  unfold RetDR at LD
  rcases hq : decR l with ⟨⟨a0, a1, ⟨a2, a3, a4, a5⟩, a6⟩, b⟩
  rw [hq] at Hd LD
  clear hq ha hn
  cases b
  all_goals
    go_enter Tryz.func15, Tryz.ntmps15
    go_wp2_with fail
    refine LD.mono ?_
    rintro e w1 ⟨rfl, hb1⟩
    have hB1 := hB0.trans (hb1.mono hB0.size)
    have zb1 := zb0.below hb1 zb0.lt
    have hne : ¬ w.heap.size = w1.heap.size := by have := hb1.size; simp at this; omega
    have zb2 := zb1.alloc (.cells #[.int .i64 a0, .int .i64 a1, .int .i64 a2, .int .i64 a3, .int .i64 a4, .int .i64 a5, .int .i64 a6] 27)
    have xb2 := At.new w1 27 #[.int .i64 a0, .int .i64 a1, .int .i64 a2, .int .i64 a3, .int .i64 a4, .int .i64 a5, .int .i64 a6]
    have hB2 := hB1.alloc hB1.size (.cells #[.int .i64 a0, .int .i64 a1, .int .i64 a2, .int .i64 a3, .int .i64 a4, .int .i64 a5, .int .i64 a6] 27)
    have p := zb2.eightR
    obtain ⟨p0, p1, p2, p3, p4, p5, p6, p7⟩ := p
    have s0 := zb2.frozen 0
    have s1 := zb2.frozen 1
    have s2 := zb2.frozen 2
    have s3 := zb2.frozen 3
    have s4 := zb2.frozen 4
    have s5 := zb2.frozen 5
    have s6 := zb2.frozen 6
    have s7 := zb2.frozen 7
    obtain ⟨x0, x1, x2, x3, x4, x5, x6⟩ := xb2.seven
    go_wp2
  · refine bodyPost_ret (v := .agg #[.int .i64 5, .int .i64 0, .int .i64 0, .int .i64 0, .int .i64 0, .int .i64 0, .int .i64 0, .int .i64 0]) (by simp [results, Tryz.results15, go_sem, p0, p1, p2, p3, p4, p5, p6, p7]) rfl ?_
    rw [Hd.out]
    exact ⟨rfl, ((((((((hB2.setCell (by simp) _).setCell (by simp) _).setCell (by simp) _).setCell (by simp) _).setCell (by simp) _).setCell (by simp) _).setCell (by simp) _).setCell (by simp) _)⟩
  · refine bodyPost_ret (v := .agg #[.int .i64 0, .int .i64 a0, .int .i64 a1, .int .i64 a2, .int .i64 a3, .int .i64 a4, .int .i64 a5, .int .i64 a6]) (by simp [results, Tryz.results15, go_sem, p0, p1, p2, p3, p4, p5, p6, p7]) rfl ?_
    rw [Hd.out]
    exact ⟨rfl, ((((((((hB2.setCell (by simp) _).setCell (by simp) _).setCell (by simp) _).setCell (by simp) _).setCell (by simp) _).setCell (by simp) _).setCell (by simp) _).setCell (by simp) _)⟩
set_option maxHeartbeats 2000000 in
theorem sampleAt (p : Nat) (hp : p = 1 ∨ p = 2) (A : Option Addr) (n c : Nat) (l : List UInt8) (w : World) (ha : Rd eB w w.heap.size A l) (hn : l.length = n) (hc : n ≤ c) (hcm : c ≤ maxLen) (hF : Flds w) :
    Calls Tryz.prog 88 #[.slice A n c, .int .i64 (p : Int)] w (RetS (decodeM (l.drop p)).2 w) := by
  have hB0 : Below w.heap.size w (w.alloc (.cells #[.int .i64 0, .int .i64 0, .int .i64 0, .int .i64 0] 25)) := (Below.refl _ _).alloc (Nat.le_refl _) _
  have zb0 := At.new w 25 #[.int .i64 0, .int .i64 0, .int .i64 0, .int .i64 0]
  have fS := fldSR1
  have hcm' := hcm
  unfold maxLen at hcm'
  obtain ⟨q, hq, hqn, hql⟩ : ∃ q : Nat, q = min p n ∧ q ≤ n ∧ l.drop q = l.drop p := by
    refine ⟨min p n, rfl, by omega, ?_⟩
    rcases Nat.le_total p n with h | h
    · rw [Nat.min_eq_left h]
    · rw [Nat.min_eq_right h, List.drop_of_length_le (by omega), List.drop_of_length_le (by omega)]
  obtain ⟨z0, z1, z2, z3, f0, f1, f2, f3⟩ := zb0.four
  have HD := implDecodeSample (if c = q then A else A.map (·.add q)) (n - q) (c - q) (l.drop q) _ ((ha.lift hB0).cutAt q c (by omega)) (by rw [List.length_drop]; omega) (by omega) (hF.below hB0)
  rw [hql] at HD
  unfold RetSR at HD
  unfold RetS
  generalize decodeM (l.drop p) = D at *
  obtain ⟨dz, d0, d1, d2, d3⟩ := D
  clear hql ha hn
  by_cases hpn : p ≤ n
  · obtain rfl : q = p := by omega
    have hmin : ¬ (n : Int) < (q : Int) := by omega
    clear hq hqn
    by_cases hcq : c = q
    · have hnq : n = q := by omega
      subst hnq
      subst hcq
      rw [if_pos rfl, Nat.sub_self] at HD
      rcases hp with rfl | rfl
      all_goals
        go_enter Tryz.func88, Tryz.ntmps88
        go_wp2_with fail
        refine HD.mono ?_
        rintro e w1 ⟨rfl, hb1⟩
        have hB1 := hB0.trans (hb1.mono hB0.size)
        have zb1 := zb0.below hb1 zb0.lt
        clear z0 z1 z2 z3 f0 f1 f2 f3
        obtain ⟨z0, z1, z2, z3, f0, f1, f2, f3⟩ := zb1.four
        go_wp2_with fail
        refine bodyPost_ret (v := .agg #[.int .i64 d0, .int .i64 d1, .int .i64 d2, .int .i64 d3]) (by simp [results, Tryz.results88, go_sem, z0, z1, z2, z3]) rfl ?_
        exact ⟨rfl, (((hB1.setCell (by simp) _).setCell (by simp) _).setCell (by simp) _).setCell (by simp) _⟩
    · rw [if_neg hcq] at HD
      rcases hp with rfl | rfl
      all_goals
        go_enter Tryz.func88, Tryz.ntmps88
        go_wp2_with fail
        refine HD.mono ?_
        rintro e w1 ⟨rfl, hb1⟩
        have hB1 := hB0.trans (hb1.mono hB0.size)
        have zb1 := zb0.below hb1 zb0.lt
        clear z0 z1 z2 z3 f0 f1 f2 f3
        obtain ⟨z0, z1, z2, z3, f0, f1, f2, f3⟩ := zb1.four
        go_wp2_with fail
        refine bodyPost_ret (v := .agg #[.int .i64 d0, .int .i64 d1, .int .i64 d2, .int .i64 d3]) (by simp [results, Tryz.results88, go_sem, z0, z1, z2, z3]) rfl ?_
        exact ⟨rfl, (((hB1.setCell (by simp) _).setCell (by simp) _).setCell (by simp) _).setCell (by simp) _⟩
  · obtain rfl : q = n := by omega
    have hmin : (q : Int) < (p : Int) := by omega
    clear hq hqn hpn
    rw [Nat.sub_self] at HD
    by_cases hcq : c = q
    · subst hcq
      rw [if_pos rfl, Nat.sub_self] at HD
      rcases hp with rfl | rfl
      all_goals
        go_enter Tryz.func88, Tryz.ntmps88
        go_wp2_with fail
        refine HD.mono ?_
        rintro e w1 ⟨rfl, hb1⟩
        have hB1 := hB0.trans (hb1.mono hB0.size)
        have zb1 := zb0.below hb1 zb0.lt
        clear z0 z1 z2 z3 f0 f1 f2 f3
        obtain ⟨z0, z1, z2, z3, f0, f1, f2, f3⟩ := zb1.four
        go_wp2_with fail
        refine bodyPost_ret (v := .agg #[.int .i64 d0, .int .i64 d1, .int .i64 d2, .int .i64 d3]) (by simp [results, Tryz.results88, go_sem, z0, z1, z2, z3]) rfl ?_
        exact ⟨rfl, (((hB1.setCell (by simp) _).setCell (by simp) _).setCell (by simp) _).setCell (by simp) _⟩
    · rw [if_neg hcq] at HD
      rcases hp with rfl | rfl
      all_goals
        go_enter Tryz.func88, Tryz.ntmps88
        go_wp2_with fail
        refine HD.mono ?_
        rintro e w1 ⟨rfl, hb1⟩
        have hB1 := hB0.trans (hb1.mono hB0.size)
        have zb1 := zb0.below hb1 zb0.lt
        clear z0 z1 z2 z3 f0 f1 f2 f3
        obtain ⟨z0, z1, z2, z3, f0, f1, f2, f3⟩ := zb1.four
        go_wp2_with fail
        refine bodyPost_ret (v := .agg #[.int .i64 d0, .int .i64 d1, .int .i64 d2, .int .i64 d3]) (by simp [results, Tryz.results88, go_sem, z0, z1, z2, z3]) rfl ?_
        exact ⟨rfl, (((hB1.setCell (by simp) _).setCell (by simp) _).setCell (by simp) _).setCell (by simp) _⟩

set_option maxHeartbeats 8000000 in
theorem unpackRecord (A : Option Addr) (n c : Nat) (l : List UInt8) (w : World) (ha : Rd eB w w.heap.size A l) (hn : l.length = n) (hc : n ≤ c) (hcm : c ≤ maxLen) (hF : Flds w) :
    Calls Tryz.prog 43 #[.slice A n c] w (RetRc (unpR l) w) := by
  have hB0 : Below w.heap.size w (w.alloc (.cells #[.int .i64 0, .int .i64 0, .int .i64 0, .int .i64 0, .int .i64 0, .int .i64 0, .int .i64 0] 27)) := (Below.refl _ _).alloc (Nat.le_refl _) _
  have zb0 := At.new w 27 #[.int .i64 0, .int .i64 0, .int .i64 0, .int .i64 0, .int .i64 0, .int .i64 0, .int .i64 0]
  have hm : n ≤ maxLen := Nat.le_trans hc hcm
  have fI := fldI1
  have R0 := implReadWord A n c l 0 1 _ (ha.lift hB0) hn hm
  unfold RetIR at R0
  unfold RetRc
  obtain ⟨kz, kk, hk⟩ : ∃ e k, readM l 0 1 = (e, k) := ⟨_, _, rfl⟩
  have hk2 : (readM l 0 1).2 = kk := by rw [hk]
  rw [hk] at R0
  clear hk
  by_cases k1 : kk = 1
  · subst k1
    have Hq := unpR_1 hk2
    have SC := fun W hW => sampleAt 1 (.inl rfl) A n c l W (ha.lift hW) hn hc hcm (hF.below hW)
    obtain ⟨d0, d1, d2, d3, hd⟩ : ∃ d0 d1 d2 d3, (decodeM (l.drop 1)).2 = (d0, d1, d2, d3) := ⟨_, _, _, _, rfl⟩
    rw [hd] at SC Hq
    have Hd := Lib.hid Hq
    clear Hq hd hk2
    go_enter Tryz.func43, Tryz.ntmps43
    go_wp2_with fail
    refine R0.mono ?_
    rintro e w1 ⟨rfl, hb1⟩
    have hB1 := hB0.trans (hb1.mono hB0.size)
    have zb1 := zb0.below hb1 zb0.lt
    have hne : w.heap.size ≠ w1.heap.size := by have := hb1.size; simp at this; omega
    have hne2 : ¬ w.heap.size = w1.heap.size := hne
    have zb2 := zb1.alloc (.cells #[.int .i64 1, .int .i64 0, .int .i64 0, .int .i64 0, .int .i64 0, .int .i64 0, .int .i64 0] 27)
    have rb2 := At.new w1 27 #[.int .i64 1, .int .i64 0, .int .i64 0, .int .i64 0, .int .i64 0, .int .i64 0, .int .i64 0]
    have hB2 := hB1.alloc hB1.size (.cells #[.int .i64 1, .int .i64 0, .int .i64 0, .int .i64 0, .int .i64 0, .int .i64 0, .int .i64 0] 27)
    obtain ⟨zc0, zc1, zc2, zc3, zc4, zc5, zc6⟩ := zb2.seven
    obtain ⟨zf0, zf1, zf2, zf3, zf4, zf5, zf6⟩ := zb2.sevenF
    obtain ⟨rc0, rc1, rc2, rc3, rc4, rc5, rc6⟩ := rb2.seven
    obtain ⟨rf0, rf1, rf2, rf3, rf4, rf5, rf6⟩ := rb2.sevenF
    go_wp2_with fail
    refine (SC _ hB2).mono ?_
    rintro e w3 ⟨rfl, hb3⟩
    have hB3 := hB2.trans (hb3.mono hB2.size)
    have zb3 := zb2.below hb3 zb2.lt
    have rb3 := rb2.below hb3 rb2.lt
    clear zc0 zc1 zc2 zc3 zc4 zc5 zc6 zf0 zf1 zf2 zf3 zf4 zf5 zf6 rc0 rc1 rc2 rc3 rc4 rc5 rc6 rf0 rf1 rf2 rf3 rf4 rf5 rf6
    obtain ⟨zc0, zc1, zc2, zc3, zc4, zc5, zc6⟩ := zb3.seven
    obtain ⟨zf0, zf1, zf2, zf3, zf4, zf5, zf6⟩ := zb3.sevenF
    obtain ⟨rc0, rc1, rc2, rc3, rc4, rc5, rc6⟩ := rb3.seven
    obtain ⟨rf0, rf1, rf2, rf3, rf4, rf5, rf6⟩ := rb3.sevenF
    go_wp2_with fail
    refine bodyPost_ret (v := .agg #[.int .i64 1, .int .i64 0, .int .i64 d0, .int .i64 d1, .int .i64 d2, .int .i64 d3, .int .i64 0]) (by simp [results, Tryz.results43, go_sem, zc0, zc1, zc2, zc3, zc4, zc5, zc6]) rfl ?_
    rw [Hd.out]
    exact ⟨rfl, (((((((((((hB3.setCell hB1.size _).setCell hB1.size _).setCell hB1.size _).setCell hB1.size _).setCell (by simp) _).setCell (by simp) _).setCell (by simp) _).setCell (by simp) _).setCell (by simp) _).setCell (by simp) _).setCell (by simp) _)⟩
  by_cases k2 : kk = 2
  · subst k2
    have Hq := unpR_2 hk2
    have Wpv := fun W hW => implReadWord A n c l 1 1 W (ha.lift hW) hn hm
    unfold RetIR at Wpv
    generalize readM l 1 1 = qpv at *
    obtain ⟨pvz, pv⟩ := qpv
    have SC := fun W hW => sampleAt 2 (.inr rfl) A n c l W (ha.lift hW) hn hc hcm (hF.below hW)
    obtain ⟨d0, d1, d2, d3, hd⟩ : ∃ d0 d1 d2 d3, (decodeM (l.drop 2)).2 = (d0, d1, d2, d3) := ⟨_, _, _, _, rfl⟩
    rw [hd] at SC Hq
    have Hd := Lib.hid Hq
    clear Hq hd hk2
    go_enter Tryz.func43, Tryz.ntmps43
    go_wp2_with fail
    refine R0.mono ?_
    rintro e w1 ⟨rfl, hb1⟩
    have hB1 := hB0.trans (hb1.mono hB0.size)
    have zb1 := zb0.below hb1 zb0.lt
    have hne : w.heap.size ≠ w1.heap.size := by have := hb1.size; simp at this; omega
    have hne2 : ¬ w.heap.size = w1.heap.size := hne
    have zb2 := zb1.alloc (.cells #[.int .i64 2, .int .i64 0, .int .i64 0, .int .i64 0, .int .i64 0, .int .i64 0, .int .i64 0] 27)
    have rb2 := At.new w1 27 #[.int .i64 2, .int .i64 0, .int .i64 0, .int .i64 0, .int .i64 0, .int .i64 0, .int .i64 0]
    have hB2 := hB1.alloc hB1.size (.cells #[.int .i64 2, .int .i64 0, .int .i64 0, .int .i64 0, .int .i64 0, .int .i64 0, .int .i64 0] 27)
    obtain ⟨zc0, zc1, zc2, zc3, zc4, zc5, zc6⟩ := zb2.seven
    obtain ⟨zf0, zf1, zf2, zf3, zf4, zf5, zf6⟩ := zb2.sevenF
    obtain ⟨rc0, rc1, rc2, rc3, rc4, rc5, rc6⟩ := rb2.seven
    obtain ⟨rf0, rf1, rf2, rf3, rf4, rf5, rf6⟩ := rb2.sevenF
    go_wp2_with fail
    refine (Wpv _ hB2).mono ?_
    rintro e w3 ⟨rfl, hb3⟩
    have hB3 := hB2.trans (hb3.mono hB2.size)
    have zb3 := zb2.below hb3 zb2.lt
    have rb3 := rb2.below hb3 rb2.lt
    clear zc0 zc1 zc2 zc3 zc4 zc5 zc6 zf0 zf1 zf2 zf3 zf4 zf5 zf6 rc0 rc1 rc2 rc3 rc4 rc5 rc6 rf0 rf1 rf2 rf3 rf4 rf5 rf6
    obtain ⟨zc0, zc1, zc2, zc3, zc4, zc5, zc6⟩ := zb3.seven
    obtain ⟨zf0, zf1, zf2, zf3, zf4, zf5, zf6⟩ := zb3.sevenF
    obtain ⟨rc0, rc1, rc2, rc3, rc4, rc5, rc6⟩ := rb3.seven
    obtain ⟨rf0, rf1, rf2, rf3, rf4, rf5, rf6⟩ := rb3.sevenF
    have rb4 : At (w3.setCell ⟨w1.heap.size, 1, none⟩ (.int .i64 pv)) w1.heap.size 27 #[.int .i64 2, .int .i64 pv, .int .i64 0, .int .i64 0, .int .i64 0, .int .i64 0, .int .i64 0] := (rb3.set 1 (.int .i64 pv))
    have zb4 : At (w3.setCell ⟨w1.heap.size, 1, none⟩ (.int .i64 pv)) w.heap.size 27 #[.int .i64 0, .int .i64 0, .int .i64 0, .int .i64 0, .int .i64 0, .int .i64 0, .int .i64 0] := (zb3.far (p := ⟨w1.heap.size, 1, none⟩) hne (.int .i64 pv))
    have hB4 : Below w.heap.size w (w3.setCell ⟨w1.heap.size, 1, none⟩ (.int .i64 pv)) := (hB3.setCell (p := ⟨w1.heap.size, 1, none⟩) hB1.size (.int .i64 pv))
    go_wp2_with fail
    refine (SC _ hB4).mono ?_
    rintro e w5 ⟨rfl, hb5⟩
    have hB5 := hB4.trans (hb5.mono hB4.size)
    have zb5 := zb4.below hb5 zb4.lt
    have rb5 := rb4.below hb5 rb4.lt
    clear zc0 zc1 zc2 zc3 zc4 zc5 zc6 zf0 zf1 zf2 zf3 zf4 zf5 zf6 rc0 rc1 rc2 rc3 rc4 rc5 rc6 rf0 rf1 rf2 rf3 rf4 rf5 rf6
    obtain ⟨zc0, zc1, zc2, zc3, zc4, zc5, zc6⟩ := zb5.seven
    obtain ⟨zf0, zf1, zf2, zf3, zf4, zf5, zf6⟩ := zb5.sevenF
    obtain ⟨rc0, rc1, rc2, rc3, rc4, rc5, rc6⟩ := rb5.seven
    obtain ⟨rf0, rf1, rf2, rf3, rf4, rf5, rf6⟩ := rb5.sevenF
    go_wp2_with fail
    refine bodyPost_ret (v := .agg #[.int .i64 2, .int .i64 pv, .int .i64 d0, .int .i64 d1, .int .i64 d2, .int .i64 d3, .int .i64 0]) (by simp [results, Tryz.results43, go_sem, zc0, zc1, zc2, zc3, zc4, zc5, zc6]) rfl ?_
    rw [Hd.out]
    exact ⟨rfl, (((((((((((hB5.setCell hB1.size _).setCell hB1.size _).setCell hB1.size _).setCell hB1.size _).setCell (by simp) _).setCell (by simp) _).setCell (by simp) _).setCell (by simp) _).setCell (by simp) _).setCell (by simp) _).setCell (by simp) _)⟩
  by_cases k3 : kk = 3
  · subst k3
    have Hq := unpR_3 hk2
    have Wpv := fun W hW => implReadWord A n c l 1 1 W (ha.lift hW) hn hm
    unfold RetIR at Wpv
    generalize readM l 1 1 = qpv at *
    obtain ⟨pvz, pv⟩ := qpv
    have Wkv := fun W hW => implReadWord A n c l 2 2 W (ha.lift hW) hn hm
    unfold RetIR at Wkv
    generalize readM l 2 2 = qkv at *
    obtain ⟨kvz, kv⟩ := qkv
    have Hd := Lib.hid Hq
    clear Hq hk2
    go_enter Tryz.func43, Tryz.ntmps43
    go_wp2_with fail
    refine R0.mono ?_
    rintro e w1 ⟨rfl, hb1⟩
    have hB1 := hB0.trans (hb1.mono hB0.size)
    have zb1 := zb0.below hb1 zb0.lt
    have hne : w.heap.size ≠ w1.heap.size := by have := hb1.size; simp at this; omega
    have hne2 : ¬ w.heap.size = w1.heap.size := hne
    have zb2 := zb1.alloc (.cells #[.int .i64 3, .int .i64 0, .int .i64 0, .int .i64 0, .int .i64 0, .int .i64 0, .int .i64 0] 27)
    have rb2 := At.new w1 27 #[.int .i64 3, .int .i64 0, .int .i64 0, .int .i64 0, .int .i64 0, .int .i64 0, .int .i64 0]
    have hB2 := hB1.alloc hB1.size (.cells #[.int .i64 3, .int .i64 0, .int .i64 0, .int .i64 0, .int .i64 0, .int .i64 0, .int .i64 0] 27)
    obtain ⟨zc0, zc1, zc2, zc3, zc4, zc5, zc6⟩ := zb2.seven
    obtain ⟨zf0, zf1, zf2, zf3, zf4, zf5, zf6⟩ := zb2.sevenF
    obtain ⟨rc0, rc1, rc2, rc3, rc4, rc5, rc6⟩ := rb2.seven
    obtain ⟨rf0, rf1, rf2, rf3, rf4, rf5, rf6⟩ := rb2.sevenF
    go_wp2_with fail
    refine (Wpv _ hB2).mono ?_
    rintro e w3 ⟨rfl, hb3⟩
    have hB3 := hB2.trans (hb3.mono hB2.size)
    have zb3 := zb2.below hb3 zb2.lt
    have rb3 := rb2.below hb3 rb2.lt
    clear zc0 zc1 zc2 zc3 zc4 zc5 zc6 zf0 zf1 zf2 zf3 zf4 zf5 zf6 rc0 rc1 rc2 rc3 rc4 rc5 rc6 rf0 rf1 rf2 rf3 rf4 rf5 rf6
    obtain ⟨zc0, zc1, zc2, zc3, zc4, zc5, zc6⟩ := zb3.seven
    obtain ⟨zf0, zf1, zf2, zf3, zf4, zf5, zf6⟩ := zb3.sevenF
    obtain ⟨rc0, rc1, rc2, rc3, rc4, rc5, rc6⟩ := rb3.seven
    obtain ⟨rf0, rf1, rf2, rf3, rf4, rf5, rf6⟩ := rb3.sevenF
    have rb4 : At (w3.setCell ⟨w1.heap.size, 1, none⟩ (.int .i64 pv)) w1.heap.size 27 #[.int .i64 3, .int .i64 pv, .int .i64 0, .int .i64 0, .int .i64 0, .int .i64 0, .int .i64 0] := (rb3.set 1 (.int .i64 pv))
    have zb4 : At (w3.setCell ⟨w1.heap.size, 1, none⟩ (.int .i64 pv)) w.heap.size 27 #[.int .i64 0, .int .i64 0, .int .i64 0, .int .i64 0, .int .i64 0, .int .i64 0, .int .i64 0] := (zb3.far (p := ⟨w1.heap.size, 1, none⟩) hne (.int .i64 pv))
    have hB4 : Below w.heap.size w (w3.setCell ⟨w1.heap.size, 1, none⟩ (.int .i64 pv)) := (hB3.setCell (p := ⟨w1.heap.size, 1, none⟩) hB1.size (.int .i64 pv))
    go_wp2_with fail
    refine (Wkv _ hB4).mono ?_
    rintro e w5 ⟨rfl, hb5⟩
    have hB5 := hB4.trans (hb5.mono hB4.size)
    have zb5 := zb4.below hb5 zb4.lt
    have rb5 := rb4.below hb5 rb4.lt
    clear zc0 zc1 zc2 zc3 zc4 zc5 zc6 zf0 zf1 zf2 zf3 zf4 zf5 zf6 rc0 rc1 rc2 rc3 rc4 rc5 rc6 rf0 rf1 rf2 rf3 rf4 rf5 rf6
    obtain ⟨zc0, zc1, zc2, zc3, zc4, zc5, zc6⟩ := zb5.seven
    obtain ⟨zf0, zf1, zf2, zf3, zf4, zf5, zf6⟩ := zb5.sevenF
    obtain ⟨rc0, rc1, rc2, rc3, rc4, rc5, rc6⟩ := rb5.seven
    obtain ⟨rf0, rf1, rf2, rf3, rf4, rf5, rf6⟩ := rb5.sevenF
    go_wp2_with fail
    refine bodyPost_ret (v := .agg #[.int .i64 3, .int .i64 pv, .int .i64 0, .int .i64 0, .int .i64 0, .int .i64 0, .int .i64 kv]) (by simp [results, Tryz.results43, go_sem, zc0, zc1, zc2, zc3, zc4, zc5, zc6]) rfl ?_
    rw [Hd.out]
    exact ⟨rfl, ((((((((hB5.setCell hB1.size _).setCell (by simp) _).setCell (by simp) _).setCell (by simp) _).setCell (by simp) _).setCell (by simp) _).setCell (by simp) _).setCell (by simp) _)⟩
  by_cases k4 : kk = 4
  · subst k4
    have Hq := unpR_4 hk2
    have Wkv := fun W hW => implReadWord A n c l 1 2 W (ha.lift hW) hn hm
    unfold RetIR at Wkv
    generalize readM l 1 2 = qkv at *
    obtain ⟨kvz, kv⟩ := qkv
    have Hd := Lib.hid Hq
    clear Hq hk2
    go_enter Tryz.func43, Tryz.ntmps43
    go_wp2_with fail
    refine R0.mono ?_
    rintro e w1 ⟨rfl, hb1⟩
    have hB1 := hB0.trans (hb1.mono hB0.size)
    have zb1 := zb0.below hb1 zb0.lt
    have hne : w.heap.size ≠ w1.heap.size := by have := hb1.size; simp at this; omega
    have hne2 : ¬ w.heap.size = w1.heap.size := hne
    have zb2 := zb1.alloc (.cells #[.int .i64 4, .int .i64 0, .int .i64 0, .int .i64 0, .int .i64 0, .int .i64 0, .int .i64 0] 27)
    have rb2 := At.new w1 27 #[.int .i64 4, .int .i64 0, .int .i64 0, .int .i64 0, .int .i64 0, .int .i64 0, .int .i64 0]
    have hB2 := hB1.alloc hB1.size (.cells #[.int .i64 4, .int .i64 0, .int .i64 0, .int .i64 0, .int .i64 0, .int .i64 0, .int .i64 0] 27)
    obtain ⟨zc0, zc1, zc2, zc3, zc4, zc5, zc6⟩ := zb2.seven
    obtain ⟨zf0, zf1, zf2, zf3, zf4, zf5, zf6⟩ := zb2.sevenF
    obtain ⟨rc0, rc1, rc2, rc3, rc4, rc5, rc6⟩ := rb2.seven
    obtain ⟨rf0, rf1, rf2, rf3, rf4, rf5, rf6⟩ := rb2.sevenF
    go_wp2_with fail
    refine (Wkv _ hB2).mono ?_
    rintro e w3 ⟨rfl, hb3⟩
    have hB3 := hB2.trans (hb3.mono hB2.size)
    have zb3 := zb2.below hb3 zb2.lt
    have rb3 := rb2.below hb3 rb2.lt
    clear zc0 zc1 zc2 zc3 zc4 zc5 zc6 zf0 zf1 zf2 zf3 zf4 zf5 zf6 rc0 rc1 rc2 rc3 rc4 rc5 rc6 rf0 rf1 rf2 rf3 rf4 rf5 rf6
    obtain ⟨zc0, zc1, zc2, zc3, zc4, zc5, zc6⟩ := zb3.seven
    obtain ⟨zf0, zf1, zf2, zf3, zf4, zf5, zf6⟩ := zb3.sevenF
    obtain ⟨rc0, rc1, rc2, rc3, rc4, rc5, rc6⟩ := rb3.seven
    obtain ⟨rf0, rf1, rf2, rf3, rf4, rf5, rf6⟩ := rb3.sevenF
    go_wp2_with fail
    refine bodyPost_ret (v := .agg #[.int .i64 4, .int .i64 0, .int .i64 0, .int .i64 0, .int .i64 0, .int .i64 0, .int .i64 kv]) (by simp [results, Tryz.results43, go_sem, zc0, zc1, zc2, zc3, zc4, zc5, zc6]) rfl ?_
    rw [Hd.out]
    exact ⟨rfl, ((((((((hB3.setCell hB1.size _).setCell (by simp) _).setCell (by simp) _).setCell (by simp) _).setCell (by simp) _).setCell (by simp) _).setCell (by simp) _).setCell (by simp) _)⟩
  · have Hd := Lib.hid (unpR_o (l := l) (by rw [hk2]; exact k1) (by rw [hk2]; exact k2) (by rw [hk2]; exact k3) (by rw [hk2]; exact k4))
    rw [hk2] at Hd
    have b1 : (kk == 1) = false := by simpa using k1
    have b2 : (kk == 2) = false := by simpa using k2
    have b3 : (kk == 3) = false := by simpa using k3
    have b4 : (kk == 4) = false := by simpa using k4
    clear hk2 k1 k2 k3 k4
    go_enter Tryz.func43, Tryz.ntmps43
    go_wp2_with fail
    refine R0.mono ?_
    rintro e w1 ⟨rfl, hb1⟩
    have hB1 := hB0.trans (hb1.mono hB0.size)
    have zb1 := zb0.below hb1 zb0.lt
    have hne : w.heap.size ≠ w1.heap.size := by have := hb1.size; simp at this; omega
    have hne2 : ¬ w.heap.size = w1.heap.size := hne
    have zb2 := zb1.alloc (.cells #[.int .i64 kk, .int .i64 0, .int .i64 0, .int .i64 0, .int .i64 0, .int .i64 0, .int .i64 0] 27)
    have rb2 := At.new w1 27 #[.int .i64 kk, .int .i64 0, .int .i64 0, .int .i64 0, .int .i64 0, .int .i64 0, .int .i64 0]
    have hB2 := hB1.alloc hB1.size (.cells #[.int .i64 kk, .int .i64 0, .int .i64 0, .int .i64 0, .int .i64 0, .int .i64 0, .int .i64 0] 27)
    obtain ⟨zc0, zc1, zc2, zc3, zc4, zc5, zc6⟩ := zb2.seven
    obtain ⟨zf0, zf1, zf2, zf3, zf4, zf5, zf6⟩ := zb2.sevenF
    obtain ⟨rc0, rc1, rc2, rc3, rc4, rc5, rc6⟩ := rb2.seven
    obtain ⟨rf0, rf1, rf2, rf3, rf4, rf5, rf6⟩ := rb2.sevenF
    go_wp2_with fail
    refine bodyPost_ret (v := .agg #[.int .i64 kk, .int .i64 0, .int .i64 0, .int .i64 0, .int .i64 0, .int .i64 0, .int .i64 0]) (by simp [results, Tryz.results43, go_sem, zc0, zc1, zc2, zc3, zc4, zc5, zc6]) rfl ?_
    rw [Hd.out]
    exact ⟨rfl, (((((((hB2.setCell (by simp) _).setCell (by simp) _).setCell (by simp) _).setCell (by simp) _).setCell (by simp) _).setCell (by simp) _).setCell (by simp) _)⟩

end Go.Proofs.YtmaillakhhdkfaaGreatDoor
/-
  A record out of its bytes: the program's DecodeRecord.
-/
namespace Go.Proofs.YtmaillakhhdkfaaGreatDoor
set_option maxRecDepth 20000
open Go.RowKit
set_option linter.unusedSimpArgs false
set_option linter.unusedVariables false
attribute [local irreducible] mixW

set_option maxHeartbeats 4000000 in
theorem implDecodeRecord (A : Option Addr) (n c : Nat) (l : List UInt8) (w : World) (ha : Rd eB w w.heap.size A l) (hn : l.length = n) (hc : n ≤ c) (hcm : c ≤ maxLen) (hF : Flds w) :
    Calls Tryz.prog 10 #[.slice A n c] w fun e w' => RetRR (decodeRecM l) w e w' := by
  have hB0 : Below w.heap.size w (w.alloc (.cells #[.int .i64 0, .int .i64 0, .int .i64 0, .int .i64 0, .int .i64 0, .int .i64 0, .int .i64 0, .int .i64 0] 34)) := (Below.refl _ _).alloc (Nat.le_refl _) _
  have zb0 := At.new w 34 #[.int .i64 0, .int .i64 0, .int .i64 0, .int .i64 0, .int .i64 0, .int .i64 0, .int .i64 0, .int .i64 0]
  have U := unpackRecord A n c l _ (ha.lift hB0) hn hc hcm (hF.below hB0)
  unfold RetRc at U
  have hor := dec_or l
  unfold RetRR
  rcases hu : unpR l with ⟨a0, a1, ⟨a2, a3, a4, a5⟩, a6⟩
  rw [hu] at U hor
  have EN := fun W hW => implEncodeRecord a0 a1 a2 a3 a4 a5 a6 W hW
  have hcode := encRecM_code (a0, a1, (a2, a3, a4, a5), a6)
  have hbytes : recFaultM (a0, a1, (a2, a3, a4, a5), a6) = 0 → encRecM (a0, a1, (a2, a3, a4, a5), a6) = (0, encR (a0, a1, (a2, a3, a4, a5), a6)) := fun h => if_pos h
  by_cases hf : recFaultM (a0, a1, (a2, a3, a4, a5), a6) = 0
  rotate_left
  · have Hd := Lib.hid (show decodeRecM l = (5, zeroR) by
      rcases hor with ⟨-, h, -⟩ | ⟨h, -⟩
      · exact absurd h hf
      · exact h)
    obtain ⟨ec, eb, he⟩ : ∃ ec eb, encRecM (a0, a1, (a2, a3, a4, a5), a6) = (ec, eb) := ⟨_, _, rfl⟩
    rw [he] at hcode EN
    have hne5 : (ec != 0) = true := by rw [bne_iff_ne]; show ec ≠ 0; rw [show ec = recFaultM (a0, a1, (a2, a3, a4, a5), a6) from hcode]; exact hf
    clear hor hcode hbytes hf hu he
    go_enter Tryz.func10, Tryz.ntmps10
    go_wp2_with fail
    refine U.mono ?_
    rintro e w1 ⟨rfl, hb1⟩
    have hB1 := hB0.trans (hb1.mono hB0.size)
    have zb1 := (zb0.below hb1 zb0.lt).alloc (.cells #[.int .i64 a0, .int .i64 a1, .int .i64 a2, .int .i64 a3, .int .i64 a4, .int .i64 a5, .int .i64 a6] 27)
    have hne : ¬ w.heap.size = w1.heap.size := by have := hb1.size; simp at this; omega
    have xb1 := At.new w1 27 #[.int .i64 a0, .int .i64 a1, .int .i64 a2, .int .i64 a3, .int .i64 a4, .int .i64 a5, .int .i64 a6]
    have hB2 := hB1.alloc hB1.size (.cells #[.int .i64 a0, .int .i64 a1, .int .i64 a2, .int .i64 a3, .int .i64 a4, .int .i64 a5, .int .i64 a6] 27)
    obtain ⟨xc0, xc1, xc2, xc3, xc4, xc5, xc6⟩ := xb1.seven
    go_wp2_with fail
    refine (EN _ (hF.below hB2)).mono ?_
    rintro e w2 ⟨A2, n2, c2, rfl, o2, hb2⟩
    have hB3 := hB2.trans (hb2.mono hB2.size)
    have hne3 : ¬ w.heap.size = w2.heap.size := by have := hb1.size; have := hb2.size; simp at *; omega
    have hne4 : ¬ w1.heap.size = w2.heap.size := by have := hb2.size; simp at this; omega
    have zb3 := (zb1.below hb2 zb1.lt).alloc (.cells #[.int .i64 ec, .slice A2 n2 c2] 30)
    have xb3 := (xb1.below hb2 xb1.lt).alloc (.cells #[.int .i64 ec, .slice A2 n2 c2] 30)
    have eb3 := At.new w2 30 #[.int .i64 ec, .slice A2 n2 c2]
    have hB4 := hB3.alloc hB3.size (.cells #[.int .i64 ec, .slice A2 n2 c2] 30)
    have o3 := o2.alloc (.cells #[.int .i64 ec, .slice A2 n2 c2] 30)
    clear xc0 xc1 xc2 xc3 xc4 xc5 xc6
    obtain ⟨xc0, xc1, xc2, xc3, xc4, xc5, xc6⟩ := xb3.seven
    obtain ⟨zc0, zc1, zc2, zc3, zc4, zc5, zc6, zc7⟩ := zb3.eightR
    have zf0 := zb3.frozen 0
    have zf1 := zb3.frozen 1
    have zf2 := zb3.frozen 2
    have zf3 := zb3.frozen 3
    have zf4 := zb3.frozen 4
    have zf5 := zb3.frozen 5
    have zf6 := zb3.frozen 6
    have zf7 := zb3.frozen 7
    obtain ⟨ec0, ec1, _, _⟩ := eb3.two
    go_wp2_with fail
    refine bodyPost_ret (v := .agg #[.int .i64 5, .int .i64 0, .int .i64 0, .int .i64 0, .int .i64 0, .int .i64 0, .int .i64 0, .int .i64 0]) (by simp [results, Tryz.results10, go_sem, zc0, zc1, zc2, zc3, zc4, zc5, zc6, zc7]) rfl ?_
    rw [Hd.out]
    exact ⟨rfl, ((((((((hB4.setCell (by simp) _).setCell (by simp) _).setCell (by simp) _).setCell (by simp) _).setCell (by simp) _).setCell (by simp) _).setCell (by simp) _).setCell (by simp) _)⟩
  rw [hbytes hf] at EN
  clear hbytes hcode
  have hne0 : ((0 : Int) != 0) = false := by decide
  by_cases hs : encR (a0, a1, (a2, a3, a4, a5), a6) = l
  · have Hd := Lib.hid (show decodeRecM l = (0, (a0, a1, (a2, a3, a4, a5), a6)) by
      rcases hor with ⟨h, -, -⟩ | ⟨-, h⟩
      · exact h
      · exact absurd ⟨hf, hs⟩ h)
    have Hs := Lib.hid (decide_eq_true hs)
    clear hor hs hf hu
    go_enter Tryz.func10, Tryz.ntmps10
    go_wp2_with fail
    refine U.mono ?_
    rintro e w1 ⟨rfl, hb1⟩
    have hB1 := hB0.trans (hb1.mono hB0.size)
    have zb1 := (zb0.below hb1 zb0.lt).alloc (.cells #[.int .i64 a0, .int .i64 a1, .int .i64 a2, .int .i64 a3, .int .i64 a4, .int .i64 a5, .int .i64 a6] 27)
    have hne : ¬ w.heap.size = w1.heap.size := by have := hb1.size; simp at this; omega
    have xb1 := At.new w1 27 #[.int .i64 a0, .int .i64 a1, .int .i64 a2, .int .i64 a3, .int .i64 a4, .int .i64 a5, .int .i64 a6]
    have hB2 := hB1.alloc hB1.size (.cells #[.int .i64 a0, .int .i64 a1, .int .i64 a2, .int .i64 a3, .int .i64 a4, .int .i64 a5, .int .i64 a6] 27)
    obtain ⟨xc0, xc1, xc2, xc3, xc4, xc5, xc6⟩ := xb1.seven
    go_wp2_with fail
    refine (EN _ (hF.below hB2)).mono ?_
    rintro e w2 ⟨A2, n2, c2, rfl, o2, hb2⟩
    have hB3 := hB2.trans (hb2.mono hB2.size)
    have hne3 : ¬ w.heap.size = w2.heap.size := by have := hb1.size; have := hb2.size; simp at *; omega
    have hne4 : ¬ w1.heap.size = w2.heap.size := by have := hb2.size; simp at this; omega
    have zb3 := (zb1.below hb2 zb1.lt).alloc (.cells #[.int .i64 0, .slice A2 n2 c2] 30)
    have xb3 := (xb1.below hb2 xb1.lt).alloc (.cells #[.int .i64 0, .slice A2 n2 c2] 30)
    have eb3 := At.new w2 30 #[.int .i64 0, .slice A2 n2 c2]
    have hB4 := hB3.alloc hB3.size (.cells #[.int .i64 0, .slice A2 n2 c2] 30)
    have o3 := o2.alloc (.cells #[.int .i64 0, .slice A2 n2 c2] 30)
    clear xc0 xc1 xc2 xc3 xc4 xc5 xc6
    obtain ⟨xc0, xc1, xc2, xc3, xc4, xc5, xc6⟩ := xb3.seven
    obtain ⟨zc0, zc1, zc2, zc3, zc4, zc5, zc6, zc7⟩ := zb3.eightR
    have zf0 := zb3.frozen 0
    have zf1 := zb3.frozen 1
    have zf2 := zb3.frozen 2
    have zf3 := zb3.frozen 3
    have zf4 := zb3.frozen 4
    have zf5 := zb3.frozen 5
    have zf6 := zb3.frozen 6
    have zf7 := zb3.frozen 7
    obtain ⟨ec0, ec1, _, _⟩ := eb3.two
    go_wp2_with fail
    refine (implSameBytes A2 A n2 n c2 c _ l _ (o3.rd okB) (ha.lift hB4) (o3.len okB) hn).mono ?_
    rintro e w9 ⟨he9, rfl⟩
    obtain rfl : e = .returned (.bool true) := by rw [he9, Hs.out]
    clear he9
    go_wp2_with fail
    refine bodyPost_ret (v := .agg #[.int .i64 0, .int .i64 a0, .int .i64 a1, .int .i64 a2, .int .i64 a3, .int .i64 a4, .int .i64 a5, .int .i64 a6]) (by simp [results, Tryz.results10, go_sem, zc0, zc1, zc2, zc3, zc4, zc5, zc6, zc7]) rfl ?_
    rw [Hd.out]
    exact ⟨rfl, ((((((((hB4.setCell (by simp) _).setCell (by simp) _).setCell (by simp) _).setCell (by simp) _).setCell (by simp) _).setCell (by simp) _).setCell (by simp) _).setCell (by simp) _)⟩
  · have Hd := Lib.hid (show decodeRecM l = (5, zeroR) by
      rcases hor with ⟨-, -, h⟩ | ⟨h, -⟩
      · exact absurd h hs
      · exact h)
    have Hs := Lib.hid (decide_eq_false hs)
    clear hor hs hf hu
    go_enter Tryz.func10, Tryz.ntmps10
    go_wp2_with fail
    refine U.mono ?_
    rintro e w1 ⟨rfl, hb1⟩
    have hB1 := hB0.trans (hb1.mono hB0.size)
    have zb1 := (zb0.below hb1 zb0.lt).alloc (.cells #[.int .i64 a0, .int .i64 a1, .int .i64 a2, .int .i64 a3, .int .i64 a4, .int .i64 a5, .int .i64 a6] 27)
    have hne : ¬ w.heap.size = w1.heap.size := by have := hb1.size; simp at this; omega
    have xb1 := At.new w1 27 #[.int .i64 a0, .int .i64 a1, .int .i64 a2, .int .i64 a3, .int .i64 a4, .int .i64 a5, .int .i64 a6]
    have hB2 := hB1.alloc hB1.size (.cells #[.int .i64 a0, .int .i64 a1, .int .i64 a2, .int .i64 a3, .int .i64 a4, .int .i64 a5, .int .i64 a6] 27)
    obtain ⟨xc0, xc1, xc2, xc3, xc4, xc5, xc6⟩ := xb1.seven
    go_wp2_with fail
    refine (EN _ (hF.below hB2)).mono ?_
    rintro e w2 ⟨A2, n2, c2, rfl, o2, hb2⟩
    have hB3 := hB2.trans (hb2.mono hB2.size)
    have hne3 : ¬ w.heap.size = w2.heap.size := by have := hb1.size; have := hb2.size; simp at *; omega
    have hne4 : ¬ w1.heap.size = w2.heap.size := by have := hb2.size; simp at this; omega
    have zb3 := (zb1.below hb2 zb1.lt).alloc (.cells #[.int .i64 0, .slice A2 n2 c2] 30)
    have xb3 := (xb1.below hb2 xb1.lt).alloc (.cells #[.int .i64 0, .slice A2 n2 c2] 30)
    have eb3 := At.new w2 30 #[.int .i64 0, .slice A2 n2 c2]
    have hB4 := hB3.alloc hB3.size (.cells #[.int .i64 0, .slice A2 n2 c2] 30)
    have o3 := o2.alloc (.cells #[.int .i64 0, .slice A2 n2 c2] 30)
    clear xc0 xc1 xc2 xc3 xc4 xc5 xc6
    obtain ⟨xc0, xc1, xc2, xc3, xc4, xc5, xc6⟩ := xb3.seven
    obtain ⟨zc0, zc1, zc2, zc3, zc4, zc5, zc6, zc7⟩ := zb3.eightR
    have zf0 := zb3.frozen 0
    have zf1 := zb3.frozen 1
    have zf2 := zb3.frozen 2
    have zf3 := zb3.frozen 3
    have zf4 := zb3.frozen 4
    have zf5 := zb3.frozen 5
    have zf6 := zb3.frozen 6
    have zf7 := zb3.frozen 7
    obtain ⟨ec0, ec1, _, _⟩ := eb3.two
    go_wp2_with fail
    refine (implSameBytes A2 A n2 n c2 c _ l _ (o3.rd okB) (ha.lift hB4) (o3.len okB) hn).mono ?_
    rintro e w9 ⟨he9, rfl⟩
    obtain rfl : e = .returned (.bool false) := by rw [he9, Hs.out]
    clear he9
    go_wp2_with fail
    refine bodyPost_ret (v := .agg #[.int .i64 5, .int .i64 0, .int .i64 0, .int .i64 0, .int .i64 0, .int .i64 0, .int .i64 0, .int .i64 0]) (by simp [results, Tryz.results10, go_sem, zc0, zc1, zc2, zc3, zc4, zc5, zc6, zc7]) rfl ?_
    rw [Hd.out]
    exact ⟨rfl, ((((((((hB4.setCell (by simp) _).setCell (by simp) _).setCell (by simp) _).setCell (by simp) _).setCell (by simp) _).setCell (by simp) _).setCell (by simp) _).setCell (by simp) _)⟩
end Go.Proofs.YtmaillakhhdkfaaGreatDoor
/-
  A state: the law's own measuring and copying of it.
-/
namespace Go.Proofs.YtmaillakhhdkfaaGreatDoor
set_option maxRecDepth 20000
open Go.RowKit
set_option linter.unusedSimpArgs false
set_option linter.unusedVariables false

/-- Two states are the same. -/
def staSame (s t : Sta) : Bool := decide (s.1 = t.1) && (decide (s.2.1 = t.2.1) && decide (s.2.2 = t.2.2))
theorem sta_no1 {l l' : List Smp} {h h' : List Hnt} {x x' : Int} (k : ¬ l = l') : staSame (l, h, x) (l', h', x') = false := by simp [staSame, k]
theorem sta_no2 {l l' : List Smp} {h h' : List Hnt} {x x' : Int} (k : ¬ h = h') : staSame (l, h, x) (l', h', x') = false := by simp [staSame, k]
theorem sta_no3 {l l' : List Smp} {h h' : List Hnt} {x x' : Int} (k : ¬ x = x') : staSame (l, h, x) (l', h', x') = false := by simp [staSame, k]
theorem sta_yes (s : Sta) : staSame s s = true := by simp [staSame]

set_option maxHeartbeats 2000000 in
theorem eqState (A B A' B' : Option Addr) (n c m d n' c' m' d' : Nat) (l l' : List Smp) (h h' : List Hnt) (x x' : Int) (w : World) (ha : Rd eS w w.heap.size A l) (hb : Rd eH w w.heap.size B h) (ha' : Rd eS w w.heap.size A' l') (hb' : Rd eH w w.heap.size B' h')
    (hn : l.length = n) (hm : h.length = m) (hn' : l'.length = n') (hm' : h'.length = m') (hnm : n ≤ maxLen) (hmm : m ≤ maxLen) :
    Calls Tryz.prog 75 #[.agg #[.slice A n c, .slice B m d, .int .i64 x], .agg #[.slice A' n' c', .slice B' m' d', .int .i64 x']] w fun e w' => e = .returned (.bool (staSame (l, h, x) (l', h', x'))) ∧ Below w.heap.size w w' := by
  have hb0 : Below w.heap.size w ((w.alloc (.cells #[.slice A n c, .slice B m d, .int .i64 x] 39)).alloc (.cells #[.slice A' n' c', .slice B' m' d', .int .i64 x'] 39)) := ((Below.refl _ _).alloc (Nat.le_refl _) _).alloc (by simp) _
  have x2 : At ((w.alloc (.cells #[.slice A n c, .slice B m d, .int .i64 x] 39)).alloc (.cells #[.slice A' n' c', .slice B' m' d', .int .i64 x'] 39)) w.heap.size 39 #[.slice A n c, .slice B m d, .int .i64 x] := (At.new w 39 #[.slice A n c, .slice B m d, .int .i64 x]).alloc _
  have y2 : At ((w.alloc (.cells #[.slice A n c, .slice B m d, .int .i64 x] 39)).alloc (.cells #[.slice A' n' c', .slice B' m' d', .int .i64 x'] 39)) (w.heap.size + 1) 39 #[.slice A' n' c', .slice B' m' d', .int .i64 x'] := by
    have := At.new (w.alloc (.cells #[.slice A n c, .slice B m d, .int .i64 x] 39)) 39 #[.slice A' n' c', .slice B' m' d', .int .i64 x']
    simpa using this
  obtain ⟨c0, c1, c2, _, _, _⟩ := x2.three
  obtain ⟨d0, d1, d2, _, _, _⟩ := y2.three
  have ES := eqSampleS A A' n n' c c' l l' ((w.alloc (.cells #[.slice A n c, .slice B m d, .int .i64 x] 39)).alloc (.cells #[.slice A' n' c', .slice B' m' d', .int .i64 x'] 39)) (ha.lift hb0) (ha'.lift hb0) hn hn' hnm
  by_cases k1 : l = l'
  rotate_left
  · rw [show decide (l = l') = false from decide_eq_false k1] at ES
    have Hr := Lib.hid (sta_no1 (h := h) (h' := h') (x := x) (x' := x') k1)
    clear k1 hn hm hn' hm' ha ha' hb hb'
    go_enter Tryz.func75, Tryz.ntmps75
    go_wp2_with fail
    refine ES.mono ?_
    rintro e w1 ⟨rfl, hb1⟩
    go_wp2
    go_ret
    exact ⟨by rw [Hr.out]; try rfl, hb0.trans (hb1.mono hb0.size)⟩
  rw [show decide (l = l') = true from decide_eq_true k1] at ES
  have EH := fun W (hW : Below w.heap.size w W) => eqHintS B B' m m' d d' h h' W (hb.lift hW) (hb'.lift hW) hm hm' hmm
  by_cases k2 : h = h'
  rotate_left
  · rw [show decide (h = h') = false from decide_eq_false k2] at EH
    have Hr := Lib.hid (sta_no2 (l := l) (l' := l') (x := x) (x' := x') k2)
    clear k1 k2 hn hm hn' hm' ha ha' hb hb'
    go_enter Tryz.func75, Tryz.ntmps75
    go_wp2_with fail
    refine ES.mono ?_
    rintro e w1 ⟨rfl, hb1⟩
    have hB1 := hb0.trans (hb1.mono hb0.size)
    obtain ⟨e0, e1, e2, _, _, _⟩ := (x2.below hb1 x2.lt).three
    obtain ⟨g0, g1, g2, _, _, _⟩ := (y2.below hb1 y2.lt).three
    go_wp2_with fail
    refine (EH _ hB1).mono ?_
    rintro e w2 ⟨rfl, hb2⟩
    go_wp2
    go_ret
    exact ⟨by rw [Hr.out]; try rfl, hB1.trans (hb2.mono hB1.size)⟩
  rw [show decide (h = h') = true from decide_eq_true k2] at EH
  by_cases k3 : x = x'
  rotate_left
  · have hne : (x != x') = true := by rw [bne_iff_ne]; exact k3
    have Hr := Lib.hid (sta_no3 (l := l) (l' := l') (h := h) (h' := h') k3)
    clear k1 k2 k3 hn hm hn' hm' ha ha' hb hb'
    go_enter Tryz.func75, Tryz.ntmps75
    go_wp2_with fail
    refine ES.mono ?_
    rintro e w1 ⟨rfl, hb1⟩
    have hB1 := hb0.trans (hb1.mono hb0.size)
    have x3 := x2.below hb1 x2.lt
    have y3 := y2.below hb1 y2.lt
    obtain ⟨e0, e1, e2, _, _, _⟩ := x3.three
    obtain ⟨g0, g1, g2, _, _, _⟩ := y3.three
    go_wp2_with fail
    refine (EH _ hB1).mono ?_
    rintro e w2 ⟨rfl, hb2⟩
    have hB2 := hB1.trans (hb2.mono hB1.size)
    obtain ⟨i0, i1, i2, _, _, _⟩ := (x3.below hb2 x3.lt).three
    obtain ⟨j0, j1, j2, _, _, _⟩ := (y3.below hb2 y3.lt).three
    go_wp2
    go_ret
    exact ⟨by rw [Hr.out]; try rfl, hB2⟩
  · have hne : (x != x') = false := by simpa using k3
    have Hr := Lib.hid (show staSame (l, h, x) (l', h', x') = true by rw [k1, k2, k3]; exact sta_yes _)
    clear k1 k2 k3 hn hm hn' hm' ha ha' hb hb'
    go_enter Tryz.func75, Tryz.ntmps75
    go_wp2_with fail
    refine ES.mono ?_
    rintro e w1 ⟨rfl, hb1⟩
    have hB1 := hb0.trans (hb1.mono hb0.size)
    have x3 := x2.below hb1 x2.lt
    have y3 := y2.below hb1 y2.lt
    obtain ⟨e0, e1, e2, _, _, _⟩ := x3.three
    obtain ⟨g0, g1, g2, _, _, _⟩ := y3.three
    go_wp2_with fail
    refine (EH _ hB1).mono ?_
    rintro e w2 ⟨rfl, hb2⟩
    have hB2 := hB1.trans (hb2.mono hB1.size)
    obtain ⟨i0, i1, i2, _, _, _⟩ := (x3.below hb2 x3.lt).three
    obtain ⟨j0, j1, j2, _, _, _⟩ := (y3.below hb2 y3.lt).three
    go_wp2
    go_ret
    exact ⟨by rw [Hr.out]; try rfl, hB2⟩
end Go.Proofs.YtmaillakhhdkfaaGreatDoor
/-
  A key looked for in a store, a store copied: the model's.
-/
namespace Go.Proofs.YtmaillakhhdkfaaGreatDoor
set_option maxRecDepth 20000
open Go.RowKit
set_option linter.unusedSimpArgs false

def hitM (l : List Smp) (x : Smp) (i : Nat) : Bool := match l[i]? with | some a => sameKeyM a x | none => false
theorem hitM_at {l : List Smp} {x a : Smp} {i : Nat} (h : l[i]? = some a) : hitM l x i = sameKeyM a x := by
  unfold hitM
  rw [h]
/-- Where the key stands. -/
def findM (l : List Smp) (x : Smp) : Option Nat := (List.range l.length).find? (hitM l x)
def findI (l : List Smp) (x : Smp) : Int := match findM l x with | some i => (i : Int) | none => -1
theorem findI_some {l : List Smp} {x : Smp} {k : Nat} (hk : k < l.length) (h : hitM l x k = true) (hal : ∀ j, j < k → hitM l x j = false) : findI l x = (k : Int) := by
  have : findM l x = some k := by
    unfold findM
    rw [List.find?_range_eq_some]
    exact ⟨h, by simpa using hk, fun j hj => by simp [hal j hj]⟩
  unfold findI
  rw [this]
theorem findI_none {l : List Smp} {x : Smp} {n : Nat} (hn : l.length = n) (hal : ∀ j, j < n → hitM l x j = false) : findI l x = -1 := by
  have : findM l x = none := by
    unfold findM
    rw [List.find?_range_eq_none]
    exact fun j hj => by simp [hal j (by omega)]
  unfold findI
  rw [this]

def FindRel (w : World) (l : List Smp) (x : Smp) (n : Nat) (i : Value) (wr : World) : Prop :=
  ∃ k : Nat, k ≤ n ∧ i = .int .i64 k ∧ (∀ j, j < k → hitM l x j = false) ∧ Below w.heap.size w wr

set_option maxHeartbeats 2000000 in
theorem l3Find (A : Option Addr) (n c : Nat) (l : List Smp) (gk pk : Nat) (k0 k1 k2 k3 : Int) (w : World) (ha : Rd eS w w.heap.size A l) (hn : l.length = n) (hm : n ≤ maxLen) (hk : S4 w gk pk k0 k1 k2 k3) (hgk : gk < w.heap.size) :
    Calls Tryz.prog 100 #[.slice A n c, .pointer (some ⟨gk, pk, none⟩)] w fun e w' => e = .returned (.int .i64 (findI l (k0, k1, k2, k3))) ∧ Below w.heap.size w w' := by
  have Hn := Lib.hid hn
  clear hn
  unfold maxLen at hm
  go_enter Tryz.func100, Tryz.ntmps100
  go_wp2
  go_loopw [5] (fun i wr => FindRel w l (k0, k1, k2, k3) n i wr) (fun i _ => n - (intOf i).toNat)
  case atStart => exact ⟨0, Nat.zero_le _, rfl, fun _ h => absurd h (by omega), Below.refl _ _⟩
  case round =>
    obtain ⟨k, hkn, rfl, hal, hbel⟩ := hrel
    have Hal := Lib.hid hal
    clear hal
    by_cases hlt : k < n
    · obtain ⟨g, o, a0, a1, a2, a3, rfl, hg, hx, ca⟩ := (ha.below hbel (Nat.le_refl _)).smp (k := k) (by rw [Hn.out]; exact hlt)
      have cb := hk.below hbel hgk
      have Hh := Lib.hid (hitM_at (x := (k0, k1, k2, k3)) hx)
      clear hx
      have hbd := hbel.drew
      go_wp2
      refine wp_region_mix [(0, false), (1, false), (2, false), (3, false), (4, false), (5, false), (6, false), (7, true)] (fun u => S4 u g (o + k * 4) a0 a1 a2 a3 ∧ S4 u gk pk k0 k1 k2 k3) (by kernel_rfl) (by kernel_rfl) (fun _ _ _ _ _ h => h) ⟨ca.drew, cb.drew⟩ ?_
      simp only [mixOps, List.map_cons, List.map_nil, List.getElem?_cons_succ, List.getElem?_cons_zero, Option.getD_some]
      repeat (first
        | (refine mix_skip (by rfl) ?_
           (try simp only [Act.put, List.setIfInBounds_toArray, List.set_cons_zero, List.set_cons_succ]))
        | (refine mix_pure (v := ?_) (by rfl) (fun u hu => ?_) ?_
           rotate_left
           · obtain ⟨⟨_, _, _, _⟩, _, _, _, _⟩ := hu
             go_simp
             (with_reducible rfl)
           (try simp only [Act.put, List.setIfInBounds_toArray, List.set_cons_zero, List.set_cons_succ])))
      refine mix_call (by rfl) (fun K hK => ?_)
      go_simp
      refine (specIsSameKey a0 a1 a2 a3 k0 k1 k2 k3 _).mono ?_
      rintro e w1 ⟨rfl, hb1⟩
      have hB1 := hbd.trans (hb1.mono hbd.size)
      refine hK _ _ _ (fun _ h => h) ⟨ca.drew.below hb1 (Nat.lt_of_lt_of_le hg hbd.size), cb.drew.below hb1 (Nat.lt_of_lt_of_le hgk hbd.size)⟩ ?_
      (try simp only [Act.put, List.setIfInBounds_toArray, List.set_cons_zero, List.set_cons_succ])
      rw [← Hh.out]
      refine mix_nil ?_
      rcases hs : hitM l (k0, k1, k2, k3) k
      · have Hs := Lib.hid hs
        clear hs
        go_wp2
        refine ⟨⟨k + 1, by omega, by go_num, fun j hj => ?_, hB1⟩, by simp [intOf]; omega⟩
        rcases Nat.lt_or_ge j k with h | h
        · exact Hal.out j h
        · obtain rfl : j = k := by omega
          exact Hs.out
      · have Hf := Lib.hid (findI_some (by rw [Hn.out]; exact hlt) hs Hal.out)
        clear hs
        go_wp2
        go_ret
        exact ⟨by rw [Hf.out]; rfl, hB1⟩
    · obtain rfl : n = k := by omega
      have Hf := Lib.hid (findI_none Hn.out Hal.out)
      go_wp2
      go_ret
      exact ⟨by rw [Hf.out]; rfl, hbel⟩

set_option maxHeartbeats 1000000 in
theorem l3Copy (A : Option Addr) (n c : Nat) (l : List Smp) (w : World) (ha : Rd eS w w.heap.size A l) (hn : l.length = n) (hm : n ≤ 1048576) :
    Calls Tryz.prog 97 #[.slice A n c] w fun e w' => ∃ A' c', e = .returned (.slice A' n c') ∧ Ow eS w' w.heap.size A' n c' l ∧ Below w.heap.size w w' := by
  have Hn := Lib.hid hn
  clear hn
  have B1 := (Below.refl w.heap.size w).alloc (Nat.le_refl _) (.cells #[] 25)
  have a1 := ha.lift B1
  have o1 : Ow eS (w.alloc (.cells #[] 25)) w.heap.size (some ⟨w.heap.size, 0, none⟩) 0 0 [] := Ow.lit w [] #[] 0 (Nat.le_refl _) (by unfold maxLen; omega) rfl rfl
  go_enter Tryz.func97, Tryz.ntmps97
  go_wp2_with (at_builtin; refine wpList_append_ow okS _ rfl (.tmp 3) (.tmp 4) _ rfl w.heap.size info_smp Tryz.underlying36 rfl (some ⟨w.heap.size, 0, none⟩) 0 0 [] rfl o1 A n c _ l rfl a1 Hn.out (by unfold maxLen; omega) (by omega) (by simp) ?_; intro A2 c2 w2 ow2 hg2 _)
  have B2 : Below w.heap.size w w2 := B1.grown hg2 (by simp) (fun g hg => by simp at hg; omega)
  rw [Nat.zero_add, List.nil_append] at ow2
  go_ret
  refine ⟨A2, c2, ?_, ow2, B2⟩
  simp
end Go.Proofs.YtmaillakhhdkfaaGreatDoor
/-
  The model's faults of a state.
-/
namespace Go.Proofs.YtmaillakhhdkfaaGreatDoor
set_option maxRecDepth 20000
open Go.RowKit
set_option linter.unusedSimpArgs false
set_option linter.unusedVariables false

theorem stateFault_store {s : Sta} {z : Int} (h : storeFaultM s.1 = z) (k : z ≠ 0) : stateFaultM s = z := by unfold stateFaultM; rw [h, if_pos k]
theorem stateFault_hints {s : Sta} {z : Int} (h : storeFaultM s.1 = 0) (h2 : hintsFaultM s.2.1 = z) (k : z ≠ 0) : stateFaultM s = z := by unfold stateFaultM; rw [h, if_neg (by simp), h2, if_pos k]
theorem stateFault_life {s : Sta} {b : Bool} (h : storeFaultM s.1 = 0) (h2 : hintsFaultM s.2.1 = 0) (h3 : inB (s.2.2, 0, 60000) = b) : stateFaultM s = if b then 0 else 3 := by
  unfold stateFaultM
  rw [h, if_neg (by simp), h2, if_neg (by simp), h3]

set_option maxHeartbeats 4000000 in
theorem specStateFault (A B : Option Addr) (n c m d : Nat) (l : List Smp) (h : List Hnt) (life : Int) (w : World) (ha : Rd eS w w.heap.size A l) (hb : Rd eH w w.heap.size B h) (hn : l.length = n) (hm : h.length = m) :
    Calls Tryz.prog 21 #[.agg #[.slice A n c, .slice B m d, .int .i64 life]] w fun e w' => e = .returned (.int .i64 (stateFaultM (l, h, life))) ∧ Below w.heap.size w w' := by
  have hB0 : Below w.heap.size w (w.alloc (.cells #[.slice A n c, .slice B m d, .int .i64 life] 39)) := (Below.refl _ _).alloc (Nat.le_refl _) _
  have r0 := At.new w 39 #[.slice A n c, .slice B m d, .int .i64 life]
  obtain ⟨c0, c1, c2, _, _, _⟩ := r0.three
  have SF := specStoreFault A n c l _ (ha.lift hB0) hn
  have hb0 := hb.lift hB0
  obtain ⟨sf, hsf⟩ : ∃ z, storeFaultM l = z := ⟨_, rfl⟩
  obtain ⟨hf, hhf⟩ : ∃ z, hintsFaultM h = z := ⟨_, rfl⟩
  rw [hsf] at SF
  by_cases k1 : sf = 0
  rotate_left
  · have Hr := Lib.hid (stateFault_store (s := (l, h, life)) hsf k1)
    have b1 : (sf != 0) = true := by simpa using k1
    clear hsf hhf k1 ha hb hn hm
    go_enter Tryz.func21, Tryz.ntmps21
    go_wp2_with (go_at_call 65; refine SF.mono ?_; rintro e w1 ⟨rfl, hb1⟩)
    go_ret
    exact ⟨by rw [Hr.out]; try rfl, hB0.trans (hb1.mono hB0.size)⟩
  subst k1
  have HF := fun W (hW : Below (w.alloc (.cells #[.slice A n c, .slice B m d, .int .i64 life] 39)).heap.size _ W) => specHintsFault B m d h W (hb0.lift hW) hm
  rw [hhf] at HF
  by_cases k2 : hf = 0
  rotate_left
  · have Hr := Lib.hid (stateFault_hints (s := (l, h, life)) hsf hhf k2)
    have b1 : (hf != 0) = true := by simpa using k2
    clear hsf hhf k2 ha hb hn hm hb0
    go_enter Tryz.func21, Tryz.ntmps21
    go_wp2_with fail
    refine SF.mono ?_
    rintro e w1 ⟨rfl, hb1⟩
    have r1 := r0.below hb1 r0.lt
    obtain ⟨e0, e1, e2, _, _, _⟩ := r1.three
    go_wp2_with fail
    refine (HF w1 hb1).mono ?_
    rintro e w2 ⟨rfl, hb2⟩
    go_wp2
    go_ret
    exact ⟨by rw [Hr.out]; try rfl, (hB0.trans (hb1.mono hB0.size)).trans (hb2.mono (hB0.trans (hb1.mono hB0.size)).size)⟩
  subst k2
  rcases h3 : inB (life, 0, 60000)
  all_goals
    have Hr := Lib.hid (stateFault_life (s := (l, h, life)) hsf hhf h3)
    have H3 := Lib.hid h3
    clear hsf hhf h3 ha hb hn hm hb0
    go_enter Tryz.func21, Tryz.ntmps21
    go_wp2_with fail
    refine SF.mono ?_
    rintro e w1 ⟨rfl, hb1⟩
    have r1 := r0.below hb1 r0.lt
    obtain ⟨e0, e1, e2, _, _, _⟩ := r1.three
    go_wp2_with fail
    refine (HF w1 hb1).mono ?_
    rintro e w2 ⟨rfl, hb2⟩
    have r2 := r1.below hb2 r1.lt
    obtain ⟨g0, g1, g2, _, _, _⟩ := r2.three
    go_wp2_with fail
    refine (l1In_any life 0 60000 w2).mono ?_
    rintro e w3 ⟨rfl, rfl⟩
    rw [H3.out]
    go_wp2
    go_ret
    exact ⟨by rw [Hr.out]; rfl, (hB0.trans (hb1.mono hB0.size)).trans (hb2.mono (hB0.trans (hb1.mono hB0.size)).size)⟩
end Go.Proofs.YtmaillakhhdkfaaGreatDoor
