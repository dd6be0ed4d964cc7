/-
  Texts of one proof, joined: each has its own namespace.
-/
import Derived.Test.YteiclanlhnccnaaGreatDoorBExApplyRecord10
import Derived.Test.YteiclanlhnccnaaGreatDoorBExApplyRecord0
import Derived.Handy
import Derived.Test.YteiclanlhnccnaaGreatDoorBExApplyRecord2
import Derived.Maps.Own
import Derived.Test.YteiclanlhnccnaaGreatDoorBExApplyRecord11
import Derived.Test.YteiclanlhnccnaaGreatDoorBExApplyRecord3
/-
  A record as an entry of its own kind: the program's.
-/
namespace Go.Proofs.YteiclanlhnccnaaGreatDoor
set_option maxRecDepth 20000
open Go.RowKit
set_option linter.unusedSimpArgs false
set_option linter.unusedVariables false

/-- The entry of a record; nil where the record has not the form of its kind. -/
def entV (r : Rcd) : Value := if recFormM r = true then (if r.1 = 1 then .iface 104 (.agg #[.int .i64 r.2.2.1.1, .int .i64 r.2.2.1.2.1, .int .i64 r.2.2.1.2.2.1, .int .i64 r.2.2.1.2.2.2]) else if r.1 = 2 then .iface 107 (.agg #[.int .i64 r.2.1, .int .i64 r.2.2.1.1, .int .i64 r.2.2.1.2.1, .int .i64 r.2.2.1.2.2.1, .int .i64 r.2.2.1.2.2.2]) else if r.1 = 3 then .iface 110 (.agg #[.int .i64 r.2.1, .int .i64 r.2.2.2]) else .iface 115 (.agg #[.int .i64 r.2.2.2])) else .nilIface
theorem entV_no {r : Rcd} (h : recFormM r = false) : entV r = .nilIface := by unfold entV; rw [if_neg (by simp [h])]
theorem entV_1 {a1 a2 a3 a4 a5 a6 : Int} (h : recFormM (1, a1, (a2, a3, a4, a5), a6) = true) : entV (1, a1, (a2, a3, a4, a5), a6) = .iface 104 (.agg #[.int .i64 a2, .int .i64 a3, .int .i64 a4, .int .i64 a5]) := by unfold entV; rw [if_pos h, if_pos rfl]
theorem entV_2 {a1 a2 a3 a4 a5 a6 : Int} (h : recFormM (2, a1, (a2, a3, a4, a5), a6) = true) : entV (2, a1, (a2, a3, a4, a5), a6) = .iface 107 (.agg #[.int .i64 a1, .int .i64 a2, .int .i64 a3, .int .i64 a4, .int .i64 a5]) := by unfold entV; rw [if_pos h, if_neg (show ¬ ((2 : Int) = 1) by decide), if_pos rfl]
theorem entV_3 {a1 a2 a3 a4 a5 a6 : Int} (h : recFormM (3, a1, (a2, a3, a4, a5), a6) = true) : entV (3, a1, (a2, a3, a4, a5), a6) = .iface 110 (.agg #[.int .i64 a1, .int .i64 a6]) := by unfold entV; rw [if_pos h, if_neg (show ¬ ((3 : Int) = 1) by decide), if_neg (show ¬ ((3 : Int) = 2) by decide), if_pos rfl]
theorem entV_4 {a1 a2 a3 a4 a5 a6 : Int} (h : recFormM (4, a1, (a2, a3, a4, a5), a6) = true) : entV (4, a1, (a2, a3, a4, a5), a6) = .iface 115 (.agg #[.int .i64 a6]) := by unfold entV; rw [if_pos h, if_neg (show ¬ ((4 : Int) = 1) by decide), if_neg (show ¬ ((4 : Int) = 2) by decide), if_neg (show ¬ ((4 : Int) = 3) by decide)]
theorem neqR1 (a1 a2 a3 a4 a5 a6 : Int) (u : World) : (binOp .neq 27 (.agg #[.int .i64 1, .int .i64 0, .int .i64 a2, .int .i64 a3, .int .i64 a4, .int .i64 a5, .int .i64 0]) (.agg #[.int .i64 1, .int .i64 a1, .int .i64 a2, .int .i64 a3, .int .i64 a4, .int .i64 a5, .int .i64 a6])).run Tryz.prog u = .ok (.bool (!(recFormM (1, a1, (a2, a3, a4, a5), a6)))) u := by
  have e : recFormM (1, a1, (a2, a3, a4, a5), a6) = ((decide (a1 = 0) && (decide (a6 = 0)))) := by unfold recFormM formM; simp [Bool.decide_and]
  rw [e]
  clear e
  go_simp
  by_cases ha1 : a1 = 0
  rotate_left
  · have ga1 : ¬ (0 : Int) = a1 := fun q => ha1 q.symm
    simp [ha1, ga1]
  by_cases ha6 : a6 = 0
  rotate_left
  · have ga6 : ¬ (0 : Int) = a6 := fun q => ha6 q.symm
    simp [ha1, ha6, ga6]
  · simp [ha1, ha6]
theorem neqR2 (a1 a2 a3 a4 a5 a6 : Int) (u : World) : (binOp .neq 27 (.agg #[.int .i64 2, .int .i64 a1, .int .i64 a2, .int .i64 a3, .int .i64 a4, .int .i64 a5, .int .i64 0]) (.agg #[.int .i64 2, .int .i64 a1, .int .i64 a2, .int .i64 a3, .int .i64 a4, .int .i64 a5, .int .i64 a6])).run Tryz.prog u = .ok (.bool (!(recFormM (2, a1, (a2, a3, a4, a5), a6)))) u := by
  have e : recFormM (2, a1, (a2, a3, a4, a5), a6) = ((decide (a6 = 0))) := by unfold recFormM formM; simp [Bool.decide_and]
  rw [e]
  clear e
  go_simp
  by_cases ha6 : a6 = 0
  rotate_left
  · have ga6 : ¬ (0 : Int) = a6 := fun q => ha6 q.symm
    simp [ha6, ga6]
  · simp [ha6]
theorem neqR3 (a1 a2 a3 a4 a5 a6 : Int) (u : World) : (binOp .neq 27 (.agg #[.int .i64 3, .int .i64 a1, .int .i64 0, .int .i64 0, .int .i64 0, .int .i64 0, .int .i64 a6]) (.agg #[.int .i64 3, .int .i64 a1, .int .i64 a2, .int .i64 a3, .int .i64 a4, .int .i64 a5, .int .i64 a6])).run Tryz.prog u = .ok (.bool (!(recFormM (3, a1, (a2, a3, a4, a5), a6)))) u := by
  have e : recFormM (3, a1, (a2, a3, a4, a5), a6) = ((decide (a2 = 0) && (decide (a3 = 0) && (decide (a4 = 0) && (decide (a5 = 0)))))) := by unfold recFormM formM; simp [Bool.decide_and]
  rw [e]
  clear e
  go_simp
  by_cases ha2 : a2 = 0
  rotate_left
  · have ga2 : ¬ (0 : Int) = a2 := fun q => ha2 q.symm
    simp [ha2, ga2]
  by_cases ha3 : a3 = 0
  rotate_left
  · have ga3 : ¬ (0 : Int) = a3 := fun q => ha3 q.symm
    simp [ha2, ha3, ga3]
  by_cases ha4 : a4 = 0
  rotate_left
  · have ga4 : ¬ (0 : Int) = a4 := fun q => ha4 q.symm
    simp [ha2, ha3, ha4, ga4]
  by_cases ha5 : a5 = 0
  rotate_left
  · have ga5 : ¬ (0 : Int) = a5 := fun q => ha5 q.symm
    simp [ha2, ha3, ha4, ha5, ga5]
  · simp [ha2, ha3, ha4, ha5]
theorem neqR4 (a1 a2 a3 a4 a5 a6 : Int) (u : World) : (binOp .neq 27 (.agg #[.int .i64 4, .int .i64 0, .int .i64 0, .int .i64 0, .int .i64 0, .int .i64 0, .int .i64 a6]) (.agg #[.int .i64 4, .int .i64 a1, .int .i64 a2, .int .i64 a3, .int .i64 a4, .int .i64 a5, .int .i64 a6])).run Tryz.prog u = .ok (.bool (!(recFormM (4, a1, (a2, a3, a4, a5), a6)))) u := by
  have e : recFormM (4, a1, (a2, a3, a4, a5), a6) = ((decide (a1 = 0) && (decide (a2 = 0) && (decide (a3 = 0) && (decide (a4 = 0) && (decide (a5 = 0))))))) := by unfold recFormM formM; simp [Bool.decide_and]
  rw [e]
  clear e
  go_simp
  by_cases ha1 : a1 = 0
  rotate_left
  · have ga1 : ¬ (0 : Int) = a1 := fun q => ha1 q.symm
    simp [ha1, ga1]
  by_cases ha2 : a2 = 0
  rotate_left
  · have ga2 : ¬ (0 : Int) = a2 := fun q => ha2 q.symm
    simp [ha1, ha2, ga2]
  by_cases ha3 : a3 = 0
  rotate_left
  · have ga3 : ¬ (0 : Int) = a3 := fun q => ha3 q.symm
    simp [ha1, ha2, ha3, ga3]
  by_cases ha4 : a4 = 0
  rotate_left
  · have ga4 : ¬ (0 : Int) = a4 := fun q => ha4 q.symm
    simp [ha1, ha2, ha3, ha4, ga4]
  by_cases ha5 : a5 = 0
  rotate_left
  · have ga5 : ¬ (0 : Int) = a5 := fun q => ha5 q.symm
    simp [ha1, ha2, ha3, ha4, ha5, ga5]
  · simp [ha1, ha2, ha3, ha4, ha5]
set_option maxHeartbeats 1000000 in
theorem recOf1 (a2 a3 a4 a5 : Int) (w : World) :
    Calls Tryz.prog 228 #[.agg #[.int .i64 a2, .int .i64 a3, .int .i64 a4, .int .i64 a5]] w fun e w' => e = .returned (.agg #[.int .i64 1, .int .i64 0, .int .i64 a2, .int .i64 a3, .int .i64 a4, .int .i64 a5, .int .i64 0]) ∧ Below w.heap.size w w' := by
  have hB0 : Below w.heap.size w ((w.alloc (.cells #[.int .i64 a2, .int .i64 a3, .int .i64 a4, .int .i64 a5] 104)).alloc (.cells #[.int .i64 0, .int .i64 0, .int .i64 0, .int .i64 0, .int .i64 0, .int .i64 0, .int .i64 0] 27)) := ((Below.refl _ _).alloc (Nat.le_refl _) _).alloc (by simp) _
  go_enter Tryz.func228, Tryz.ntmps228
  go_wp2
  refine bodyPost_ret (v := .agg #[.int .i64 1, .int .i64 0, .int .i64 a2, .int .i64 a3, .int .i64 a4, .int .i64 a5, .int .i64 0]) (by simp [results, Tryz.results228, go_sem]) rfl ?_
  exact ⟨rfl, by repeat (first | exact Below.refl _ _ | refine Below.setCell ?_ (by simp) _ | refine Below.alloc ?_ (by simp) _)⟩
set_option maxHeartbeats 1000000 in
theorem recOf2 (a1 a2 a3 a4 a5 : Int) (w : World) :
    Calls Tryz.prog 229 #[.agg #[.int .i64 a1, .int .i64 a2, .int .i64 a3, .int .i64 a4, .int .i64 a5]] w fun e w' => e = .returned (.agg #[.int .i64 2, .int .i64 a1, .int .i64 a2, .int .i64 a3, .int .i64 a4, .int .i64 a5, .int .i64 0]) ∧ Below w.heap.size w w' := by
  have hB0 : Below w.heap.size w ((w.alloc (.cells #[.int .i64 a1, .int .i64 a2, .int .i64 a3, .int .i64 a4, .int .i64 a5] 107)).alloc (.cells #[.int .i64 0, .int .i64 0, .int .i64 0, .int .i64 0, .int .i64 0, .int .i64 0, .int .i64 0] 27)) := ((Below.refl _ _).alloc (Nat.le_refl _) _).alloc (by simp) _
  go_enter Tryz.func229, Tryz.ntmps229
  go_wp2
  refine bodyPost_ret (v := .agg #[.int .i64 2, .int .i64 a1, .int .i64 a2, .int .i64 a3, .int .i64 a4, .int .i64 a5, .int .i64 0]) (by simp [results, Tryz.results229, go_sem]) rfl ?_
  exact ⟨rfl, by repeat (first | exact Below.refl _ _ | refine Below.setCell ?_ (by simp) _ | refine Below.alloc ?_ (by simp) _)⟩
set_option maxHeartbeats 1000000 in
theorem recOf3 (a1 a6 : Int) (w : World) :
    Calls Tryz.prog 230 #[.agg #[.int .i64 a1, .int .i64 a6]] w fun e w' => e = .returned (.agg #[.int .i64 3, .int .i64 a1, .int .i64 0, .int .i64 0, .int .i64 0, .int .i64 0, .int .i64 a6]) ∧ Below w.heap.size w w' := by
  have hB0 : Below w.heap.size w ((w.alloc (.cells #[.int .i64 a1, .int .i64 a6] 110)).alloc (.cells #[.int .i64 0, .int .i64 0, .int .i64 0, .int .i64 0, .int .i64 0, .int .i64 0, .int .i64 0] 27)) := ((Below.refl _ _).alloc (Nat.le_refl _) _).alloc (by simp) _
  go_enter Tryz.func230, Tryz.ntmps230
  go_wp2
  refine bodyPost_ret (v := .agg #[.int .i64 3, .int .i64 a1, .int .i64 0, .int .i64 0, .int .i64 0, .int .i64 0, .int .i64 a6]) (by simp [results, Tryz.results230, go_sem]) rfl ?_
  exact ⟨rfl, by repeat (first | exact Below.refl _ _ | refine Below.setCell ?_ (by simp) _ | refine Below.alloc ?_ (by simp) _)⟩
set_option maxHeartbeats 1000000 in
theorem recOf4 (a6 : Int) (w : World) :
    Calls Tryz.prog 231 #[.agg #[.int .i64 a6]] w fun e w' => e = .returned (.agg #[.int .i64 4, .int .i64 0, .int .i64 0, .int .i64 0, .int .i64 0, .int .i64 0, .int .i64 a6]) ∧ Below w.heap.size w w' := by
  have hB0 : Below w.heap.size w ((w.alloc (.cells #[.int .i64 a6] 115)).alloc (.cells #[.int .i64 0, .int .i64 0, .int .i64 0, .int .i64 0, .int .i64 0, .int .i64 0, .int .i64 0] 27)) := ((Below.refl _ _).alloc (Nat.le_refl _) _).alloc (by simp) _
  go_enter Tryz.func231, Tryz.ntmps231
  go_wp2
  refine bodyPost_ret (v := .agg #[.int .i64 4, .int .i64 0, .int .i64 0, .int .i64 0, .int .i64 0, .int .i64 0, .int .i64 a6]) (by simp [results, Tryz.results231, go_sem]) rfl ?_
  exact ⟨rfl, by repeat (first | exact Below.refl _ _ | refine Below.setCell ?_ (by simp) _ | refine Below.alloc ?_ (by simp) _)⟩
theorem as0_1 (w : World) : (Instr.typeAssert .nilIface 80 104 true).run Tryz.prog w = .ok (.tuple #[.agg #[.int .i64 0, .int .i64 0, .int .i64 0, .int .i64 0], .bool false]) w := by kernel_rfl
theorem as0_2 (w : World) : (Instr.typeAssert .nilIface 80 107 true).run Tryz.prog w = .ok (.tuple #[.agg #[.int .i64 0, .int .i64 0, .int .i64 0, .int .i64 0, .int .i64 0], .bool false]) w := by kernel_rfl
theorem as0_3 (w : World) : (Instr.typeAssert .nilIface 80 110 true).run Tryz.prog w = .ok (.tuple #[.agg #[.int .i64 0, .int .i64 0], .bool false]) w := by kernel_rfl
theorem as0_4 (w : World) : (Instr.typeAssert .nilIface 80 115 true).run Tryz.prog w = .ok (.tuple #[.agg #[.int .i64 0], .bool false]) w := by kernel_rfl
theorem as1_1 (v : Value) (w : World) : (Instr.typeAssert (.iface 104 v) 80 104 true).run Tryz.prog w = .ok (.tuple #[v, .bool true]) w := by kernel_rfl
theorem as1_2 (v : Value) (w : World) : (Instr.typeAssert (.iface 104 v) 80 107 true).run Tryz.prog w = .ok (.tuple #[.agg #[.int .i64 0, .int .i64 0, .int .i64 0, .int .i64 0, .int .i64 0], .bool false]) w := by kernel_rfl
theorem as1_3 (v : Value) (w : World) : (Instr.typeAssert (.iface 104 v) 80 110 true).run Tryz.prog w = .ok (.tuple #[.agg #[.int .i64 0, .int .i64 0], .bool false]) w := by kernel_rfl
theorem as1_4 (v : Value) (w : World) : (Instr.typeAssert (.iface 104 v) 80 115 true).run Tryz.prog w = .ok (.tuple #[.agg #[.int .i64 0], .bool false]) w := by kernel_rfl
theorem as2_1 (v : Value) (w : World) : (Instr.typeAssert (.iface 107 v) 80 104 true).run Tryz.prog w = .ok (.tuple #[.agg #[.int .i64 0, .int .i64 0, .int .i64 0, .int .i64 0], .bool false]) w := by kernel_rfl
theorem as2_2 (v : Value) (w : World) : (Instr.typeAssert (.iface 107 v) 80 107 true).run Tryz.prog w = .ok (.tuple #[v, .bool true]) w := by kernel_rfl
theorem as2_3 (v : Value) (w : World) : (Instr.typeAssert (.iface 107 v) 80 110 true).run Tryz.prog w = .ok (.tuple #[.agg #[.int .i64 0, .int .i64 0], .bool false]) w := by kernel_rfl
theorem as2_4 (v : Value) (w : World) : (Instr.typeAssert (.iface 107 v) 80 115 true).run Tryz.prog w = .ok (.tuple #[.agg #[.int .i64 0], .bool false]) w := by kernel_rfl
theorem as3_1 (v : Value) (w : World) : (Instr.typeAssert (.iface 110 v) 80 104 true).run Tryz.prog w = .ok (.tuple #[.agg #[.int .i64 0, .int .i64 0, .int .i64 0, .int .i64 0], .bool false]) w := by kernel_rfl
theorem as3_2 (v : Value) (w : World) : (Instr.typeAssert (.iface 110 v) 80 107 true).run Tryz.prog w = .ok (.tuple #[.agg #[.int .i64 0, .int .i64 0, .int .i64 0, .int .i64 0, .int .i64 0], .bool false]) w := by kernel_rfl
theorem as3_3 (v : Value) (w : World) : (Instr.typeAssert (.iface 110 v) 80 110 true).run Tryz.prog w = .ok (.tuple #[v, .bool true]) w := by kernel_rfl
theorem as3_4 (v : Value) (w : World) : (Instr.typeAssert (.iface 110 v) 80 115 true).run Tryz.prog w = .ok (.tuple #[.agg #[.int .i64 0], .bool false]) w := by kernel_rfl
theorem as4_1 (v : Value) (w : World) : (Instr.typeAssert (.iface 115 v) 80 104 true).run Tryz.prog w = .ok (.tuple #[.agg #[.int .i64 0, .int .i64 0, .int .i64 0, .int .i64 0], .bool false]) w := by kernel_rfl
theorem as4_2 (v : Value) (w : World) : (Instr.typeAssert (.iface 115 v) 80 107 true).run Tryz.prog w = .ok (.tuple #[.agg #[.int .i64 0, .int .i64 0, .int .i64 0, .int .i64 0, .int .i64 0], .bool false]) w := by kernel_rfl
theorem as4_3 (v : Value) (w : World) : (Instr.typeAssert (.iface 115 v) 80 110 true).run Tryz.prog w = .ok (.tuple #[.agg #[.int .i64 0, .int .i64 0], .bool false]) w := by kernel_rfl
theorem as4_4 (v : Value) (w : World) : (Instr.typeAssert (.iface 115 v) 80 115 true).run Tryz.prog w = .ok (.tuple #[v, .bool true]) w := by kernel_rfl

set_option maxHeartbeats 4000000 in
theorem entryOf (a0 a1 a2 a3 a4 a5 a6 : Int) (w : World) :
    Calls Tryz.prog 47 #[.agg #[.int .i64 a0, .int .i64 a1, .int .i64 a2, .int .i64 a3, .int .i64 a4, .int .i64 a5, .int .i64 a6]] w fun e w' => e = .returned (entV (a0, a1, (a2, a3, a4, a5), a6)) ∧ Below w.heap.size w w' := by
  have hB0 : Below w.heap.size w (w.alloc (.cells #[.int .i64 a0, .int .i64 a1, .int .i64 a2, .int .i64 a3, .int .i64 a4, .int .i64 a5, .int .i64 a6] 27)) := (Below.refl _ _).alloc (Nat.le_refl _) _
  have r0 := At.new w 27 #[.int .i64 a0, .int .i64 a1, .int .i64 a2, .int .i64 a3, .int .i64 a4, .int .i64 a5, .int .i64 a6]
  obtain ⟨c0, c1, c2, c3, c4, c5, c6⟩ := r0.seven
  by_cases k1 : a0 = 1
  rotate_left
  by_cases k2 : a0 = 2
  rotate_left
  by_cases k3 : a0 = 3
  rotate_left
  by_cases k4 : a0 = 4
  rotate_left
  · have b1 : (a0 == 1) = false := by simpa using k1
    have b2 : (a0 == 2) = false := by simpa using k2
    have b3 : (a0 == 3) = false := by simpa using k3
    have b4 : (a0 == 4) = false := by simpa using k4
    have Hr := Lib.hid (entV_no (r := (a0, a1, (a2, a3, a4, a5), a6)) (by unfold recFormM; rw [if_neg k1, if_neg k2, if_neg k3, if_neg k4]))
    clear k1 k2 k3 k4
    go_enter Tryz.func47, Tryz.ntmps47
    go_wp2
    refine wp_region_mix [(0, false), (1, false), (2, false), (3, false), (5, false), (4, true), (6, false), (7, false)] (fun u => At u w.heap.size 27 #[.int .i64 a0, .int .i64 a1, .int .i64 a2, .int .i64 a3, .int .i64 a4, .int .i64 a5, .int .i64 a6]) (by kernel_rfl) (by kernel_rfl) (fun _ _ _ _ _ h => h) r0.drew ?_
    simp only [mixOps, List.map_cons, List.map_nil, List.getElem?_cons_succ, List.getElem?_cons_zero, Option.getD_some]
    repeat (first
      | (refine mix_skip (by rfl) ?_
         (try simp only [Act.put, List.setIfInBounds_toArray, List.set_cons_zero, List.set_cons_succ]))
      | (refine mix_pure (v := ?_) (by rfl) (fun u hu => ?_) ?_
         rotate_left
         · obtain ⟨_, _, _, _, _, _, _⟩ := hu.seven
           go_simp
           (with_reducible rfl)
         (try simp only [Act.put, List.setIfInBounds_toArray, List.set_cons_zero, List.set_cons_succ])))
    refine mix_nil ?_
    go_wp2
    go_ret
    exact ⟨by rw [Hr.out]; rfl, hB0.drew⟩
  · subst k1
    have NQ := neqR1 a1 a2 a3 a4 a5 a6
    rcases hf : recFormM (1, a1, (a2, a3, a4, a5), a6)
    · have Hr := Lib.hid (entV_no hf)
      rw [hf] at NQ
      clear hf
      go_enter Tryz.func47, Tryz.ntmps47
      go_wp2
      refine wp_region_mix [(0, false), (1, false), (2, false), (3, false), (5, false), (4, true), (6, false), (7, false)] (fun u => At u w.heap.size 27 #[.int .i64 1, .int .i64 a1, .int .i64 a2, .int .i64 a3, .int .i64 a4, .int .i64 a5, .int .i64 a6]) (by kernel_rfl) (by kernel_rfl) (fun _ _ _ _ _ h => h) r0.drew ?_
      simp only [mixOps, List.map_cons, List.map_nil, List.getElem?_cons_succ, List.getElem?_cons_zero, Option.getD_some]
      repeat (first
        | (refine mix_skip (by rfl) ?_
           (try simp only [Act.put, List.setIfInBounds_toArray, List.set_cons_zero, List.set_cons_succ]))
        | (refine mix_pure (v := ?_) (by rfl) (fun u hu => ?_) ?_
           rotate_left
           · obtain ⟨_, _, _, _, _, _, _⟩ := hu.seven
             go_simp
             (with_reducible rfl)
           (try simp only [Act.put, List.setIfInBounds_toArray, List.set_cons_zero, List.set_cons_succ])))
      refine mix_call (by rfl) (fun K hK => ?_)
      go_simp
      go_upon
      refine (recOf1 a2 a3 a4 a5 _).mono ?_
      rintro e w1 ⟨rfl, hb1⟩
      have hB1 := hB0.drew.trans (hb1.mono hB0.drew.size)
      have r1 := r0.drew.below hb1 r0.drew.lt
      refine hK _ _ (fun u => At u w.heap.size 27 #[.int .i64 1, .int .i64 a1, .int .i64 a2, .int .i64 a3, .int .i64 a4, .int .i64 a5, .int .i64 a6]) (fun _ h => h) r1 ?_
      clear hK K
      (try simp only [Act.put, List.setIfInBounds_toArray, List.set_cons_zero, List.set_cons_succ])
      repeat (first
        | (refine mix_skip (by rfl) ?_
           (try simp only [Act.put, List.setIfInBounds_toArray, List.set_cons_zero, List.set_cons_succ]))
        | (refine mix_pure (v := ?_) (by rfl) (fun u hu => ?_) ?_
           rotate_left
           · go_simp
             (with_reducible rfl)
           (try simp only [Act.put, List.setIfInBounds_toArray, List.set_cons_zero, List.set_cons_succ])))
      refine mix_nil ?_
      go_wp2
      go_ret
      exact ⟨by rw [Hr.out]; rfl, hB1⟩
    · have Hr := Lib.hid (entV_1 hf)
      rw [hf] at NQ
      clear hf
      go_enter Tryz.func47, Tryz.ntmps47
      go_wp2
      refine wp_region_mix [(0, false), (1, false), (2, false), (3, false), (5, false), (4, true), (6, false), (7, false)] (fun u => At u w.heap.size 27 #[.int .i64 1, .int .i64 a1, .int .i64 a2, .int .i64 a3, .int .i64 a4, .int .i64 a5, .int .i64 a6]) (by kernel_rfl) (by kernel_rfl) (fun _ _ _ _ _ h => h) r0.drew ?_
      simp only [mixOps, List.map_cons, List.map_nil, List.getElem?_cons_succ, List.getElem?_cons_zero, Option.getD_some]
      repeat (first
        | (refine mix_skip (by rfl) ?_
           (try simp only [Act.put, List.setIfInBounds_toArray, List.set_cons_zero, List.set_cons_succ]))
        | (refine mix_pure (v := ?_) (by rfl) (fun u hu => ?_) ?_
           rotate_left
           · obtain ⟨_, _, _, _, _, _, _⟩ := hu.seven
             go_simp
             (with_reducible rfl)
           (try simp only [Act.put, List.setIfInBounds_toArray, List.set_cons_zero, List.set_cons_succ])))
      refine mix_call (by rfl) (fun K hK => ?_)
      go_simp
      go_upon
      refine (recOf1 a2 a3 a4 a5 _).mono ?_
      rintro e w1 ⟨rfl, hb1⟩
      have hB1 := hB0.drew.trans (hb1.mono hB0.drew.size)
      have r1 := r0.drew.below hb1 r0.drew.lt
      refine hK _ _ (fun u => At u w.heap.size 27 #[.int .i64 1, .int .i64 a1, .int .i64 a2, .int .i64 a3, .int .i64 a4, .int .i64 a5, .int .i64 a6]) (fun _ h => h) r1 ?_
      clear hK K
      (try simp only [Act.put, List.setIfInBounds_toArray, List.set_cons_zero, List.set_cons_succ])
      repeat (first
        | (refine mix_skip (by rfl) ?_
           (try simp only [Act.put, List.setIfInBounds_toArray, List.set_cons_zero, List.set_cons_succ]))
        | (refine mix_pure (v := ?_) (by rfl) (fun u hu => ?_) ?_
           rotate_left
           · go_simp
             (with_reducible rfl)
           (try simp only [Act.put, List.setIfInBounds_toArray, List.set_cons_zero, List.set_cons_succ])))
      refine mix_nil ?_
      go_wp2
      go_ret
      exact ⟨by rw [Hr.out]; rfl, hB1⟩
  · subst k2
    clear k1
    have NQ := neqR2 a1 a2 a3 a4 a5 a6
    rcases hf : recFormM (2, a1, (a2, a3, a4, a5), a6)
    · have Hr := Lib.hid (entV_no hf)
      rw [hf] at NQ
      clear hf
      go_enter Tryz.func47, Tryz.ntmps47
      go_wp2
      refine wp_region_mix [(0, false), (1, false), (2, false), (3, false), (5, false), (4, true), (6, false), (7, false)] (fun u => At u w.heap.size 27 #[.int .i64 2, .int .i64 a1, .int .i64 a2, .int .i64 a3, .int .i64 a4, .int .i64 a5, .int .i64 a6]) (by kernel_rfl) (by kernel_rfl) (fun _ _ _ _ _ h => h) r0.drew ?_
      simp only [mixOps, List.map_cons, List.map_nil, List.getElem?_cons_succ, List.getElem?_cons_zero, Option.getD_some]
      repeat (first
        | (refine mix_skip (by rfl) ?_
           (try simp only [Act.put, List.setIfInBounds_toArray, List.set_cons_zero, List.set_cons_succ]))
        | (refine mix_pure (v := ?_) (by rfl) (fun u hu => ?_) ?_
           rotate_left
           · obtain ⟨_, _, _, _, _, _, _⟩ := hu.seven
             go_simp
             (with_reducible rfl)
           (try simp only [Act.put, List.setIfInBounds_toArray, List.set_cons_zero, List.set_cons_succ])))
      refine mix_call (by rfl) (fun K hK => ?_)
      go_simp
      go_upon
      refine (recOf2 a1 a2 a3 a4 a5 _).mono ?_
      rintro e w1 ⟨rfl, hb1⟩
      have hB1 := hB0.drew.trans (hb1.mono hB0.drew.size)
      have r1 := r0.drew.below hb1 r0.drew.lt
      refine hK _ _ (fun u => At u w.heap.size 27 #[.int .i64 2, .int .i64 a1, .int .i64 a2, .int .i64 a3, .int .i64 a4, .int .i64 a5, .int .i64 a6]) (fun _ h => h) r1 ?_
      clear hK K
      (try simp only [Act.put, List.setIfInBounds_toArray, List.set_cons_zero, List.set_cons_succ])
      repeat (first
        | (refine mix_skip (by rfl) ?_
           (try simp only [Act.put, List.setIfInBounds_toArray, List.set_cons_zero, List.set_cons_succ]))
        | (refine mix_pure (v := ?_) (by rfl) (fun u hu => ?_) ?_
           rotate_left
           · go_simp
             (with_reducible rfl)
           (try simp only [Act.put, List.setIfInBounds_toArray, List.set_cons_zero, List.set_cons_succ])))
      refine mix_nil ?_
      go_wp2
      go_ret
      exact ⟨by rw [Hr.out]; rfl, hB1⟩
    · have Hr := Lib.hid (entV_2 hf)
      rw [hf] at NQ
      clear hf
      go_enter Tryz.func47, Tryz.ntmps47
      go_wp2
      refine wp_region_mix [(0, false), (1, false), (2, false), (3, false), (5, false), (4, true), (6, false), (7, false)] (fun u => At u w.heap.size 27 #[.int .i64 2, .int .i64 a1, .int .i64 a2, .int .i64 a3, .int .i64 a4, .int .i64 a5, .int .i64 a6]) (by kernel_rfl) (by kernel_rfl) (fun _ _ _ _ _ h => h) r0.drew ?_
      simp only [mixOps, List.map_cons, List.map_nil, List.getElem?_cons_succ, List.getElem?_cons_zero, Option.getD_some]
      repeat (first
        | (refine mix_skip (by rfl) ?_
           (try simp only [Act.put, List.setIfInBounds_toArray, List.set_cons_zero, List.set_cons_succ]))
        | (refine mix_pure (v := ?_) (by rfl) (fun u hu => ?_) ?_
           rotate_left
           · obtain ⟨_, _, _, _, _, _, _⟩ := hu.seven
             go_simp
             (with_reducible rfl)
           (try simp only [Act.put, List.setIfInBounds_toArray, List.set_cons_zero, List.set_cons_succ])))
      refine mix_call (by rfl) (fun K hK => ?_)
      go_simp
      go_upon
      refine (recOf2 a1 a2 a3 a4 a5 _).mono ?_
      rintro e w1 ⟨rfl, hb1⟩
      have hB1 := hB0.drew.trans (hb1.mono hB0.drew.size)
      have r1 := r0.drew.below hb1 r0.drew.lt
      refine hK _ _ (fun u => At u w.heap.size 27 #[.int .i64 2, .int .i64 a1, .int .i64 a2, .int .i64 a3, .int .i64 a4, .int .i64 a5, .int .i64 a6]) (fun _ h => h) r1 ?_
      clear hK K
      (try simp only [Act.put, List.setIfInBounds_toArray, List.set_cons_zero, List.set_cons_succ])
      repeat (first
        | (refine mix_skip (by rfl) ?_
           (try simp only [Act.put, List.setIfInBounds_toArray, List.set_cons_zero, List.set_cons_succ]))
        | (refine mix_pure (v := ?_) (by rfl) (fun u hu => ?_) ?_
           rotate_left
           · go_simp
             (with_reducible rfl)
           (try simp only [Act.put, List.setIfInBounds_toArray, List.set_cons_zero, List.set_cons_succ])))
      refine mix_nil ?_
      go_wp2
      go_ret
      exact ⟨by rw [Hr.out]; rfl, hB1⟩
  · subst k3
    clear k1 k2
    have NQ := neqR3 a1 a2 a3 a4 a5 a6
    rcases hf : recFormM (3, a1, (a2, a3, a4, a5), a6)
    · have Hr := Lib.hid (entV_no hf)
      rw [hf] at NQ
      clear hf
      go_enter Tryz.func47, Tryz.ntmps47
      go_wp2
      refine wp_region_mix [(0, false), (1, false), (2, false), (3, false), (5, false), (4, true), (6, false), (7, false)] (fun u => At u w.heap.size 27 #[.int .i64 3, .int .i64 a1, .int .i64 a2, .int .i64 a3, .int .i64 a4, .int .i64 a5, .int .i64 a6]) (by kernel_rfl) (by kernel_rfl) (fun _ _ _ _ _ h => h) r0.drew ?_
      simp only [mixOps, List.map_cons, List.map_nil, List.getElem?_cons_succ, List.getElem?_cons_zero, Option.getD_some]
      repeat (first
        | (refine mix_skip (by rfl) ?_
           (try simp only [Act.put, List.setIfInBounds_toArray, List.set_cons_zero, List.set_cons_succ]))
        | (refine mix_pure (v := ?_) (by rfl) (fun u hu => ?_) ?_
           rotate_left
           · obtain ⟨_, _, _, _, _, _, _⟩ := hu.seven
             go_simp
             (with_reducible rfl)
           (try simp only [Act.put, List.setIfInBounds_toArray, List.set_cons_zero, List.set_cons_succ])))
      refine mix_call (by rfl) (fun K hK => ?_)
      go_simp
      go_upon
      refine (recOf3 a1 a6 _).mono ?_
      rintro e w1 ⟨rfl, hb1⟩
      have hB1 := hB0.drew.trans (hb1.mono hB0.drew.size)
      have r1 := r0.drew.below hb1 r0.drew.lt
      refine hK _ _ (fun u => At u w.heap.size 27 #[.int .i64 3, .int .i64 a1, .int .i64 a2, .int .i64 a3, .int .i64 a4, .int .i64 a5, .int .i64 a6]) (fun _ h => h) r1 ?_
      clear hK K
      (try simp only [Act.put, List.setIfInBounds_toArray, List.set_cons_zero, List.set_cons_succ])
      repeat (first
        | (refine mix_skip (by rfl) ?_
           (try simp only [Act.put, List.setIfInBounds_toArray, List.set_cons_zero, List.set_cons_succ]))
        | (refine mix_pure (v := ?_) (by rfl) (fun u hu => ?_) ?_
           rotate_left
           · go_simp
             (with_reducible rfl)
           (try simp only [Act.put, List.setIfInBounds_toArray, List.set_cons_zero, List.set_cons_succ])))
      refine mix_nil ?_
      go_wp2
      go_ret
      exact ⟨by rw [Hr.out]; rfl, hB1⟩
    · have Hr := Lib.hid (entV_3 hf)
      rw [hf] at NQ
      clear hf
      go_enter Tryz.func47, Tryz.ntmps47
      go_wp2
      refine wp_region_mix [(0, false), (1, false), (2, false), (3, false), (5, false), (4, true), (6, false), (7, false)] (fun u => At u w.heap.size 27 #[.int .i64 3, .int .i64 a1, .int .i64 a2, .int .i64 a3, .int .i64 a4, .int .i64 a5, .int .i64 a6]) (by kernel_rfl) (by kernel_rfl) (fun _ _ _ _ _ h => h) r0.drew ?_
      simp only [mixOps, List.map_cons, List.map_nil, List.getElem?_cons_succ, List.getElem?_cons_zero, Option.getD_some]
      repeat (first
        | (refine mix_skip (by rfl) ?_
           (try simp only [Act.put, List.setIfInBounds_toArray, List.set_cons_zero, List.set_cons_succ]))
        | (refine mix_pure (v := ?_) (by rfl) (fun u hu => ?_) ?_
           rotate_left
           · obtain ⟨_, _, _, _, _, _, _⟩ := hu.seven
             go_simp
             (with_reducible rfl)
           (try simp only [Act.put, List.setIfInBounds_toArray, List.set_cons_zero, List.set_cons_succ])))
      refine mix_call (by rfl) (fun K hK => ?_)
      go_simp
      go_upon
      refine (recOf3 a1 a6 _).mono ?_
      rintro e w1 ⟨rfl, hb1⟩
      have hB1 := hB0.drew.trans (hb1.mono hB0.drew.size)
      have r1 := r0.drew.below hb1 r0.drew.lt
      refine hK _ _ (fun u => At u w.heap.size 27 #[.int .i64 3, .int .i64 a1, .int .i64 a2, .int .i64 a3, .int .i64 a4, .int .i64 a5, .int .i64 a6]) (fun _ h => h) r1 ?_
      clear hK K
      (try simp only [Act.put, List.setIfInBounds_toArray, List.set_cons_zero, List.set_cons_succ])
      repeat (first
        | (refine mix_skip (by rfl) ?_
           (try simp only [Act.put, List.setIfInBounds_toArray, List.set_cons_zero, List.set_cons_succ]))
        | (refine mix_pure (v := ?_) (by rfl) (fun u hu => ?_) ?_
           rotate_left
           · go_simp
             (with_reducible rfl)
           (try simp only [Act.put, List.setIfInBounds_toArray, List.set_cons_zero, List.set_cons_succ])))
      refine mix_nil ?_
      go_wp2
      go_ret
      exact ⟨by rw [Hr.out]; rfl, hB1⟩
  · subst k4
    clear k1 k2 k3
    have NQ := neqR4 a1 a2 a3 a4 a5 a6
    rcases hf : recFormM (4, a1, (a2, a3, a4, a5), a6)
    · have Hr := Lib.hid (entV_no hf)
      rw [hf] at NQ
      clear hf
      go_enter Tryz.func47, Tryz.ntmps47
      go_wp2
      refine wp_region_mix [(0, false), (1, false), (2, false), (3, false), (5, false), (4, true), (6, false), (7, false)] (fun u => At u w.heap.size 27 #[.int .i64 4, .int .i64 a1, .int .i64 a2, .int .i64 a3, .int .i64 a4, .int .i64 a5, .int .i64 a6]) (by kernel_rfl) (by kernel_rfl) (fun _ _ _ _ _ h => h) r0.drew ?_
      simp only [mixOps, List.map_cons, List.map_nil, List.getElem?_cons_succ, List.getElem?_cons_zero, Option.getD_some]
      repeat (first
        | (refine mix_skip (by rfl) ?_
           (try simp only [Act.put, List.setIfInBounds_toArray, List.set_cons_zero, List.set_cons_succ]))
        | (refine mix_pure (v := ?_) (by rfl) (fun u hu => ?_) ?_
           rotate_left
           · obtain ⟨_, _, _, _, _, _, _⟩ := hu.seven
             go_simp
             (with_reducible rfl)
           (try simp only [Act.put, List.setIfInBounds_toArray, List.set_cons_zero, List.set_cons_succ])))
      refine mix_call (by rfl) (fun K hK => ?_)
      go_simp
      go_upon
      refine (recOf4 a6 _).mono ?_
      rintro e w1 ⟨rfl, hb1⟩
      have hB1 := hB0.drew.trans (hb1.mono hB0.drew.size)
      have r1 := r0.drew.below hb1 r0.drew.lt
      refine hK _ _ (fun u => At u w.heap.size 27 #[.int .i64 4, .int .i64 a1, .int .i64 a2, .int .i64 a3, .int .i64 a4, .int .i64 a5, .int .i64 a6]) (fun _ h => h) r1 ?_
      clear hK K
      (try simp only [Act.put, List.setIfInBounds_toArray, List.set_cons_zero, List.set_cons_succ])
      repeat (first
        | (refine mix_skip (by rfl) ?_
           (try simp only [Act.put, List.setIfInBounds_toArray, List.set_cons_zero, List.set_cons_succ]))
        | (refine mix_pure (v := ?_) (by rfl) (fun u hu => ?_) ?_
           rotate_left
           · go_simp
             (with_reducible rfl)
           (try simp only [Act.put, List.setIfInBounds_toArray, List.set_cons_zero, List.set_cons_succ])))
      refine mix_nil ?_
      go_wp2
      go_ret
      exact ⟨by rw [Hr.out]; rfl, hB1⟩
    · have Hr := Lib.hid (entV_4 hf)
      rw [hf] at NQ
      clear hf
      go_enter Tryz.func47, Tryz.ntmps47
      go_wp2
      refine wp_region_mix [(0, false), (1, false), (2, false), (3, false), (5, false), (4, true), (6, false), (7, false)] (fun u => At u w.heap.size 27 #[.int .i64 4, .int .i64 a1, .int .i64 a2, .int .i64 a3, .int .i64 a4, .int .i64 a5, .int .i64 a6]) (by kernel_rfl) (by kernel_rfl) (fun _ _ _ _ _ h => h) r0.drew ?_
      simp only [mixOps, List.map_cons, List.map_nil, List.getElem?_cons_succ, List.getElem?_cons_zero, Option.getD_some]
      repeat (first
        | (refine mix_skip (by rfl) ?_
           (try simp only [Act.put, List.setIfInBounds_toArray, List.set_cons_zero, List.set_cons_succ]))
        | (refine mix_pure (v := ?_) (by rfl) (fun u hu => ?_) ?_
           rotate_left
           · obtain ⟨_, _, _, _, _, _, _⟩ := hu.seven
             go_simp
             (with_reducible rfl)
           (try simp only [Act.put, List.setIfInBounds_toArray, List.set_cons_zero, List.set_cons_succ])))
      refine mix_call (by rfl) (fun K hK => ?_)
      go_simp
      go_upon
      refine (recOf4 a6 _).mono ?_
      rintro e w1 ⟨rfl, hb1⟩
      have hB1 := hB0.drew.trans (hb1.mono hB0.drew.size)
      have r1 := r0.drew.below hb1 r0.drew.lt
      refine hK _ _ (fun u => At u w.heap.size 27 #[.int .i64 4, .int .i64 a1, .int .i64 a2, .int .i64 a3, .int .i64 a4, .int .i64 a5, .int .i64 a6]) (fun _ h => h) r1 ?_
      clear hK K
      (try simp only [Act.put, List.setIfInBounds_toArray, List.set_cons_zero, List.set_cons_succ])
      repeat (first
        | (refine mix_skip (by rfl) ?_
           (try simp only [Act.put, List.setIfInBounds_toArray, List.set_cons_zero, List.set_cons_succ]))
        | (refine mix_pure (v := ?_) (by rfl) (fun u hu => ?_) ?_
           rotate_left
           · go_simp
             (with_reducible rfl)
           (try simp only [Act.put, List.setIfInBounds_toArray, List.set_cons_zero, List.set_cons_succ])))
      refine mix_nil ?_
      go_wp2
      go_ret
      exact ⟨by rw [Hr.out]; rfl, hB1⟩
end Go.Proofs.YteiclanlhnccnaaGreatDoor
/-
  A map of samples by their keys, as it lies in memory: asked, filled, counted.
-/
namespace Go.Proofs.YteiclanlhnccnaaGreatDoor
set_option maxRecDepth 20000
open Go.RowKit
open Go.ChangeMaps (setBlock heap_setBlock_same heap_setBlock_other)
set_option linter.unusedSimpArgs false
set_option linter.unusedVariables false

abbrev keyV (x : Smp) : Value := .agg #[.int .i64 x.1, .int .i64 x.2.1, .int .i64 x.2.2.1]
abbrev smpV (x : Smp) : Value := .agg #[.int .i64 x.1, .int .i64 x.2.1, .int .i64 x.2.2.1, .int .i64 x.2.2.2]
def firstS (L : List Smp) (y : Smp) : Option Smp := L.find? (fun x => sameKeyM y x)

theorem keyEqual (x y : Smp) (w : World) : (Op.equal 240 (keyV x) (keyV y)).run Tryz.prog w = .ok (sameKeyM x y) w := by
  show (Op.equalIn 10000 240 (keyV x) (keyV y)).run Tryz.prog w = _
  unfold sameKeyM
  go_simp
  by_cases h0 : x.1 = y.1 <;> by_cases h1 : x.2.1 = y.2.1 <;> by_cases h2 : x.2.2.1 = y.2.2.1 <;> simp [h0, h1, h2]
theorem keyChecks (e : Bool) (x : Smp) (w : World) : (Instr.checkKey e 10000 240 (keyV x)).run Tryz.prog w = .ok () w := by kernel_rfl
theorem zeroS (w : World) : (zeroValue 25).run Tryz.prog w = .ok (smpV (0, 0, 0, 0)) w := by kernel_rfl

theorem findAsk (y : Smp) (w : World) : ∀ (L : List Smp) (es : List MapEntry) (i : Nat), es.map (fun e => (e.key, e.val)) = L.map (fun x => (keyV x, smpV x)) →
    ∃ r, (Instr.findAsking 240 (keyV y) es i).run Tryz.prog w = .ok r w ∧ r.map (·.2) = (firstS L y).map smpV
  | [], es, i, h => by
    obtain rfl : es = [] := by simpa using h
    exact ⟨none, by simp [Instr.findAsking], rfl⟩
  | x :: L, es, i, h => by
    match es, h with
    | e :: es, h =>
      simp only [List.map_cons, List.cons.injEq, Prod.mk.injEq] at h
      obtain ⟨⟨hk, hv⟩, h⟩ := h
      have he : (Op.equal 240 (keyV y) e.key).run Tryz.prog w = .ok (sameKeyM y x) w := by rw [hk]; exact keyEqual y x w
      rcases hs : sameKeyM y x
      · obtain ⟨r, h1, h2⟩ := findAsk y w L es (i + 1) h
        refine ⟨r, by simp [Instr.findAsking, he, hs, h1, Result.andThen], ?_⟩
        rw [h2]
        simp [firstS, List.find?_cons, hs]
      · refine ⟨some (i, e.val), by simp [Instr.findAsking, he, hs, Result.andThen], ?_⟩
        simp [firstS, List.find?_cons, hs, hv]

theorem findKeyS (y : Smp) (w : World) (L : List Smp) (es : List MapEntry) (h : es.map (fun e => (e.key, e.val)) = L.map (fun x => (keyV x, smpV x))) :
    ∃ r, (Instr.findKey 240 (keyV y) es).run Tryz.prog w = .ok r w ∧ r.map (·.2) = (firstS L y).map smpV := by
  obtain ⟨r, h1, h2⟩ := findAsk y w L es 0 h
  match es, h with
  | [], h =>
    obtain rfl : L = [] := by simpa using h
    exact ⟨none, by simp [Instr.findKey, run_underlying Tryz.underlying240, Instr.findNow, Result.andThen], rfl⟩
  | e :: es, h =>
    refine ⟨r, ?_, h2⟩
    simp only [Instr.findKey, Sem.run_bind, run_underlying Tryz.underlying240, Result.andThen]
    exact h1

/-- Block b is a map that holds these samples by their keys, the eldest first. -/
def SMap (w : World) (b : Nat) (L : List Smp) : Prop :=
  ∃ es clock, w.heap[b]? = some (.map es clock) ∧ es.toList.map (fun e => (e.key, e.val)) = L.map (fun x => (keyV x, smpV x)) ∧ (∀ e ∈ es.toList, e.born < clock) ∧ (es.toList.map (·.born)).Nodup

section
variable {w w' : World} {b : Nat} {L : List Smp}
theorem SMap.lt (h : SMap w b L) : b < w.heap.size := by
  obtain ⟨es, clock, hb, _⟩ := h
  exact (Array.getElem?_eq_some_iff.1 hb).1
theorem SMap.kept {row : Option Nat} (h : SMap w b L) (hg : w.grownBy w' row) (hne : some b ≠ row) : SMap w' b L := by
  have hlt := h.lt
  obtain ⟨es, clock, hb, r⟩ := h
  exact ⟨es, clock, (hg.block b hlt hne).trans hb, r⟩
theorem SMap.below {B : Nat} (h : SMap w b L) (hb : Below B w w') (hB : b < B) : SMap w' b L := by
  obtain ⟨es, clock, h1, r⟩ := h
  exact ⟨es, clock, (hb.block b hB).trans h1, r⟩
theorem SMap.alloc (h : SMap w b L) (o : Obj) : SMap (w.alloc o) b L := h.kept (World.grownBy_alloc w o none) (by simp)
theorem SMap.drew (h : SMap w b L) : SMap w.drew b L := h
theorem SMap.made (w : World) : SMap (w.alloc (.map #[] 0)) w.heap.size [] := ⟨#[], 0, heap_alloc_new w _, rfl, by simp, by simp⟩
theorem SMap.size (h : SMap w b L) : ∃ es clock, w.heap[b]? = some (.map es clock) ∧ es.size = L.length := by
  obtain ⟨es, clock, hb, hm, _⟩ := h
  refine ⟨es, clock, hb, ?_⟩
  have := congrArg List.length hm
  simpa using this
theorem SMap.len (h : SMap w b L) (ty : TypeId) : (Builtin.len_ #[233] ty #[.map (some b)]).run Tryz.prog w = .ok (.int .i64 (L.length : Int)) w := by
  obtain ⟨es, clock, hb, hs⟩ := h.size
  rw [← hs]
  simp [Builtin.len_, run_underlying Tryz.underlying233, MapKept.run_getObj_map hb, Result.andThen]
  try rfl
theorem SMap.look (h : SMap w b L) (y : Smp) : (Instr.lookup 233 (.map (some b)) (keyV y) true).run Tryz.prog w = .ok (.tuple #[smpV ((firstS L y).getD (0, 0, 0, 0)), .bool (firstS L y).isSome]) w := by
  obtain ⟨es, clock, hb, hm, _⟩ := h
  obtain ⟨r, h1, h2⟩ := findKeyS y w L es.toList hm
  rcases hf : firstS L y with _ | x
  · rw [hf] at h2
    obtain rfl : r = none := by simpa using h2
    simp [Instr.lookup, run_underlying Tryz.underlying233, MapKept.run_getObj_map hb, keyChecks, h1, zeroS, Result.andThen]
  · rw [hf] at h2
    obtain ⟨⟨i, v⟩, rfl, hv⟩ := Option.map_eq_some_iff.1 h2
    simp only at hv
    subst hv
    simp [Instr.lookup, run_underlying Tryz.underlying233, MapKept.run_getObj_map hb, keyChecks, h1, Result.andThen]
theorem SMap.put (h : SMap w b L) (y : Smp) (hn : firstS L y = none) : ∃ w', (Instr.mapUpdate 233 (.map (some b)) (keyV y) (smpV y)).run Tryz.prog w = .ok () w' ∧ SMap w' b (L ++ [y]) ∧ w.grownBy w' (some b) := by
  obtain ⟨es, clock, hb, hm, hc, hd⟩ := h
  obtain ⟨r, h1, h2⟩ := findKeyS y w L es.toList hm
  rw [hn] at h2
  obtain rfl : r = none := by simpa using h2
  refine ⟨setBlock w b (.map (es.push ⟨keyV y, smpV y, clock⟩) (clock + 1)), ?_, ⟨_, _, heap_setBlock_same hb _, ?_, ?_, ?_⟩, ⟨rfl, rfl, rfl, by simp [setBlock], fun i _ hi => heap_setBlock_other hb _ (fun e => hi (by rw [e]))⟩⟩
  · simp [Instr.mapUpdate, run_underlying Tryz.underlying233, MapKept.run_getObj_map hb, keyChecks, h1, MapKept.run_setObj_map _ hb, Result.andThen, setBlock]
  · simp [hm]
  · intro e he
    simp only [Array.toList_push, List.mem_append, List.mem_singleton] at he
    rcases he with he | rfl
    · have := hc e he
      omega
    · simp
  · rw [Array.toList_push, List.map_append, List.nodup_append]
    refine ⟨hd, by simp, fun a ha c hc' => ?_⟩
    obtain ⟨e, he, rfl⟩ := List.mem_map.1 ha
    obtain rfl : c = clock := by simpa using hc'
    have := hc e he
    omega
end
end Go.Proofs.YteiclanlhnccnaaGreatDoor
/-
  samplesByKey: the first sample of each key, in a map.
-/
namespace Go.Proofs.YteiclanlhnccnaaGreatDoor
set_option maxRecDepth 20000
open Go.RowKit Go.Shelf
set_option linter.unusedSimpArgs false
set_option linter.unusedVariables false

def keyStep (acc : List Smp) (x : Smp) : List Smp := if (firstS acc x).isSome then acc else acc ++ [x]
def byKeyM (l : List Smp) : List Smp := l.foldl keyStep []
theorem byKey_next {l : List Smp} {k : Nat} {x : Smp} (h : l[k]? = some x) : byKeyM (l.take (k + 1)) = keyStep (byKeyM (l.take k)) x := by
  unfold byKeyM
  rw [take_next h, List.foldl_append]
  rfl

theorem implKeyOf (a0 a1 a2 a3 : Int) (w : World) :
    Calls Tryz.prog 171 #[.agg #[.int .i64 a0, .int .i64 a1, .int .i64 a2, .int .i64 a3]] w fun e w' => e = .returned (.agg #[.int .i64 a0, .int .i64 a1, .int .i64 a2]) ∧ Below w.heap.size w w' := by
  go_enter Tryz.func171, Tryz.ntmps171
  go_wp2
  refine bodyPost_ret (v := .agg #[.int .i64 a0, .int .i64 a1, .int .i64 a2]) (by simp [results, Tryz.results171, go_sem]) rfl ?_
  exact ⟨rfl, ((Below.refl _ _).alloc (Nat.le_refl _) _).alloc (by simp) _⟩

theorem S4.grown {w w' : World} {row : Option Nat} {g p : Nat} {a0 a1 a2 a3 : Int} (h : S4 w g p a0 a1 a2 a3) (hg : w.grownBy w' row) (hne : some g ≠ row) : S4 w' g p a0 a1 a2 a3 :=
  ⟨hg.cell h.1 hne, hg.cell h.2.1 hne, hg.cell h.2.2.1 hne, hg.cell h.2.2.2 hne⟩

theorem wp_mapPut {P : Program} {o : Oper} {a : Act} {w w' : World} {K : Act → World → Prop} {Q : Exit → Act → World → Prop} (m k v : Operand) (t : TypeId) (hop : o.op = Op.mapUpdate t m k v) {mv kv vv : Value} (hm : a.eval m = mv) (hk : a.eval k = kv) (hv : a.eval v = vv)
    (hrun : (Instr.mapUpdate t mv kv vv).run P w = .ok () w') (h : K (a.put o.dst undef) w') : o.wp P a w K Q := by
  unfold Oper.wp
  simp [execOp, hop, hm, hk, hv, hrun, Result.andThen]
  exact h

set_option maxRecDepth 100000 in
set_option maxHeartbeats 4000000 in
theorem byKeyS (G k c : Nat) (rows : List Row4) (w : World) (hR : Rows4 w G rows) (hG : G < w.heap.size) (hk : rows.length = k) (hk4 : k ≤ 4) :
    Calls Tryz.prog 162 #[.slice (some ⟨G, 0, none⟩) k c] w fun e w' => ∃ b, e = .returned (.map (some b)) ∧ w.heap.size ≤ b ∧ SMap w' b (byKeyM (flat rows)) ∧ Below w.heap.size w w' := by
  have hB0 : Below w.heap.size w (w.alloc (.map #[] 0)) := (Below.refl _ _).alloc (Nat.le_refl _) _
  have hC := concatS G k c rows (w.alloc (.map #[] 0)) (hR.below hB0 hG) (Nat.lt_of_lt_of_le hG hB0.size) hk hk4
  have hmm := @run_makeMap Tryz.prog
  have s0 := SMap.made w
  clear hR hk
  go_enter Tryz.func162, Tryz.ntmps162
  go_wp2_with fail
  refine hC.mono ?_
  rintro e w1 ⟨A, n, c', rfl, ow1, hb1⟩
  have s1 := s0.below hb1 (by simp)
  have hB1 := hB0.trans (hb1.mono hB0.size)
  have hnl := Ow.len okS ow1
  have hnm := ow1.small
  rw [World.size_alloc] at ow1
  obtain ⟨l, hl0⟩ : ∃ l, flat rows = l := ⟨_, rfl⟩
  rw [hl0] at ow1 hnl
  have Hl := Lib.hid hl0
  clear hl0
  have Hn := Lib.hid hnl
  clear hC hnl s0 hmm
  unfold maxLen at hnm
  go_wp2
  go_loopw [12] (fun i wr => ∃ t : Nat, t ≤ n ∧ i = .int .i64 t ∧ SMap wr w.heap.size (byKeyM (l.take t)) ∧ Ow eS wr (w.heap.size + 1) A n c' l ∧ Below w.heap.size w wr) (fun i _ => n - (intOf i).toNat)
  case atStart => exact ⟨0, Nat.zero_le _, rfl, s1, ow1, hB1⟩
  case round =>
    obtain ⟨t, ht, rfl, hs, how, hbel⟩ := hrel
    by_cases hlt : t < n
    · obtain ⟨g, o, a0, a1, a2, a3, rfl, hg, hx, c0, c1, c2, c3⟩ := (how.rd okS).smp (k := t) (by rw [Hn.out]; exact hlt)
      have hAl := (Below.refl wr.heap.size wr).alloc (Nat.le_refl _) (.cells #[.int .i64 a0, .int .i64 a1, .int .i64 a2, .int .i64 a3] 25)
      have hbA := hbel.trans (hAl.mono hbel.size)
      have hsA := hs.alloc (.cells #[.int .i64 a0, .int .i64 a1, .int .i64 a2, .int .i64 a3] 25)
      have owA := how.alloc (.cells #[.int .i64 a0, .int .i64 a1, .int .i64 a2, .int .i64 a3] 25)
      have atX := At.new wr 25 #[.int .i64 a0, .int .i64 a1, .int .i64 a2, .int .i64 a3]
      have Hx := Lib.hid (byKey_next hx)
      clear hx
      go_wp2_with fail
      refine (implKeyOf a0 a1 a2 a3 _).mono ?_
      rintro e w2 ⟨rfl, hb2⟩
      have hs2 := hsA.below hb2 hsA.lt
      have ow2 := owA.below hb2 (Nat.le_refl _)
      have hB2 := hbA.trans (hb2.mono hbA.size)
      have atX2 := atX.below hb2 atX.lt
      have hl : (Instr.lookup 233 (.map (some w.heap.size)) (.agg #[.int .i64 a0, .int .i64 a1, .int .i64 a2]) true).run Tryz.prog w2 = _ := hs2.look (a0, a1, a2, a3)
      rcases hf : firstS (byKeyM (l.take t)) (a0, a1, a2, a3) with _ | ⟨y0, y1, y2, y3⟩
      · rw [hf] at hl
        simp only [Option.getD_none, Option.isSome_none] at hl
        have Hst := Lib.hid (show byKeyM (l.take (t + 1)) = byKeyM (l.take t) ++ [(a0, a1, a2, a3)] by rw [Hx.out]; unfold keyStep; rw [hf]; rfl)
        have Hf := Lib.hid hf
        clear hf
        go_wp2
        have hAl5 := (Below.refl w2.heap.size w2).alloc (Nat.le_refl _) (.cells #[.int .i64 0, .int .i64 0, .int .i64 0, .int .i64 0] 25)
        have hB5 := hB2.alloc hB2.size (.cells #[.int .i64 0, .int .i64 0, .int .i64 0, .int .i64 0] 25)
        have hs5 := hs2.alloc (.cells #[.int .i64 0, .int .i64 0, .int .i64 0, .int .i64 0] 25)
        have ow5 := ow2.alloc (.cells #[.int .i64 0, .int .i64 0, .int .i64 0, .int .i64 0] 25)
        have atX5 := atX2.alloc (.cells #[.int .i64 0, .int .i64 0, .int .i64 0, .int .i64 0] 25)
        have c5 : S4 (w2.alloc (.cells #[.int .i64 0, .int .i64 0, .int .i64 0, .int .i64 0] 25)) wr.heap.size 0 a0 a1 a2 a3 := by
          obtain ⟨h0, h1, h2, h3, _⟩ := atX5.four
          exact ⟨h0, h1, h2, h3⟩
        have hg5 := atX5.lt
        refine wp_region_mix [(0, false), (1, false), (3, false), (2, true), (4, true)] (fun u => S4 u wr.heap.size 0 a0 a1 a2 a3) (by kernel_rfl) (by kernel_rfl) (fun _ _ _ _ _ h => h) c5.drew ?_
        simp only [mixOps, List.map_cons, List.map_nil, List.getElem?_cons_succ, List.getElem?_cons_zero, Option.getD_some]
        iterate 3 (
          refine mix_pure (v := ?_) (by rfl) (fun u hu => ?_) ?_
          rotate_left
          · obtain ⟨_, _, _, _⟩ := hu
            go_simp
            (with_reducible rfl)
          (try simp only [Act.put, List.setIfInBounds_toArray, List.set_cons_zero, List.set_cons_succ]))
        refine mix_call (by rfl) (fun K hK => ?_)
        go_simp
        refine (implKeyOf a0 a1 a2 a3 _).mono ?_
        rintro e w6 ⟨rfl, hb6⟩
        have hs6 := hs5.drew.below hb6 hs5.lt
        have ow6 := (ow5.drewN 1).below hb6 (Nat.le_refl _)
        have hB6 := hB5.drew.trans (hb6.mono hB5.size)
        have c6 := c5.drew.below hb6 hg5
        obtain ⟨w7, hrun, hs7, hg7⟩ := hs6.put (a0, a1, a2, a3) Hf.out
        have ow7 := ow6.grown hg7 (fun x hx e => by
          have := (ow6.lt x hx).1
          simp only [Option.some.injEq] at e
          omega)
        have hB7 := hB6.grown hg7 hB6.size (fun x e => by cases e; exact Nat.le_refl _)
        refine hK _ _ _ (fun _ h => h) c6 ?_
        (try simp only [Act.put, List.setIfInBounds_toArray, List.set_cons_zero, List.set_cons_succ])
        refine mix_call (by rfl) (fun K hK => ?_)
        refine wp_mapPut _ _ _ _ rfl rfl rfl rfl hrun ?_
        refine hK _ _ _ (fun _ h => h) (c6.grown hg7 (fun e => by
          have := hbel.size
          have := hs.lt
          simp only [Option.some.injEq] at e
          omega)) ?_
        (try simp only [Act.put, List.setIfInBounds_toArray, List.set_cons_zero, List.set_cons_succ])
        refine mix_nil ?_
        go_wp2
        exact ⟨⟨t + 1, by omega, by go_num, by rw [Hst.out]; exact hs7, ow7, hB7⟩, by simp [intOf]; omega⟩
      · rw [hf] at hl
        simp only [Option.getD_some, Option.isSome_some] at hl
        have Hst := Lib.hid (show byKeyM (l.take (t + 1)) = byKeyM (l.take t) by rw [Hx.out]; unfold keyStep; rw [hf]; rfl)
        clear hf
        go_wp2
        exact ⟨⟨t + 1, by omega, by go_num, by rw [Hst.out]; exact hs2.alloc _, ow2.alloc _, hB2.alloc hB2.size _⟩, by simp [intOf]; omega⟩
    · obtain rfl : t = n := by omega
      have Hq := Lib.hid (show l.take t = l by rw [List.take_of_length_le (by rw [Hn.out]; exact Nat.le_refl _)])
      go_wp2
      go_ret
      exact ⟨_, rfl, Nat.le_refl _, by rw [Hl.out, ← Hq.out]; exact hs, hbel⟩
end Go.Proofs.YteiclanlhnccnaaGreatDoor
/-
  The program's StoreFault: a list held against what a store is.
-/
namespace Go.Proofs.YteiclanlhnccnaaGreatDoor
set_option maxRecDepth 20000
open Go.RowKit
set_option linter.unusedSimpArgs false

theorem risesM_no {l : List Smp} {k : Nat} (hk : k < l.length) (hs : stepM l k = false) : risesM l = false := by
  unfold risesM
  rw [List.all_eq_false]
  exact ⟨k, List.mem_range.2 hk, by simp [hs]⟩
theorem risesM_yes {l : List Smp} {n : Nat} (hn : l.length = n) (hal : ∀ j, j + 1 < n → stepM l j = true) : risesM l = true := by
  unfold risesM
  rw [List.all_eq_true]
  intro j hj
  have hj' := List.mem_range.1 hj
  rcases Nat.lt_or_ge (j + 1) n with h1 | h1
  · exact hal j h1
  · unfold stepM
    rw [List.getElem?_eq_none (l := l) (i := j + 1) (by omega)]
    cases l[j]? <;> rfl

set_option maxHeartbeats 2000000 in
theorem implIsRising (A : Option Addr) (n c : Nat) (l : List Smp) (w : World) (ha : Rd eS w w.heap.size A l) (hn : l.length = n) (hm : n ≤ 1000) :
    Calls Tryz.prog 128 #[.slice A n c] w fun e w' => e = .returned (.bool (risesM l)) ∧ Below w.heap.size w w' := by
  have Hn := Lib.hid hn
  clear hn
  go_enter Tryz.func128, Tryz.ntmps128
  go_wp2
  go_loopw [3] (fun i wr => RiseRel w l n i wr) (fun i _ => n - (intOf i).toNat)
  case atStart => exact ⟨0, .inr rfl, rfl, fun _ h => absurd h (by omega), Below.refl _ _⟩
  case round =>
    obtain ⟨k, hk, rfl, hal, hbel⟩ := hrel
    have Hal := Lib.hid hal
    clear hal
    by_cases hlt : k + 1 < n
    · obtain ⟨g, o, a0, a1, a2, a3, rfl, hg, hx, ca⟩ := (ha.below hbel (Nat.le_refl _)).smp (k := k) (by rw [Hn.out]; omega)
      obtain ⟨g', o', b0, b1, b2, b3, e', hg', hy, cb⟩ := (ha.below hbel (Nat.le_refl _)).smp (k := k + 1) (by rw [Hn.out]; omega)
      obtain ⟨rfl, rfl⟩ : g = g' ∧ o = o' := by simpa using Option.some.inj e'
      have Hst := Lib.hid (stepM_at hx hy)
      clear hx hy e'
      have hbd := hbel.drew
      have hw : IntKind.i64.wrap (k : Int) = (k : Int) := IntWalk.i64_in _ (by omega)
      have i1 : (k : Int) < (n : Int) := by omega
      have i2 : (k : Int) + 1 < (n : Int) := by omega
      have i3 : (0 : Int) ≤ (k : Int) + 1 := by omega
      have i4 : ((k : Int) + 1).toNat = k + 1 := by omega
      go_wp2
      refine wp_region_mix [(0, false), (1, false), (2, false), (3, false), (4, false), (5, false), (6, false), (7, false), (8, false), (9, true), (10, false)] (fun u => S4 u g (o + k * 4) a0 a1 a2 a3 ∧ S4 u g (o + (k + 1) * 4) b0 b1 b2 b3) (by kernel_rfl) (by kernel_rfl) (fun _ _ _ _ _ h => h) ⟨ca.drew, cb.drew⟩ ?_
      simp only [mixOps, List.map_cons, List.map_nil, List.getElem?_cons_succ, List.getElem?_cons_zero, Option.getD_some]
      repeat (first
        | (refine mix_skip (by rfl) ?_
           (try simp only [Act.put, List.setIfInBounds_toArray, List.set_cons_zero, List.set_cons_succ]))
        | (refine mix_pure (v := ?_) (by rfl) (fun u hu => ?_) ?_
           rotate_left
           · obtain ⟨⟨_, _, _, _⟩, _, _, _, _⟩ := hu
             go_simp
             (with_reducible rfl)
           (try simp only [Act.put, List.setIfInBounds_toArray, List.set_cons_zero, List.set_cons_succ])))
      refine mix_call (by rfl) (fun K hK => ?_)
      go_simp
      refine (implIsAhead a0 a1 a2 a3 b0 b1 b2 b3 _).mono ?_
      rintro e w1 ⟨rfl, hb1⟩
      have hB1 := hbd.trans (hb1.mono hbd.size)
      refine hK _ _ _ (fun _ h => h) ⟨ca.drew.below hb1 (Nat.lt_of_lt_of_le hg hbd.size), cb.drew.below hb1 (Nat.lt_of_lt_of_le hg hbd.size)⟩ ?_
      (try simp only [Act.put, List.setIfInBounds_toArray, List.set_cons_zero, List.set_cons_succ])
      rw [← Hst.out]
      rcases hs : stepM l k
      · have Hf := Lib.hid (risesM_no (show k < l.length by rw [Hn.out]; omega) hs)
        clear hs
        refine mix_pure (v := ?_) (by rfl) (fun u hu => ?_) ?_
        rotate_left
        · go_simp
          (with_reducible rfl)
        (try simp only [Act.put, List.setIfInBounds_toArray, List.set_cons_zero, List.set_cons_succ])
        refine mix_nil ?_
        go_wp2
        go_ret
        exact ⟨by rw [Hf.out]; rfl, hB1⟩
      · have Hs := Lib.hid hs
        clear hs
        refine mix_pure (v := ?_) (by rfl) (fun u hu => ?_) ?_
        rotate_left
        · go_simp
          (with_reducible rfl)
        (try simp only [Act.put, List.setIfInBounds_toArray, List.set_cons_zero, List.set_cons_succ])
        refine mix_nil ?_
        go_wp2
        refine ⟨⟨k + 1, .inl (by omega), by go_num, fun j hj => ?_, hB1⟩, by simp [intOf]; omega⟩
        rcases Nat.lt_or_ge j k with h | h
        · exact Hal.out j h
        · obtain rfl : j = k := by omega
          exact Hs.out
    · have hq := risesM_yes Hn.out (fun j hj => Hal.out j (by omega))
      have Hq := Lib.hid hq
      clear hq
      have i5 : ¬ (k : Int) + 1 < (n : Int) := by omega
      go_wp2
      go_ret
      exact ⟨by rw [Hq.out]; rfl, hbel⟩

theorem storeFault_is {l : List Smp} (h : ¬ 160 < l.length) (hr : rightM l = true) : storeFaultM l = if risesM l = false then 1 else 0 := by
  unfold storeFaultM
  rw [if_neg h, if_neg (by simp [hr])]

set_option maxHeartbeats 2000000 in
theorem implStoreFault (A : Option Addr) (n c : Nat) (l : List Smp) (w : World) (ha : Rd eS w w.heap.size A l) (hn : l.length = n) (hF : Flds w) :
    Calls Tryz.prog 72 #[.slice A n c] w fun e w' => e = .returned (.int .i64 (storeFaultM l)) ∧ Below w.heap.size w w' := by
  by_cases hbig : 160 < n
  · have hb : (160 : Int) < (n : Int) := by omega
    rw [storeFault_many (by omega)]
    go_enter Tryz.func72, Tryz.ntmps72
    go_wp2
    go_ret
    exact ⟨rfl, Below.refl _ _⟩
  have hb : (n : Int) ≤ 160 := by omega
  have hn160 : n ≤ 160 := by omega
  have Hbig := Lib.hid (show ¬ 160 < l.length by omega)
  have Hn := Lib.hid hn
  clear hn hbig
  go_enter Tryz.func72, Tryz.ntmps72
  go_wp2
  go_loopw [11] (fun i wr => RightRel w l n i wr) (fun i _ => n - (intOf i).toNat)
  case atStart => exact ⟨0, Nat.zero_le _, rfl, fun _ _ h => absurd h (by omega), Below.refl _ _⟩
  case round =>
    obtain ⟨k, hk, rfl, hal, hbel⟩ := hrel
    have Hal := Lib.hid hal
    clear hal
    by_cases hlt : k < n
    · obtain ⟨g, o, a0, a1, a2, a3, rfl, hg, hx, c0, c1, c2, c3⟩ := (ha.below hbel (Nat.le_refl _)).smp (k := k) (by rw [Hn.out]; exact hlt)
      have hbA := hbel.alloc hbel.size (.cells #[.int .i64 a0, .int .i64 a1, .int .i64 a2, .int .i64 a3] 25)
      rcases faultM_or (a0, a1, a2, a3) with hf | hf
      · have hq := implSampleFault a0 a1 a2 a3 _ (hF.below hbA)
        rw [hf] at hq
        have Hx := Lib.hid hx
        have Hf := Lib.hid hf
        clear hx hf
        go_wp2_with fail
        refine hq.mono ?_
        rintro e w2 ⟨rfl, hb2⟩
        have hB2 := hbA.trans (hb2.mono hbA.size)
        go_wp2
        refine ⟨⟨k + 1, by omega, by go_num, fun j x hj hx => ?_, hB2⟩, by simp [intOf]; omega⟩
        rcases Nat.lt_or_ge j k with h | h
        · exact Hal.out j x h hx
        · obtain rfl : j = k := by omega
          obtain rfl := Option.some.inj (Hx.out.symm.trans hx)
          exact Hf.out
      · have hq := implSampleFault a0 a1 a2 a3 _ (hF.below hbA)
        rw [hf] at hq
        have Hr := Lib.hid (storeFault_wrong Hbig.out hx hf)
        clear hx hf
        go_wp2_with fail
        refine hq.mono ?_
        rintro e w2 ⟨rfl, hb2⟩
        have hB2 := hbA.trans (hb2.mono hbA.size)
        go_wp2
        go_ret
        exact ⟨by rw [Hr.out]; rfl, hB2⟩
    · obtain rfl : n = k := by omega
      have hright := rightM_of Hn.out Hal.out
      have Hq := Lib.hid (storeFault_is Hbig.out hright)
      have hq := implIsRising A n c l wr (ha.lift hbel) Hn.out (by omega)
      clear Hal hright
      go_wp2_with fail
      refine hq.mono ?_
      rintro e w2 ⟨rfl, hb2⟩
      have hB2 := hbel.trans (hb2.mono hbel.size)
      have Hs := Lib.hid Hq.out
      rcases hr : risesM l
      · have Hf := Lib.hid (show storeFaultM l = 1 by rw [Hq.out, hr]; rfl)
        clear hr
        go_wp2
        go_ret
        exact ⟨by rw [Hf.out]; rfl, hB2⟩
      · have Hf := Lib.hid (show storeFaultM l = 0 by rw [Hq.out, hr]; rfl)
        clear hr
        go_wp2
        go_ret
        exact ⟨by rw [Hf.out]; rfl, hB2⟩

theorem hiStoreFault : ∀ (A0 : Option Addr) (m0 e0 : Nat) (q0 : List Smp)  (W : World), Rd eS W W.heap.size A0 q0 → q0.length = m0 → m0 ≤ 1048576 → Flds W → Calls Tryz.prog 72 #[.slice A0 m0 e0] W (fun e W' => e = .returned (.int .i64 (storeFaultM q0)) ∧ Below W.heap.size W W') :=
  fun A0 m0 e0 q0 W ha hn _ hF => implStoreFault A0 m0 e0 q0 W ha hn hF
end Go.Proofs.YteiclanlhnccnaaGreatDoor
