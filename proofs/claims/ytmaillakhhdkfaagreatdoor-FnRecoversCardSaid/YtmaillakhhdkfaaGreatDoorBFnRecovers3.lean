/-
  Texts of one proof, joined: each has its own namespace.
-/
import Derived.Test.YtmaillakhhdkfaaGreatDoorBFnRecovers0
import Derived.WalkKit
import Derived.LaidEql
import Derived.Stop.Asserts
import Derived.Test.YtmaillakhhdkfaaGreatDoorBFnRecovers2
/-
  errors.Is at a sentinel: the sentinel itself, and no error.
-/
namespace Go.Proofs.YtmaillakhhdkfaaGreatDoor
set_option maxRecDepth 20000
open Go.RowKit Go.Extern.Stop Go.Stop Go.Extern

theorem sentTypeOf (v : Value) (w : World) : (Extern.ReflectliteType.typeOf #[.iface 276 v]).run Tryz.prog w = .ok (.iface 198 (.agg #[.pointer (some ⟨2, 276, none⟩)])) w := by kernel_rfl
theorem sentComparable (w : World) : (callFunc 222 #[.agg #[.pointer (some ⟨2, 276, none⟩)]]).run Tryz.prog w = .ok (.value (.bool true)) w := by kernel_rfl
theorem sentMethod (k : Nat) (v : Value) (w : World) : (Go.method (k + 1) 198 v "Comparable").run Tryz.prog w = .ok (222, v) w := by kernel_rfl
theorem sentComp : (Tryz.prog.info? 276).map (·.comparable) = some true := by kernel_rfl
theorem sentSize : (Tryz.prog.info? 300).map (·.size) = some 1 := by kernel_rfl
/-- errors.Is of a sentinel and itself. -/
theorem isSame (a : Addr) (w : World) :
    Calls Tryz.prog 70 #[.iface 276 (.pointer (some a)), .iface 276 (.pointer (some a))] w fun e w' => e = .returned (.bool true) ∧ w' = w := by
  obtain ⟨i, hi, hcmp⟩ := Option.map_eq_some_iff.1 sentComp
  obtain ⟨j, hj, hjs⟩ := Option.map_eq_some_iff.1 sentSize
  have hT := @run_callFunc_extern Tryz.prog 120 _ Extern.ReflectliteType.typeOf Tryz.func120 (by kernel_rfl) (by kernel_rfl) (by kernel_rfl) (by kernel_rfl)
  have tT := sentTypeOf
  have cT := sentComparable
  have mR := sentMethod 411
  have heq := run_eql_iface_ptr_same (P := Tryz.prog) w a Tryz.underlying111 Tryz.underlying276 hi hcmp hj
  go_enter Tryz.func70, Tryz.ntmps70
  go_wp2
  refine wp_loop_rounds 1 ?_
  rw [rounds_succ]
  go_wp2
  go_ret
  exact ⟨rfl, rfl⟩
/-- errors.Is of no error. -/
theorem isNil (b : Addr) (w : World) :
    Calls Tryz.prog 70 #[.nilIface, .iface 276 (.pointer (some b))] w fun e w' => e = .returned (.bool false) ∧ w' = w := by
  have hn := run_eql_iface_nil_left (P := Tryz.prog) w 276 (.pointer (some b)) Tryz.underlying111
  go_enter Tryz.func70, Tryz.ntmps70
  go_wp2
  go_ret
  exact ⟨rfl, rfl⟩
end Go.Proofs.YtmaillakhhdkfaaGreatDoor
