/-
  DERIVED. GIVEN WITH THE SEED: THE PROGRAM's TIES (one call each: nine closed facts by the kernel) AND EACH ROW's TIE, after the 31st guide's Derived/Test/Toyas{Tie, Card}.lean. No idea stands in it: it is a product of the set-up. Laid BY PROGRAM, IN A SANDBOX (cutbox-door.mjs). By AI agents, Wed Nov 11 2026. No macro, syntax, notation, axiom, sorry.
-/
import Derived.Test.YtmaillakhhdkfaaGreatDoorRows
import Derived.LaidByTextLater
import Derived.SevenTiedAt
import Derived.LaidSub
import Derived.LaidOnce
namespace Go.Proofs.YtmaillakhhdkfaaGreatDoor
open Go
set_option maxRecDepth 100000
theorem seatTie1 : Tryz.prog.laidByTextLater [("loop.example/g00791/impl.sampleFields", Rows.laid_loop_example_g00791_impl_sampleFields), ("loop.example/g00791/impl.errNotApplied", Rows.laid_loop_example_g00791_impl_errNotApplied)] [.data, .sentinel] true :=
  Program.laidByTextLater_by_one 37 8 17 (by kernel_rfl) (by kernel_rfl) (by kernel_rfl) (by kernel_rfl) (by kernel_rfl) (by kernel_rfl) (fun _ _ => by kernel_rfl)
theorem noOwnUnsafe : Tryz.pinned.checked.prog.headLifts.contains "ownunsafe" = false := by kernel_rfl
theorem tie : Tryz.prog.laidByTextLater [("loop.example/g00791/impl.sampleFields", Rows.laid_loop_example_g00791_impl_sampleFields)] [.data] true :=
  Program.laidByTextLater.sub seatTie1 ["loop.example/g00791/impl.sampleFields"] (by kernel_rfl) (by kernel_rfl)
theorem fnRecords_row_tie : Rows.fnRecordsRow.laidByTextAt .later Tryz.pinned [.data] true :=
  OpenClaim.laidByTextAt_later rfl rfl tie noOwnUnsafe
theorem tie2 : Tryz.prog.laidByTextLater [("loop.example/g00791/impl.sampleFields", Rows.laid_loop_example_g00791_impl_sampleFields), ("loop.example/g00791/impl.errNotApplied", Rows.laid_loop_example_g00791_impl_errNotApplied)] [.data, .sentinel] true :=
  Program.laidByTextLater.sub seatTie1 ["loop.example/g00791/impl.sampleFields", "loop.example/g00791/impl.errNotApplied"] (by kernel_rfl) (by kernel_rfl)
theorem fnRecovers_row_tie : Rows.fnRecoversRow.laidByTextAt .later Tryz.pinned [.data, .sentinel] true :=
  OpenClaim.laidByTextAt_later rfl rfl tie2 noOwnUnsafe
theorem fnExactRecoverDisk_row_tie : Rows.fnExactRecoverDiskRow.laidByTextAt .later Tryz.pinned [.data, .sentinel] true :=
  OpenClaim.laidByTextAt_later rfl rfl tie2 noOwnUnsafe
theorem fnRecordsUpto_row_tie : Rows.fnRecordsUptoRow.laidByTextAt .later Tryz.pinned [.data] true :=
  OpenClaim.laidByTextAt_later rfl rfl tie noOwnUnsafe
theorem fnRecoversUpto_row_tie : Rows.fnRecoversUptoRow.laidByTextAt .later Tryz.pinned [.data, .sentinel] true :=
  OpenClaim.laidByTextAt_later rfl rfl tie2 noOwnUnsafe
theorem fnExactRecoverDiskUpto_row_tie : Rows.fnExactRecoverDiskUptoRow.laidByTextAt .later Tryz.pinned [.data, .sentinel] true :=
  OpenClaim.laidByTextAt_later rfl rfl tie2 noOwnUnsafe
end Go.Proofs.YtmaillakhhdkfaaGreatDoor
