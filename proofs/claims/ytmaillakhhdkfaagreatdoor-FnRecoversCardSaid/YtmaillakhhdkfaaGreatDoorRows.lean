/-
  NARROWER THAN 'FOR EVERY INPUT', by the rows' own cells (each row's printed sentence says how): FnRecords: laid · FnRecovers: ifaces, laid · FnExactRecoverDisk: ifaces, laid.
  DERIVED. THE GIVEN ROWS OF THIS SEAT. 3 by the template 'for every input the law returns true; each argument reads behind the call as it read before'; 0 by the template 'total and deterministic' (their statements: YtmaillakhhdkfaaGreatDoorTotals.lean).
  GIVEN WITH THE SEED: the statements are not yours to turn. If you find one false, say at which input.
  Laid BY PROGRAM, IN A SANDBOX (cutbox-rows.mjs): the forced cells as the released guide's own fill.sh prints them over the translation 9ae73fa4223f6ea9… (all of the seat's roots in one cut). By AI agents, Wed Nov 11 2026. No macro, syntax, notation, axiom, sorry.
-/
import Derived.Test.YtmaillakhhdkfaaGreatDoorChecked
import GoSem.Claim
import GoSem.ClaimJoined
import GoSem.ClaimMapViews
import Derived.JoinedTies
import Derived.KernelRfl
namespace Go.Proofs.YtmaillakhhdkfaaGreatDoor
/- THE CELL 'sum', in the pinned program and in every row, IS THE sha256 OF THE DUMP (.gsa) THAT YtmaillakhhdkfaaGreatDoorProg.lean LOADS. Nothing in Lean hashes anything: it is a label: what it is worth is what the hold of that sum in a sandbox is worth. -/
noncomputable def Tryz.pinned : Pinned := { name := "ytmaillakhhdkfaagreatdoor", sum := "9ae73fa4223f6ea937199c4ed8a492b7fa0200d169348eaf66fc5094dd4f35bb", checked := Tryz.checked }
namespace Rows
def none {H : Type} : Left H := { results := [], args := [] }

/- WHAT THE LISTED PACKAGE-LEVEL VARIABLES READ AS WHEN THE CALL BEGINS. Each datum BY PROGRAM (the guide's laid-datum.mjs) off the statement by which the dump's own 'gosem.cut.vars' lays the variable. In a bare row this is a premise. The card (YtmaillakhhdkfaaGreatDoorCards.lean) ties it to the program's text. -/
def laid_loop_example_g00791_impl_sampleFields {H : Type} : DataW H := .agg [.agg [.lit (.int .i64 0), .lit (.int .i64 1), .lit (.int .i64 0), .lit (.int .i64 9)], .agg [.lit (.int .i64 1), .lit (.int .i64 2), .lit (.int .i64 0), .lit (.int .i64 999)], .agg [.lit (.int .i64 3), .lit (.int .i64 2), .lit (.int .i64 0), .lit (.int .i64 9999)], .agg [.lit (.int .i64 5), .lit (.int .i64 2), .lit (.int .i64 (-1000)), .lit (.int .i64 1000)]]
def laid_loop_example_g00791_impl_errNotApplied {H : Type} : DataW H := .iface "*errors.errorString" (.ptr (.agg [.lit (.string [116, 104, 101, 32, 98, 111, 100, 121, 32, 99, 97, 110, 110, 111, 116, 32, 98, 101, 32, 97, 112, 112, 108, 105, 101, 100])]))

/-- 'laws.FnRecords': WHATEVER THE INPUT: true; the input reads as it did. -/
def fnRecordsSpec : ChangeSpec := { name := "fnRecords", vars := ["loop.example/g00791/impl.sampleFields"], fn := fun _ => fun
  | [d, g1] => { results := [.lit (.bool true)], args := [d], vars := [g1] }
  | _ => none }
def fnRecordsRow : OpenClaim := { program := "ytmaillakhhdkfaagreatdoor", sum := "9ae73fa4223f6ea937199c4ed8a492b7fa0200d169348eaf66fc5094dd4f35bb", func := "loop.example/g00791/laws.FnRecords", spec := "fnRecords", unfollowed := true, recurses := true, named := ["loop.example/g00791/impl.sampleFields"], plainKeys := false, apart := false, laid := [("loop.example/g00791/impl.sampleFields", laid_loop_example_g00791_impl_sampleFields)] }
def FnRecordsSaid : Prop := fnRecordsRow.holds Tryz.pinned (OpenSpec.ofChange fnRecordsSpec)

/-- ITS FALSE NEIGHBOUR: 'it returns false'. Refute it at one input. -/
def fnRecordsWrong : ChangeSpec := { name := "fnRecords", vars := ["loop.example/g00791/impl.sampleFields"], fn := fun _ => fun
  | [d, g1] => { results := [.lit (.bool false)], args := [d], vars := [g1] }
  | _ => none }
def FnRecordsWrongFalsely : Prop := fnRecordsRow.holds Tryz.pinned (OpenSpec.ofChange fnRecordsWrong)

/-- 'laws.FnRecovers': WHATEVER THE INPUT: true; the input reads as it did. -/
def fnRecoversSpec : ChangeSpec := { name := "fnRecovers", vars := ["loop.example/g00791/impl.errNotApplied", "loop.example/g00791/impl.sampleFields"], fn := fun _ => fun
  | [d, g1, g2] => { results := [.lit (.bool true)], args := [d], vars := [g1, g2] }
  | _ => none }
def fnRecoversRow : OpenClaim := { program := "ytmaillakhhdkfaagreatdoor", sum := "9ae73fa4223f6ea937199c4ed8a492b7fa0200d169348eaf66fc5094dd4f35bb", func := "loop.example/g00791/laws.FnRecovers", spec := "fnRecovers", inPlace := ["internal/reflectlite.TypeOf"], unfollowed := true, recurses := true, named := ["loop.example/g00791/impl.errNotApplied", "loop.example/g00791/impl.sampleFields"], ifaces := true, plainKeys := false, apart := false, laid := [("loop.example/g00791/impl.sampleFields", laid_loop_example_g00791_impl_sampleFields), ("loop.example/g00791/impl.errNotApplied", laid_loop_example_g00791_impl_errNotApplied)] }
def FnRecoversSaid : Prop := fnRecoversRow.holds Tryz.pinned (OpenSpec.ofChange fnRecoversSpec)

/-- ITS FALSE NEIGHBOUR: 'it returns false'. Refute it at one input. -/
def fnRecoversWrong : ChangeSpec := { name := "fnRecovers", vars := ["loop.example/g00791/impl.errNotApplied", "loop.example/g00791/impl.sampleFields"], fn := fun _ => fun
  | [d, g1, g2] => { results := [.lit (.bool false)], args := [d], vars := [g1, g2] }
  | _ => none }
def FnRecoversWrongFalsely : Prop := fnRecoversRow.holds Tryz.pinned (OpenSpec.ofChange fnRecoversWrong)

/-- 'laws.FnExactRecoverDisk': WHATEVER THE INPUT: true; the input reads as it did. -/
def fnExactRecoverDiskSpec : ChangeSpec := { name := "fnExactRecoverDisk", vars := ["loop.example/g00791/impl.errNotApplied", "loop.example/g00791/impl.sampleFields"], fn := fun _ => fun
  | [d, g1, g2] => { results := [.lit (.bool true)], args := [d], vars := [g1, g2] }
  | _ => none }
def fnExactRecoverDiskRow : OpenClaim := { program := "ytmaillakhhdkfaagreatdoor", sum := "9ae73fa4223f6ea937199c4ed8a492b7fa0200d169348eaf66fc5094dd4f35bb", func := "loop.example/g00791/laws.FnExactRecoverDisk", spec := "fnExactRecoverDisk", inPlace := ["internal/reflectlite.TypeOf"], unfollowed := true, recurses := true, named := ["loop.example/g00791/impl.errNotApplied", "loop.example/g00791/impl.sampleFields"], ifaces := true, plainKeys := false, apart := false, laid := [("loop.example/g00791/impl.sampleFields", laid_loop_example_g00791_impl_sampleFields), ("loop.example/g00791/impl.errNotApplied", laid_loop_example_g00791_impl_errNotApplied)] }
def FnExactRecoverDiskSaid : Prop := fnExactRecoverDiskRow.holds Tryz.pinned (OpenSpec.ofChange fnExactRecoverDiskSpec)

/-- ITS FALSE NEIGHBOUR: 'it returns false'. Refute it at one input. -/
def fnExactRecoverDiskWrong : ChangeSpec := { name := "fnExactRecoverDisk", vars := ["loop.example/g00791/impl.errNotApplied", "loop.example/g00791/impl.sampleFields"], fn := fun _ => fun
  | [d, g1, g2] => { results := [.lit (.bool false)], args := [d], vars := [g1, g2] }
  | _ => none }
def FnExactRecoverDiskWrongFalsely : Prop := fnExactRecoverDiskRow.holds Tryz.pinned (OpenSpec.ofChange fnExactRecoverDiskWrong)

/- THE SECOND FORM. 'bulk': how many values and letters a reading holds, each counted each time it is reached (what is shared counts as often as it is met; a slice's spare places count too). A statement '..UptoSaid' is the law's where the arguments, and the package variables that the reading takes, are together of bulk at most 1048576: NARROWER than '..Said'. Prove '..Said' where nothing that the law and all that it calls make is longer than what came in: it says more and counts as full. Else prove '..UptoSaid'. A law counts once. -/
mutual
def uptoBulk {H : Type} : DataW H → Nat
  | .lit (.string bytes) => bytes.length + 1
  | .lit _ => 1
  | .nil => 1
  | .ptr d => uptoBulk d + 1
  | .slice elems spare => uptoBulkAll elems + uptoBulkAll spare + 1
  | .agg parts => uptoBulkAll parts + 1
  | .iface _ d => uptoBulk d + 1
  | .map entries => uptoBulkEntries entries + 1
  | .held _ => 1
def uptoBulkAll {H : Type} : List (DataW H) → Nat
  | [] => 0
  | d :: r => uptoBulk d + uptoBulkAll r
def uptoBulkEntries {H : Type} : List (Lit × DataW H) → Nat
  | [] => 0
  | x :: r => uptoBulkEntry x + uptoBulkEntries r
def uptoBulkEntry {H : Type} : Lit × DataW H → Nat
  | (.string bytes, d) => bytes.length + uptoBulk d + 1
  | (_, d) => uptoBulk d + 1
 end
def uptoSmall : (H : Type) → List (DataW H) → Bool := fun _ ds => decide (uptoBulkAll ds ≤ 1048576)
def OpenSpec.upto (s : _root_.Go.ChangeSpec) : _root_.Go.OpenSpec := { _root_.Go.OpenSpec.ofChange s with cond := some uptoSmall }

/-- 'laws.FnRecords', WHERE WHAT IT READS IS OF BULK AT MOST 1048576: true; the input reads as it did. -/
def fnRecordsUptoRow : OpenClaim := { program := "ytmaillakhhdkfaagreatdoor", sum := "9ae73fa4223f6ea937199c4ed8a492b7fa0200d169348eaf66fc5094dd4f35bb", func := "loop.example/g00791/laws.FnRecords", spec := "fnRecords", unfollowed := true, recurses := true, named := ["loop.example/g00791/impl.sampleFields"], plainKeys := false, apart := false, laid := [("loop.example/g00791/impl.sampleFields", laid_loop_example_g00791_impl_sampleFields)], narrowed := true }
def FnRecordsUptoSaid : Prop := fnRecordsUptoRow.holds Tryz.pinned (OpenSpec.upto fnRecordsSpec)

/-- 'laws.FnRecovers', WHERE WHAT IT READS IS OF BULK AT MOST 1048576: true; the input reads as it did. -/
def fnRecoversUptoRow : OpenClaim := { program := "ytmaillakhhdkfaagreatdoor", sum := "9ae73fa4223f6ea937199c4ed8a492b7fa0200d169348eaf66fc5094dd4f35bb", func := "loop.example/g00791/laws.FnRecovers", spec := "fnRecovers", inPlace := ["internal/reflectlite.TypeOf"], unfollowed := true, recurses := true, named := ["loop.example/g00791/impl.errNotApplied", "loop.example/g00791/impl.sampleFields"], ifaces := true, plainKeys := false, apart := false, laid := [("loop.example/g00791/impl.sampleFields", laid_loop_example_g00791_impl_sampleFields), ("loop.example/g00791/impl.errNotApplied", laid_loop_example_g00791_impl_errNotApplied)], narrowed := true }
def FnRecoversUptoSaid : Prop := fnRecoversUptoRow.holds Tryz.pinned (OpenSpec.upto fnRecoversSpec)

/-- 'laws.FnExactRecoverDisk', WHERE WHAT IT READS IS OF BULK AT MOST 1048576: true; the input reads as it did. -/
def fnExactRecoverDiskUptoRow : OpenClaim := { program := "ytmaillakhhdkfaagreatdoor", sum := "9ae73fa4223f6ea937199c4ed8a492b7fa0200d169348eaf66fc5094dd4f35bb", func := "loop.example/g00791/laws.FnExactRecoverDisk", spec := "fnExactRecoverDisk", inPlace := ["internal/reflectlite.TypeOf"], unfollowed := true, recurses := true, named := ["loop.example/g00791/impl.errNotApplied", "loop.example/g00791/impl.sampleFields"], ifaces := true, plainKeys := false, apart := false, laid := [("loop.example/g00791/impl.sampleFields", laid_loop_example_g00791_impl_sampleFields), ("loop.example/g00791/impl.errNotApplied", laid_loop_example_g00791_impl_errNotApplied)], narrowed := true }
def FnExactRecoverDiskUptoSaid : Prop := fnExactRecoverDiskUptoRow.holds Tryz.pinned (OpenSpec.upto fnExactRecoverDiskSpec)

end Rows
end Go.Proofs.YtmaillakhhdkfaaGreatDoor
