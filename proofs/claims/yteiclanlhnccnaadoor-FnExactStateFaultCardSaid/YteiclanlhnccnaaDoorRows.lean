/-
  NARROWER THAN 'FOR EVERY INPUT', by the rows' own cells (each row's printed sentence says how): FnExactRecordFault: laid · FnExactEncodeRecord: laid · FnExactDecodeRecord: laid · FnExactStateFault: laid.
  DERIVED. THE GIVEN ROWS OF THIS SEAT. 4 by the template 'for every input the law returns true; each argument reads behind the call as it read before'; 0 by the template 'total and deterministic' (their statements: YteiclanlhnccnaaDoorTotals.lean).
  GIVEN WITH THE SEED: the statements are not yours to turn. If you find one false, say at which input.
  Laid BY PROGRAM, IN A SANDBOX (cutbox-rows.mjs): the forced cells as the released guide's own fill.sh prints them over the translation b3776d89aad0bd49… (all of the seat's roots in one cut). By AI agents, Wed Nov 11 2026. No macro, syntax, notation, axiom, sorry.
-/
import Derived.Test.YteiclanlhnccnaaDoorChecked
import GoSem.Claim
import GoSem.ClaimJoined
import GoSem.ClaimMapViews
import Derived.JoinedTies
import Derived.KernelRfl
namespace Go.Proofs.YteiclanlhnccnaaDoor
/- THE CELL 'sum', in the pinned program and in every row, IS THE sha256 OF THE DUMP (.gsa) THAT YteiclanlhnccnaaDoorProg.lean LOADS. Nothing in Lean hashes anything: it is a label: what it is worth is what the hold of that sum in a sandbox is worth. -/
noncomputable def Tryd.pinned : Pinned := { name := "yteiclanlhnccnaadoor", sum := "b3776d89aad0bd49e7f524e67d10472c179ba496dbf5f16b8140edb0334e69d9", checked := Tryd.checked }
namespace Rows
def none {H : Type} : Left H := { results := [], args := [] }

/- WHAT THE LISTED PACKAGE-LEVEL VARIABLES READ AS WHEN THE CALL BEGINS. Each datum BY PROGRAM (the guide's laid-datum.mjs) off the statement by which the dump's own 'gosem.cut.vars' lays the variable. In a bare row this is a premise. The card (YteiclanlhnccnaaDoorCards.lean) ties it to the program's text. -/
def laid_loop_example_g00791_impl_sampleFields {H : Type} : DataW H := .agg [.agg [.lit (.int .i64 0), .lit (.int .i64 1), .lit (.int .i64 0), .lit (.int .i64 9)], .agg [.lit (.int .i64 1), .lit (.int .i64 2), .lit (.int .i64 0), .lit (.int .i64 999)], .agg [.lit (.int .i64 3), .lit (.int .i64 2), .lit (.int .i64 0), .lit (.int .i64 9999)], .agg [.lit (.int .i64 5), .lit (.int .i64 2), .lit (.int .i64 (-1000)), .lit (.int .i64 1000)]]

/-- 'laws.FnExactRecordFault': WHATEVER THE INPUT: true; the input reads as it did. -/
def fnExactRecordFaultSpec : ChangeSpec := { name := "fnExactRecordFault", vars := ["loop.example/g00791/impl.sampleFields"], fn := fun _ => fun
  | [d, g1] => { results := [.lit (.bool true)], args := [d], vars := [g1] }
  | _ => none }
def fnExactRecordFaultRow : OpenClaim := { program := "yteiclanlhnccnaadoor", sum := "b3776d89aad0bd49e7f524e67d10472c179ba496dbf5f16b8140edb0334e69d9", func := "loop.example/g00791/laws.FnExactRecordFault", spec := "fnExactRecordFault", unfollowed := true, recurses := true, named := ["loop.example/g00791/impl.sampleFields"], plainKeys := false, apart := false, laid := [("loop.example/g00791/impl.sampleFields", laid_loop_example_g00791_impl_sampleFields)] }
def FnExactRecordFaultSaid : Prop := fnExactRecordFaultRow.holds Tryd.pinned (OpenSpec.ofChange fnExactRecordFaultSpec)

/-- ITS FALSE NEIGHBOUR: 'it returns false'. Refute it at one input. -/
def fnExactRecordFaultWrong : ChangeSpec := { name := "fnExactRecordFault", vars := ["loop.example/g00791/impl.sampleFields"], fn := fun _ => fun
  | [d, g1] => { results := [.lit (.bool false)], args := [d], vars := [g1] }
  | _ => none }
def FnExactRecordFaultWrongFalsely : Prop := fnExactRecordFaultRow.holds Tryd.pinned (OpenSpec.ofChange fnExactRecordFaultWrong)

/-- 'laws.FnExactEncodeRecord': WHATEVER THE INPUT: true; the input reads as it did. -/
def fnExactEncodeRecordSpec : ChangeSpec := { name := "fnExactEncodeRecord", vars := ["loop.example/g00791/impl.sampleFields"], fn := fun _ => fun
  | [d, g1] => { results := [.lit (.bool true)], args := [d], vars := [g1] }
  | _ => none }
def fnExactEncodeRecordRow : OpenClaim := { program := "yteiclanlhnccnaadoor", sum := "b3776d89aad0bd49e7f524e67d10472c179ba496dbf5f16b8140edb0334e69d9", func := "loop.example/g00791/laws.FnExactEncodeRecord", spec := "fnExactEncodeRecord", unfollowed := true, recurses := true, named := ["loop.example/g00791/impl.sampleFields"], plainKeys := false, apart := false, laid := [("loop.example/g00791/impl.sampleFields", laid_loop_example_g00791_impl_sampleFields)] }
def FnExactEncodeRecordSaid : Prop := fnExactEncodeRecordRow.holds Tryd.pinned (OpenSpec.ofChange fnExactEncodeRecordSpec)

/-- ITS FALSE NEIGHBOUR: 'it returns false'. Refute it at one input. -/
def fnExactEncodeRecordWrong : ChangeSpec := { name := "fnExactEncodeRecord", vars := ["loop.example/g00791/impl.sampleFields"], fn := fun _ => fun
  | [d, g1] => { results := [.lit (.bool false)], args := [d], vars := [g1] }
  | _ => none }
def FnExactEncodeRecordWrongFalsely : Prop := fnExactEncodeRecordRow.holds Tryd.pinned (OpenSpec.ofChange fnExactEncodeRecordWrong)

/-- 'laws.FnExactDecodeRecord': WHATEVER THE INPUT: true; the input reads as it did. -/
def fnExactDecodeRecordSpec : ChangeSpec := { name := "fnExactDecodeRecord", vars := ["loop.example/g00791/impl.sampleFields"], fn := fun _ => fun
  | [d, g1] => { results := [.lit (.bool true)], args := [d], vars := [g1] }
  | _ => none }
def fnExactDecodeRecordRow : OpenClaim := { program := "yteiclanlhnccnaadoor", sum := "b3776d89aad0bd49e7f524e67d10472c179ba496dbf5f16b8140edb0334e69d9", func := "loop.example/g00791/laws.FnExactDecodeRecord", spec := "fnExactDecodeRecord", unfollowed := true, recurses := true, named := ["loop.example/g00791/impl.sampleFields"], plainKeys := false, apart := false, laid := [("loop.example/g00791/impl.sampleFields", laid_loop_example_g00791_impl_sampleFields)] }
def FnExactDecodeRecordSaid : Prop := fnExactDecodeRecordRow.holds Tryd.pinned (OpenSpec.ofChange fnExactDecodeRecordSpec)

/-- ITS FALSE NEIGHBOUR: 'it returns false'. Refute it at one input. -/
def fnExactDecodeRecordWrong : ChangeSpec := { name := "fnExactDecodeRecord", vars := ["loop.example/g00791/impl.sampleFields"], fn := fun _ => fun
  | [d, g1] => { results := [.lit (.bool false)], args := [d], vars := [g1] }
  | _ => none }
def FnExactDecodeRecordWrongFalsely : Prop := fnExactDecodeRecordRow.holds Tryd.pinned (OpenSpec.ofChange fnExactDecodeRecordWrong)

/-- 'laws.FnExactStateFault': WHATEVER THE INPUT: true; the input reads as it did. -/
def fnExactStateFaultSpec : ChangeSpec := { name := "fnExactStateFault", vars := ["loop.example/g00791/impl.sampleFields"], fn := fun _ => fun
  | [d, g1] => { results := [.lit (.bool true)], args := [d], vars := [g1] }
  | _ => none }
def fnExactStateFaultRow : OpenClaim := { program := "yteiclanlhnccnaadoor", sum := "b3776d89aad0bd49e7f524e67d10472c179ba496dbf5f16b8140edb0334e69d9", func := "loop.example/g00791/laws.FnExactStateFault", spec := "fnExactStateFault", named := ["loop.example/g00791/impl.sampleFields"], plainKeys := false, apart := false, laid := [("loop.example/g00791/impl.sampleFields", laid_loop_example_g00791_impl_sampleFields)] }
def FnExactStateFaultSaid : Prop := fnExactStateFaultRow.holds Tryd.pinned (OpenSpec.ofChange fnExactStateFaultSpec)

/-- ITS FALSE NEIGHBOUR: 'it returns false'. Refute it at one input. -/
def fnExactStateFaultWrong : ChangeSpec := { name := "fnExactStateFault", vars := ["loop.example/g00791/impl.sampleFields"], fn := fun _ => fun
  | [d, g1] => { results := [.lit (.bool false)], args := [d], vars := [g1] }
  | _ => none }
def FnExactStateFaultWrongFalsely : Prop := fnExactStateFaultRow.holds Tryd.pinned (OpenSpec.ofChange fnExactStateFaultWrong)

/- THE SECOND FORM. 'bulk': how many values and letters a reading holds, each counted each time it is reached (what is shared counts as often as it is met; a slice's spare places count too). A statement '..UptoSaid' is the law's where the arguments, and the package variables that the reading takes, are together of bulk at most 1048576: NARROWER than '..Said'. Prove '..Said' where nothing that the law and all that it calls make is longer than what came in: it says more and counts as full. Else prove '..UptoSaid'. A law counts once. -/
mutual
def uptoBulk {H : Type} : DataW H → Nat
  | .lit (.string bytes) => bytes.length + 1
  | .lit _ => 1
  | .nil => 1
  | .ptr d => uptoBulk d + 1
  | .slice elems spare => uptoBulkAll elems + uptoBulkAll spare + 1
  | .agg parts => uptoBulkAll parts + 1
  | .iface _ d => uptoBulk d + 1
  | .map entries => uptoBulkEntries entries + 1
  | .held _ => 1
def uptoBulkAll {H : Type} : List (DataW H) → Nat
  | [] => 0
  | d :: r => uptoBulk d + uptoBulkAll r
def uptoBulkEntries {H : Type} : List (Lit × DataW H) → Nat
  | [] => 0
  | x :: r => uptoBulkEntry x + uptoBulkEntries r
def uptoBulkEntry {H : Type} : Lit × DataW H → Nat
  | (.string bytes, d) => bytes.length + uptoBulk d + 1
  | (_, d) => uptoBulk d + 1
 end
def uptoSmall : (H : Type) → List (DataW H) → Bool := fun _ ds => decide (uptoBulkAll ds ≤ 1048576)
def OpenSpec.upto (s : _root_.Go.ChangeSpec) : _root_.Go.OpenSpec := { _root_.Go.OpenSpec.ofChange s with cond := some uptoSmall }

/-- 'laws.FnExactRecordFault', WHERE WHAT IT READS IS OF BULK AT MOST 1048576: true; the input reads as it did. -/
def fnExactRecordFaultUptoRow : OpenClaim := { program := "yteiclanlhnccnaadoor", sum := "b3776d89aad0bd49e7f524e67d10472c179ba496dbf5f16b8140edb0334e69d9", func := "loop.example/g00791/laws.FnExactRecordFault", spec := "fnExactRecordFault", unfollowed := true, recurses := true, named := ["loop.example/g00791/impl.sampleFields"], plainKeys := false, apart := false, laid := [("loop.example/g00791/impl.sampleFields", laid_loop_example_g00791_impl_sampleFields)], narrowed := true }
def FnExactRecordFaultUptoSaid : Prop := fnExactRecordFaultUptoRow.holds Tryd.pinned (OpenSpec.upto fnExactRecordFaultSpec)

/-- 'laws.FnExactEncodeRecord', WHERE WHAT IT READS IS OF BULK AT MOST 1048576: true; the input reads as it did. -/
def fnExactEncodeRecordUptoRow : OpenClaim := { program := "yteiclanlhnccnaadoor", sum := "b3776d89aad0bd49e7f524e67d10472c179ba496dbf5f16b8140edb0334e69d9", func := "loop.example/g00791/laws.FnExactEncodeRecord", spec := "fnExactEncodeRecord", unfollowed := true, recurses := true, named := ["loop.example/g00791/impl.sampleFields"], plainKeys := false, apart := false, laid := [("loop.example/g00791/impl.sampleFields", laid_loop_example_g00791_impl_sampleFields)], narrowed := true }
def FnExactEncodeRecordUptoSaid : Prop := fnExactEncodeRecordUptoRow.holds Tryd.pinned (OpenSpec.upto fnExactEncodeRecordSpec)

/-- 'laws.FnExactDecodeRecord', WHERE WHAT IT READS IS OF BULK AT MOST 1048576: true; the input reads as it did. -/
def fnExactDecodeRecordUptoRow : OpenClaim := { program := "yteiclanlhnccnaadoor", sum := "b3776d89aad0bd49e7f524e67d10472c179ba496dbf5f16b8140edb0334e69d9", func := "loop.example/g00791/laws.FnExactDecodeRecord", spec := "fnExactDecodeRecord", unfollowed := true, recurses := true, named := ["loop.example/g00791/impl.sampleFields"], plainKeys := false, apart := false, laid := [("loop.example/g00791/impl.sampleFields", laid_loop_example_g00791_impl_sampleFields)], narrowed := true }
def FnExactDecodeRecordUptoSaid : Prop := fnExactDecodeRecordUptoRow.holds Tryd.pinned (OpenSpec.upto fnExactDecodeRecordSpec)

/-- 'laws.FnExactStateFault', WHERE WHAT IT READS IS OF BULK AT MOST 1048576: true; the input reads as it did. -/
def fnExactStateFaultUptoRow : OpenClaim := { program := "yteiclanlhnccnaadoor", sum := "b3776d89aad0bd49e7f524e67d10472c179ba496dbf5f16b8140edb0334e69d9", func := "loop.example/g00791/laws.FnExactStateFault", spec := "fnExactStateFault", named := ["loop.example/g00791/impl.sampleFields"], plainKeys := false, apart := false, laid := [("loop.example/g00791/impl.sampleFields", laid_loop_example_g00791_impl_sampleFields)], narrowed := true }
def FnExactStateFaultUptoSaid : Prop := fnExactStateFaultUptoRow.holds Tryd.pinned (OpenSpec.upto fnExactStateFaultSpec)

end Rows
end Go.Proofs.YteiclanlhnccnaaDoor
