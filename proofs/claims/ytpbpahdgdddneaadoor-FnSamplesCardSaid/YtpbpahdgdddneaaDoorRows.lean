/-
  NARROWER THAN 'FOR EVERY INPUT', by the rows' own cells (each row's printed sentence says how): FnSamples: laid · FnExactSampleFault: laid · FnExactEncodeSample: laid · FnExactDecodeSample: laid.
  DERIVED. THE GIVEN ROWS OF THIS SEAT. 4 by the template 'for every input the law returns true; each argument reads behind the call as it read before'; 0 by the template 'total and deterministic' (their statements: YtpbpahdgdddneaaDoorTotals.lean).
  GIVEN WITH THE SEED: the statements are not yours to turn. If you find one false, say at which input.
  Laid BY PROGRAM, IN A SANDBOX (cutbox-rows.mjs): the forced cells as the released guide's own fill.sh prints them over the translation 0dc04bdf2121b252… (all of the seat's roots in one cut). By AI agents, Wed Nov 11 2026. No macro, syntax, notation, axiom, sorry.
-/
import Derived.Test.YtpbpahdgdddneaaDoorChecked
import GoSem.Claim
import GoSem.ClaimJoined
import GoSem.ClaimMapViews
import Derived.JoinedTies
import Derived.KernelRfl
namespace Go.Proofs.YtpbpahdgdddneaaDoor
/- THE CELL 'sum', in the pinned program and in every row, IS THE sha256 OF THE DUMP (.gsa) THAT YtpbpahdgdddneaaDoorProg.lean LOADS. Nothing in Lean hashes anything: it is a label: what it is worth is what the hold of that sum in a sandbox is worth. -/
noncomputable def Tryd.pinned : Pinned := { name := "ytpbpahdgdddneaadoor", sum := "0dc04bdf2121b2521f64d5426db6953ee567a6995bcad0eb5ae32575fe5e3f9d", checked := Tryd.checked }
namespace Rows
def none {H : Type} : Left H := { results := [], args := [] }

/- WHAT THE LISTED PACKAGE-LEVEL VARIABLES READ AS WHEN THE CALL BEGINS. Each datum BY PROGRAM (the guide's laid-datum.mjs) off the statement by which the dump's own 'gosem.cut.vars' lays the variable. In a bare row this is a premise. The card (YtpbpahdgdddneaaDoorCards.lean) ties it to the program's text. -/
def laid_loop_example_g00791_impl_sampleFields {H : Type} : DataW H := .agg [.agg [.lit (.int .i64 0), .lit (.int .i64 1), .lit (.int .i64 0), .lit (.int .i64 9)], .agg [.lit (.int .i64 1), .lit (.int .i64 2), .lit (.int .i64 0), .lit (.int .i64 999)], .agg [.lit (.int .i64 3), .lit (.int .i64 2), .lit (.int .i64 0), .lit (.int .i64 9999)], .agg [.lit (.int .i64 5), .lit (.int .i64 2), .lit (.int .i64 (-1000)), .lit (.int .i64 1000)]]

/-- 'laws.FnSamples': WHATEVER THE INPUT: true; the input reads as it did. -/
def fnSamplesSpec : ChangeSpec := { name := "fnSamples", vars := ["loop.example/g00791/impl.sampleFields"], fn := fun _ => fun
  | [d, g1] => { results := [.lit (.bool true)], args := [d], vars := [g1] }
  | _ => none }
def fnSamplesRow : OpenClaim := { program := "ytpbpahdgdddneaadoor", sum := "0dc04bdf2121b2521f64d5426db6953ee567a6995bcad0eb5ae32575fe5e3f9d", func := "loop.example/g00791/laws.FnSamples", spec := "fnSamples", named := ["loop.example/g00791/impl.sampleFields"], apart := false, laid := [("loop.example/g00791/impl.sampleFields", laid_loop_example_g00791_impl_sampleFields)] }
def FnSamplesSaid : Prop := fnSamplesRow.holds Tryd.pinned (OpenSpec.ofChange fnSamplesSpec)

/-- ITS FALSE NEIGHBOUR: 'it returns false'. Refute it at one input. -/
def fnSamplesWrong : ChangeSpec := { name := "fnSamples", vars := ["loop.example/g00791/impl.sampleFields"], fn := fun _ => fun
  | [d, g1] => { results := [.lit (.bool false)], args := [d], vars := [g1] }
  | _ => none }
def FnSamplesWrongFalsely : Prop := fnSamplesRow.holds Tryd.pinned (OpenSpec.ofChange fnSamplesWrong)

/-- 'laws.FnExactSampleFault': WHATEVER THE INPUT: true; the input reads as it did. -/
def fnExactSampleFaultSpec : ChangeSpec := { name := "fnExactSampleFault", vars := ["loop.example/g00791/impl.sampleFields"], fn := fun _ => fun
  | [d, g1] => { results := [.lit (.bool true)], args := [d], vars := [g1] }
  | _ => none }
def fnExactSampleFaultRow : OpenClaim := { program := "ytpbpahdgdddneaadoor", sum := "0dc04bdf2121b2521f64d5426db6953ee567a6995bcad0eb5ae32575fe5e3f9d", func := "loop.example/g00791/laws.FnExactSampleFault", spec := "fnExactSampleFault", named := ["loop.example/g00791/impl.sampleFields"], apart := false, laid := [("loop.example/g00791/impl.sampleFields", laid_loop_example_g00791_impl_sampleFields)] }
def FnExactSampleFaultSaid : Prop := fnExactSampleFaultRow.holds Tryd.pinned (OpenSpec.ofChange fnExactSampleFaultSpec)

/-- ITS FALSE NEIGHBOUR: 'it returns false'. Refute it at one input. -/
def fnExactSampleFaultWrong : ChangeSpec := { name := "fnExactSampleFault", vars := ["loop.example/g00791/impl.sampleFields"], fn := fun _ => fun
  | [d, g1] => { results := [.lit (.bool false)], args := [d], vars := [g1] }
  | _ => none }
def FnExactSampleFaultWrongFalsely : Prop := fnExactSampleFaultRow.holds Tryd.pinned (OpenSpec.ofChange fnExactSampleFaultWrong)

/-- 'laws.FnExactEncodeSample': WHATEVER THE INPUT: true; the input reads as it did. -/
def fnExactEncodeSampleSpec : ChangeSpec := { name := "fnExactEncodeSample", vars := ["loop.example/g00791/impl.sampleFields"], fn := fun _ => fun
  | [d, g1] => { results := [.lit (.bool true)], args := [d], vars := [g1] }
  | _ => none }
def fnExactEncodeSampleRow : OpenClaim := { program := "ytpbpahdgdddneaadoor", sum := "0dc04bdf2121b2521f64d5426db6953ee567a6995bcad0eb5ae32575fe5e3f9d", func := "loop.example/g00791/laws.FnExactEncodeSample", spec := "fnExactEncodeSample", named := ["loop.example/g00791/impl.sampleFields"], apart := false, laid := [("loop.example/g00791/impl.sampleFields", laid_loop_example_g00791_impl_sampleFields)] }
def FnExactEncodeSampleSaid : Prop := fnExactEncodeSampleRow.holds Tryd.pinned (OpenSpec.ofChange fnExactEncodeSampleSpec)

/-- ITS FALSE NEIGHBOUR: 'it returns false'. Refute it at one input. -/
def fnExactEncodeSampleWrong : ChangeSpec := { name := "fnExactEncodeSample", vars := ["loop.example/g00791/impl.sampleFields"], fn := fun _ => fun
  | [d, g1] => { results := [.lit (.bool false)], args := [d], vars := [g1] }
  | _ => none }
def FnExactEncodeSampleWrongFalsely : Prop := fnExactEncodeSampleRow.holds Tryd.pinned (OpenSpec.ofChange fnExactEncodeSampleWrong)

/-- 'laws.FnExactDecodeSample': WHATEVER THE INPUT: true; the input reads as it did. -/
def fnExactDecodeSampleSpec : ChangeSpec := { name := "fnExactDecodeSample", vars := ["loop.example/g00791/impl.sampleFields"], fn := fun _ => fun
  | [d, g1] => { results := [.lit (.bool true)], args := [d], vars := [g1] }
  | _ => none }
def fnExactDecodeSampleRow : OpenClaim := { program := "ytpbpahdgdddneaadoor", sum := "0dc04bdf2121b2521f64d5426db6953ee567a6995bcad0eb5ae32575fe5e3f9d", func := "loop.example/g00791/laws.FnExactDecodeSample", spec := "fnExactDecodeSample", named := ["loop.example/g00791/impl.sampleFields"], apart := false, laid := [("loop.example/g00791/impl.sampleFields", laid_loop_example_g00791_impl_sampleFields)] }
def FnExactDecodeSampleSaid : Prop := fnExactDecodeSampleRow.holds Tryd.pinned (OpenSpec.ofChange fnExactDecodeSampleSpec)

/-- ITS FALSE NEIGHBOUR: 'it returns false'. Refute it at one input. -/
def fnExactDecodeSampleWrong : ChangeSpec := { name := "fnExactDecodeSample", vars := ["loop.example/g00791/impl.sampleFields"], fn := fun _ => fun
  | [d, g1] => { results := [.lit (.bool false)], args := [d], vars := [g1] }
  | _ => none }
def FnExactDecodeSampleWrongFalsely : Prop := fnExactDecodeSampleRow.holds Tryd.pinned (OpenSpec.ofChange fnExactDecodeSampleWrong)

/- THE SECOND FORM. 'bulk': how many values and letters a reading holds, each counted each time it is reached (what is shared counts as often as it is met; a slice's spare places count too). A statement '..UptoSaid' is the law's where the arguments, and the package variables that the reading takes, are together of bulk at most 1048576: NARROWER than '..Said'. Prove '..Said' where nothing that the law and all that it calls make is longer than what came in: it says more and counts as full. Else prove '..UptoSaid'. A law counts once. -/
mutual
def uptoBulk {H : Type} : DataW H → Nat
  | .lit (.string bytes) => bytes.length + 1
  | .lit _ => 1
  | .nil => 1
  | .ptr d => uptoBulk d + 1
  | .slice elems spare => uptoBulkAll elems + uptoBulkAll spare + 1
  | .agg parts => uptoBulkAll parts + 1
  | .iface _ d => uptoBulk d + 1
  | .map entries => uptoBulkEntries entries + 1
  | .held _ => 1
def uptoBulkAll {H : Type} : List (DataW H) → Nat
  | [] => 0
  | d :: r => uptoBulk d + uptoBulkAll r
def uptoBulkEntries {H : Type} : List (Lit × DataW H) → Nat
  | [] => 0
  | x :: r => uptoBulkEntry x + uptoBulkEntries r
def uptoBulkEntry {H : Type} : Lit × DataW H → Nat
  | (.string bytes, d) => bytes.length + uptoBulk d + 1
  | (_, d) => uptoBulk d + 1
 end
def uptoSmall : (H : Type) → List (DataW H) → Bool := fun _ ds => decide (uptoBulkAll ds ≤ 1048576)
def OpenSpec.upto (s : _root_.Go.ChangeSpec) : _root_.Go.OpenSpec := { _root_.Go.OpenSpec.ofChange s with cond := some uptoSmall }

/-- 'laws.FnSamples', WHERE WHAT IT READS IS OF BULK AT MOST 1048576: true; the input reads as it did. -/
def fnSamplesUptoRow : OpenClaim := { program := "ytpbpahdgdddneaadoor", sum := "0dc04bdf2121b2521f64d5426db6953ee567a6995bcad0eb5ae32575fe5e3f9d", func := "loop.example/g00791/laws.FnSamples", spec := "fnSamples", named := ["loop.example/g00791/impl.sampleFields"], apart := false, laid := [("loop.example/g00791/impl.sampleFields", laid_loop_example_g00791_impl_sampleFields)], narrowed := true }
def FnSamplesUptoSaid : Prop := fnSamplesUptoRow.holds Tryd.pinned (OpenSpec.upto fnSamplesSpec)

/-- 'laws.FnExactSampleFault', WHERE WHAT IT READS IS OF BULK AT MOST 1048576: true; the input reads as it did. -/
def fnExactSampleFaultUptoRow : OpenClaim := { program := "ytpbpahdgdddneaadoor", sum := "0dc04bdf2121b2521f64d5426db6953ee567a6995bcad0eb5ae32575fe5e3f9d", func := "loop.example/g00791/laws.FnExactSampleFault", spec := "fnExactSampleFault", named := ["loop.example/g00791/impl.sampleFields"], apart := false, laid := [("loop.example/g00791/impl.sampleFields", laid_loop_example_g00791_impl_sampleFields)], narrowed := true }
def FnExactSampleFaultUptoSaid : Prop := fnExactSampleFaultUptoRow.holds Tryd.pinned (OpenSpec.upto fnExactSampleFaultSpec)

/-- 'laws.FnExactEncodeSample', WHERE WHAT IT READS IS OF BULK AT MOST 1048576: true; the input reads as it did. -/
def fnExactEncodeSampleUptoRow : OpenClaim := { program := "ytpbpahdgdddneaadoor", sum := "0dc04bdf2121b2521f64d5426db6953ee567a6995bcad0eb5ae32575fe5e3f9d", func := "loop.example/g00791/laws.FnExactEncodeSample", spec := "fnExactEncodeSample", named := ["loop.example/g00791/impl.sampleFields"], apart := false, laid := [("loop.example/g00791/impl.sampleFields", laid_loop_example_g00791_impl_sampleFields)], narrowed := true }
def FnExactEncodeSampleUptoSaid : Prop := fnExactEncodeSampleUptoRow.holds Tryd.pinned (OpenSpec.upto fnExactEncodeSampleSpec)

/-- 'laws.FnExactDecodeSample', WHERE WHAT IT READS IS OF BULK AT MOST 1048576: true; the input reads as it did. -/
def fnExactDecodeSampleUptoRow : OpenClaim := { program := "ytpbpahdgdddneaadoor", sum := "0dc04bdf2121b2521f64d5426db6953ee567a6995bcad0eb5ae32575fe5e3f9d", func := "loop.example/g00791/laws.FnExactDecodeSample", spec := "fnExactDecodeSample", named := ["loop.example/g00791/impl.sampleFields"], apart := false, laid := [("loop.example/g00791/impl.sampleFields", laid_loop_example_g00791_impl_sampleFields)], narrowed := true }
def FnExactDecodeSampleUptoSaid : Prop := fnExactDecodeSampleUptoRow.holds Tryd.pinned (OpenSpec.upto fnExactDecodeSampleSpec)

end Rows
end Go.Proofs.YtpbpahdgdddneaaDoor
