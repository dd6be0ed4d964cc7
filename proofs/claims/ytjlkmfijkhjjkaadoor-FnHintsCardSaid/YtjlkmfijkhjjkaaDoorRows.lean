/-
  NARROWER THAN 'FOR EVERY INPUT', by the rows' own cells (each row's printed sentence says how): FnHints: laid · FnExactHintsFault: laid · FnExactAddHint: laid · FnExactDoneHint: laid · FnExactDueHints: laid · FnExactSentHint: laid.
  DERIVED. THE GIVEN ROWS OF THIS SEAT. 6 by the template 'for every input the law returns true; each argument reads behind the call as it read before'; 0 by the template 'total and deterministic' (their statements: YtjlkmfijkhjjkaaDoorTotals.lean).
  GIVEN WITH THE SEED: the statements are not yours to turn. If you find one false, say at which input.
  Laid BY PROGRAM, IN A SANDBOX (cutbox-rows.mjs): the forced cells as the released guide's own fill.sh prints them over the translation 7053bd0ac89cb2e5… (all of the seat's roots in one cut). By AI agents, Wed Nov 11 2026. No macro, syntax, notation, axiom, sorry.
-/
import Derived.Test.YtjlkmfijkhjjkaaDoorChecked
import GoSem.Claim
import GoSem.ClaimJoined
import GoSem.ClaimMapViews
import Derived.JoinedTies
import Derived.KernelRfl
namespace Go.Proofs.YtjlkmfijkhjjkaaDoor
/- THE CELL 'sum', in the pinned program and in every row, IS THE sha256 OF THE DUMP (.gsa) THAT YtjlkmfijkhjjkaaDoorProg.lean LOADS. Nothing in Lean hashes anything: it is a label: what it is worth is what the hold of that sum in a sandbox is worth. -/
noncomputable def Tryd.pinned : Pinned := { name := "ytjlkmfijkhjjkaadoor", sum := "7053bd0ac89cb2e597c57d3c628f644641f52c4bec25401c51427df16c754fab", checked := Tryd.checked }
namespace Rows
def none {H : Type} : Left H := { results := [], args := [] }

/- WHAT THE LISTED PACKAGE-LEVEL VARIABLES READ AS WHEN THE CALL BEGINS. Each datum BY PROGRAM (the guide's laid-datum.mjs) off the statement by which the dump's own 'gosem.cut.vars' lays the variable. In a bare row this is a premise. The card (YtjlkmfijkhjjkaaDoorCards.lean) ties it to the program's text. -/
def laid_loop_example_g00791_impl_sampleFields {H : Type} : DataW H := .agg [.agg [.lit (.int .i64 0), .lit (.int .i64 1), .lit (.int .i64 0), .lit (.int .i64 9)], .agg [.lit (.int .i64 1), .lit (.int .i64 2), .lit (.int .i64 0), .lit (.int .i64 999)], .agg [.lit (.int .i64 3), .lit (.int .i64 2), .lit (.int .i64 0), .lit (.int .i64 9999)], .agg [.lit (.int .i64 5), .lit (.int .i64 2), .lit (.int .i64 (-1000)), .lit (.int .i64 1000)]]

/-- 'laws.FnHints': WHATEVER THE INPUT: true; the input reads as it did. -/
def fnHintsSpec : ChangeSpec := { name := "fnHints", vars := ["loop.example/g00791/impl.sampleFields"], fn := fun _ => fun
  | [d, g1] => { results := [.lit (.bool true)], args := [d], vars := [g1] }
  | _ => none }
def fnHintsRow : OpenClaim := { program := "ytjlkmfijkhjjkaadoor", sum := "7053bd0ac89cb2e597c57d3c628f644641f52c4bec25401c51427df16c754fab", func := "loop.example/g00791/laws.FnHints", spec := "fnHints", unfollowed := true, recurses := true, named := ["loop.example/g00791/impl.sampleFields"], plainKeys := false, apart := false, laid := [("loop.example/g00791/impl.sampleFields", laid_loop_example_g00791_impl_sampleFields)] }
def FnHintsSaid : Prop := fnHintsRow.holds Tryd.pinned (OpenSpec.ofChange fnHintsSpec)

/-- ITS FALSE NEIGHBOUR: 'it returns false'. Refute it at one input. -/
def fnHintsWrong : ChangeSpec := { name := "fnHints", vars := ["loop.example/g00791/impl.sampleFields"], fn := fun _ => fun
  | [d, g1] => { results := [.lit (.bool false)], args := [d], vars := [g1] }
  | _ => none }
def FnHintsWrongFalsely : Prop := fnHintsRow.holds Tryd.pinned (OpenSpec.ofChange fnHintsWrong)

/-- 'laws.FnExactHintsFault': WHATEVER THE INPUT: true; the input reads as it did. -/
def fnExactHintsFaultSpec : ChangeSpec := { name := "fnExactHintsFault", vars := ["loop.example/g00791/impl.sampleFields"], fn := fun _ => fun
  | [d, g1] => { results := [.lit (.bool true)], args := [d], vars := [g1] }
  | _ => none }
def fnExactHintsFaultRow : OpenClaim := { program := "ytjlkmfijkhjjkaadoor", sum := "7053bd0ac89cb2e597c57d3c628f644641f52c4bec25401c51427df16c754fab", func := "loop.example/g00791/laws.FnExactHintsFault", spec := "fnExactHintsFault", named := ["loop.example/g00791/impl.sampleFields"], plainKeys := false, apart := false, laid := [("loop.example/g00791/impl.sampleFields", laid_loop_example_g00791_impl_sampleFields)] }
def FnExactHintsFaultSaid : Prop := fnExactHintsFaultRow.holds Tryd.pinned (OpenSpec.ofChange fnExactHintsFaultSpec)

/-- ITS FALSE NEIGHBOUR: 'it returns false'. Refute it at one input. -/
def fnExactHintsFaultWrong : ChangeSpec := { name := "fnExactHintsFault", vars := ["loop.example/g00791/impl.sampleFields"], fn := fun _ => fun
  | [d, g1] => { results := [.lit (.bool false)], args := [d], vars := [g1] }
  | _ => none }
def FnExactHintsFaultWrongFalsely : Prop := fnExactHintsFaultRow.holds Tryd.pinned (OpenSpec.ofChange fnExactHintsFaultWrong)

/-- 'laws.FnExactAddHint': WHATEVER THE INPUT: true; the input reads as it did. -/
def fnExactAddHintSpec : ChangeSpec := { name := "fnExactAddHint", vars := ["loop.example/g00791/impl.sampleFields"], fn := fun _ => fun
  | [d1, d2, d3, g1] => { results := [.lit (.bool true)], args := [d1, d2, d3], vars := [g1] }
  | _ => none }
def fnExactAddHintRow : OpenClaim := { program := "ytjlkmfijkhjjkaadoor", sum := "7053bd0ac89cb2e597c57d3c628f644641f52c4bec25401c51427df16c754fab", func := "loop.example/g00791/laws.FnExactAddHint", spec := "fnExactAddHint", unfollowed := true, recurses := true, named := ["loop.example/g00791/impl.sampleFields"], plainKeys := false, apart := false, laid := [("loop.example/g00791/impl.sampleFields", laid_loop_example_g00791_impl_sampleFields)] }
def FnExactAddHintSaid : Prop := fnExactAddHintRow.holds Tryd.pinned (OpenSpec.ofChange fnExactAddHintSpec)

/-- ITS FALSE NEIGHBOUR: 'it returns false'. Refute it at one input. -/
def fnExactAddHintWrong : ChangeSpec := { name := "fnExactAddHint", vars := ["loop.example/g00791/impl.sampleFields"], fn := fun _ => fun
  | [d1, d2, d3, g1] => { results := [.lit (.bool false)], args := [d1, d2, d3], vars := [g1] }
  | _ => none }
def FnExactAddHintWrongFalsely : Prop := fnExactAddHintRow.holds Tryd.pinned (OpenSpec.ofChange fnExactAddHintWrong)

/-- 'laws.FnExactDoneHint': WHATEVER THE INPUT: true; the input reads as it did. -/
def fnExactDoneHintSpec : ChangeSpec := { name := "fnExactDoneHint", vars := ["loop.example/g00791/impl.sampleFields"], fn := fun _ => fun
  | [d1, d2, d3, g1] => { results := [.lit (.bool true)], args := [d1, d2, d3], vars := [g1] }
  | _ => none }
def fnExactDoneHintRow : OpenClaim := { program := "ytjlkmfijkhjjkaadoor", sum := "7053bd0ac89cb2e597c57d3c628f644641f52c4bec25401c51427df16c754fab", func := "loop.example/g00791/laws.FnExactDoneHint", spec := "fnExactDoneHint", unfollowed := true, recurses := true, named := ["loop.example/g00791/impl.sampleFields"], plainKeys := false, apart := false, laid := [("loop.example/g00791/impl.sampleFields", laid_loop_example_g00791_impl_sampleFields)] }
def FnExactDoneHintSaid : Prop := fnExactDoneHintRow.holds Tryd.pinned (OpenSpec.ofChange fnExactDoneHintSpec)

/-- ITS FALSE NEIGHBOUR: 'it returns false'. Refute it at one input. -/
def fnExactDoneHintWrong : ChangeSpec := { name := "fnExactDoneHint", vars := ["loop.example/g00791/impl.sampleFields"], fn := fun _ => fun
  | [d1, d2, d3, g1] => { results := [.lit (.bool false)], args := [d1, d2, d3], vars := [g1] }
  | _ => none }
def FnExactDoneHintWrongFalsely : Prop := fnExactDoneHintRow.holds Tryd.pinned (OpenSpec.ofChange fnExactDoneHintWrong)

/-- 'laws.FnExactDueHints': WHATEVER THE INPUT: true; the input reads as it did. -/
def fnExactDueHintsSpec : ChangeSpec := { name := "fnExactDueHints", vars := ["loop.example/g00791/impl.sampleFields"], fn := fun _ => fun
  | [d1, d2, g1] => { results := [.lit (.bool true)], args := [d1, d2], vars := [g1] }
  | _ => none }
def fnExactDueHintsRow : OpenClaim := { program := "ytjlkmfijkhjjkaadoor", sum := "7053bd0ac89cb2e597c57d3c628f644641f52c4bec25401c51427df16c754fab", func := "loop.example/g00791/laws.FnExactDueHints", spec := "fnExactDueHints", named := ["loop.example/g00791/impl.sampleFields"], plainKeys := false, apart := false, laid := [("loop.example/g00791/impl.sampleFields", laid_loop_example_g00791_impl_sampleFields)] }
def FnExactDueHintsSaid : Prop := fnExactDueHintsRow.holds Tryd.pinned (OpenSpec.ofChange fnExactDueHintsSpec)

/-- ITS FALSE NEIGHBOUR: 'it returns false'. Refute it at one input. -/
def fnExactDueHintsWrong : ChangeSpec := { name := "fnExactDueHints", vars := ["loop.example/g00791/impl.sampleFields"], fn := fun _ => fun
  | [d1, d2, g1] => { results := [.lit (.bool false)], args := [d1, d2], vars := [g1] }
  | _ => none }
def FnExactDueHintsWrongFalsely : Prop := fnExactDueHintsRow.holds Tryd.pinned (OpenSpec.ofChange fnExactDueHintsWrong)

/-- 'laws.FnExactSentHint': WHATEVER THE INPUT: true; the input reads as it did. -/
def fnExactSentHintSpec : ChangeSpec := { name := "fnExactSentHint", vars := ["loop.example/g00791/impl.sampleFields"], fn := fun _ => fun
  | [d1, d2, d3, d4, g1] => { results := [.lit (.bool true)], args := [d1, d2, d3, d4], vars := [g1] }
  | _ => none }
def fnExactSentHintRow : OpenClaim := { program := "ytjlkmfijkhjjkaadoor", sum := "7053bd0ac89cb2e597c57d3c628f644641f52c4bec25401c51427df16c754fab", func := "loop.example/g00791/laws.FnExactSentHint", spec := "fnExactSentHint", unfollowed := true, recurses := true, named := ["loop.example/g00791/impl.sampleFields"], plainKeys := false, apart := false, laid := [("loop.example/g00791/impl.sampleFields", laid_loop_example_g00791_impl_sampleFields)] }
def FnExactSentHintSaid : Prop := fnExactSentHintRow.holds Tryd.pinned (OpenSpec.ofChange fnExactSentHintSpec)

/-- ITS FALSE NEIGHBOUR: 'it returns false'. Refute it at one input. -/
def fnExactSentHintWrong : ChangeSpec := { name := "fnExactSentHint", vars := ["loop.example/g00791/impl.sampleFields"], fn := fun _ => fun
  | [d1, d2, d3, d4, g1] => { results := [.lit (.bool false)], args := [d1, d2, d3, d4], vars := [g1] }
  | _ => none }
def FnExactSentHintWrongFalsely : Prop := fnExactSentHintRow.holds Tryd.pinned (OpenSpec.ofChange fnExactSentHintWrong)

/- THE SECOND FORM. 'bulk': how many values and letters a reading holds, each counted each time it is reached (what is shared counts as often as it is met; a slice's spare places count too). A statement '..UptoSaid' is the law's where the arguments, and the package variables that the reading takes, are together of bulk at most 1048576: NARROWER than '..Said'. Prove '..Said' where nothing that the law and all that it calls make is longer than what came in: it says more and counts as full. Else prove '..UptoSaid'. A law counts once. -/
mutual
def uptoBulk {H : Type} : DataW H → Nat
  | .lit (.string bytes) => bytes.length + 1
  | .lit _ => 1
  | .nil => 1
  | .ptr d => uptoBulk d + 1
  | .slice elems spare => uptoBulkAll elems + uptoBulkAll spare + 1
  | .agg parts => uptoBulkAll parts + 1
  | .iface _ d => uptoBulk d + 1
  | .map entries => uptoBulkEntries entries + 1
  | .held _ => 1
def uptoBulkAll {H : Type} : List (DataW H) → Nat
  | [] => 0
  | d :: r => uptoBulk d + uptoBulkAll r
def uptoBulkEntries {H : Type} : List (Lit × DataW H) → Nat
  | [] => 0
  | x :: r => uptoBulkEntry x + uptoBulkEntries r
def uptoBulkEntry {H : Type} : Lit × DataW H → Nat
  | (.string bytes, d) => bytes.length + uptoBulk d + 1
  | (_, d) => uptoBulk d + 1
 end
def uptoSmall : (H : Type) → List (DataW H) → Bool := fun _ ds => decide (uptoBulkAll ds ≤ 1048576)
def OpenSpec.upto (s : _root_.Go.ChangeSpec) : _root_.Go.OpenSpec := { _root_.Go.OpenSpec.ofChange s with cond := some uptoSmall }

/-- 'laws.FnHints', WHERE WHAT IT READS IS OF BULK AT MOST 1048576: true; the input reads as it did. -/
def fnHintsUptoRow : OpenClaim := { program := "ytjlkmfijkhjjkaadoor", sum := "7053bd0ac89cb2e597c57d3c628f644641f52c4bec25401c51427df16c754fab", func := "loop.example/g00791/laws.FnHints", spec := "fnHints", unfollowed := true, recurses := true, named := ["loop.example/g00791/impl.sampleFields"], plainKeys := false, apart := false, laid := [("loop.example/g00791/impl.sampleFields", laid_loop_example_g00791_impl_sampleFields)], narrowed := true }
def FnHintsUptoSaid : Prop := fnHintsUptoRow.holds Tryd.pinned (OpenSpec.upto fnHintsSpec)

/-- 'laws.FnExactHintsFault', WHERE WHAT IT READS IS OF BULK AT MOST 1048576: true; the input reads as it did. -/
def fnExactHintsFaultUptoRow : OpenClaim := { program := "ytjlkmfijkhjjkaadoor", sum := "7053bd0ac89cb2e597c57d3c628f644641f52c4bec25401c51427df16c754fab", func := "loop.example/g00791/laws.FnExactHintsFault", spec := "fnExactHintsFault", named := ["loop.example/g00791/impl.sampleFields"], plainKeys := false, apart := false, laid := [("loop.example/g00791/impl.sampleFields", laid_loop_example_g00791_impl_sampleFields)], narrowed := true }
def FnExactHintsFaultUptoSaid : Prop := fnExactHintsFaultUptoRow.holds Tryd.pinned (OpenSpec.upto fnExactHintsFaultSpec)

/-- 'laws.FnExactAddHint', WHERE WHAT IT READS IS OF BULK AT MOST 1048576: true; the input reads as it did. -/
def fnExactAddHintUptoRow : OpenClaim := { program := "ytjlkmfijkhjjkaadoor", sum := "7053bd0ac89cb2e597c57d3c628f644641f52c4bec25401c51427df16c754fab", func := "loop.example/g00791/laws.FnExactAddHint", spec := "fnExactAddHint", unfollowed := true, recurses := true, named := ["loop.example/g00791/impl.sampleFields"], plainKeys := false, apart := false, laid := [("loop.example/g00791/impl.sampleFields", laid_loop_example_g00791_impl_sampleFields)], narrowed := true }
def FnExactAddHintUptoSaid : Prop := fnExactAddHintUptoRow.holds Tryd.pinned (OpenSpec.upto fnExactAddHintSpec)

/-- 'laws.FnExactDoneHint', WHERE WHAT IT READS IS OF BULK AT MOST 1048576: true; the input reads as it did. -/
def fnExactDoneHintUptoRow : OpenClaim := { program := "ytjlkmfijkhjjkaadoor", sum := "7053bd0ac89cb2e597c57d3c628f644641f52c4bec25401c51427df16c754fab", func := "loop.example/g00791/laws.FnExactDoneHint", spec := "fnExactDoneHint", unfollowed := true, recurses := true, named := ["loop.example/g00791/impl.sampleFields"], plainKeys := false, apart := false, laid := [("loop.example/g00791/impl.sampleFields", laid_loop_example_g00791_impl_sampleFields)], narrowed := true }
def FnExactDoneHintUptoSaid : Prop := fnExactDoneHintUptoRow.holds Tryd.pinned (OpenSpec.upto fnExactDoneHintSpec)

/-- 'laws.FnExactDueHints', WHERE WHAT IT READS IS OF BULK AT MOST 1048576: true; the input reads as it did. -/
def fnExactDueHintsUptoRow : OpenClaim := { program := "ytjlkmfijkhjjkaadoor", sum := "7053bd0ac89cb2e597c57d3c628f644641f52c4bec25401c51427df16c754fab", func := "loop.example/g00791/laws.FnExactDueHints", spec := "fnExactDueHints", named := ["loop.example/g00791/impl.sampleFields"], plainKeys := false, apart := false, laid := [("loop.example/g00791/impl.sampleFields", laid_loop_example_g00791_impl_sampleFields)], narrowed := true }
def FnExactDueHintsUptoSaid : Prop := fnExactDueHintsUptoRow.holds Tryd.pinned (OpenSpec.upto fnExactDueHintsSpec)

/-- 'laws.FnExactSentHint', WHERE WHAT IT READS IS OF BULK AT MOST 1048576: true; the input reads as it did. -/
def fnExactSentHintUptoRow : OpenClaim := { program := "ytjlkmfijkhjjkaadoor", sum := "7053bd0ac89cb2e597c57d3c628f644641f52c4bec25401c51427df16c754fab", func := "loop.example/g00791/laws.FnExactSentHint", spec := "fnExactSentHint", unfollowed := true, recurses := true, named := ["loop.example/g00791/impl.sampleFields"], plainKeys := false, apart := false, laid := [("loop.example/g00791/impl.sampleFields", laid_loop_example_g00791_impl_sampleFields)], narrowed := true }
def FnExactSentHintUptoSaid : Prop := fnExactSentHintUptoRow.holds Tryd.pinned (OpenSpec.upto fnExactSentHintSpec)

end Rows
end Go.Proofs.YtjlkmfijkhjjkaaDoor
