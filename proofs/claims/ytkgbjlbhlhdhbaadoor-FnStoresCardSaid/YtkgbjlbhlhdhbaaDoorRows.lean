/-
  NARROWER THAN 'FOR EVERY INPUT', by the rows' own cells (each row's printed sentence says how): FnStores: laid · FnMerges: laid · FnExactStoreFault: laid · FnExactInsertSample: laid · FnExactFindSample: laid · FnExactQueryStore: laid · FnExactMergeLists: laid.
  DERIVED. THE GIVEN ROWS OF THIS SEAT. 7 by the template 'for every input the law returns true; each argument reads behind the call as it read before'; 0 by the template 'total and deterministic' (their statements: YtkgbjlbhlhdhbaaDoorTotals.lean).
  GIVEN WITH THE SEED: the statements are not yours to turn. If you find one false, say at which input.
  Laid BY PROGRAM, IN A SANDBOX (cutbox-rows.mjs): the forced cells as the released guide's own fill.sh prints them over the translation 0aafb2d18e0b3d0f… (all of the seat's roots in one cut). By AI agents, Wed Nov 11 2026. No macro, syntax, notation, axiom, sorry.
-/
import Derived.Test.YtkgbjlbhlhdhbaaDoorChecked
import GoSem.Claim
import GoSem.ClaimJoined
import GoSem.ClaimMapViews
import Derived.JoinedTies
import Derived.KernelRfl
namespace Go.Proofs.YtkgbjlbhlhdhbaaDoor
/- THE CELL 'sum', in the pinned program and in every row, IS THE sha256 OF THE DUMP (.gsa) THAT YtkgbjlbhlhdhbaaDoorProg.lean LOADS. Nothing in Lean hashes anything: it is a label: what it is worth is what the hold of that sum in a sandbox is worth. -/
noncomputable def Tryd.pinned : Pinned := { name := "ytkgbjlbhlhdhbaadoor", sum := "0aafb2d18e0b3d0fb237dfe81a2bcc42952875e170e989f8e5721551f1520485", checked := Tryd.checked }
namespace Rows
def none {H : Type} : Left H := { results := [], args := [] }

/- WHAT THE LISTED PACKAGE-LEVEL VARIABLES READ AS WHEN THE CALL BEGINS. Each datum BY PROGRAM (the guide's laid-datum.mjs) off the statement by which the dump's own 'gosem.cut.vars' lays the variable. In a bare row this is a premise. The card (YtkgbjlbhlhdhbaaDoorCards.lean) ties it to the program's text. -/
def laid_loop_example_g00791_impl_sampleFields {H : Type} : DataW H := .agg [.agg [.lit (.int .i64 0), .lit (.int .i64 1), .lit (.int .i64 0), .lit (.int .i64 9)], .agg [.lit (.int .i64 1), .lit (.int .i64 2), .lit (.int .i64 0), .lit (.int .i64 999)], .agg [.lit (.int .i64 3), .lit (.int .i64 2), .lit (.int .i64 0), .lit (.int .i64 9999)], .agg [.lit (.int .i64 5), .lit (.int .i64 2), .lit (.int .i64 (-1000)), .lit (.int .i64 1000)]]

/-- 'laws.FnStores': WHATEVER THE INPUT: true; the input reads as it did. -/
def fnStoresSpec : ChangeSpec := { name := "fnStores", vars := ["loop.example/g00791/impl.sampleFields"], fn := fun _ => fun
  | [d, g1] => { results := [.lit (.bool true)], args := [d], vars := [g1] }
  | _ => none }
def fnStoresRow : OpenClaim := { program := "ytkgbjlbhlhdhbaadoor", sum := "0aafb2d18e0b3d0fb237dfe81a2bcc42952875e170e989f8e5721551f1520485", func := "loop.example/g00791/laws.FnStores", spec := "fnStores", unfollowed := true, recurses := true, named := ["loop.example/g00791/impl.sampleFields"], plainKeys := false, apart := false, laid := [("loop.example/g00791/impl.sampleFields", laid_loop_example_g00791_impl_sampleFields)] }
def FnStoresSaid : Prop := fnStoresRow.holds Tryd.pinned (OpenSpec.ofChange fnStoresSpec)

/-- ITS FALSE NEIGHBOUR: 'it returns false'. Refute it at one input. -/
def fnStoresWrong : ChangeSpec := { name := "fnStores", vars := ["loop.example/g00791/impl.sampleFields"], fn := fun _ => fun
  | [d, g1] => { results := [.lit (.bool false)], args := [d], vars := [g1] }
  | _ => none }
def FnStoresWrongFalsely : Prop := fnStoresRow.holds Tryd.pinned (OpenSpec.ofChange fnStoresWrong)

/-- 'laws.FnMerges': WHATEVER THE INPUT: true; the input reads as it did. -/
def fnMergesSpec : ChangeSpec := { name := "fnMerges", vars := ["loop.example/g00791/impl.sampleFields"], fn := fun _ => fun
  | [d, g1] => { results := [.lit (.bool true)], args := [d], vars := [g1] }
  | _ => none }
def fnMergesRow : OpenClaim := { program := "ytkgbjlbhlhdhbaadoor", sum := "0aafb2d18e0b3d0fb237dfe81a2bcc42952875e170e989f8e5721551f1520485", func := "loop.example/g00791/laws.FnMerges", spec := "fnMerges", unfollowed := true, recurses := true, named := ["loop.example/g00791/impl.sampleFields"], plainKeys := false, apart := false, laid := [("loop.example/g00791/impl.sampleFields", laid_loop_example_g00791_impl_sampleFields)] }
def FnMergesSaid : Prop := fnMergesRow.holds Tryd.pinned (OpenSpec.ofChange fnMergesSpec)

/-- ITS FALSE NEIGHBOUR: 'it returns false'. Refute it at one input. -/
def fnMergesWrong : ChangeSpec := { name := "fnMerges", vars := ["loop.example/g00791/impl.sampleFields"], fn := fun _ => fun
  | [d, g1] => { results := [.lit (.bool false)], args := [d], vars := [g1] }
  | _ => none }
def FnMergesWrongFalsely : Prop := fnMergesRow.holds Tryd.pinned (OpenSpec.ofChange fnMergesWrong)

/-- 'laws.FnExactStoreFault': WHATEVER THE INPUT: true; the input reads as it did. -/
def fnExactStoreFaultSpec : ChangeSpec := { name := "fnExactStoreFault", vars := ["loop.example/g00791/impl.sampleFields"], fn := fun _ => fun
  | [d, g1] => { results := [.lit (.bool true)], args := [d], vars := [g1] }
  | _ => none }
def fnExactStoreFaultRow : OpenClaim := { program := "ytkgbjlbhlhdhbaadoor", sum := "0aafb2d18e0b3d0fb237dfe81a2bcc42952875e170e989f8e5721551f1520485", func := "loop.example/g00791/laws.FnExactStoreFault", spec := "fnExactStoreFault", named := ["loop.example/g00791/impl.sampleFields"], plainKeys := false, apart := false, laid := [("loop.example/g00791/impl.sampleFields", laid_loop_example_g00791_impl_sampleFields)] }
def FnExactStoreFaultSaid : Prop := fnExactStoreFaultRow.holds Tryd.pinned (OpenSpec.ofChange fnExactStoreFaultSpec)

/-- ITS FALSE NEIGHBOUR: 'it returns false'. Refute it at one input. -/
def fnExactStoreFaultWrong : ChangeSpec := { name := "fnExactStoreFault", vars := ["loop.example/g00791/impl.sampleFields"], fn := fun _ => fun
  | [d, g1] => { results := [.lit (.bool false)], args := [d], vars := [g1] }
  | _ => none }
def FnExactStoreFaultWrongFalsely : Prop := fnExactStoreFaultRow.holds Tryd.pinned (OpenSpec.ofChange fnExactStoreFaultWrong)

/-- 'laws.FnExactInsertSample': WHATEVER THE INPUT: true; the input reads as it did. -/
def fnExactInsertSampleSpec : ChangeSpec := { name := "fnExactInsertSample", vars := ["loop.example/g00791/impl.sampleFields"], fn := fun _ => fun
  | [d1, d2, g1] => { results := [.lit (.bool true)], args := [d1, d2], vars := [g1] }
  | _ => none }
def fnExactInsertSampleRow : OpenClaim := { program := "ytkgbjlbhlhdhbaadoor", sum := "0aafb2d18e0b3d0fb237dfe81a2bcc42952875e170e989f8e5721551f1520485", func := "loop.example/g00791/laws.FnExactInsertSample", spec := "fnExactInsertSample", unfollowed := true, recurses := true, named := ["loop.example/g00791/impl.sampleFields"], plainKeys := false, apart := false, laid := [("loop.example/g00791/impl.sampleFields", laid_loop_example_g00791_impl_sampleFields)] }
def FnExactInsertSampleSaid : Prop := fnExactInsertSampleRow.holds Tryd.pinned (OpenSpec.ofChange fnExactInsertSampleSpec)

/-- ITS FALSE NEIGHBOUR: 'it returns false'. Refute it at one input. -/
def fnExactInsertSampleWrong : ChangeSpec := { name := "fnExactInsertSample", vars := ["loop.example/g00791/impl.sampleFields"], fn := fun _ => fun
  | [d1, d2, g1] => { results := [.lit (.bool false)], args := [d1, d2], vars := [g1] }
  | _ => none }
def FnExactInsertSampleWrongFalsely : Prop := fnExactInsertSampleRow.holds Tryd.pinned (OpenSpec.ofChange fnExactInsertSampleWrong)

/-- 'laws.FnExactFindSample': WHATEVER THE INPUT: true; the input reads as it did. -/
def fnExactFindSampleSpec : ChangeSpec := { name := "fnExactFindSample", vars := ["loop.example/g00791/impl.sampleFields"], fn := fun _ => fun
  | [d1, d2, g1] => { results := [.lit (.bool true)], args := [d1, d2], vars := [g1] }
  | _ => none }
def fnExactFindSampleRow : OpenClaim := { program := "ytkgbjlbhlhdhbaadoor", sum := "0aafb2d18e0b3d0fb237dfe81a2bcc42952875e170e989f8e5721551f1520485", func := "loop.example/g00791/laws.FnExactFindSample", spec := "fnExactFindSample", named := ["loop.example/g00791/impl.sampleFields"], plainKeys := false, apart := false, laid := [("loop.example/g00791/impl.sampleFields", laid_loop_example_g00791_impl_sampleFields)] }
def FnExactFindSampleSaid : Prop := fnExactFindSampleRow.holds Tryd.pinned (OpenSpec.ofChange fnExactFindSampleSpec)

/-- ITS FALSE NEIGHBOUR: 'it returns false'. Refute it at one input. -/
def fnExactFindSampleWrong : ChangeSpec := { name := "fnExactFindSample", vars := ["loop.example/g00791/impl.sampleFields"], fn := fun _ => fun
  | [d1, d2, g1] => { results := [.lit (.bool false)], args := [d1, d2], vars := [g1] }
  | _ => none }
def FnExactFindSampleWrongFalsely : Prop := fnExactFindSampleRow.holds Tryd.pinned (OpenSpec.ofChange fnExactFindSampleWrong)

/-- 'laws.FnExactQueryStore': WHATEVER THE INPUT: true; the input reads as it did. -/
def fnExactQueryStoreSpec : ChangeSpec := { name := "fnExactQueryStore", vars := ["loop.example/g00791/impl.sampleFields"], fn := fun _ => fun
  | [d1, d2, d3, d4, g1] => { results := [.lit (.bool true)], args := [d1, d2, d3, d4], vars := [g1] }
  | _ => none }
def fnExactQueryStoreRow : OpenClaim := { program := "ytkgbjlbhlhdhbaadoor", sum := "0aafb2d18e0b3d0fb237dfe81a2bcc42952875e170e989f8e5721551f1520485", func := "loop.example/g00791/laws.FnExactQueryStore", spec := "fnExactQueryStore", unfollowed := true, recurses := true, named := ["loop.example/g00791/impl.sampleFields"], plainKeys := false, apart := false, laid := [("loop.example/g00791/impl.sampleFields", laid_loop_example_g00791_impl_sampleFields)] }
def FnExactQueryStoreSaid : Prop := fnExactQueryStoreRow.holds Tryd.pinned (OpenSpec.ofChange fnExactQueryStoreSpec)

/-- ITS FALSE NEIGHBOUR: 'it returns false'. Refute it at one input. -/
def fnExactQueryStoreWrong : ChangeSpec := { name := "fnExactQueryStore", vars := ["loop.example/g00791/impl.sampleFields"], fn := fun _ => fun
  | [d1, d2, d3, d4, g1] => { results := [.lit (.bool false)], args := [d1, d2, d3, d4], vars := [g1] }
  | _ => none }
def FnExactQueryStoreWrongFalsely : Prop := fnExactQueryStoreRow.holds Tryd.pinned (OpenSpec.ofChange fnExactQueryStoreWrong)

/-- 'laws.FnExactMergeLists': WHATEVER THE INPUT: true; the input reads as it did. -/
def fnExactMergeListsSpec : ChangeSpec := { name := "fnExactMergeLists", vars := ["loop.example/g00791/impl.sampleFields"], fn := fun _ => fun
  | [d1, d2, g1] => { results := [.lit (.bool true)], args := [d1, d2], vars := [g1] }
  | _ => none }
def fnExactMergeListsRow : OpenClaim := { program := "ytkgbjlbhlhdhbaadoor", sum := "0aafb2d18e0b3d0fb237dfe81a2bcc42952875e170e989f8e5721551f1520485", func := "loop.example/g00791/laws.FnExactMergeLists", spec := "fnExactMergeLists", unfollowed := true, recurses := true, named := ["loop.example/g00791/impl.sampleFields"], plainKeys := false, apart := false, laid := [("loop.example/g00791/impl.sampleFields", laid_loop_example_g00791_impl_sampleFields)] }
def FnExactMergeListsSaid : Prop := fnExactMergeListsRow.holds Tryd.pinned (OpenSpec.ofChange fnExactMergeListsSpec)

/-- ITS FALSE NEIGHBOUR: 'it returns false'. Refute it at one input. -/
def fnExactMergeListsWrong : ChangeSpec := { name := "fnExactMergeLists", vars := ["loop.example/g00791/impl.sampleFields"], fn := fun _ => fun
  | [d1, d2, g1] => { results := [.lit (.bool false)], args := [d1, d2], vars := [g1] }
  | _ => none }
def FnExactMergeListsWrongFalsely : Prop := fnExactMergeListsRow.holds Tryd.pinned (OpenSpec.ofChange fnExactMergeListsWrong)

/- THE SECOND FORM. 'bulk': how many values and letters a reading holds, each counted each time it is reached (what is shared counts as often as it is met; a slice's spare places count too). A statement '..UptoSaid' is the law's where the arguments, and the package variables that the reading takes, are together of bulk at most 1048576: NARROWER than '..Said'. Prove '..Said' where nothing that the law and all that it calls make is longer than what came in: it says more and counts as full. Else prove '..UptoSaid'. A law counts once. -/
mutual
def uptoBulk {H : Type} : DataW H → Nat
  | .lit (.string bytes) => bytes.length + 1
  | .lit _ => 1
  | .nil => 1
  | .ptr d => uptoBulk d + 1
  | .slice elems spare => uptoBulkAll elems + uptoBulkAll spare + 1
  | .agg parts => uptoBulkAll parts + 1
  | .iface _ d => uptoBulk d + 1
  | .map entries => uptoBulkEntries entries + 1
  | .held _ => 1
def uptoBulkAll {H : Type} : List (DataW H) → Nat
  | [] => 0
  | d :: r => uptoBulk d + uptoBulkAll r
def uptoBulkEntries {H : Type} : List (Lit × DataW H) → Nat
  | [] => 0
  | x :: r => uptoBulkEntry x + uptoBulkEntries r
def uptoBulkEntry {H : Type} : Lit × DataW H → Nat
  | (.string bytes, d) => bytes.length + uptoBulk d + 1
  | (_, d) => uptoBulk d + 1
 end
def uptoSmall : (H : Type) → List (DataW H) → Bool := fun _ ds => decide (uptoBulkAll ds ≤ 1048576)
def OpenSpec.upto (s : _root_.Go.ChangeSpec) : _root_.Go.OpenSpec := { _root_.Go.OpenSpec.ofChange s with cond := some uptoSmall }

/-- 'laws.FnStores', WHERE WHAT IT READS IS OF BULK AT MOST 1048576: true; the input reads as it did. -/
def fnStoresUptoRow : OpenClaim := { program := "ytkgbjlbhlhdhbaadoor", sum := "0aafb2d18e0b3d0fb237dfe81a2bcc42952875e170e989f8e5721551f1520485", func := "loop.example/g00791/laws.FnStores", spec := "fnStores", unfollowed := true, recurses := true, named := ["loop.example/g00791/impl.sampleFields"], plainKeys := false, apart := false, laid := [("loop.example/g00791/impl.sampleFields", laid_loop_example_g00791_impl_sampleFields)], narrowed := true }
def FnStoresUptoSaid : Prop := fnStoresUptoRow.holds Tryd.pinned (OpenSpec.upto fnStoresSpec)

/-- 'laws.FnMerges', WHERE WHAT IT READS IS OF BULK AT MOST 1048576: true; the input reads as it did. -/
def fnMergesUptoRow : OpenClaim := { program := "ytkgbjlbhlhdhbaadoor", sum := "0aafb2d18e0b3d0fb237dfe81a2bcc42952875e170e989f8e5721551f1520485", func := "loop.example/g00791/laws.FnMerges", spec := "fnMerges", unfollowed := true, recurses := true, named := ["loop.example/g00791/impl.sampleFields"], plainKeys := false, apart := false, laid := [("loop.example/g00791/impl.sampleFields", laid_loop_example_g00791_impl_sampleFields)], narrowed := true }
def FnMergesUptoSaid : Prop := fnMergesUptoRow.holds Tryd.pinned (OpenSpec.upto fnMergesSpec)

/-- 'laws.FnExactStoreFault', WHERE WHAT IT READS IS OF BULK AT MOST 1048576: true; the input reads as it did. -/
def fnExactStoreFaultUptoRow : OpenClaim := { program := "ytkgbjlbhlhdhbaadoor", sum := "0aafb2d18e0b3d0fb237dfe81a2bcc42952875e170e989f8e5721551f1520485", func := "loop.example/g00791/laws.FnExactStoreFault", spec := "fnExactStoreFault", named := ["loop.example/g00791/impl.sampleFields"], plainKeys := false, apart := false, laid := [("loop.example/g00791/impl.sampleFields", laid_loop_example_g00791_impl_sampleFields)], narrowed := true }
def FnExactStoreFaultUptoSaid : Prop := fnExactStoreFaultUptoRow.holds Tryd.pinned (OpenSpec.upto fnExactStoreFaultSpec)

/-- 'laws.FnExactInsertSample', WHERE WHAT IT READS IS OF BULK AT MOST 1048576: true; the input reads as it did. -/
def fnExactInsertSampleUptoRow : OpenClaim := { program := "ytkgbjlbhlhdhbaadoor", sum := "0aafb2d18e0b3d0fb237dfe81a2bcc42952875e170e989f8e5721551f1520485", func := "loop.example/g00791/laws.FnExactInsertSample", spec := "fnExactInsertSample", unfollowed := true, recurses := true, named := ["loop.example/g00791/impl.sampleFields"], plainKeys := false, apart := false, laid := [("loop.example/g00791/impl.sampleFields", laid_loop_example_g00791_impl_sampleFields)], narrowed := true }
def FnExactInsertSampleUptoSaid : Prop := fnExactInsertSampleUptoRow.holds Tryd.pinned (OpenSpec.upto fnExactInsertSampleSpec)

/-- 'laws.FnExactFindSample', WHERE WHAT IT READS IS OF BULK AT MOST 1048576: true; the input reads as it did. -/
def fnExactFindSampleUptoRow : OpenClaim := { program := "ytkgbjlbhlhdhbaadoor", sum := "0aafb2d18e0b3d0fb237dfe81a2bcc42952875e170e989f8e5721551f1520485", func := "loop.example/g00791/laws.FnExactFindSample", spec := "fnExactFindSample", named := ["loop.example/g00791/impl.sampleFields"], plainKeys := false, apart := false, laid := [("loop.example/g00791/impl.sampleFields", laid_loop_example_g00791_impl_sampleFields)], narrowed := true }
def FnExactFindSampleUptoSaid : Prop := fnExactFindSampleUptoRow.holds Tryd.pinned (OpenSpec.upto fnExactFindSampleSpec)

/-- 'laws.FnExactQueryStore', WHERE WHAT IT READS IS OF BULK AT MOST 1048576: true; the input reads as it did. -/
def fnExactQueryStoreUptoRow : OpenClaim := { program := "ytkgbjlbhlhdhbaadoor", sum := "0aafb2d18e0b3d0fb237dfe81a2bcc42952875e170e989f8e5721551f1520485", func := "loop.example/g00791/laws.FnExactQueryStore", spec := "fnExactQueryStore", unfollowed := true, recurses := true, named := ["loop.example/g00791/impl.sampleFields"], plainKeys := false, apart := false, laid := [("loop.example/g00791/impl.sampleFields", laid_loop_example_g00791_impl_sampleFields)], narrowed := true }
def FnExactQueryStoreUptoSaid : Prop := fnExactQueryStoreUptoRow.holds Tryd.pinned (OpenSpec.upto fnExactQueryStoreSpec)

/-- 'laws.FnExactMergeLists', WHERE WHAT IT READS IS OF BULK AT MOST 1048576: true; the input reads as it did. -/
def fnExactMergeListsUptoRow : OpenClaim := { program := "ytkgbjlbhlhdhbaadoor", sum := "0aafb2d18e0b3d0fb237dfe81a2bcc42952875e170e989f8e5721551f1520485", func := "loop.example/g00791/laws.FnExactMergeLists", spec := "fnExactMergeLists", unfollowed := true, recurses := true, named := ["loop.example/g00791/impl.sampleFields"], plainKeys := false, apart := false, laid := [("loop.example/g00791/impl.sampleFields", laid_loop_example_g00791_impl_sampleFields)], narrowed := true }
def FnExactMergeListsUptoSaid : Prop := fnExactMergeListsUptoRow.holds Tryd.pinned (OpenSpec.upto fnExactMergeListsSpec)

end Rows
end Go.Proofs.YtkgbjlbhlhdhbaaDoor
