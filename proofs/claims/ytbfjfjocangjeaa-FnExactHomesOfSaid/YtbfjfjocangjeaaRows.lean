/-
  No cell of these rows narrows 'for every input' (looked for: loops, veiled, ifaces, maps, wideKeys, modest, calm, conditions, laid).
  DERIVED. THE GIVEN ROWS OF THIS SEAT. 13 by the template 'for every input the law returns true; each argument reads behind the call as it read before'; 0 by the template 'total and deterministic' (their statements: YtbfjfjocangjeaaTotals.lean).
  GIVEN WITH THE SEED: the statements are not yours to turn. If you find one false, say at which input.
  Laid BY PROGRAM, IN A SANDBOX (cutbox-rows.mjs): the forced cells as the released guide's own fill.sh prints them over the translation c7e6b6b16e296db9… (all of the seat's roots in one cut). By AI agents, Wed Nov 11 2026. No macro, syntax, notation, axiom, sorry.
-/
import Derived.Test.YtbfjfjocangjeaaChecked
import GoSem.Claim
import GoSem.ClaimJoined
import GoSem.ClaimMapViews
import Derived.JoinedTies
import Derived.KernelRfl
namespace Go.Proofs.Ytbfjfjocangjeaa
/- THE CELL 'sum', in the pinned program and in every row, IS THE sha256 OF THE DUMP (.gsa) THAT YtbfjfjocangjeaaProg.lean LOADS. Nothing in Lean hashes anything: it is a label: what it is worth is what the hold of that sum in a sandbox is worth. -/
noncomputable def Try.pinned : Pinned := { name := "ytbfjfjocangjeaa", sum := "c7e6b6b16e296db936ca046150d668344b463ef8aef2202fc713fdb13281825b", checked := Try.checked }
namespace Rows
def none {H : Type} : Left H := { results := [], args := [] }

/-- 'laws.FnMembers': WHATEVER THE INPUT: true; the input reads as it did. -/
def fnMembersSpec : ChangeSpec := { name := "fnMembers", fn := fun _ => fun
  | [d] => { results := [.lit (.bool true)], args := [d] }
  | _ => none }
def fnMembersRow : OpenClaim := { program := "ytbfjfjocangjeaa", sum := "c7e6b6b16e296db936ca046150d668344b463ef8aef2202fc713fdb13281825b", func := "loop.example/g00791/laws.FnMembers", spec := "fnMembers", inPlace := ["sync/atomic.StoreInt64", "sync/atomic.AddInt64"], apart := false }
def FnMembersSaid : Prop := fnMembersRow.holds Try.pinned (OpenSpec.ofChange fnMembersSpec)

/-- ITS FALSE NEIGHBOUR: 'it returns false'. Refute it at one input. -/
def fnMembersWrong : ChangeSpec := { name := "fnMembers", fn := fun _ => fun
  | [d] => { results := [.lit (.bool false)], args := [d] }
  | _ => none }
def FnMembersWrongFalsely : Prop := fnMembersRow.holds Try.pinned (OpenSpec.ofChange fnMembersWrong)

/-- 'laws.FnMarks': WHATEVER THE INPUT: true; the input reads as it did. -/
def fnMarksSpec : ChangeSpec := { name := "fnMarks", fn := fun _ => fun
  | [d] => { results := [.lit (.bool true)], args := [d] }
  | _ => none }
def fnMarksRow : OpenClaim := { program := "ytbfjfjocangjeaa", sum := "c7e6b6b16e296db936ca046150d668344b463ef8aef2202fc713fdb13281825b", func := "loop.example/g00791/laws.FnMarks", spec := "fnMarks", unfollowed := true, recurses := true, apart := false }
def FnMarksSaid : Prop := fnMarksRow.holds Try.pinned (OpenSpec.ofChange fnMarksSpec)

/-- ITS FALSE NEIGHBOUR: 'it returns false'. Refute it at one input. -/
def fnMarksWrong : ChangeSpec := { name := "fnMarks", fn := fun _ => fun
  | [d] => { results := [.lit (.bool false)], args := [d] }
  | _ => none }
def FnMarksWrongFalsely : Prop := fnMarksRow.holds Try.pinned (OpenSpec.ofChange fnMarksWrong)

/-- 'laws.FnExactPlacesOf': WHATEVER THE INPUT: true; the input reads as it did. -/
def fnExactPlacesOfSpec : ChangeSpec := { name := "fnExactPlacesOf", fn := fun _ => fun
  | [d1, d2] => { results := [.lit (.bool true)], args := [d1, d2] }
  | _ => none }
def fnExactPlacesOfRow : OpenClaim := { program := "ytbfjfjocangjeaa", sum := "c7e6b6b16e296db936ca046150d668344b463ef8aef2202fc713fdb13281825b", func := "loop.example/g00791/laws.FnExactPlacesOf", spec := "fnExactPlacesOf", unfollowed := true, recurses := true, apart := false }
def FnExactPlacesOfSaid : Prop := fnExactPlacesOfRow.holds Try.pinned (OpenSpec.ofChange fnExactPlacesOfSpec)

/-- ITS FALSE NEIGHBOUR: 'it returns false'. Refute it at one input. -/
def fnExactPlacesOfWrong : ChangeSpec := { name := "fnExactPlacesOf", fn := fun _ => fun
  | [d1, d2] => { results := [.lit (.bool false)], args := [d1, d2] }
  | _ => none }
def FnExactPlacesOfWrongFalsely : Prop := fnExactPlacesOfRow.holds Try.pinned (OpenSpec.ofChange fnExactPlacesOfWrong)

/-- 'laws.FnExactHomesOf': WHATEVER THE INPUT: true; the input reads as it did. -/
def fnExactHomesOfSpec : ChangeSpec := { name := "fnExactHomesOf", fn := fun _ => fun
  | [d1, d2, d3] => { results := [.lit (.bool true)], args := [d1, d2, d3] }
  | _ => none }
def fnExactHomesOfRow : OpenClaim := { program := "ytbfjfjocangjeaa", sum := "c7e6b6b16e296db936ca046150d668344b463ef8aef2202fc713fdb13281825b", func := "loop.example/g00791/laws.FnExactHomesOf", spec := "fnExactHomesOf", unfollowed := true, recurses := true, apart := false }
def FnExactHomesOfSaid : Prop := fnExactHomesOfRow.holds Try.pinned (OpenSpec.ofChange fnExactHomesOfSpec)

/-- ITS FALSE NEIGHBOUR: 'it returns false'. Refute it at one input. -/
def fnExactHomesOfWrong : ChangeSpec := { name := "fnExactHomesOf", fn := fun _ => fun
  | [d1, d2, d3] => { results := [.lit (.bool false)], args := [d1, d2, d3] }
  | _ => none }
def FnExactHomesOfWrongFalsely : Prop := fnExactHomesOfRow.holds Try.pinned (OpenSpec.ofChange fnExactHomesOfWrong)

/-- 'laws.FnExactIsHome': WHATEVER THE INPUT: true; the input reads as it did. -/
def fnExactIsHomeSpec : ChangeSpec := { name := "fnExactIsHome", fn := fun _ => fun
  | [d1, d2, d3, d4] => { results := [.lit (.bool true)], args := [d1, d2, d3, d4] }
  | _ => none }
def fnExactIsHomeRow : OpenClaim := { program := "ytbfjfjocangjeaa", sum := "c7e6b6b16e296db936ca046150d668344b463ef8aef2202fc713fdb13281825b", func := "loop.example/g00791/laws.FnExactIsHome", spec := "fnExactIsHome", unfollowed := true, recurses := true, apart := false }
def FnExactIsHomeSaid : Prop := fnExactIsHomeRow.holds Try.pinned (OpenSpec.ofChange fnExactIsHomeSpec)

/-- ITS FALSE NEIGHBOUR: 'it returns false'. Refute it at one input. -/
def fnExactIsHomeWrong : ChangeSpec := { name := "fnExactIsHome", fn := fun _ => fun
  | [d1, d2, d3, d4] => { results := [.lit (.bool false)], args := [d1, d2, d3, d4] }
  | _ => none }
def FnExactIsHomeWrongFalsely : Prop := fnExactIsHomeRow.holds Try.pinned (OpenSpec.ofChange fnExactIsHomeWrong)

/-- 'laws.FnExactMarkFault': WHATEVER THE INPUT: true; the input reads as it did. -/
def fnExactMarkFaultSpec : ChangeSpec := { name := "fnExactMarkFault", fn := fun _ => fun
  | [d] => { results := [.lit (.bool true)], args := [d] }
  | _ => none }
def fnExactMarkFaultRow : OpenClaim := { program := "ytbfjfjocangjeaa", sum := "c7e6b6b16e296db936ca046150d668344b463ef8aef2202fc713fdb13281825b", func := "loop.example/g00791/laws.FnExactMarkFault", spec := "fnExactMarkFault", apart := false }
def FnExactMarkFaultSaid : Prop := fnExactMarkFaultRow.holds Try.pinned (OpenSpec.ofChange fnExactMarkFaultSpec)

/-- ITS FALSE NEIGHBOUR: 'it returns false'. Refute it at one input. -/
def fnExactMarkFaultWrong : ChangeSpec := { name := "fnExactMarkFault", fn := fun _ => fun
  | [d] => { results := [.lit (.bool false)], args := [d] }
  | _ => none }
def FnExactMarkFaultWrongFalsely : Prop := fnExactMarkFaultRow.holds Try.pinned (OpenSpec.ofChange fnExactMarkFaultWrong)

/-- 'laws.FnExactIsStronger': WHATEVER THE INPUT: true; the input reads as it did. -/
def fnExactIsStrongerSpec : ChangeSpec := { name := "fnExactIsStronger", fn := fun _ => fun
  | [d1, d2] => { results := [.lit (.bool true)], args := [d1, d2] }
  | _ => none }
def fnExactIsStrongerRow : OpenClaim := { program := "ytbfjfjocangjeaa", sum := "c7e6b6b16e296db936ca046150d668344b463ef8aef2202fc713fdb13281825b", func := "loop.example/g00791/laws.FnExactIsStronger", spec := "fnExactIsStronger", apart := false }
def FnExactIsStrongerSaid : Prop := fnExactIsStrongerRow.holds Try.pinned (OpenSpec.ofChange fnExactIsStrongerSpec)

/-- ITS FALSE NEIGHBOUR: 'it returns false'. Refute it at one input. -/
def fnExactIsStrongerWrong : ChangeSpec := { name := "fnExactIsStronger", fn := fun _ => fun
  | [d1, d2] => { results := [.lit (.bool false)], args := [d1, d2] }
  | _ => none }
def FnExactIsStrongerWrongFalsely : Prop := fnExactIsStrongerRow.holds Try.pinned (OpenSpec.ofChange fnExactIsStrongerWrong)

/-- 'laws.FnExactMemberFault': WHATEVER THE INPUT: true; the input reads as it did. -/
def fnExactMemberFaultSpec : ChangeSpec := { name := "fnExactMemberFault", fn := fun _ => fun
  | [d] => { results := [.lit (.bool true)], args := [d] }
  | _ => none }
def fnExactMemberFaultRow : OpenClaim := { program := "ytbfjfjocangjeaa", sum := "c7e6b6b16e296db936ca046150d668344b463ef8aef2202fc713fdb13281825b", func := "loop.example/g00791/laws.FnExactMemberFault", spec := "fnExactMemberFault", apart := false }
def FnExactMemberFaultSaid : Prop := fnExactMemberFaultRow.holds Try.pinned (OpenSpec.ofChange fnExactMemberFaultSpec)

/-- ITS FALSE NEIGHBOUR: 'it returns false'. Refute it at one input. -/
def fnExactMemberFaultWrong : ChangeSpec := { name := "fnExactMemberFault", fn := fun _ => fun
  | [d] => { results := [.lit (.bool false)], args := [d] }
  | _ => none }
def FnExactMemberFaultWrongFalsely : Prop := fnExactMemberFaultRow.holds Try.pinned (OpenSpec.ofChange fnExactMemberFaultWrong)

/-- 'laws.FnExactHearMark': WHATEVER THE INPUT: true; the input reads as it did. -/
def fnExactHearMarkSpec : ChangeSpec := { name := "fnExactHearMark", fn := fun _ => fun
  | [d1, d2, d3] => { results := [.lit (.bool true)], args := [d1, d2, d3] }
  | _ => none }
def fnExactHearMarkRow : OpenClaim := { program := "ytbfjfjocangjeaa", sum := "c7e6b6b16e296db936ca046150d668344b463ef8aef2202fc713fdb13281825b", func := "loop.example/g00791/laws.FnExactHearMark", spec := "fnExactHearMark", apart := false }
def FnExactHearMarkSaid : Prop := fnExactHearMarkRow.holds Try.pinned (OpenSpec.ofChange fnExactHearMarkSpec)

/-- ITS FALSE NEIGHBOUR: 'it returns false'. Refute it at one input. -/
def fnExactHearMarkWrong : ChangeSpec := { name := "fnExactHearMark", fn := fun _ => fun
  | [d1, d2, d3] => { results := [.lit (.bool false)], args := [d1, d2, d3] }
  | _ => none }
def FnExactHearMarkWrongFalsely : Prop := fnExactHearMarkRow.holds Try.pinned (OpenSpec.ofChange fnExactHearMarkWrong)

/-- 'laws.FnExactSuspectMember': WHATEVER THE INPUT: true; the input reads as it did. -/
def fnExactSuspectMemberSpec : ChangeSpec := { name := "fnExactSuspectMember", fn := fun _ => fun
  | [d1, d2] => { results := [.lit (.bool true)], args := [d1, d2] }
  | _ => none }
def fnExactSuspectMemberRow : OpenClaim := { program := "ytbfjfjocangjeaa", sum := "c7e6b6b16e296db936ca046150d668344b463ef8aef2202fc713fdb13281825b", func := "loop.example/g00791/laws.FnExactSuspectMember", spec := "fnExactSuspectMember", apart := false }
def FnExactSuspectMemberSaid : Prop := fnExactSuspectMemberRow.holds Try.pinned (OpenSpec.ofChange fnExactSuspectMemberSpec)

/-- ITS FALSE NEIGHBOUR: 'it returns false'. Refute it at one input. -/
def fnExactSuspectMemberWrong : ChangeSpec := { name := "fnExactSuspectMember", fn := fun _ => fun
  | [d1, d2] => { results := [.lit (.bool false)], args := [d1, d2] }
  | _ => none }
def FnExactSuspectMemberWrongFalsely : Prop := fnExactSuspectMemberRow.holds Try.pinned (OpenSpec.ofChange fnExactSuspectMemberWrong)

/-- 'laws.FnExactAgeMember': WHATEVER THE INPUT: true; the input reads as it did. -/
def fnExactAgeMemberSpec : ChangeSpec := { name := "fnExactAgeMember", fn := fun _ => fun
  | [d1, d2] => { results := [.lit (.bool true)], args := [d1, d2] }
  | _ => none }
def fnExactAgeMemberRow : OpenClaim := { program := "ytbfjfjocangjeaa", sum := "c7e6b6b16e296db936ca046150d668344b463ef8aef2202fc713fdb13281825b", func := "loop.example/g00791/laws.FnExactAgeMember", spec := "fnExactAgeMember", apart := false }
def FnExactAgeMemberSaid : Prop := fnExactAgeMemberRow.holds Try.pinned (OpenSpec.ofChange fnExactAgeMemberSpec)

/-- ITS FALSE NEIGHBOUR: 'it returns false'. Refute it at one input. -/
def fnExactAgeMemberWrong : ChangeSpec := { name := "fnExactAgeMember", fn := fun _ => fun
  | [d1, d2] => { results := [.lit (.bool false)], args := [d1, d2] }
  | _ => none }
def FnExactAgeMemberWrongFalsely : Prop := fnExactAgeMemberRow.holds Try.pinned (OpenSpec.ofChange fnExactAgeMemberWrong)

/-- 'laws.FnExactRefuteLife': WHATEVER THE INPUT: true; the input reads as it did. -/
def fnExactRefuteLifeSpec : ChangeSpec := { name := "fnExactRefuteLife", fn := fun _ => fun
  | [d1, d2] => { results := [.lit (.bool true)], args := [d1, d2] }
  | _ => none }
def fnExactRefuteLifeRow : OpenClaim := { program := "ytbfjfjocangjeaa", sum := "c7e6b6b16e296db936ca046150d668344b463ef8aef2202fc713fdb13281825b", func := "loop.example/g00791/laws.FnExactRefuteLife", spec := "fnExactRefuteLife", inPlace := ["sync/atomic.StoreInt64", "sync/atomic.AddInt64"], apart := false }
def FnExactRefuteLifeSaid : Prop := fnExactRefuteLifeRow.holds Try.pinned (OpenSpec.ofChange fnExactRefuteLifeSpec)

/-- ITS FALSE NEIGHBOUR: 'it returns false'. Refute it at one input. -/
def fnExactRefuteLifeWrong : ChangeSpec := { name := "fnExactRefuteLife", fn := fun _ => fun
  | [d1, d2] => { results := [.lit (.bool false)], args := [d1, d2] }
  | _ => none }
def FnExactRefuteLifeWrongFalsely : Prop := fnExactRefuteLifeRow.holds Try.pinned (OpenSpec.ofChange fnExactRefuteLifeWrong)

/-- 'laws.FnExactMergeMarks': WHATEVER THE INPUT: true; the input reads as it did. -/
def fnExactMergeMarksSpec : ChangeSpec := { name := "fnExactMergeMarks", fn := fun _ => fun
  | [d1, d2] => { results := [.lit (.bool true)], args := [d1, d2] }
  | _ => none }
def fnExactMergeMarksRow : OpenClaim := { program := "ytbfjfjocangjeaa", sum := "c7e6b6b16e296db936ca046150d668344b463ef8aef2202fc713fdb13281825b", func := "loop.example/g00791/laws.FnExactMergeMarks", spec := "fnExactMergeMarks", unfollowed := true, recurses := true, apart := false }
def FnExactMergeMarksSaid : Prop := fnExactMergeMarksRow.holds Try.pinned (OpenSpec.ofChange fnExactMergeMarksSpec)

/-- ITS FALSE NEIGHBOUR: 'it returns false'. Refute it at one input. -/
def fnExactMergeMarksWrong : ChangeSpec := { name := "fnExactMergeMarks", fn := fun _ => fun
  | [d1, d2] => { results := [.lit (.bool false)], args := [d1, d2] }
  | _ => none }
def FnExactMergeMarksWrongFalsely : Prop := fnExactMergeMarksRow.holds Try.pinned (OpenSpec.ofChange fnExactMergeMarksWrong)

/- THE SECOND FORM. 'bulk': how many values and letters a reading holds, each counted each time it is reached (what is shared counts as often as it is met; a slice's spare places count too). A statement '..UptoSaid' is the law's where the arguments, and the package variables that the reading takes, are together of bulk at most 1048576: NARROWER than '..Said'. Prove '..Said' where nothing that the law and all that it calls make is longer than what came in: it says more and counts as full. Else prove '..UptoSaid'. A law counts once. -/
mutual
def uptoBulk {H : Type} : DataW H → Nat
  | .lit (.string bytes) => bytes.length + 1
  | .lit _ => 1
  | .nil => 1
  | .ptr d => uptoBulk d + 1
  | .slice elems spare => uptoBulkAll elems + uptoBulkAll spare + 1
  | .agg parts => uptoBulkAll parts + 1
  | .iface _ d => uptoBulk d + 1
  | .map entries => uptoBulkEntries entries + 1
  | .held _ => 1
def uptoBulkAll {H : Type} : List (DataW H) → Nat
  | [] => 0
  | d :: r => uptoBulk d + uptoBulkAll r
def uptoBulkEntries {H : Type} : List (Lit × DataW H) → Nat
  | [] => 0
  | x :: r => uptoBulkEntry x + uptoBulkEntries r
def uptoBulkEntry {H : Type} : Lit × DataW H → Nat
  | (.string bytes, d) => bytes.length + uptoBulk d + 1
  | (_, d) => uptoBulk d + 1
 end
def uptoSmall : (H : Type) → List (DataW H) → Bool := fun _ ds => decide (uptoBulkAll ds ≤ 1048576)
def OpenSpec.upto (s : _root_.Go.ChangeSpec) : _root_.Go.OpenSpec := { _root_.Go.OpenSpec.ofChange s with cond := some uptoSmall }

/-- 'laws.FnMembers', WHERE WHAT IT READS IS OF BULK AT MOST 1048576: true; the input reads as it did. -/
def fnMembersUptoRow : OpenClaim := { program := "ytbfjfjocangjeaa", sum := "c7e6b6b16e296db936ca046150d668344b463ef8aef2202fc713fdb13281825b", func := "loop.example/g00791/laws.FnMembers", spec := "fnMembers", inPlace := ["sync/atomic.StoreInt64", "sync/atomic.AddInt64"], apart := false, narrowed := true }
def FnMembersUptoSaid : Prop := fnMembersUptoRow.holds Try.pinned (OpenSpec.upto fnMembersSpec)

/-- 'laws.FnMarks', WHERE WHAT IT READS IS OF BULK AT MOST 1048576: true; the input reads as it did. -/
def fnMarksUptoRow : OpenClaim := { program := "ytbfjfjocangjeaa", sum := "c7e6b6b16e296db936ca046150d668344b463ef8aef2202fc713fdb13281825b", func := "loop.example/g00791/laws.FnMarks", spec := "fnMarks", unfollowed := true, recurses := true, apart := false, narrowed := true }
def FnMarksUptoSaid : Prop := fnMarksUptoRow.holds Try.pinned (OpenSpec.upto fnMarksSpec)

/-- 'laws.FnExactPlacesOf', WHERE WHAT IT READS IS OF BULK AT MOST 1048576: true; the input reads as it did. -/
def fnExactPlacesOfUptoRow : OpenClaim := { program := "ytbfjfjocangjeaa", sum := "c7e6b6b16e296db936ca046150d668344b463ef8aef2202fc713fdb13281825b", func := "loop.example/g00791/laws.FnExactPlacesOf", spec := "fnExactPlacesOf", unfollowed := true, recurses := true, apart := false, narrowed := true }
def FnExactPlacesOfUptoSaid : Prop := fnExactPlacesOfUptoRow.holds Try.pinned (OpenSpec.upto fnExactPlacesOfSpec)

/-- 'laws.FnExactHomesOf', WHERE WHAT IT READS IS OF BULK AT MOST 1048576: true; the input reads as it did. -/
def fnExactHomesOfUptoRow : OpenClaim := { program := "ytbfjfjocangjeaa", sum := "c7e6b6b16e296db936ca046150d668344b463ef8aef2202fc713fdb13281825b", func := "loop.example/g00791/laws.FnExactHomesOf", spec := "fnExactHomesOf", unfollowed := true, recurses := true, apart := false, narrowed := true }
def FnExactHomesOfUptoSaid : Prop := fnExactHomesOfUptoRow.holds Try.pinned (OpenSpec.upto fnExactHomesOfSpec)

/-- 'laws.FnExactIsHome', WHERE WHAT IT READS IS OF BULK AT MOST 1048576: true; the input reads as it did. -/
def fnExactIsHomeUptoRow : OpenClaim := { program := "ytbfjfjocangjeaa", sum := "c7e6b6b16e296db936ca046150d668344b463ef8aef2202fc713fdb13281825b", func := "loop.example/g00791/laws.FnExactIsHome", spec := "fnExactIsHome", unfollowed := true, recurses := true, apart := false, narrowed := true }
def FnExactIsHomeUptoSaid : Prop := fnExactIsHomeUptoRow.holds Try.pinned (OpenSpec.upto fnExactIsHomeSpec)

/-- 'laws.FnExactMarkFault', WHERE WHAT IT READS IS OF BULK AT MOST 1048576: true; the input reads as it did. -/
def fnExactMarkFaultUptoRow : OpenClaim := { program := "ytbfjfjocangjeaa", sum := "c7e6b6b16e296db936ca046150d668344b463ef8aef2202fc713fdb13281825b", func := "loop.example/g00791/laws.FnExactMarkFault", spec := "fnExactMarkFault", apart := false, narrowed := true }
def FnExactMarkFaultUptoSaid : Prop := fnExactMarkFaultUptoRow.holds Try.pinned (OpenSpec.upto fnExactMarkFaultSpec)

/-- 'laws.FnExactIsStronger', WHERE WHAT IT READS IS OF BULK AT MOST 1048576: true; the input reads as it did. -/
def fnExactIsStrongerUptoRow : OpenClaim := { program := "ytbfjfjocangjeaa", sum := "c7e6b6b16e296db936ca046150d668344b463ef8aef2202fc713fdb13281825b", func := "loop.example/g00791/laws.FnExactIsStronger", spec := "fnExactIsStronger", apart := false, narrowed := true }
def FnExactIsStrongerUptoSaid : Prop := fnExactIsStrongerUptoRow.holds Try.pinned (OpenSpec.upto fnExactIsStrongerSpec)

/-- 'laws.FnExactMemberFault', WHERE WHAT IT READS IS OF BULK AT MOST 1048576: true; the input reads as it did. -/
def fnExactMemberFaultUptoRow : OpenClaim := { program := "ytbfjfjocangjeaa", sum := "c7e6b6b16e296db936ca046150d668344b463ef8aef2202fc713fdb13281825b", func := "loop.example/g00791/laws.FnExactMemberFault", spec := "fnExactMemberFault", apart := false, narrowed := true }
def FnExactMemberFaultUptoSaid : Prop := fnExactMemberFaultUptoRow.holds Try.pinned (OpenSpec.upto fnExactMemberFaultSpec)

/-- 'laws.FnExactHearMark', WHERE WHAT IT READS IS OF BULK AT MOST 1048576: true; the input reads as it did. -/
def fnExactHearMarkUptoRow : OpenClaim := { program := "ytbfjfjocangjeaa", sum := "c7e6b6b16e296db936ca046150d668344b463ef8aef2202fc713fdb13281825b", func := "loop.example/g00791/laws.FnExactHearMark", spec := "fnExactHearMark", apart := false, narrowed := true }
def FnExactHearMarkUptoSaid : Prop := fnExactHearMarkUptoRow.holds Try.pinned (OpenSpec.upto fnExactHearMarkSpec)

/-- 'laws.FnExactSuspectMember', WHERE WHAT IT READS IS OF BULK AT MOST 1048576: true; the input reads as it did. -/
def fnExactSuspectMemberUptoRow : OpenClaim := { program := "ytbfjfjocangjeaa", sum := "c7e6b6b16e296db936ca046150d668344b463ef8aef2202fc713fdb13281825b", func := "loop.example/g00791/laws.FnExactSuspectMember", spec := "fnExactSuspectMember", apart := false, narrowed := true }
def FnExactSuspectMemberUptoSaid : Prop := fnExactSuspectMemberUptoRow.holds Try.pinned (OpenSpec.upto fnExactSuspectMemberSpec)

/-- 'laws.FnExactAgeMember', WHERE WHAT IT READS IS OF BULK AT MOST 1048576: true; the input reads as it did. -/
def fnExactAgeMemberUptoRow : OpenClaim := { program := "ytbfjfjocangjeaa", sum := "c7e6b6b16e296db936ca046150d668344b463ef8aef2202fc713fdb13281825b", func := "loop.example/g00791/laws.FnExactAgeMember", spec := "fnExactAgeMember", apart := false, narrowed := true }
def FnExactAgeMemberUptoSaid : Prop := fnExactAgeMemberUptoRow.holds Try.pinned (OpenSpec.upto fnExactAgeMemberSpec)

/-- 'laws.FnExactRefuteLife', WHERE WHAT IT READS IS OF BULK AT MOST 1048576: true; the input reads as it did. -/
def fnExactRefuteLifeUptoRow : OpenClaim := { program := "ytbfjfjocangjeaa", sum := "c7e6b6b16e296db936ca046150d668344b463ef8aef2202fc713fdb13281825b", func := "loop.example/g00791/laws.FnExactRefuteLife", spec := "fnExactRefuteLife", inPlace := ["sync/atomic.StoreInt64", "sync/atomic.AddInt64"], apart := false, narrowed := true }
def FnExactRefuteLifeUptoSaid : Prop := fnExactRefuteLifeUptoRow.holds Try.pinned (OpenSpec.upto fnExactRefuteLifeSpec)

/-- 'laws.FnExactMergeMarks', WHERE WHAT IT READS IS OF BULK AT MOST 1048576: true; the input reads as it did. -/
def fnExactMergeMarksUptoRow : OpenClaim := { program := "ytbfjfjocangjeaa", sum := "c7e6b6b16e296db936ca046150d668344b463ef8aef2202fc713fdb13281825b", func := "loop.example/g00791/laws.FnExactMergeMarks", spec := "fnExactMergeMarks", unfollowed := true, recurses := true, apart := false, narrowed := true }
def FnExactMergeMarksUptoSaid : Prop := fnExactMergeMarksUptoRow.holds Try.pinned (OpenSpec.upto fnExactMergeMarksSpec)

end Rows
end Go.Proofs.Ytbfjfjocangjeaa
