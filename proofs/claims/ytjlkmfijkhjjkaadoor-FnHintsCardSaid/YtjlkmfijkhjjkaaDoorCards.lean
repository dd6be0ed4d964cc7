/-
  DERIVED. GIVEN WITH THE SEED: THE CARDS: each row of YtjlkmfijkhjjkaaDoorRows.lean that lists a variable, with what it lists TIED to the program's text (the seventh form; the later family's looks); each row that meets fmt, with fmt's text TOLD by the authors' own Lean function (tested against real Go, not proved from fmt's source: count such statements apart). THE CARD IS WHAT COUNTS. Prove the row's statement (the work); the ties are given (YtjlkmfijkhjjkaaDoorTie.lean); close each card by the builder's one call (the guide's Derived/Test/ToyasCard.lean, 'card_holds'). Laid BY PROGRAM, IN A SANDBOX (cutbox-door.mjs). By AI agents, Wed Nov 11 2026. No macro, syntax, notation, axiom, sorry.
-/
import Derived.Test.YtjlkmfijkhjjkaaDoorRows
import GoSem.ClaimSeven
namespace Go.Proofs.YtjlkmfijkhjjkaaDoor
namespace Rows

/-- THE TIED CARD OF 'laws.FnHints'. -/
def fnHintsCard : Claim7 := { stood := { row := fnHintsRow, standIns := [], harness := (true, "9f326280b0db9d54c228ac5596b0c2e1dd2b86c32a5e6917428b2bc44869e21e"), looks := false }, kinds := [], alts := [], laidByText := true, laidKinds := [.data], laidTests := true, laidLooks := .later }
def FnHintsCardSaid : Prop := Claim7.holds Tryd.pinned (.plain (OpenSpec.ofChange fnHintsSpec)) fnHintsCard

/-- THE TIED CARD OF 'laws.FnExactHintsFault'. -/
def fnExactHintsFaultCard : Claim7 := { stood := { row := fnExactHintsFaultRow, standIns := [], harness := (true, "9f326280b0db9d54c228ac5596b0c2e1dd2b86c32a5e6917428b2bc44869e21e"), looks := false }, kinds := [], alts := [], laidByText := true, laidKinds := [.data], laidTests := true, laidLooks := .later }
def FnExactHintsFaultCardSaid : Prop := Claim7.holds Tryd.pinned (.plain (OpenSpec.ofChange fnExactHintsFaultSpec)) fnExactHintsFaultCard

/-- THE TIED CARD OF 'laws.FnExactAddHint'. -/
def fnExactAddHintCard : Claim7 := { stood := { row := fnExactAddHintRow, standIns := [], harness := (true, "9f326280b0db9d54c228ac5596b0c2e1dd2b86c32a5e6917428b2bc44869e21e"), looks := false }, kinds := [], alts := [], laidByText := true, laidKinds := [.data], laidTests := true, laidLooks := .later }
def FnExactAddHintCardSaid : Prop := Claim7.holds Tryd.pinned (.plain (OpenSpec.ofChange fnExactAddHintSpec)) fnExactAddHintCard

/-- THE TIED CARD OF 'laws.FnExactDoneHint'. -/
def fnExactDoneHintCard : Claim7 := { stood := { row := fnExactDoneHintRow, standIns := [], harness := (true, "9f326280b0db9d54c228ac5596b0c2e1dd2b86c32a5e6917428b2bc44869e21e"), looks := false }, kinds := [], alts := [], laidByText := true, laidKinds := [.data], laidTests := true, laidLooks := .later }
def FnExactDoneHintCardSaid : Prop := Claim7.holds Tryd.pinned (.plain (OpenSpec.ofChange fnExactDoneHintSpec)) fnExactDoneHintCard

/-- THE TIED CARD OF 'laws.FnExactDueHints'. -/
def fnExactDueHintsCard : Claim7 := { stood := { row := fnExactDueHintsRow, standIns := [], harness := (true, "9f326280b0db9d54c228ac5596b0c2e1dd2b86c32a5e6917428b2bc44869e21e"), looks := false }, kinds := [], alts := [], laidByText := true, laidKinds := [.data], laidTests := true, laidLooks := .later }
def FnExactDueHintsCardSaid : Prop := Claim7.holds Tryd.pinned (.plain (OpenSpec.ofChange fnExactDueHintsSpec)) fnExactDueHintsCard

/-- THE TIED CARD OF 'laws.FnExactSentHint'. -/
def fnExactSentHintCard : Claim7 := { stood := { row := fnExactSentHintRow, standIns := [], harness := (true, "9f326280b0db9d54c228ac5596b0c2e1dd2b86c32a5e6917428b2bc44869e21e"), looks := false }, kinds := [], alts := [], laidByText := true, laidKinds := [.data], laidTests := true, laidLooks := .later }
def FnExactSentHintCardSaid : Prop := Claim7.holds Tryd.pinned (.plain (OpenSpec.ofChange fnExactSentHintSpec)) fnExactSentHintCard

/-- THE SECOND FORM's CARD OF 'laws.FnHints'. -/
def fnHintsUptoCard : Claim7 := { stood := { row := fnHintsUptoRow, standIns := [], harness := (true, "9f326280b0db9d54c228ac5596b0c2e1dd2b86c32a5e6917428b2bc44869e21e"), looks := false }, kinds := [], alts := [], laidByText := true, laidKinds := [.data], laidTests := true, laidLooks := .later }
def FnHintsUptoCardSaid : Prop := Claim7.holds Tryd.pinned (.plain (OpenSpec.upto fnHintsSpec)) fnHintsUptoCard

/-- THE SECOND FORM's CARD OF 'laws.FnExactHintsFault'. -/
def fnExactHintsFaultUptoCard : Claim7 := { stood := { row := fnExactHintsFaultUptoRow, standIns := [], harness := (true, "9f326280b0db9d54c228ac5596b0c2e1dd2b86c32a5e6917428b2bc44869e21e"), looks := false }, kinds := [], alts := [], laidByText := true, laidKinds := [.data], laidTests := true, laidLooks := .later }
def FnExactHintsFaultUptoCardSaid : Prop := Claim7.holds Tryd.pinned (.plain (OpenSpec.upto fnExactHintsFaultSpec)) fnExactHintsFaultUptoCard

/-- THE SECOND FORM's CARD OF 'laws.FnExactAddHint'. -/
def fnExactAddHintUptoCard : Claim7 := { stood := { row := fnExactAddHintUptoRow, standIns := [], harness := (true, "9f326280b0db9d54c228ac5596b0c2e1dd2b86c32a5e6917428b2bc44869e21e"), looks := false }, kinds := [], alts := [], laidByText := true, laidKinds := [.data], laidTests := true, laidLooks := .later }
def FnExactAddHintUptoCardSaid : Prop := Claim7.holds Tryd.pinned (.plain (OpenSpec.upto fnExactAddHintSpec)) fnExactAddHintUptoCard

/-- THE SECOND FORM's CARD OF 'laws.FnExactDoneHint'. -/
def fnExactDoneHintUptoCard : Claim7 := { stood := { row := fnExactDoneHintUptoRow, standIns := [], harness := (true, "9f326280b0db9d54c228ac5596b0c2e1dd2b86c32a5e6917428b2bc44869e21e"), looks := false }, kinds := [], alts := [], laidByText := true, laidKinds := [.data], laidTests := true, laidLooks := .later }
def FnExactDoneHintUptoCardSaid : Prop := Claim7.holds Tryd.pinned (.plain (OpenSpec.upto fnExactDoneHintSpec)) fnExactDoneHintUptoCard

/-- THE SECOND FORM's CARD OF 'laws.FnExactDueHints'. -/
def fnExactDueHintsUptoCard : Claim7 := { stood := { row := fnExactDueHintsUptoRow, standIns := [], harness := (true, "9f326280b0db9d54c228ac5596b0c2e1dd2b86c32a5e6917428b2bc44869e21e"), looks := false }, kinds := [], alts := [], laidByText := true, laidKinds := [.data], laidTests := true, laidLooks := .later }
def FnExactDueHintsUptoCardSaid : Prop := Claim7.holds Tryd.pinned (.plain (OpenSpec.upto fnExactDueHintsSpec)) fnExactDueHintsUptoCard

/-- THE SECOND FORM's CARD OF 'laws.FnExactSentHint'. -/
def fnExactSentHintUptoCard : Claim7 := { stood := { row := fnExactSentHintUptoRow, standIns := [], harness := (true, "9f326280b0db9d54c228ac5596b0c2e1dd2b86c32a5e6917428b2bc44869e21e"), looks := false }, kinds := [], alts := [], laidByText := true, laidKinds := [.data], laidTests := true, laidLooks := .later }
def FnExactSentHintUptoCardSaid : Prop := Claim7.holds Tryd.pinned (.plain (OpenSpec.upto fnExactSentHintSpec)) fnExactSentHintUptoCard
end Rows
end Go.Proofs.YtjlkmfijkhjjkaaDoor
