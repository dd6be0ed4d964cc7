/-
  DERIVED. GIVEN WITH THE SEED: THE CARDS: each row of YtkgbjlbhlhdhbaaDoorRows.lean that lists a variable, with what it lists TIED to the program's text (the seventh form; the later family's looks); each row that meets fmt, with fmt's text TOLD by the authors' own Lean function (tested against real Go, not proved from fmt's source: count such statements apart). THE CARD IS WHAT COUNTS. Prove the row's statement (the work); the ties are given (YtkgbjlbhlhdhbaaDoorTie.lean); close each card by the builder's one call (the guide's Derived/Test/ToyasCard.lean, 'card_holds'). Laid BY PROGRAM, IN A SANDBOX (cutbox-door.mjs). By AI agents, Wed Nov 11 2026. No macro, syntax, notation, axiom, sorry.
-/
import Derived.Test.YtkgbjlbhlhdhbaaDoorRows
import GoSem.ClaimSeven
namespace Go.Proofs.YtkgbjlbhlhdhbaaDoor
namespace Rows

/-- THE TIED CARD OF 'laws.FnStores'. -/
def fnStoresCard : Claim7 := { stood := { row := fnStoresRow, standIns := [], harness := (true, "9e276079377a91736123c031f0c30bf09553706cce732c283e44c59adcc61e40"), looks := false }, kinds := [], alts := [], laidByText := true, laidKinds := [.data], laidTests := true, laidLooks := .later }
def FnStoresCardSaid : Prop := Claim7.holds Tryd.pinned (.plain (OpenSpec.ofChange fnStoresSpec)) fnStoresCard

/-- THE TIED CARD OF 'laws.FnMerges'. -/
def fnMergesCard : Claim7 := { stood := { row := fnMergesRow, standIns := [], harness := (true, "9e276079377a91736123c031f0c30bf09553706cce732c283e44c59adcc61e40"), looks := false }, kinds := [], alts := [], laidByText := true, laidKinds := [.data], laidTests := true, laidLooks := .later }
def FnMergesCardSaid : Prop := Claim7.holds Tryd.pinned (.plain (OpenSpec.ofChange fnMergesSpec)) fnMergesCard

/-- THE TIED CARD OF 'laws.FnExactStoreFault'. -/
def fnExactStoreFaultCard : Claim7 := { stood := { row := fnExactStoreFaultRow, standIns := [], harness := (true, "9e276079377a91736123c031f0c30bf09553706cce732c283e44c59adcc61e40"), looks := false }, kinds := [], alts := [], laidByText := true, laidKinds := [.data], laidTests := true, laidLooks := .later }
def FnExactStoreFaultCardSaid : Prop := Claim7.holds Tryd.pinned (.plain (OpenSpec.ofChange fnExactStoreFaultSpec)) fnExactStoreFaultCard

/-- THE TIED CARD OF 'laws.FnExactInsertSample'. -/
def fnExactInsertSampleCard : Claim7 := { stood := { row := fnExactInsertSampleRow, standIns := [], harness := (true, "9e276079377a91736123c031f0c30bf09553706cce732c283e44c59adcc61e40"), looks := false }, kinds := [], alts := [], laidByText := true, laidKinds := [.data], laidTests := true, laidLooks := .later }
def FnExactInsertSampleCardSaid : Prop := Claim7.holds Tryd.pinned (.plain (OpenSpec.ofChange fnExactInsertSampleSpec)) fnExactInsertSampleCard

/-- THE TIED CARD OF 'laws.FnExactFindSample'. -/
def fnExactFindSampleCard : Claim7 := { stood := { row := fnExactFindSampleRow, standIns := [], harness := (true, "9e276079377a91736123c031f0c30bf09553706cce732c283e44c59adcc61e40"), looks := false }, kinds := [], alts := [], laidByText := true, laidKinds := [.data], laidTests := true, laidLooks := .later }
def FnExactFindSampleCardSaid : Prop := Claim7.holds Tryd.pinned (.plain (OpenSpec.ofChange fnExactFindSampleSpec)) fnExactFindSampleCard

/-- THE TIED CARD OF 'laws.FnExactQueryStore'. -/
def fnExactQueryStoreCard : Claim7 := { stood := { row := fnExactQueryStoreRow, standIns := [], harness := (true, "9e276079377a91736123c031f0c30bf09553706cce732c283e44c59adcc61e40"), looks := false }, kinds := [], alts := [], laidByText := true, laidKinds := [.data], laidTests := true, laidLooks := .later }
def FnExactQueryStoreCardSaid : Prop := Claim7.holds Tryd.pinned (.plain (OpenSpec.ofChange fnExactQueryStoreSpec)) fnExactQueryStoreCard

/-- THE TIED CARD OF 'laws.FnExactMergeLists'. -/
def fnExactMergeListsCard : Claim7 := { stood := { row := fnExactMergeListsRow, standIns := [], harness := (true, "9e276079377a91736123c031f0c30bf09553706cce732c283e44c59adcc61e40"), looks := false }, kinds := [], alts := [], laidByText := true, laidKinds := [.data], laidTests := true, laidLooks := .later }
def FnExactMergeListsCardSaid : Prop := Claim7.holds Tryd.pinned (.plain (OpenSpec.ofChange fnExactMergeListsSpec)) fnExactMergeListsCard

/-- THE SECOND FORM's CARD OF 'laws.FnStores'. -/
def fnStoresUptoCard : Claim7 := { stood := { row := fnStoresUptoRow, standIns := [], harness := (true, "9e276079377a91736123c031f0c30bf09553706cce732c283e44c59adcc61e40"), looks := false }, kinds := [], alts := [], laidByText := true, laidKinds := [.data], laidTests := true, laidLooks := .later }
def FnStoresUptoCardSaid : Prop := Claim7.holds Tryd.pinned (.plain (OpenSpec.upto fnStoresSpec)) fnStoresUptoCard

/-- THE SECOND FORM's CARD OF 'laws.FnMerges'. -/
def fnMergesUptoCard : Claim7 := { stood := { row := fnMergesUptoRow, standIns := [], harness := (true, "9e276079377a91736123c031f0c30bf09553706cce732c283e44c59adcc61e40"), looks := false }, kinds := [], alts := [], laidByText := true, laidKinds := [.data], laidTests := true, laidLooks := .later }
def FnMergesUptoCardSaid : Prop := Claim7.holds Tryd.pinned (.plain (OpenSpec.upto fnMergesSpec)) fnMergesUptoCard

/-- THE SECOND FORM's CARD OF 'laws.FnExactStoreFault'. -/
def fnExactStoreFaultUptoCard : Claim7 := { stood := { row := fnExactStoreFaultUptoRow, standIns := [], harness := (true, "9e276079377a91736123c031f0c30bf09553706cce732c283e44c59adcc61e40"), looks := false }, kinds := [], alts := [], laidByText := true, laidKinds := [.data], laidTests := true, laidLooks := .later }
def FnExactStoreFaultUptoCardSaid : Prop := Claim7.holds Tryd.pinned (.plain (OpenSpec.upto fnExactStoreFaultSpec)) fnExactStoreFaultUptoCard

/-- THE SECOND FORM's CARD OF 'laws.FnExactInsertSample'. -/
def fnExactInsertSampleUptoCard : Claim7 := { stood := { row := fnExactInsertSampleUptoRow, standIns := [], harness := (true, "9e276079377a91736123c031f0c30bf09553706cce732c283e44c59adcc61e40"), looks := false }, kinds := [], alts := [], laidByText := true, laidKinds := [.data], laidTests := true, laidLooks := .later }
def FnExactInsertSampleUptoCardSaid : Prop := Claim7.holds Tryd.pinned (.plain (OpenSpec.upto fnExactInsertSampleSpec)) fnExactInsertSampleUptoCard

/-- THE SECOND FORM's CARD OF 'laws.FnExactFindSample'. -/
def fnExactFindSampleUptoCard : Claim7 := { stood := { row := fnExactFindSampleUptoRow, standIns := [], harness := (true, "9e276079377a91736123c031f0c30bf09553706cce732c283e44c59adcc61e40"), looks := false }, kinds := [], alts := [], laidByText := true, laidKinds := [.data], laidTests := true, laidLooks := .later }
def FnExactFindSampleUptoCardSaid : Prop := Claim7.holds Tryd.pinned (.plain (OpenSpec.upto fnExactFindSampleSpec)) fnExactFindSampleUptoCard

/-- THE SECOND FORM's CARD OF 'laws.FnExactQueryStore'. -/
def fnExactQueryStoreUptoCard : Claim7 := { stood := { row := fnExactQueryStoreUptoRow, standIns := [], harness := (true, "9e276079377a91736123c031f0c30bf09553706cce732c283e44c59adcc61e40"), looks := false }, kinds := [], alts := [], laidByText := true, laidKinds := [.data], laidTests := true, laidLooks := .later }
def FnExactQueryStoreUptoCardSaid : Prop := Claim7.holds Tryd.pinned (.plain (OpenSpec.upto fnExactQueryStoreSpec)) fnExactQueryStoreUptoCard

/-- THE SECOND FORM's CARD OF 'laws.FnExactMergeLists'. -/
def fnExactMergeListsUptoCard : Claim7 := { stood := { row := fnExactMergeListsUptoRow, standIns := [], harness := (true, "9e276079377a91736123c031f0c30bf09553706cce732c283e44c59adcc61e40"), looks := false }, kinds := [], alts := [], laidByText := true, laidKinds := [.data], laidTests := true, laidLooks := .later }
def FnExactMergeListsUptoCardSaid : Prop := Claim7.holds Tryd.pinned (.plain (OpenSpec.upto fnExactMergeListsSpec)) fnExactMergeListsUptoCard
end Rows
end Go.Proofs.YtkgbjlbhlhdhbaaDoor
