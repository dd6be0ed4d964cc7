/-
  DERIVED. GIVEN WITH THE SEED: THE CARDS: each row of YtmaillakhhdkfaaGreatDoorRows.lean that lists a variable, with what it lists TIED to the program's text (the seventh form; the later family's looks); each row that meets fmt, with fmt's text TOLD by the authors' own Lean function (tested against real Go, not proved from fmt's source: count such statements apart). THE CARD IS WHAT COUNTS. Prove the row's statement (the work); the ties are given (YtmaillakhhdkfaaGreatDoorTie.lean); close each card by the builder's one call (the guide's Derived/Test/ToyasCard.lean, 'card_holds'). Laid BY PROGRAM, IN A SANDBOX (cutbox-door.mjs). By AI agents, Wed Nov 11 2026. No macro, syntax, notation, axiom, sorry.
-/
import Derived.Test.YtmaillakhhdkfaaGreatDoorRows
import GoSem.ClaimSeven
namespace Go.Proofs.YtmaillakhhdkfaaGreatDoor
namespace Rows

/-- THE TIED CARD OF 'laws.FnRecords'. -/
def fnRecordsCard : Claim7 := { stood := { row := fnRecordsRow, standIns := [], harness := (true, "747bc5c9a4652385a0e82dae6065529846aebc014dea563af5057a5ac2ed4577"), looks := true }, kinds := [], alts := [], laidByText := true, laidKinds := [.data], laidTests := true, laidLooks := .later }
def FnRecordsCardSaid : Prop := Claim7.holds Tryz.pinned (.plain (OpenSpec.ofChange fnRecordsSpec)) fnRecordsCard

/-- THE TIED CARD OF 'laws.FnRecovers'. -/
def fnRecoversCard : Claim7 := { stood := { row := fnRecoversRow, standIns := [], harness := (true, "747bc5c9a4652385a0e82dae6065529846aebc014dea563af5057a5ac2ed4577"), looks := true }, kinds := [], alts := [], laidByText := true, laidKinds := [.data, .sentinel], laidTests := true, laidLooks := .later }
def FnRecoversCardSaid : Prop := Claim7.holds Tryz.pinned (.plain (OpenSpec.ofChange fnRecoversSpec)) fnRecoversCard

/-- THE TIED CARD OF 'laws.FnExactRecoverDisk'. -/
def fnExactRecoverDiskCard : Claim7 := { stood := { row := fnExactRecoverDiskRow, standIns := [], harness := (true, "747bc5c9a4652385a0e82dae6065529846aebc014dea563af5057a5ac2ed4577"), looks := true }, kinds := [], alts := [], laidByText := true, laidKinds := [.data, .sentinel], laidTests := true, laidLooks := .later }
def FnExactRecoverDiskCardSaid : Prop := Claim7.holds Tryz.pinned (.plain (OpenSpec.ofChange fnExactRecoverDiskSpec)) fnExactRecoverDiskCard

/-- THE SECOND FORM's CARD OF 'laws.FnRecords'. -/
def fnRecordsUptoCard : Claim7 := { stood := { row := fnRecordsUptoRow, standIns := [], harness := (true, "747bc5c9a4652385a0e82dae6065529846aebc014dea563af5057a5ac2ed4577"), looks := true }, kinds := [], alts := [], laidByText := true, laidKinds := [.data], laidTests := true, laidLooks := .later }
def FnRecordsUptoCardSaid : Prop := Claim7.holds Tryz.pinned (.plain (OpenSpec.upto fnRecordsSpec)) fnRecordsUptoCard

/-- THE SECOND FORM's CARD OF 'laws.FnRecovers'. -/
def fnRecoversUptoCard : Claim7 := { stood := { row := fnRecoversUptoRow, standIns := [], harness := (true, "747bc5c9a4652385a0e82dae6065529846aebc014dea563af5057a5ac2ed4577"), looks := true }, kinds := [], alts := [], laidByText := true, laidKinds := [.data, .sentinel], laidTests := true, laidLooks := .later }
def FnRecoversUptoCardSaid : Prop := Claim7.holds Tryz.pinned (.plain (OpenSpec.upto fnRecoversSpec)) fnRecoversUptoCard

/-- THE SECOND FORM's CARD OF 'laws.FnExactRecoverDisk'. -/
def fnExactRecoverDiskUptoCard : Claim7 := { stood := { row := fnExactRecoverDiskUptoRow, standIns := [], harness := (true, "747bc5c9a4652385a0e82dae6065529846aebc014dea563af5057a5ac2ed4577"), looks := true }, kinds := [], alts := [], laidByText := true, laidKinds := [.data, .sentinel], laidTests := true, laidLooks := .later }
def FnExactRecoverDiskUptoCardSaid : Prop := Claim7.holds Tryz.pinned (.plain (OpenSpec.upto fnExactRecoverDiskSpec)) fnExactRecoverDiskUptoCard
end Rows
end Go.Proofs.YtmaillakhhdkfaaGreatDoor
