/-
  DERIVED. GIVEN WITH THE SEED: THE CARDS: each row of YtpbpahdgdddneaaDoorRows.lean that lists a variable, with what it lists TIED to the program's text (the seventh form; the later family's looks); each row that meets fmt, with fmt's text TOLD by the authors' own Lean function (tested against real Go, not proved from fmt's source: count such statements apart). THE CARD IS WHAT COUNTS. Prove the row's statement (the work); the ties are given (YtpbpahdgdddneaaDoorTie.lean); close each card by the builder's one call (the guide's Derived/Test/ToyasCard.lean, 'card_holds'). Laid BY PROGRAM, IN A SANDBOX (cutbox-door.mjs). By AI agents, Wed Nov 11 2026. No macro, syntax, notation, axiom, sorry.
-/
import Derived.Test.YtpbpahdgdddneaaDoorRows
import GoSem.ClaimSeven
namespace Go.Proofs.YtpbpahdgdddneaaDoor
namespace Rows

/-- THE TIED CARD OF 'laws.FnSamples'. -/
def fnSamplesCard : Claim7 := { stood := { row := fnSamplesRow, standIns := [], harness := (true, "ed575464aecdaff7b4937b834c0f8355529693d152bc0e611ed25fdf331ce93a"), looks := false }, kinds := [], alts := [], laidByText := true, laidKinds := [.data], laidTests := true, laidLooks := .later }
def FnSamplesCardSaid : Prop := Claim7.holds Tryd.pinned (.plain (OpenSpec.ofChange fnSamplesSpec)) fnSamplesCard

/-- THE TIED CARD OF 'laws.FnExactSampleFault'. -/
def fnExactSampleFaultCard : Claim7 := { stood := { row := fnExactSampleFaultRow, standIns := [], harness := (true, "ed575464aecdaff7b4937b834c0f8355529693d152bc0e611ed25fdf331ce93a"), looks := false }, kinds := [], alts := [], laidByText := true, laidKinds := [.data], laidTests := true, laidLooks := .later }
def FnExactSampleFaultCardSaid : Prop := Claim7.holds Tryd.pinned (.plain (OpenSpec.ofChange fnExactSampleFaultSpec)) fnExactSampleFaultCard

/-- THE TIED CARD OF 'laws.FnExactEncodeSample'. -/
def fnExactEncodeSampleCard : Claim7 := { stood := { row := fnExactEncodeSampleRow, standIns := [], harness := (true, "ed575464aecdaff7b4937b834c0f8355529693d152bc0e611ed25fdf331ce93a"), looks := false }, kinds := [], alts := [], laidByText := true, laidKinds := [.data], laidTests := true, laidLooks := .later }
def FnExactEncodeSampleCardSaid : Prop := Claim7.holds Tryd.pinned (.plain (OpenSpec.ofChange fnExactEncodeSampleSpec)) fnExactEncodeSampleCard

/-- THE TIED CARD OF 'laws.FnExactDecodeSample'. -/
def fnExactDecodeSampleCard : Claim7 := { stood := { row := fnExactDecodeSampleRow, standIns := [], harness := (true, "ed575464aecdaff7b4937b834c0f8355529693d152bc0e611ed25fdf331ce93a"), looks := false }, kinds := [], alts := [], laidByText := true, laidKinds := [.data], laidTests := true, laidLooks := .later }
def FnExactDecodeSampleCardSaid : Prop := Claim7.holds Tryd.pinned (.plain (OpenSpec.ofChange fnExactDecodeSampleSpec)) fnExactDecodeSampleCard

/-- THE SECOND FORM's CARD OF 'laws.FnSamples'. -/
def fnSamplesUptoCard : Claim7 := { stood := { row := fnSamplesUptoRow, standIns := [], harness := (true, "ed575464aecdaff7b4937b834c0f8355529693d152bc0e611ed25fdf331ce93a"), looks := false }, kinds := [], alts := [], laidByText := true, laidKinds := [.data], laidTests := true, laidLooks := .later }
def FnSamplesUptoCardSaid : Prop := Claim7.holds Tryd.pinned (.plain (OpenSpec.upto fnSamplesSpec)) fnSamplesUptoCard

/-- THE SECOND FORM's CARD OF 'laws.FnExactSampleFault'. -/
def fnExactSampleFaultUptoCard : Claim7 := { stood := { row := fnExactSampleFaultUptoRow, standIns := [], harness := (true, "ed575464aecdaff7b4937b834c0f8355529693d152bc0e611ed25fdf331ce93a"), looks := false }, kinds := [], alts := [], laidByText := true, laidKinds := [.data], laidTests := true, laidLooks := .later }
def FnExactSampleFaultUptoCardSaid : Prop := Claim7.holds Tryd.pinned (.plain (OpenSpec.upto fnExactSampleFaultSpec)) fnExactSampleFaultUptoCard

/-- THE SECOND FORM's CARD OF 'laws.FnExactEncodeSample'. -/
def fnExactEncodeSampleUptoCard : Claim7 := { stood := { row := fnExactEncodeSampleUptoRow, standIns := [], harness := (true, "ed575464aecdaff7b4937b834c0f8355529693d152bc0e611ed25fdf331ce93a"), looks := false }, kinds := [], alts := [], laidByText := true, laidKinds := [.data], laidTests := true, laidLooks := .later }
def FnExactEncodeSampleUptoCardSaid : Prop := Claim7.holds Tryd.pinned (.plain (OpenSpec.upto fnExactEncodeSampleSpec)) fnExactEncodeSampleUptoCard

/-- THE SECOND FORM's CARD OF 'laws.FnExactDecodeSample'. -/
def fnExactDecodeSampleUptoCard : Claim7 := { stood := { row := fnExactDecodeSampleUptoRow, standIns := [], harness := (true, "ed575464aecdaff7b4937b834c0f8355529693d152bc0e611ed25fdf331ce93a"), looks := false }, kinds := [], alts := [], laidByText := true, laidKinds := [.data], laidTests := true, laidLooks := .later }
def FnExactDecodeSampleUptoCardSaid : Prop := Claim7.holds Tryd.pinned (.plain (OpenSpec.upto fnExactDecodeSampleSpec)) fnExactDecodeSampleUptoCard
end Rows
end Go.Proofs.YtpbpahdgdddneaaDoor
