/-
  DERIVED. GIVEN WITH THE SEED: THE CARDS: each row of YtbkeildnhimfbaaDoorRows.lean that lists a variable, with what it lists TIED to the program's text (the seventh form; the later family's looks); each row that meets fmt, with fmt's text TOLD by the authors' own Lean function (tested against real Go, not proved from fmt's source: count such statements apart). THE CARD IS WHAT COUNTS. Prove the row's statement (the work); the ties are given (YtbkeildnhimfbaaDoorTie.lean); close each card by the builder's one call (the guide's Derived/Test/ToyasCard.lean, 'card_holds'). Laid BY PROGRAM, IN A SANDBOX (cutbox-door.mjs). By AI agents, Wed Nov 11 2026. No macro, syntax, notation, axiom, sorry.
-/
import Derived.Test.YtbkeildnhimfbaaDoorRows
import GoSem.ClaimSeven
namespace Go.Proofs.YtbkeildnhimfbaaDoor
namespace Rows

/-- THE TIED CARD OF 'litmuslaw02.WholeAdds'. -/
def wholeAddsCard : Claim7 := { stood := { row := wholeAddsRow, standIns := [], harness := (true, "1a3374150bf5d202a60bc6db24afc1f6ad158c9250d4c93c85958d35e9f56873"), looks := false }, kinds := [], alts := [], laidByText := true, laidKinds := [.data, .data, .data], laidTests := true, laidLooks := .later }
def WholeAddsCardSaid : Prop := Claim7.holds Tryd.pinned (.plain (OpenSpec.ofChange wholeAddsSpec)) wholeAddsCard

/-- THE TIED CARD OF 'litmuslaw02.WholeDivs'. -/
def wholeDivsCard : Claim7 := { stood := { row := wholeDivsRow, standIns := [], harness := (true, "1a3374150bf5d202a60bc6db24afc1f6ad158c9250d4c93c85958d35e9f56873"), looks := false }, kinds := [], alts := [], laidByText := true, laidKinds := [.data, .data, .data], laidTests := true, laidLooks := .later }
def WholeDivsCardSaid : Prop := Claim7.holds Tryd.pinned (.plain (OpenSpec.ofChange wholeDivsSpec)) wholeDivsCard

/-- THE TIED CARD OF 'litmuslaw02.WholeLaws'. -/
def wholeLawsCard : Claim7 := { stood := { row := wholeLawsRow, standIns := [], harness := (true, "1a3374150bf5d202a60bc6db24afc1f6ad158c9250d4c93c85958d35e9f56873"), looks := false }, kinds := [], alts := [], laidByText := true, laidKinds := [.data, .data, .data], laidTests := true, laidLooks := .later }
def WholeLawsCardSaid : Prop := Claim7.holds Tryd.pinned (.plain (OpenSpec.ofChange wholeLawsSpec)) wholeLawsCard

/-- THE TIED CARD OF 'litmuslaw02.WholeOrders'. -/
def wholeOrdersCard : Claim7 := { stood := { row := wholeOrdersRow, standIns := [], harness := (true, "1a3374150bf5d202a60bc6db24afc1f6ad158c9250d4c93c85958d35e9f56873"), looks := false }, kinds := [], alts := [], laidByText := true, laidKinds := [.data, .data, .data], laidTests := true, laidLooks := .later }
def WholeOrdersCardSaid : Prop := Claim7.holds Tryd.pinned (.plain (OpenSpec.ofChange wholeOrdersSpec)) wholeOrdersCard

/-- THE TIED CARD OF 'litmuslaw02.WholeSmalls'. -/
def wholeSmallsCard : Claim7 := { stood := { row := wholeSmallsRow, standIns := [], harness := (true, "1a3374150bf5d202a60bc6db24afc1f6ad158c9250d4c93c85958d35e9f56873"), looks := false }, kinds := [], alts := [], laidByText := true, laidKinds := [.data, .data, .data], laidTests := true, laidLooks := .later }
def WholeSmallsCardSaid : Prop := Claim7.holds Tryd.pinned (.plain (OpenSpec.ofChange wholeSmallsSpec)) wholeSmallsCard

/-- THE TIED CARD OF 'litmuslaw02.WholeHalves'. -/
def wholeHalvesCard : Claim7 := { stood := { row := wholeHalvesRow, standIns := [], harness := (true, "1a3374150bf5d202a60bc6db24afc1f6ad158c9250d4c93c85958d35e9f56873"), looks := false }, kinds := [], alts := [], laidByText := true, laidKinds := [.data, .data, .data], laidTests := true, laidLooks := .later }
def WholeHalvesCardSaid : Prop := Claim7.holds Tryd.pinned (.plain (OpenSpec.ofChange wholeHalvesSpec)) wholeHalvesCard

/-- THE TIED CARD OF 'litmuslaw02.WholeTexts'. -/
def wholeTextsCard : Claim7 := { stood := { row := wholeTextsRow, standIns := [], harness := (true, "1a3374150bf5d202a60bc6db24afc1f6ad158c9250d4c93c85958d35e9f56873"), looks := false }, kinds := [], alts := [], laidByText := true, laidKinds := [.data, .data, .data], laidTests := true, laidLooks := .later }
def WholeTextsCardSaid : Prop := Claim7.holds Tryd.pinned (.plain (OpenSpec.ofChange wholeTextsSpec)) wholeTextsCard

/-- THE SECOND FORM's CARD OF 'litmuslaw02.WholeAdds'. -/
def wholeAddsUptoCard : Claim7 := { stood := { row := wholeAddsUptoRow, standIns := [], harness := (true, "1a3374150bf5d202a60bc6db24afc1f6ad158c9250d4c93c85958d35e9f56873"), looks := false }, kinds := [], alts := [], laidByText := true, laidKinds := [.data, .data, .data], laidTests := true, laidLooks := .later }
def WholeAddsUptoCardSaid : Prop := Claim7.holds Tryd.pinned (.plain (OpenSpec.upto wholeAddsSpec)) wholeAddsUptoCard

/-- THE SECOND FORM's CARD OF 'litmuslaw02.WholeDivs'. -/
def wholeDivsUptoCard : Claim7 := { stood := { row := wholeDivsUptoRow, standIns := [], harness := (true, "1a3374150bf5d202a60bc6db24afc1f6ad158c9250d4c93c85958d35e9f56873"), looks := false }, kinds := [], alts := [], laidByText := true, laidKinds := [.data, .data, .data], laidTests := true, laidLooks := .later }
def WholeDivsUptoCardSaid : Prop := Claim7.holds Tryd.pinned (.plain (OpenSpec.upto wholeDivsSpec)) wholeDivsUptoCard

/-- THE SECOND FORM's CARD OF 'litmuslaw02.WholeLaws'. -/
def wholeLawsUptoCard : Claim7 := { stood := { row := wholeLawsUptoRow, standIns := [], harness := (true, "1a3374150bf5d202a60bc6db24afc1f6ad158c9250d4c93c85958d35e9f56873"), looks := false }, kinds := [], alts := [], laidByText := true, laidKinds := [.data, .data, .data], laidTests := true, laidLooks := .later }
def WholeLawsUptoCardSaid : Prop := Claim7.holds Tryd.pinned (.plain (OpenSpec.upto wholeLawsSpec)) wholeLawsUptoCard

/-- THE SECOND FORM's CARD OF 'litmuslaw02.WholeOrders'. -/
def wholeOrdersUptoCard : Claim7 := { stood := { row := wholeOrdersUptoRow, standIns := [], harness := (true, "1a3374150bf5d202a60bc6db24afc1f6ad158c9250d4c93c85958d35e9f56873"), looks := false }, kinds := [], alts := [], laidByText := true, laidKinds := [.data, .data, .data], laidTests := true, laidLooks := .later }
def WholeOrdersUptoCardSaid : Prop := Claim7.holds Tryd.pinned (.plain (OpenSpec.upto wholeOrdersSpec)) wholeOrdersUptoCard

/-- THE SECOND FORM's CARD OF 'litmuslaw02.WholeSmalls'. -/
def wholeSmallsUptoCard : Claim7 := { stood := { row := wholeSmallsUptoRow, standIns := [], harness := (true, "1a3374150bf5d202a60bc6db24afc1f6ad158c9250d4c93c85958d35e9f56873"), looks := false }, kinds := [], alts := [], laidByText := true, laidKinds := [.data, .data, .data], laidTests := true, laidLooks := .later }
def WholeSmallsUptoCardSaid : Prop := Claim7.holds Tryd.pinned (.plain (OpenSpec.upto wholeSmallsSpec)) wholeSmallsUptoCard

/-- THE SECOND FORM's CARD OF 'litmuslaw02.WholeHalves'. -/
def wholeHalvesUptoCard : Claim7 := { stood := { row := wholeHalvesUptoRow, standIns := [], harness := (true, "1a3374150bf5d202a60bc6db24afc1f6ad158c9250d4c93c85958d35e9f56873"), looks := false }, kinds := [], alts := [], laidByText := true, laidKinds := [.data, .data, .data], laidTests := true, laidLooks := .later }
def WholeHalvesUptoCardSaid : Prop := Claim7.holds Tryd.pinned (.plain (OpenSpec.upto wholeHalvesSpec)) wholeHalvesUptoCard

/-- THE SECOND FORM's CARD OF 'litmuslaw02.WholeTexts'. -/
def wholeTextsUptoCard : Claim7 := { stood := { row := wholeTextsUptoRow, standIns := [], harness := (true, "1a3374150bf5d202a60bc6db24afc1f6ad158c9250d4c93c85958d35e9f56873"), looks := false }, kinds := [], alts := [], laidByText := true, laidKinds := [.data, .data, .data], laidTests := true, laidLooks := .later }
def WholeTextsUptoCardSaid : Prop := Claim7.holds Tryd.pinned (.plain (OpenSpec.upto wholeTextsSpec)) wholeTextsUptoCard
end Rows
end Go.Proofs.YtbkeildnhimfbaaDoor
