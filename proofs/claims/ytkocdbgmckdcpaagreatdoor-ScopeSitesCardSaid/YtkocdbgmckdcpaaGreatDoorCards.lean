/-
  DERIVED. GIVEN WITH THE SEED: THE CARDS: each row of YtkocdbgmckdcpaaGreatDoorRows.lean that lists a variable, with what it lists TIED to the program's text (the seventh form; the later family's looks); each row that meets fmt, with fmt's text TOLD by the authors' own Lean function (tested against real Go, not proved from fmt's source: count such statements apart). THE CARD IS WHAT COUNTS. Prove the row's statement (the work); the ties are given (YtkocdbgmckdcpaaGreatDoorTie.lean); close each card by the builder's one call (the guide's Derived/Test/ToyasCard.lean, 'card_holds'). Laid BY PROGRAM, IN A SANDBOX (cutbox-door.mjs). By AI agents, Wed Nov 11 2026. No macro, syntax, notation, axiom, sorry.
-/
import Derived.Test.YtkocdbgmckdcpaaGreatDoorRows
import GoSem.ClaimSeven
namespace Go.Proofs.YtkocdbgmckdcpaaGreatDoor
namespace Rows

/-- THE TIED CARD OF 'litmuslaw06.ParsePrints'. -/
def parsePrintsCard : Claim7 := { stood := { row := parsePrintsRow, standIns := [], harness := (true, "18879faa0cebdf5adeeae0a5754a7bfce36c4e38d34f2af1c7d7c66e6ae624c8"), looks := true }, kinds := [], alts := [], laidByText := true, laidKinds := [.data, .data, .data, .data, .data, .data, .data], laidTests := true, laidLooks := .later }
def ParsePrintsCardSaid : Prop := Claim7.holds Tryz.pinned (.plain (OpenSpec.ofChange parsePrintsSpec)) parsePrintsCard

/-- THE TIED CARD OF 'litmuslaw07.ScopeSites'. -/
def scopeSitesCard : Claim7 := { stood := { row := scopeSitesRow, standIns := [], harness := (true, "18879faa0cebdf5adeeae0a5754a7bfce36c4e38d34f2af1c7d7c66e6ae624c8"), looks := true }, kinds := [], alts := [], laidByText := true, laidKinds := [.handle, .data, .data], laidTests := true, laidLooks := .later }
def ScopeSitesCardSaid : Prop := Claim7.holds Tryz.pinned (.plain (OpenSpec.ofChange scopeSitesSpec)) scopeSitesCard

/-- THE TIED CARD OF 'litmuslaw07.ScopeStays'. -/
def scopeStaysCard : Claim7 := { stood := { row := scopeStaysRow, standIns := [], harness := (true, "18879faa0cebdf5adeeae0a5754a7bfce36c4e38d34f2af1c7d7c66e6ae624c8"), looks := true }, kinds := [], alts := [], laidByText := true, laidKinds := [.data, .data, .data, .handle, .data, .data, .data, .data], laidTests := true, laidLooks := .later }
def ScopeStaysCardSaid : Prop := Claim7.holds Tryz.pinned (.plain (OpenSpec.ofChange scopeStaysSpec)) scopeStaysCard

/-- THE SECOND FORM's CARD OF 'litmuslaw06.ParsePrints'. -/
def parsePrintsUptoCard : Claim7 := { stood := { row := parsePrintsUptoRow, standIns := [], harness := (true, "18879faa0cebdf5adeeae0a5754a7bfce36c4e38d34f2af1c7d7c66e6ae624c8"), looks := true }, kinds := [], alts := [], laidByText := true, laidKinds := [.data, .data, .data, .data, .data, .data, .data], laidTests := true, laidLooks := .later }
def ParsePrintsUptoCardSaid : Prop := Claim7.holds Tryz.pinned (.plain (OpenSpec.upto parsePrintsSpec)) parsePrintsUptoCard

/-- THE SECOND FORM's CARD OF 'litmuslaw07.ScopeSites'. -/
def scopeSitesUptoCard : Claim7 := { stood := { row := scopeSitesUptoRow, standIns := [], harness := (true, "18879faa0cebdf5adeeae0a5754a7bfce36c4e38d34f2af1c7d7c66e6ae624c8"), looks := true }, kinds := [], alts := [], laidByText := true, laidKinds := [.handle, .data, .data], laidTests := true, laidLooks := .later }
def ScopeSitesUptoCardSaid : Prop := Claim7.holds Tryz.pinned (.plain (OpenSpec.upto scopeSitesSpec)) scopeSitesUptoCard

/-- THE SECOND FORM's CARD OF 'litmuslaw07.ScopeStays'. -/
def scopeStaysUptoCard : Claim7 := { stood := { row := scopeStaysUptoRow, standIns := [], harness := (true, "18879faa0cebdf5adeeae0a5754a7bfce36c4e38d34f2af1c7d7c66e6ae624c8"), looks := true }, kinds := [], alts := [], laidByText := true, laidKinds := [.data, .data, .data, .handle, .data, .data, .data, .data], laidTests := true, laidLooks := .later }
def ScopeStaysUptoCardSaid : Prop := Claim7.holds Tryz.pinned (.plain (OpenSpec.upto scopeStaysSpec)) scopeStaysUptoCard
end Rows
end Go.Proofs.YtkocdbgmckdcpaaGreatDoor
