/-
  DERIVED. GIVEN WITH THE SEED: THE CARDS: each row of YtpclhpfcbjgokaaGreatDoorRows.lean that lists a variable, with what it lists TIED to the program's text (the seventh form; the later family's looks); each row that meets fmt, with fmt's text TOLD by the authors' own Lean function (tested against real Go, not proved from fmt's source: count such statements apart). THE CARD IS WHAT COUNTS. Prove the row's statement (the work); the ties are given (YtpclhpfcbjgokaaGreatDoorTie.lean); close each card by the builder's one call (the guide's Derived/Test/ToyasCard.lean, 'card_holds'). Laid BY PROGRAM, IN A SANDBOX (cutbox-door.mjs). By AI agents, Wed Nov 11 2026. No macro, syntax, notation, axiom, sorry.
-/
import Derived.Test.YtpclhpfcbjgokaaGreatDoorRows
import GoSem.ClaimSeven
namespace Go.Proofs.YtpclhpfcbjgokaaGreatDoor
namespace Rows

/-- THE TIED CARD OF 'litmuslaw07.ScopeChecks'. -/
def scopeChecksCard : Claim7 := { stood := { row := scopeChecksRow, standIns := [], harness := (true, "d8773106c1c0f8ed05d5027fe6d3419c40ffe5e81f5fbc178b12e73fd84b91de"), looks := true }, kinds := [], alts := [], laidByText := true, laidKinds := [.handle, .data, .data], laidTests := true, laidLooks := .later }
def ScopeChecksCardSaid : Prop := Claim7.holds Tryz.pinned (.plain (OpenSpec.ofChange scopeChecksSpec)) scopeChecksCard

/-- THE TIED CARD OF 'litmuslaw07.ScopeBases'. -/
def scopeBasesCard : Claim7 := { stood := { row := scopeBasesRow, standIns := [], harness := (true, "d8773106c1c0f8ed05d5027fe6d3419c40ffe5e81f5fbc178b12e73fd84b91de"), looks := true }, kinds := [], alts := [], laidByText := true, laidKinds := [.handle, .data, .data], laidTests := true, laidLooks := .later }
def ScopeBasesCardSaid : Prop := Claim7.holds Tryz.pinned (.plain (OpenSpec.ofChange scopeBasesSpec)) scopeBasesCard

/-- THE SECOND FORM's CARD OF 'litmuslaw07.ScopeChecks'. -/
def scopeChecksUptoCard : Claim7 := { stood := { row := scopeChecksUptoRow, standIns := [], harness := (true, "d8773106c1c0f8ed05d5027fe6d3419c40ffe5e81f5fbc178b12e73fd84b91de"), looks := true }, kinds := [], alts := [], laidByText := true, laidKinds := [.handle, .data, .data], laidTests := true, laidLooks := .later }
def ScopeChecksUptoCardSaid : Prop := Claim7.holds Tryz.pinned (.plain (OpenSpec.upto scopeChecksSpec)) scopeChecksUptoCard

/-- THE SECOND FORM's CARD OF 'litmuslaw07.ScopeBases'. -/
def scopeBasesUptoCard : Claim7 := { stood := { row := scopeBasesUptoRow, standIns := [], harness := (true, "d8773106c1c0f8ed05d5027fe6d3419c40ffe5e81f5fbc178b12e73fd84b91de"), looks := true }, kinds := [], alts := [], laidByText := true, laidKinds := [.handle, .data, .data], laidTests := true, laidLooks := .later }
def ScopeBasesUptoCardSaid : Prop := Claim7.holds Tryz.pinned (.plain (OpenSpec.upto scopeBasesSpec)) scopeBasesUptoCard
end Rows
end Go.Proofs.YtpclhpfcbjgokaaGreatDoor
