/-
  DERIVED. GIVEN WITH THE SEED: THE CARDS: each row of YtmindndmegiaaaaDoorRows.lean that lists a variable, with what it lists TIED to the program's text (the seventh form; the later family's looks); each row that meets fmt, with fmt's text TOLD by the authors' own Lean function (tested against real Go, not proved from fmt's source: count such statements apart). THE CARD IS WHAT COUNTS. Prove the row's statement (the work); the ties are given (YtmindndmegiaaaaDoorTie.lean); close each card by the builder's one call (the guide's Derived/Test/ToyasCard.lean, 'card_holds'). Laid BY PROGRAM, IN A SANDBOX (cutbox-door.mjs). By AI agents, Wed Nov 11 2026. No macro, syntax, notation, axiom, sorry.
-/
import Derived.Test.YtmindndmegiaaaaDoorRows
import GoSem.ClaimSeven
namespace Go.Proofs.YtmindndmegiaaaaDoor
namespace Rows

/-- THE TIED CARD OF 'litmuslaw03.RatioAdds'. -/
def ratioAddsCard : Claim7 := { stood := { row := ratioAddsRow, standIns := [], harness := (true, "a4b0e32cf6023b745c6587e7cc7c7dddb53fbfff16a66a8f2a0a27734c6d218e"), looks := false }, kinds := [], alts := [], laidByText := true, laidKinds := [.data, .data, .data], laidTests := true, laidLooks := .later }
def RatioAddsCardSaid : Prop := Claim7.holds Tryd.pinned (.plain (OpenSpec.ofChange ratioAddsSpec)) ratioAddsCard

/-- THE TIED CARD OF 'litmuslaw03.RatioQuos'. -/
def ratioQuosCard : Claim7 := { stood := { row := ratioQuosRow, standIns := [], harness := (true, "a4b0e32cf6023b745c6587e7cc7c7dddb53fbfff16a66a8f2a0a27734c6d218e"), looks := false }, kinds := [], alts := [], laidByText := true, laidKinds := [.data, .data, .data], laidTests := true, laidLooks := .later }
def RatioQuosCardSaid : Prop := Claim7.holds Tryd.pinned (.plain (OpenSpec.ofChange ratioQuosSpec)) ratioQuosCard

/-- THE TIED CARD OF 'litmuslaw03.RatioLaws'. -/
def ratioLawsCard : Claim7 := { stood := { row := ratioLawsRow, standIns := [], harness := (true, "a4b0e32cf6023b745c6587e7cc7c7dddb53fbfff16a66a8f2a0a27734c6d218e"), looks := false }, kinds := [], alts := [], laidByText := true, laidKinds := [.data, .data, .data], laidTests := true, laidLooks := .later }
def RatioLawsCardSaid : Prop := Claim7.holds Tryd.pinned (.plain (OpenSpec.ofChange ratioLawsSpec)) ratioLawsCard

/-- THE TIED CARD OF 'litmuslaw03.RatioFloors'. -/
def ratioFloorsCard : Claim7 := { stood := { row := ratioFloorsRow, standIns := [], harness := (true, "a4b0e32cf6023b745c6587e7cc7c7dddb53fbfff16a66a8f2a0a27734c6d218e"), looks := false }, kinds := [], alts := [], laidByText := true, laidKinds := [.data, .data, .data], laidTests := true, laidLooks := .later }
def RatioFloorsCardSaid : Prop := Claim7.holds Tryd.pinned (.plain (OpenSpec.ofChange ratioFloorsSpec)) ratioFloorsCard

/-- THE TIED CARD OF 'litmuslaw03.RatioTexts'. -/
def ratioTextsCard : Claim7 := { stood := { row := ratioTextsRow, standIns := [], harness := (true, "a4b0e32cf6023b745c6587e7cc7c7dddb53fbfff16a66a8f2a0a27734c6d218e"), looks := false }, kinds := [], alts := [], laidByText := true, laidKinds := [.data, .data, .data], laidTests := true, laidLooks := .later }
def RatioTextsCardSaid : Prop := Claim7.holds Tryd.pinned (.plain (OpenSpec.ofChange ratioTextsSpec)) ratioTextsCard

/-- THE TIED CARD OF 'litmuslaw03.RatioParts'. -/
def ratioPartsCard : Claim7 := { stood := { row := ratioPartsRow, standIns := [], harness := (true, "a4b0e32cf6023b745c6587e7cc7c7dddb53fbfff16a66a8f2a0a27734c6d218e"), looks := false }, kinds := [], alts := [], laidByText := true, laidKinds := [.data, .data, .data], laidTests := true, laidLooks := .later }
def RatioPartsCardSaid : Prop := Claim7.holds Tryd.pinned (.plain (OpenSpec.ofChange ratioPartsSpec)) ratioPartsCard

/-- THE SECOND FORM's CARD OF 'litmuslaw03.RatioAdds'. -/
def ratioAddsUptoCard : Claim7 := { stood := { row := ratioAddsUptoRow, standIns := [], harness := (true, "a4b0e32cf6023b745c6587e7cc7c7dddb53fbfff16a66a8f2a0a27734c6d218e"), looks := false }, kinds := [], alts := [], laidByText := true, laidKinds := [.data, .data, .data], laidTests := true, laidLooks := .later }
def RatioAddsUptoCardSaid : Prop := Claim7.holds Tryd.pinned (.plain (OpenSpec.upto ratioAddsSpec)) ratioAddsUptoCard

/-- THE SECOND FORM's CARD OF 'litmuslaw03.RatioQuos'. -/
def ratioQuosUptoCard : Claim7 := { stood := { row := ratioQuosUptoRow, standIns := [], harness := (true, "a4b0e32cf6023b745c6587e7cc7c7dddb53fbfff16a66a8f2a0a27734c6d218e"), looks := false }, kinds := [], alts := [], laidByText := true, laidKinds := [.data, .data, .data], laidTests := true, laidLooks := .later }
def RatioQuosUptoCardSaid : Prop := Claim7.holds Tryd.pinned (.plain (OpenSpec.upto ratioQuosSpec)) ratioQuosUptoCard

/-- THE SECOND FORM's CARD OF 'litmuslaw03.RatioLaws'. -/
def ratioLawsUptoCard : Claim7 := { stood := { row := ratioLawsUptoRow, standIns := [], harness := (true, "a4b0e32cf6023b745c6587e7cc7c7dddb53fbfff16a66a8f2a0a27734c6d218e"), looks := false }, kinds := [], alts := [], laidByText := true, laidKinds := [.data, .data, .data], laidTests := true, laidLooks := .later }
def RatioLawsUptoCardSaid : Prop := Claim7.holds Tryd.pinned (.plain (OpenSpec.upto ratioLawsSpec)) ratioLawsUptoCard

/-- THE SECOND FORM's CARD OF 'litmuslaw03.RatioFloors'. -/
def ratioFloorsUptoCard : Claim7 := { stood := { row := ratioFloorsUptoRow, standIns := [], harness := (true, "a4b0e32cf6023b745c6587e7cc7c7dddb53fbfff16a66a8f2a0a27734c6d218e"), looks := false }, kinds := [], alts := [], laidByText := true, laidKinds := [.data, .data, .data], laidTests := true, laidLooks := .later }
def RatioFloorsUptoCardSaid : Prop := Claim7.holds Tryd.pinned (.plain (OpenSpec.upto ratioFloorsSpec)) ratioFloorsUptoCard

/-- THE SECOND FORM's CARD OF 'litmuslaw03.RatioTexts'. -/
def ratioTextsUptoCard : Claim7 := { stood := { row := ratioTextsUptoRow, standIns := [], harness := (true, "a4b0e32cf6023b745c6587e7cc7c7dddb53fbfff16a66a8f2a0a27734c6d218e"), looks := false }, kinds := [], alts := [], laidByText := true, laidKinds := [.data, .data, .data], laidTests := true, laidLooks := .later }
def RatioTextsUptoCardSaid : Prop := Claim7.holds Tryd.pinned (.plain (OpenSpec.upto ratioTextsSpec)) ratioTextsUptoCard

/-- THE SECOND FORM's CARD OF 'litmuslaw03.RatioParts'. -/
def ratioPartsUptoCard : Claim7 := { stood := { row := ratioPartsUptoRow, standIns := [], harness := (true, "a4b0e32cf6023b745c6587e7cc7c7dddb53fbfff16a66a8f2a0a27734c6d218e"), looks := false }, kinds := [], alts := [], laidByText := true, laidKinds := [.data, .data, .data], laidTests := true, laidLooks := .later }
def RatioPartsUptoCardSaid : Prop := Claim7.holds Tryd.pinned (.plain (OpenSpec.upto ratioPartsSpec)) ratioPartsUptoCard
end Rows
end Go.Proofs.YtmindndmegiaaaaDoor
