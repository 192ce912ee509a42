/-
  DERIVED. GIVEN WITH THE SEED: THE CARDS: each row of YtdkfnbbebpbhaaaGreatDoorRows.lean that lists a variable, with what it lists TIED to the program's text (the seventh form; the later family's looks); each row that meets fmt, with fmt's text TOLD by the authors' own Lean function (tested against real Go, not proved from fmt's source: count such statements apart). THE CARD IS WHAT COUNTS. Prove the row's statement (the work); the ties are given (YtdkfnbbebpbhaaaGreatDoorTie.lean); close each card by the builder's one call (the guide's Derived/Test/ToyasCard.lean, 'card_holds'). Laid BY PROGRAM, IN A SANDBOX (cutbox-door.mjs). By AI agents, Wed Nov 11 2026. No macro, syntax, notation, axiom, sorry.
-/
import Derived.Test.YtdkfnbbebpbhaaaGreatDoorRows
import GoSem.ClaimSeven
namespace Go.Proofs.YtdkfnbbebpbhaaaGreatDoor
namespace Rows

/-- THE TIED CARD OF 'litmuslaw10.LogicPuts'. -/
def logicPutsCard : Claim7 := { stood := { row := logicPutsRow, standIns := [], harness := (true, "34339144f0cd7cef247e193671bfc88047ed7138498d1ef40724265dfc6b8d32"), looks := false }, kinds := [], alts := [], laidByText := true, laidKinds := [.data, .data, .data, .data, .data, .pinned, .pinned, .pinned, .pinned, .pinned, .pinned], laidTests := true, laidLooks := .later }
def LogicPutsCardSaid : Prop := Claim7.holds Tryz.pinned (.plain (OpenSpec.ofChange logicPutsSpec)) logicPutsCard

/-- THE TIED CARD OF 'litmuslaw10.LogicTexts'. -/
def logicTextsCard : Claim7 := { stood := { row := logicTextsRow, standIns := [], harness := (true, "34339144f0cd7cef247e193671bfc88047ed7138498d1ef40724265dfc6b8d32"), looks := false }, kinds := [], alts := [], laidByText := true, laidKinds := [.data, .data, .data, .data, .data, .pinned, .pinned, .pinned, .pinned, .pinned, .pinned], laidTests := true, laidLooks := .later }
def LogicTextsCardSaid : Prop := Claim7.holds Tryz.pinned (.plain (OpenSpec.ofChange logicTextsSpec)) logicTextsCard

/-- THE TIED CARD OF 'litmuslaw11.FactsHold'. -/
def factsHoldCard : Claim7 := { stood := { row := factsHoldRow, standIns := [], harness := (true, "34339144f0cd7cef247e193671bfc88047ed7138498d1ef40724265dfc6b8d32"), looks := false }, kinds := [], alts := [], laidByText := true, laidKinds := [.data, .data, .data, .data, .data, .pinned, .pinned, .pinned, .pinned, .pinned, .pinned], laidTests := true, laidLooks := .later }
def FactsHoldCardSaid : Prop := Claim7.holds Tryz.pinned (.plain (OpenSpec.ofChange factsHoldSpec)) factsHoldCard

/-- THE TIED CARD OF 'litmuslaw11.FactsAre'. -/
def factsAreCard : Claim7 := { stood := { row := factsAreRow, standIns := [], harness := (true, "34339144f0cd7cef247e193671bfc88047ed7138498d1ef40724265dfc6b8d32"), looks := false }, kinds := [], alts := [], laidByText := true, laidKinds := [.data, .data, .data, .data, .data, .pinned, .pinned, .pinned, .pinned, .pinned, .pinned], laidTests := true, laidLooks := .later }
def FactsAreCardSaid : Prop := Claim7.holds Tryz.pinned (.plain (OpenSpec.ofChange factsAreSpec)) factsAreCard

/-- THE TIED CARD OF 'litmuslaw11.FactsGrow'. -/
def factsGrowCard : Claim7 := { stood := { row := factsGrowRow, standIns := [], harness := (true, "34339144f0cd7cef247e193671bfc88047ed7138498d1ef40724265dfc6b8d32"), looks := false }, kinds := [], alts := [], laidByText := true, laidKinds := [.data, .data, .data, .data, .data, .pinned, .pinned, .pinned, .pinned, .pinned, .pinned], laidTests := true, laidLooks := .later }
def FactsGrowCardSaid : Prop := Claim7.holds Tryz.pinned (.plain (OpenSpec.ofChange factsGrowSpec)) factsGrowCard

/-- THE SECOND FORM's CARD OF 'litmuslaw10.LogicPuts'. -/
def logicPutsUptoCard : Claim7 := { stood := { row := logicPutsUptoRow, standIns := [], harness := (true, "34339144f0cd7cef247e193671bfc88047ed7138498d1ef40724265dfc6b8d32"), looks := false }, kinds := [], alts := [], laidByText := true, laidKinds := [.data, .data, .data, .data, .data, .pinned, .pinned, .pinned, .pinned, .pinned, .pinned], laidTests := true, laidLooks := .later }
def LogicPutsUptoCardSaid : Prop := Claim7.holds Tryz.pinned (.plain (OpenSpec.upto logicPutsSpec)) logicPutsUptoCard

/-- THE SECOND FORM's CARD OF 'litmuslaw10.LogicTexts'. -/
def logicTextsUptoCard : Claim7 := { stood := { row := logicTextsUptoRow, standIns := [], harness := (true, "34339144f0cd7cef247e193671bfc88047ed7138498d1ef40724265dfc6b8d32"), looks := false }, kinds := [], alts := [], laidByText := true, laidKinds := [.data, .data, .data, .data, .data, .pinned, .pinned, .pinned, .pinned, .pinned, .pinned], laidTests := true, laidLooks := .later }
def LogicTextsUptoCardSaid : Prop := Claim7.holds Tryz.pinned (.plain (OpenSpec.upto logicTextsSpec)) logicTextsUptoCard

/-- THE SECOND FORM's CARD OF 'litmuslaw11.FactsHold'. -/
def factsHoldUptoCard : Claim7 := { stood := { row := factsHoldUptoRow, standIns := [], harness := (true, "34339144f0cd7cef247e193671bfc88047ed7138498d1ef40724265dfc6b8d32"), looks := false }, kinds := [], alts := [], laidByText := true, laidKinds := [.data, .data, .data, .data, .data, .pinned, .pinned, .pinned, .pinned, .pinned, .pinned], laidTests := true, laidLooks := .later }
def FactsHoldUptoCardSaid : Prop := Claim7.holds Tryz.pinned (.plain (OpenSpec.upto factsHoldSpec)) factsHoldUptoCard

/-- THE SECOND FORM's CARD OF 'litmuslaw11.FactsAre'. -/
def factsAreUptoCard : Claim7 := { stood := { row := factsAreUptoRow, standIns := [], harness := (true, "34339144f0cd7cef247e193671bfc88047ed7138498d1ef40724265dfc6b8d32"), looks := false }, kinds := [], alts := [], laidByText := true, laidKinds := [.data, .data, .data, .data, .data, .pinned, .pinned, .pinned, .pinned, .pinned, .pinned], laidTests := true, laidLooks := .later }
def FactsAreUptoCardSaid : Prop := Claim7.holds Tryz.pinned (.plain (OpenSpec.upto factsAreSpec)) factsAreUptoCard

/-- THE SECOND FORM's CARD OF 'litmuslaw11.FactsGrow'. -/
def factsGrowUptoCard : Claim7 := { stood := { row := factsGrowUptoRow, standIns := [], harness := (true, "34339144f0cd7cef247e193671bfc88047ed7138498d1ef40724265dfc6b8d32"), looks := false }, kinds := [], alts := [], laidByText := true, laidKinds := [.data, .data, .data, .data, .data, .pinned, .pinned, .pinned, .pinned, .pinned, .pinned], laidTests := true, laidLooks := .later }
def FactsGrowUptoCardSaid : Prop := Claim7.holds Tryz.pinned (.plain (OpenSpec.upto factsGrowSpec)) factsGrowUptoCard
end Rows
end Go.Proofs.YtdkfnbbebpbhaaaGreatDoor
