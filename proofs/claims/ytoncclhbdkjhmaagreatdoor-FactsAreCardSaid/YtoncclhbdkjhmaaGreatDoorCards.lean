/-
  DERIVED. GIVEN WITH THE SEED: THE CARDS: each row of YtoncclhbdkjhmaaGreatDoorRows.lean that lists a variable, with what it lists TIED to the program's text (the seventh form; the later family's looks); each row that meets fmt, with fmt's text TOLD by the authors' own Lean function (tested against real Go, not proved from fmt's source: count such statements apart). THE CARD IS WHAT COUNTS. Prove the row's statement (the work); the ties are given (YtoncclhbdkjhmaaGreatDoorTie.lean); close each card by the builder's one call (the guide's Derived/Test/ToyasCard.lean, 'card_holds'). Laid BY PROGRAM, IN A SANDBOX (cutbox-door.mjs). By AI agents, Wed Nov 11 2026. No macro, syntax, notation, axiom, sorry.
-/
import Derived.Test.YtoncclhbdkjhmaaGreatDoorRows
import GoSem.ClaimSeven
namespace Go.Proofs.YtoncclhbdkjhmaaGreatDoor
namespace Rows

/-- THE TIED CARD OF 'litmuslaw10.LogicPuts'. -/
def logicPutsCard : Claim7 := { stood := { row := logicPutsRow, standIns := [], harness := (true, "07d918d36430ae6247fadee363e2ed609dd923d0eab9402a4e1b896804141207"), looks := false }, kinds := [], alts := [], laidByText := true, laidKinds := [.data, .data, .data, .data, .data, .pinned, .pinned, .pinned, .pinned, .pinned, .pinned], laidTests := true, laidLooks := .later }
def LogicPutsCardSaid : Prop := Claim7.holds Tryz.pinned (.plain (OpenSpec.ofChange logicPutsSpec)) logicPutsCard

/-- THE TIED CARD OF 'litmuslaw11.FactsHold'. -/
def factsHoldCard : Claim7 := { stood := { row := factsHoldRow, standIns := [], harness := (true, "07d918d36430ae6247fadee363e2ed609dd923d0eab9402a4e1b896804141207"), looks := false }, kinds := [], alts := [], laidByText := true, laidKinds := [.data, .data, .data, .data, .data, .pinned, .pinned, .pinned, .pinned, .pinned, .pinned], laidTests := true, laidLooks := .later }
def FactsHoldCardSaid : Prop := Claim7.holds Tryz.pinned (.plain (OpenSpec.ofChange factsHoldSpec)) factsHoldCard

/-- THE TIED CARD OF 'litmuslaw11.FactsAre'. -/
def factsAreCard : Claim7 := { stood := { row := factsAreRow, standIns := [], harness := (true, "07d918d36430ae6247fadee363e2ed609dd923d0eab9402a4e1b896804141207"), looks := false }, kinds := [], alts := [], laidByText := true, laidKinds := [.data, .data, .data, .data, .data, .pinned, .pinned, .pinned, .pinned, .pinned, .pinned], laidTests := true, laidLooks := .later }
def FactsAreCardSaid : Prop := Claim7.holds Tryz.pinned (.plain (OpenSpec.ofChange factsAreSpec)) factsAreCard

/-- THE TIED CARD OF 'litmuslaw11.FactsGrow'. -/
def factsGrowCard : Claim7 := { stood := { row := factsGrowRow, standIns := [], harness := (true, "07d918d36430ae6247fadee363e2ed609dd923d0eab9402a4e1b896804141207"), looks := false }, kinds := [], alts := [], laidByText := true, laidKinds := [.data, .data, .data, .data, .data, .pinned, .pinned, .pinned, .pinned, .pinned, .pinned], laidTests := true, laidLooks := .later }
def FactsGrowCardSaid : Prop := Claim7.holds Tryz.pinned (.plain (OpenSpec.ofChange factsGrowSpec)) factsGrowCard

/-- THE TIED CARD OF 'litmuslaw12.BankTerms'. -/
def bankTermsCard : Claim7 := { stood := { row := bankTermsRow, standIns := [], harness := (true, "07d918d36430ae6247fadee363e2ed609dd923d0eab9402a4e1b896804141207"), looks := false }, kinds := [], alts := [], laidByText := true, laidKinds := [.data, .data, .data, .data, .data], laidTests := true, laidLooks := .later }
def BankTermsCardSaid : Prop := Claim7.holds Tryz.pinned (.plain (OpenSpec.ofChange bankTermsSpec)) bankTermsCard

/-- THE TIED CARD OF 'litmuslaw12.BankOrders'. -/
def bankOrdersCard : Claim7 := { stood := { row := bankOrdersRow, standIns := [], harness := (true, "07d918d36430ae6247fadee363e2ed609dd923d0eab9402a4e1b896804141207"), looks := false }, kinds := [], alts := [], laidByText := true, laidKinds := [.data, .data, .data, .data, .data, .data, .data, .pinned, .pinned, .pinned, .pinned, .pinned, .pinned], laidTests := true, laidLooks := .later }
def BankOrdersCardSaid : Prop := Claim7.holds Tryz.pinned (.plain (OpenSpec.ofChange bankOrdersSpec)) bankOrdersCard

/-- THE TIED CARD OF 'litmuslaw12.BankSums'. -/
def bankSumsCard : Claim7 := { stood := { row := bankSumsRow, standIns := [], harness := (true, "07d918d36430ae6247fadee363e2ed609dd923d0eab9402a4e1b896804141207"), looks := false }, kinds := [], alts := [], laidByText := true, laidKinds := [.data, .data, .data, .data, .data], laidTests := true, laidLooks := .later }
def BankSumsCardSaid : Prop := Claim7.holds Tryz.pinned (.plain (OpenSpec.ofChange bankSumsSpec)) bankSumsCard

/-- THE TIED CARD OF 'litmuslaw12.BankTights'. -/
def bankTightsCard : Claim7 := { stood := { row := bankTightsRow, standIns := [], harness := (true, "07d918d36430ae6247fadee363e2ed609dd923d0eab9402a4e1b896804141207"), looks := false }, kinds := [], alts := [], laidByText := true, laidKinds := [.data, .data, .data, .data, .data], laidTests := true, laidLooks := .later }
def BankTightsCardSaid : Prop := Claim7.holds Tryz.pinned (.plain (OpenSpec.ofChange bankTightsSpec)) bankTightsCard

/-- THE SECOND FORM's CARD OF 'litmuslaw10.LogicPuts'. -/
def logicPutsUptoCard : Claim7 := { stood := { row := logicPutsUptoRow, standIns := [], harness := (true, "07d918d36430ae6247fadee363e2ed609dd923d0eab9402a4e1b896804141207"), looks := false }, kinds := [], alts := [], laidByText := true, laidKinds := [.data, .data, .data, .data, .data, .pinned, .pinned, .pinned, .pinned, .pinned, .pinned], laidTests := true, laidLooks := .later }
def LogicPutsUptoCardSaid : Prop := Claim7.holds Tryz.pinned (.plain (OpenSpec.upto logicPutsSpec)) logicPutsUptoCard

/-- THE SECOND FORM's CARD OF 'litmuslaw11.FactsHold'. -/
def factsHoldUptoCard : Claim7 := { stood := { row := factsHoldUptoRow, standIns := [], harness := (true, "07d918d36430ae6247fadee363e2ed609dd923d0eab9402a4e1b896804141207"), looks := false }, kinds := [], alts := [], laidByText := true, laidKinds := [.data, .data, .data, .data, .data, .pinned, .pinned, .pinned, .pinned, .pinned, .pinned], laidTests := true, laidLooks := .later }
def FactsHoldUptoCardSaid : Prop := Claim7.holds Tryz.pinned (.plain (OpenSpec.upto factsHoldSpec)) factsHoldUptoCard

/-- THE SECOND FORM's CARD OF 'litmuslaw11.FactsAre'. -/
def factsAreUptoCard : Claim7 := { stood := { row := factsAreUptoRow, standIns := [], harness := (true, "07d918d36430ae6247fadee363e2ed609dd923d0eab9402a4e1b896804141207"), looks := false }, kinds := [], alts := [], laidByText := true, laidKinds := [.data, .data, .data, .data, .data, .pinned, .pinned, .pinned, .pinned, .pinned, .pinned], laidTests := true, laidLooks := .later }
def FactsAreUptoCardSaid : Prop := Claim7.holds Tryz.pinned (.plain (OpenSpec.upto factsAreSpec)) factsAreUptoCard

/-- THE SECOND FORM's CARD OF 'litmuslaw11.FactsGrow'. -/
def factsGrowUptoCard : Claim7 := { stood := { row := factsGrowUptoRow, standIns := [], harness := (true, "07d918d36430ae6247fadee363e2ed609dd923d0eab9402a4e1b896804141207"), looks := false }, kinds := [], alts := [], laidByText := true, laidKinds := [.data, .data, .data, .data, .data, .pinned, .pinned, .pinned, .pinned, .pinned, .pinned], laidTests := true, laidLooks := .later }
def FactsGrowUptoCardSaid : Prop := Claim7.holds Tryz.pinned (.plain (OpenSpec.upto factsGrowSpec)) factsGrowUptoCard

/-- THE SECOND FORM's CARD OF 'litmuslaw12.BankTerms'. -/
def bankTermsUptoCard : Claim7 := { stood := { row := bankTermsUptoRow, standIns := [], harness := (true, "07d918d36430ae6247fadee363e2ed609dd923d0eab9402a4e1b896804141207"), looks := false }, kinds := [], alts := [], laidByText := true, laidKinds := [.data, .data, .data, .data, .data], laidTests := true, laidLooks := .later }
def BankTermsUptoCardSaid : Prop := Claim7.holds Tryz.pinned (.plain (OpenSpec.upto bankTermsSpec)) bankTermsUptoCard

/-- THE SECOND FORM's CARD OF 'litmuslaw12.BankOrders'. -/
def bankOrdersUptoCard : Claim7 := { stood := { row := bankOrdersUptoRow, standIns := [], harness := (true, "07d918d36430ae6247fadee363e2ed609dd923d0eab9402a4e1b896804141207"), looks := false }, kinds := [], alts := [], laidByText := true, laidKinds := [.data, .data, .data, .data, .data, .data, .data, .pinned, .pinned, .pinned, .pinned, .pinned, .pinned], laidTests := true, laidLooks := .later }
def BankOrdersUptoCardSaid : Prop := Claim7.holds Tryz.pinned (.plain (OpenSpec.upto bankOrdersSpec)) bankOrdersUptoCard

/-- THE SECOND FORM's CARD OF 'litmuslaw12.BankSums'. -/
def bankSumsUptoCard : Claim7 := { stood := { row := bankSumsUptoRow, standIns := [], harness := (true, "07d918d36430ae6247fadee363e2ed609dd923d0eab9402a4e1b896804141207"), looks := false }, kinds := [], alts := [], laidByText := true, laidKinds := [.data, .data, .data, .data, .data], laidTests := true, laidLooks := .later }
def BankSumsUptoCardSaid : Prop := Claim7.holds Tryz.pinned (.plain (OpenSpec.upto bankSumsSpec)) bankSumsUptoCard

/-- THE SECOND FORM's CARD OF 'litmuslaw12.BankTights'. -/
def bankTightsUptoCard : Claim7 := { stood := { row := bankTightsUptoRow, standIns := [], harness := (true, "07d918d36430ae6247fadee363e2ed609dd923d0eab9402a4e1b896804141207"), looks := false }, kinds := [], alts := [], laidByText := true, laidKinds := [.data, .data, .data, .data, .data], laidTests := true, laidLooks := .later }
def BankTightsUptoCardSaid : Prop := Claim7.holds Tryz.pinned (.plain (OpenSpec.upto bankTightsSpec)) bankTightsUptoCard
end Rows
end Go.Proofs.YtoncclhbdkjhmaaGreatDoor
