/-
  DERIVED. GIVEN WITH THE SEED: THE CARDS: each row of YtnjdbljdaghdmaaDoorRows.lean that lists a variable, with what it lists TIED to the program's text (the seventh form; the later family's looks); each row that meets fmt, with fmt's text TOLD by the authors' own Lean function (tested against real Go, not proved from fmt's source: count such statements apart). THE CARD IS WHAT COUNTS. Prove the row's statement (the work); the ties are given (YtnjdbljdaghdmaaDoorTie.lean); close each card by the builder's one call (the guide's Derived/Test/ToyasCard.lean, 'card_holds'). Laid BY PROGRAM, IN A SANDBOX (cutbox-door.mjs). By AI agents, Wed Nov 11 2026. No macro, syntax, notation, axiom, sorry.
-/
import Derived.Test.YtnjdbljdaghdmaaDoorRows
import GoSem.ClaimSeven
namespace Go.Proofs.YtnjdbljdaghdmaaDoor
namespace Rows

/-- THE TIED CARD OF 'litmuslaw04.LexRuns'. -/
def lexRunsCard : Claim7 := { stood := { row := lexRunsRow, standIns := [], harness := (true, "089ef002105d86c06860f4589b5c27ba154abc65045ad19e0634f70319fbcc4b"), looks := true }, kinds := [], alts := [], laidByText := true, laidKinds := [.handle], laidTests := true, laidLooks := .later }
def LexRunsCardSaid : Prop := Claim7.holds Tryd.pinned (.plain (OpenSpec.ofChange lexRunsSpec)) lexRunsCard

/-- THE TIED CARD OF 'litmuslaw04.LexLongs'. -/
def lexLongsCard : Claim7 := { stood := { row := lexLongsRow, standIns := [], harness := (true, "089ef002105d86c06860f4589b5c27ba154abc65045ad19e0634f70319fbcc4b"), looks := true }, kinds := [], alts := [], laidByText := true, laidKinds := [.handle], laidTests := true, laidLooks := .later }
def LexLongsCardSaid : Prop := Claim7.holds Tryd.pinned (.plain (OpenSpec.ofChange lexLongsSpec)) lexLongsCard

/-- THE SECOND FORM's CARD OF 'litmuslaw04.LexRuns'. -/
def lexRunsUptoCard : Claim7 := { stood := { row := lexRunsUptoRow, standIns := [], harness := (true, "089ef002105d86c06860f4589b5c27ba154abc65045ad19e0634f70319fbcc4b"), looks := true }, kinds := [], alts := [], laidByText := true, laidKinds := [.handle], laidTests := true, laidLooks := .later }
def LexRunsUptoCardSaid : Prop := Claim7.holds Tryd.pinned (.plain (OpenSpec.upto lexRunsSpec)) lexRunsUptoCard

/-- THE SECOND FORM's CARD OF 'litmuslaw04.LexLongs'. -/
def lexLongsUptoCard : Claim7 := { stood := { row := lexLongsUptoRow, standIns := [], harness := (true, "089ef002105d86c06860f4589b5c27ba154abc65045ad19e0634f70319fbcc4b"), looks := true }, kinds := [], alts := [], laidByText := true, laidKinds := [.handle], laidTests := true, laidLooks := .later }
def LexLongsUptoCardSaid : Prop := Claim7.holds Tryd.pinned (.plain (OpenSpec.upto lexLongsSpec)) lexLongsUptoCard
end Rows
end Go.Proofs.YtnjdbljdaghdmaaDoor
