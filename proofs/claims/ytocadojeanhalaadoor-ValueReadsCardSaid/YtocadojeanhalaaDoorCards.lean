/-
  DERIVED. GIVEN WITH THE SEED: THE CARDS: each row of YtocadojeanhalaaDoorRows.lean that lists a variable, with what it lists TIED to the program's text (the seventh form; the later family's looks); each row that meets fmt, with fmt's text TOLD by the authors' own Lean function (tested against real Go, not proved from fmt's source: count such statements apart). THE CARD IS WHAT COUNTS. Prove the row's statement (the work); the ties are given (YtocadojeanhalaaDoorTie.lean); close each card by the builder's one call (the guide's Derived/Test/ToyasCard.lean, 'card_holds'). Laid BY PROGRAM, IN A SANDBOX (cutbox-door.mjs). By AI agents, Wed Nov 11 2026. No macro, syntax, notation, axiom, sorry.
-/
import Derived.Test.YtocadojeanhalaaDoorRows
import GoSem.ClaimSeven
namespace Go.Proofs.YtocadojeanhalaaDoor
namespace Rows

/-- THE TIED CARD OF 'litmuslaw08.ValueReads'. -/
def valueReadsCard : Claim7 := { stood := { row := valueReadsRow, standIns := [], harness := (true, "803e4689db4e83ba4cce26ecb904923be1bc8d89a0c1f419d21df3fde1b0d725"), looks := false }, kinds := [], alts := [], laidByText := true, laidKinds := [.data, .data, .data, .data, .pinned], laidTests := true, laidLooks := .later }
def ValueReadsCardSaid : Prop := Claim7.holds Tryd.pinned (.plain (OpenSpec.ofChange valueReadsSpec)) valueReadsCard

/-- THE TIED CARD OF 'litmuslaw08.ValueSteps'. -/
def valueStepsCard : Claim7 := { stood := { row := valueStepsRow, standIns := [], harness := (true, "803e4689db4e83ba4cce26ecb904923be1bc8d89a0c1f419d21df3fde1b0d725"), looks := false }, kinds := [], alts := [], laidByText := true, laidKinds := [.data, .data, .data], laidTests := true, laidLooks := .later }
def ValueStepsCardSaid : Prop := Claim7.holds Tryd.pinned (.plain (OpenSpec.ofChange valueStepsSpec)) valueStepsCard

/-- THE TIED CARD OF 'litmuslaw08.ValueSames'. -/
def valueSamesCard : Claim7 := { stood := { row := valueSamesRow, standIns := [], harness := (true, "803e4689db4e83ba4cce26ecb904923be1bc8d89a0c1f419d21df3fde1b0d725"), looks := false }, kinds := [], alts := [], laidByText := true, laidKinds := [.data, .data, .data], laidTests := true, laidLooks := .later }
def ValueSamesCardSaid : Prop := Claim7.holds Tryd.pinned (.plain (OpenSpec.ofChange valueSamesSpec)) valueSamesCard

/-- THE SECOND FORM's CARD OF 'litmuslaw08.ValueReads'. -/
def valueReadsUptoCard : Claim7 := { stood := { row := valueReadsUptoRow, standIns := [], harness := (true, "803e4689db4e83ba4cce26ecb904923be1bc8d89a0c1f419d21df3fde1b0d725"), looks := false }, kinds := [], alts := [], laidByText := true, laidKinds := [.data, .data, .data, .data, .pinned], laidTests := true, laidLooks := .later }
def ValueReadsUptoCardSaid : Prop := Claim7.holds Tryd.pinned (.plain (OpenSpec.upto valueReadsSpec)) valueReadsUptoCard

/-- THE SECOND FORM's CARD OF 'litmuslaw08.ValueSteps'. -/
def valueStepsUptoCard : Claim7 := { stood := { row := valueStepsUptoRow, standIns := [], harness := (true, "803e4689db4e83ba4cce26ecb904923be1bc8d89a0c1f419d21df3fde1b0d725"), looks := false }, kinds := [], alts := [], laidByText := true, laidKinds := [.data, .data, .data], laidTests := true, laidLooks := .later }
def ValueStepsUptoCardSaid : Prop := Claim7.holds Tryd.pinned (.plain (OpenSpec.upto valueStepsSpec)) valueStepsUptoCard

/-- THE SECOND FORM's CARD OF 'litmuslaw08.ValueSames'. -/
def valueSamesUptoCard : Claim7 := { stood := { row := valueSamesUptoRow, standIns := [], harness := (true, "803e4689db4e83ba4cce26ecb904923be1bc8d89a0c1f419d21df3fde1b0d725"), looks := false }, kinds := [], alts := [], laidByText := true, laidKinds := [.data, .data, .data], laidTests := true, laidLooks := .later }
def ValueSamesUptoCardSaid : Prop := Claim7.holds Tryd.pinned (.plain (OpenSpec.upto valueSamesSpec)) valueSamesUptoCard
end Rows
end Go.Proofs.YtocadojeanhalaaDoor
