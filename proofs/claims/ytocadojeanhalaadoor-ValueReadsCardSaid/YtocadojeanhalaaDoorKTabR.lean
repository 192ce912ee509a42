/-
  Joined: Frame, Tab.
-/
import Derived.Test.YtocadojeanhalaaDoorCards
import Derived.Test.YtocadojeanhalaaDoorTie
import Derived.Test.YtocadojeanhalaaDoorKBase
import Derived.ProofKit
import Derived.OpenShut
import Derived.ShutString
import Derived.ChangeOld
import Derived.Deep.DeepHandedRow
import Derived.Lib.LaidTab
import Derived.LaidMore
import Derived.Lay
import Derived.Lib.ItoaNum
/- What the frames of all laws of this seat share: how the arguments are opened; that the program's own start lays the listed variables. -/
namespace Go.Proofs.YtocadojeanhalaaDoor
open Go.ChangeShapes Go.WideShapes Go.ChangeAt Go.RowKit
set_option maxRecDepth 100000

theorem own : ownKnob Tryd.prog.godebug = none := by kernel_rfl
theorem laidOut : laidOutB Tryd.prog = true := by kernel_rfl

theorem laid_met (os : Os) (args : Array Value) : laidMet Tryd.prog Rows.valueReadsRow.laid ((World.laidAll Tryd.prog os Rows.valueReadsRow.laid).forCall (fun _ _ => 0) ⟨#[], args, []⟩).memory :=
  laidMet_laidAll _ (by kernel_rfl) (by kernel_rfl)
end Go.Proofs.YtocadojeanhalaaDoor

/- The table of powers of ten: what the rows' condition gives. -/
namespace Go.Proofs.YtocadojeanhalaaDoor
open Go.ChangeShapes Go.WideShapes Go.ChangeAt Go.RowKit
set_option maxRecDepth 100000

theorem gPow : (Tryd.prog.globalNamed "internal/strconv.uint64pow10").bind (fun g => (Tryd.prog.globals[g]?).map fun x => (Tryd.prog.underlying x.type, Tryd.prog.cellsOf x.type)) = some (some (.array 20 65), 20) := by kernel_rfl
theorem cellsU64 : Tryd.prog.cellsOf 65 = 1 := by kernel_rfl
theorem powData : (Rows.laid_internal_strconv_uint64pow10 : DataW Unit) = Lib.tabData .u64 Lib.pow10Tab := rfl

theorem table {W : World} (h : laidMetH Tryd.prog Rows.valueReadsRow.laid W) : Lib.TabIs Tryd.prog W "internal/strconv.uint64pow10" .u64 Lib.pow10Tab := by
  have h' : laidMet Tryd.prog Rows.valueReadsRow.laid W := h
  obtain ⟨_, ⟨_, _, _, _, _, _, _, _, _, _, ⟨_, _, _, _, _, _, _, _, _, _, ⟨g, t, cs, fuel, p, q, hg, ht, hvar, hd, _, _⟩, _⟩, _⟩, _⟩ := h'
  have e := gPow
  rw [hg, Option.bind_some] at e
  obtain ⟨x, hx, ex⟩ := Option.map_eq_some_iff.1 e
  rw [hx, Option.map_some] at ht
  injection ht with ht
  injection ex with e1 e2
  rw [ht] at e1 e2
  unfold Lib.TabIs
  rw [hvar, ← Lib.cells_of_tab e1 Tryd.underlying65 cellsU64 e2 (powData ▸ hd)]
end Go.Proofs.YtocadojeanhalaaDoor
