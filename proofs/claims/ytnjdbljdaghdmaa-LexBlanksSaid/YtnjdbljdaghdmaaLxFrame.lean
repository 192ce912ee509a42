/-
  What the frames of the laws of a seat without listed variables share.
-/
import Derived.Test.YtnjdbljdaghdmaaRows
import Derived.ProofKit
import Derived.OpenShut
import Derived.ShutString
import Derived.ChangeOld
namespace Go.Proofs.Ytnjdbljdaghdmaa
set_option maxRecDepth 100000
theorem own : ownKnob Try.prog.godebug = none := by kernel_rfl
theorem laidOut : laidOutB Try.prog = true := by kernel_rfl
end Go.Proofs.Ytnjdbljdaghdmaa
