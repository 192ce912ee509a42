/-
  NARROWER THAN 'FOR EVERY INPUT', by the rows' own cells (each row's printed sentence says how): LogicEvals: loops · LogicRights: loops · LogicJoins: loops.
  DERIVED. THE GIVEN ROWS OF THIS SEAT. 3 by the template 'for every input the law returns true; each argument reads behind the call as it read before'; 0 by the template 'total and deterministic' (their statements: YtdkfnbbebpbhaaaTotals.lean).
  GIVEN WITH THE SEED: the statements are not yours to turn. If you find one false, say at which input.
  Laid BY PROGRAM, IN A SANDBOX (cutbox-rows.mjs): the forced cells as the released guide's own fill.sh prints them over the translation e50e96df64975baa… (all of the seat's roots in one cut). By AI agents, Wed Nov 11 2026. No macro, syntax, notation, axiom, sorry.
-/
import Derived.Test.YtdkfnbbebpbhaaaChecked
import GoSem.Claim
import GoSem.ClaimJoined
import GoSem.ClaimMapViews
import Derived.JoinedTies
import Derived.KernelRfl
namespace Go.Proofs.Ytdkfnbbebpbhaaa
/- THE CELL 'sum', in the pinned program and in every row, IS THE sha256 OF THE DUMP (.gsa) THAT YtdkfnbbebpbhaaaProg.lean LOADS. Nothing in Lean hashes anything: it is a label: what it is worth is what the hold of that sum in a sandbox is worth. -/
noncomputable def Try.pinned : Pinned := { name := "ytdkfnbbebpbhaaa", sum := "e50e96df64975baa49d8f116129334e05f342dd2a07bc8e693edca1f07ed6914", checked := Try.checked }
namespace Rows
def none {H : Type} : Left H := { results := [], args := [] }

/-- 'litmuslaw10.LogicEvals': WHATEVER THE INPUT: true; the input reads as it did. -/
def logicEvalsSpec : ChangeSpec := { name := "logicEvals", fn := fun _ => fun
  | [d1, d2, d3] => { results := [.lit (.bool true)], args := [d1, d2, d3] }
  | _ => none }
def logicEvalsRow : OpenClaim := { program := "ytdkfnbbebpbhaaa", sum := "e50e96df64975baa49d8f116129334e05f342dd2a07bc8e693edca1f07ed6914", func := "litmus/litmuslaw10.LogicEvals", spec := "logicEvals", unfollowed := true, recurses := true, loops := true, apart := false }
def LogicEvalsSaid : Prop := logicEvalsRow.holds Try.pinned (OpenSpec.ofChange logicEvalsSpec)

/-- ITS FALSE NEIGHBOUR: 'it returns false'. Refute it at one input. -/
def logicEvalsWrong : ChangeSpec := { name := "logicEvals", fn := fun _ => fun
  | [d1, d2, d3] => { results := [.lit (.bool false)], args := [d1, d2, d3] }
  | _ => none }
def LogicEvalsWrongFalsely : Prop := logicEvalsRow.holds Try.pinned (OpenSpec.ofChange logicEvalsWrong)

/-- 'litmuslaw10.LogicRights': WHATEVER THE INPUT: true; the input reads as it did. -/
def logicRightsSpec : ChangeSpec := { name := "logicRights", fn := fun _ => fun
  | [d1, d2, d3] => { results := [.lit (.bool true)], args := [d1, d2, d3] }
  | _ => none }
def logicRightsRow : OpenClaim := { program := "ytdkfnbbebpbhaaa", sum := "e50e96df64975baa49d8f116129334e05f342dd2a07bc8e693edca1f07ed6914", func := "litmus/litmuslaw10.LogicRights", spec := "logicRights", unfollowed := true, recurses := true, loops := true, apart := false }
def LogicRightsSaid : Prop := logicRightsRow.holds Try.pinned (OpenSpec.ofChange logicRightsSpec)

/-- ITS FALSE NEIGHBOUR: 'it returns false'. Refute it at one input. -/
def logicRightsWrong : ChangeSpec := { name := "logicRights", fn := fun _ => fun
  | [d1, d2, d3] => { results := [.lit (.bool false)], args := [d1, d2, d3] }
  | _ => none }
def LogicRightsWrongFalsely : Prop := logicRightsRow.holds Try.pinned (OpenSpec.ofChange logicRightsWrong)

/-- 'litmuslaw10.LogicJoins': WHATEVER THE INPUT: true; the input reads as it did. -/
def logicJoinsSpec : ChangeSpec := { name := "logicJoins", fn := fun _ => fun
  | [d1, d2] => { results := [.lit (.bool true)], args := [d1, d2] }
  | _ => none }
def logicJoinsRow : OpenClaim := { program := "ytdkfnbbebpbhaaa", sum := "e50e96df64975baa49d8f116129334e05f342dd2a07bc8e693edca1f07ed6914", func := "litmus/litmuslaw10.LogicJoins", spec := "logicJoins", unfollowed := true, recurses := true, loops := true, apart := false }
def LogicJoinsSaid : Prop := logicJoinsRow.holds Try.pinned (OpenSpec.ofChange logicJoinsSpec)

/-- ITS FALSE NEIGHBOUR: 'it returns false'. Refute it at one input. -/
def logicJoinsWrong : ChangeSpec := { name := "logicJoins", fn := fun _ => fun
  | [d1, d2] => { results := [.lit (.bool false)], args := [d1, d2] }
  | _ => none }
def LogicJoinsWrongFalsely : Prop := logicJoinsRow.holds Try.pinned (OpenSpec.ofChange logicJoinsWrong)

/- THE SECOND FORM. 'bulk': how many values and letters a reading holds, each counted each time it is reached (what is shared counts as often as it is met; a slice's spare places count too). A statement '..UptoSaid' is the law's where the arguments, and the package variables that the reading takes, are together of bulk at most 1048576: NARROWER than '..Said'. Prove '..Said' where nothing that the law and all that it calls make is longer than what came in: it says more and counts as full. Else prove '..UptoSaid'. A law counts once. -/
mutual
def uptoBulk {H : Type} : DataW H → Nat
  | .lit (.string bytes) => bytes.length + 1
  | .lit _ => 1
  | .nil => 1
  | .ptr d => uptoBulk d + 1
  | .slice elems spare => uptoBulkAll elems + uptoBulkAll spare + 1
  | .agg parts => uptoBulkAll parts + 1
  | .iface _ d => uptoBulk d + 1
  | .map entries => uptoBulkEntries entries + 1
  | .held _ => 1
def uptoBulkAll {H : Type} : List (DataW H) → Nat
  | [] => 0
  | d :: r => uptoBulk d + uptoBulkAll r
def uptoBulkEntries {H : Type} : List (Lit × DataW H) → Nat
  | [] => 0
  | x :: r => uptoBulkEntry x + uptoBulkEntries r
def uptoBulkEntry {H : Type} : Lit × DataW H → Nat
  | (.string bytes, d) => bytes.length + uptoBulk d + 1
  | (_, d) => uptoBulk d + 1
 end
def uptoSmall : (H : Type) → List (DataW H) → Bool := fun _ ds => decide (uptoBulkAll ds ≤ 1048576)
def OpenSpec.upto (s : _root_.Go.ChangeSpec) : _root_.Go.OpenSpec := { _root_.Go.OpenSpec.ofChange s with cond := some uptoSmall }

/-- 'litmuslaw10.LogicEvals', WHERE WHAT IT READS IS OF BULK AT MOST 1048576: true; the input reads as it did. -/
def logicEvalsUptoRow : OpenClaim := { program := "ytdkfnbbebpbhaaa", sum := "e50e96df64975baa49d8f116129334e05f342dd2a07bc8e693edca1f07ed6914", func := "litmus/litmuslaw10.LogicEvals", spec := "logicEvals", unfollowed := true, recurses := true, loops := true, apart := false, narrowed := true }
def LogicEvalsUptoSaid : Prop := logicEvalsUptoRow.holds Try.pinned (OpenSpec.upto logicEvalsSpec)

/-- 'litmuslaw10.LogicRights', WHERE WHAT IT READS IS OF BULK AT MOST 1048576: true; the input reads as it did. -/
def logicRightsUptoRow : OpenClaim := { program := "ytdkfnbbebpbhaaa", sum := "e50e96df64975baa49d8f116129334e05f342dd2a07bc8e693edca1f07ed6914", func := "litmus/litmuslaw10.LogicRights", spec := "logicRights", unfollowed := true, recurses := true, loops := true, apart := false, narrowed := true }
def LogicRightsUptoSaid : Prop := logicRightsUptoRow.holds Try.pinned (OpenSpec.upto logicRightsSpec)

/-- 'litmuslaw10.LogicJoins', WHERE WHAT IT READS IS OF BULK AT MOST 1048576: true; the input reads as it did. -/
def logicJoinsUptoRow : OpenClaim := { program := "ytdkfnbbebpbhaaa", sum := "e50e96df64975baa49d8f116129334e05f342dd2a07bc8e693edca1f07ed6914", func := "litmus/litmuslaw10.LogicJoins", spec := "logicJoins", unfollowed := true, recurses := true, loops := true, apart := false, narrowed := true }
def LogicJoinsUptoSaid : Prop := logicJoinsUptoRow.holds Try.pinned (OpenSpec.upto logicJoinsSpec)

end Rows
end Go.Proofs.Ytdkfnbbebpbhaaa
