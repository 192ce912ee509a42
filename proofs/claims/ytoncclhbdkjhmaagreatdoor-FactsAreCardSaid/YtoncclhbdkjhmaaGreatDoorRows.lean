/-
  NARROWER THAN 'FOR EVERY INPUT', by the rows' own cells (each row's printed sentence says how): LogicPuts: loops, laid · FactsHold: loops, laid · FactsAre: loops, laid · FactsGrow: loops, laid · BankTerms: loops, laid · BankOrders: loops, laid · BankSums: laid · BankTights: laid.
  DERIVED. THE GIVEN ROWS OF THIS SEAT. 8 by the template 'for every input the law returns true; each argument reads behind the call as it read before'; 0 by the template 'total and deterministic' (their statements: YtoncclhbdkjhmaaGreatDoorTotals.lean).
  GIVEN WITH THE SEED: the statements are not yours to turn. If you find one false, say at which input.
  Laid BY PROGRAM, IN A SANDBOX (cutbox-rows.mjs): the forced cells as the released guide's own fill.sh prints them over the translation 44cce32b3ff85d0f… (all of the seat's roots in one cut). By AI agents, Wed Nov 11 2026. No macro, syntax, notation, axiom, sorry.
-/
import Derived.Test.YtoncclhbdkjhmaaGreatDoorChecked
import GoSem.PinnedTables
import GoSem.Claim
import GoSem.ClaimJoined
import GoSem.ClaimMapViews
import Derived.JoinedTies
import Derived.KernelRfl
namespace Go.Proofs.YtoncclhbdkjhmaaGreatDoor
/- THE CELL 'sum', in the pinned program and in every row, IS THE sha256 OF THE DUMP (.gsa) THAT YtoncclhbdkjhmaaGreatDoorProg.lean LOADS. Nothing in Lean hashes anything: it is a label: what it is worth is what the hold of that sum in a sandbox is worth. -/
noncomputable def Tryz.pinned : Pinned := { name := "ytoncclhbdkjhmaagreatdoor", sum := "44cce32b3ff85d0fa1eb258124a0e69c2506c4872470b7218e1ec6bb405856b8", checked := Tryz.checked }
namespace Rows
def none {H : Type} : Left H := { results := [], args := [] }

/- WHAT THE LISTED PACKAGE-LEVEL VARIABLES READ AS WHEN THE CALL BEGINS. Each datum BY PROGRAM (the guide's laid-datum.mjs) off the statement by which the dump's own 'gosem.cut.vars' lays the variable. In a bare row this is a premise. The card (YtoncclhbdkjhmaaGreatDoorCards.lean) ties it to the program's text. -/
def laid_math_bits_deBruijn32tab {H : Type} : DataW H := .agg [.lit (.int .u8 0), .lit (.int .u8 1), .lit (.int .u8 28), .lit (.int .u8 2), .lit (.int .u8 29), .lit (.int .u8 14), .lit (.int .u8 24), .lit (.int .u8 3), .lit (.int .u8 30), .lit (.int .u8 22), .lit (.int .u8 20), .lit (.int .u8 15), .lit (.int .u8 25), .lit (.int .u8 17), .lit (.int .u8 4), .lit (.int .u8 8), .lit (.int .u8 31), .lit (.int .u8 27), .lit (.int .u8 13), .lit (.int .u8 23), .lit (.int .u8 21), .lit (.int .u8 19), .lit (.int .u8 16), .lit (.int .u8 7), .lit (.int .u8 26), .lit (.int .u8 12), .lit (.int .u8 18), .lit (.int .u8 6), .lit (.int .u8 11), .lit (.int .u8 5), .lit (.int .u8 10), .lit (.int .u8 9)]
def laid_math_bits_deBruijn64tab {H : Type} : DataW H := .agg [.lit (.int .u8 0), .lit (.int .u8 1), .lit (.int .u8 56), .lit (.int .u8 2), .lit (.int .u8 57), .lit (.int .u8 49), .lit (.int .u8 28), .lit (.int .u8 3), .lit (.int .u8 61), .lit (.int .u8 58), .lit (.int .u8 42), .lit (.int .u8 50), .lit (.int .u8 38), .lit (.int .u8 29), .lit (.int .u8 17), .lit (.int .u8 4), .lit (.int .u8 62), .lit (.int .u8 47), .lit (.int .u8 59), .lit (.int .u8 36), .lit (.int .u8 45), .lit (.int .u8 43), .lit (.int .u8 51), .lit (.int .u8 22), .lit (.int .u8 53), .lit (.int .u8 39), .lit (.int .u8 33), .lit (.int .u8 30), .lit (.int .u8 24), .lit (.int .u8 18), .lit (.int .u8 12), .lit (.int .u8 5), .lit (.int .u8 63), .lit (.int .u8 55), .lit (.int .u8 48), .lit (.int .u8 27), .lit (.int .u8 60), .lit (.int .u8 41), .lit (.int .u8 37), .lit (.int .u8 16), .lit (.int .u8 46), .lit (.int .u8 35), .lit (.int .u8 44), .lit (.int .u8 21), .lit (.int .u8 52), .lit (.int .u8 32), .lit (.int .u8 23), .lit (.int .u8 11), .lit (.int .u8 54), .lit (.int .u8 26), .lit (.int .u8 40), .lit (.int .u8 15), .lit (.int .u8 34), .lit (.int .u8 20), .lit (.int .u8 31), .lit (.int .u8 10), .lit (.int .u8 25), .lit (.int .u8 14), .lit (.int .u8 19), .lit (.int .u8 9), .lit (.int .u8 13), .lit (.int .u8 8), .lit (.int .u8 7), .lit (.int .u8 6)]
def laid_internal_strconv_uint64pow10 {H : Type} : DataW H := .agg [.lit (.int .u64 1), .lit (.int .u64 10), .lit (.int .u64 100), .lit (.int .u64 1000), .lit (.int .u64 10000), .lit (.int .u64 100000), .lit (.int .u64 1000000), .lit (.int .u64 10000000), .lit (.int .u64 100000000), .lit (.int .u64 1000000000), .lit (.int .u64 10000000000), .lit (.int .u64 100000000000), .lit (.int .u64 1000000000000), .lit (.int .u64 10000000000000), .lit (.int .u64 100000000000000), .lit (.int .u64 1000000000000000), .lit (.int .u64 10000000000000000), .lit (.int .u64 100000000000000000), .lit (.int .u64 1000000000000000000), .lit (.int .u64 10000000000000000000)]
def laid_unicode_utf8_acceptRanges {H : Type} : DataW H := .agg [.agg [.lit (.int .u8 128), .lit (.int .u8 191)], .agg [.lit (.int .u8 160), .lit (.int .u8 191)], .agg [.lit (.int .u8 128), .lit (.int .u8 159)], .agg [.lit (.int .u8 144), .lit (.int .u8 191)], .agg [.lit (.int .u8 128), .lit (.int .u8 143)], .agg [.lit (.int .u8 0), .lit (.int .u8 0)], .agg [.lit (.int .u8 0), .lit (.int .u8 0)], .agg [.lit (.int .u8 0), .lit (.int .u8 0)], .agg [.lit (.int .u8 0), .lit (.int .u8 0)], .agg [.lit (.int .u8 0), .lit (.int .u8 0)], .agg [.lit (.int .u8 0), .lit (.int .u8 0)], .agg [.lit (.int .u8 0), .lit (.int .u8 0)], .agg [.lit (.int .u8 0), .lit (.int .u8 0)], .agg [.lit (.int .u8 0), .lit (.int .u8 0)], .agg [.lit (.int .u8 0), .lit (.int .u8 0)], .agg [.lit (.int .u8 0), .lit (.int .u8 0)]]
def laid_litmus_logic_words {H : Type} : DataW H := .agg [.lit (.string [78, 117, 109]), .lit (.string [73, 86, 97, 114]), .lit (.string [65, 100, 100]), .lit (.string [83, 99, 97, 108, 101]), .lit (.string [77, 117, 108]), .lit (.string [81, 117, 111]), .lit (.string [76, 101, 110]), .lit (.string [72, 100]), .lit (.string [76, 86, 97, 114]), .lit (.string [78, 105, 108]), .lit (.string [67, 111, 110, 115]), .lit (.string [84, 108]), .lit (.string [84, 114, 117, 101]), .lit (.string [70, 97, 108, 115, 101]), .lit (.string [66, 86, 97, 114]), .lit (.string [76, 101]), .lit (.string [69, 113]), .lit (.string [78, 111, 116]), .lit (.string [65, 110, 100]), .lit (.string [79, 114]), .lit (.string [73, 102, 102])]
/-- One of Go's own tables, pinned by name: the form's constant. -/
def laid_strconv_isGraphic : DataW Unit := Go.Pinned.isGraphic
/-- One of Go's own tables, pinned by name: the form's constant. -/
def laid_strconv_isNotPrint16 : DataW Unit := Go.Pinned.isNotPrint16
/-- One of Go's own tables, pinned by name: the form's constant. -/
def laid_strconv_isNotPrint32 : DataW Unit := Go.Pinned.isNotPrint32
/-- One of Go's own tables, pinned by name: the form's constant. -/
def laid_strconv_isPrint16 : DataW Unit := Go.Pinned.isPrint16
/-- One of Go's own tables, pinned by name: the form's constant. -/
def laid_strconv_isPrint32 : DataW Unit := Go.Pinned.isPrint32
/-- One of Go's own tables, pinned by name: the form's constant. -/
def laid_unicode_utf8_first : DataW Unit := Go.Pinned.utf8First
def laid_litmus_bank_termOps {H : Type} : DataW H := .agg [.lit (.int .i64 1), .lit (.int .i64 4), .lit (.int .i64 5), .lit (.int .i64 6), .lit (.int .i64 7), .lit (.int .i64 0), .lit (.int .i64 8), .lit (.int .i64 9), .lit (.int .i64 10), .lit (.int .i64 11)]
def laid_litmus_bank_nodeOps {H : Type} : DataW H := .agg [.lit (.int .i64 0), .lit (.int .i64 0), .lit (.int .i64 0), .lit (.int .i64 0), .lit (.int .i64 1), .lit (.int .i64 2), .lit (.int .i64 3), .lit (.int .i64 4), .lit (.int .i64 6), .lit (.int .i64 7), .lit (.int .i64 8), .lit (.int .i64 9)]

/-- 'litmuslaw10.LogicPuts': WHATEVER THE INPUT: true; the input reads as it did. -/
def logicPutsSpec : ChangeSpec := { name := "logicPuts", fn := fun _ => fun
  | [d1, d2, d3] => { results := [.lit (.bool true)], args := [d1, d2, d3] }
  | _ => none }
def logicPutsRow : OpenClaim := { program := "ytoncclhbdkjhmaagreatdoor", sum := "44cce32b3ff85d0fa1eb258124a0e69c2506c4872470b7218e1ec6bb405856b8", func := "litmus/litmuslaw10.LogicPuts", spec := "logicPuts", inPlace := ["internal/abi.NoEscape"], unfollowed := true, recurses := true, named := ["litmus/logic.words", "internal/strconv.uint64pow10", "math/bits.deBruijn32tab", "math/bits.deBruijn64tab", "unicode/utf8.first", "unicode/utf8.acceptRanges", "strconv.isPrint16", "strconv.isNotPrint16", "strconv.isPrint32", "strconv.isNotPrint32", "strconv.isGraphic"], loops := true, apart := false, laid := [("math/bits.deBruijn32tab", laid_math_bits_deBruijn32tab), ("math/bits.deBruijn64tab", laid_math_bits_deBruijn64tab), ("internal/strconv.uint64pow10", laid_internal_strconv_uint64pow10), ("unicode/utf8.acceptRanges", laid_unicode_utf8_acceptRanges), ("litmus/logic.words", laid_litmus_logic_words), ("strconv.isGraphic", laid_strconv_isGraphic), ("strconv.isNotPrint16", laid_strconv_isNotPrint16), ("strconv.isNotPrint32", laid_strconv_isNotPrint32), ("strconv.isPrint16", laid_strconv_isPrint16), ("strconv.isPrint32", laid_strconv_isPrint32), ("unicode/utf8.first", laid_unicode_utf8_first)] }
def LogicPutsSaid : Prop := logicPutsRow.holds Tryz.pinned (OpenSpec.ofChange logicPutsSpec)

/-- ITS FALSE NEIGHBOUR: 'it returns false'. Refute it at one input. -/
def logicPutsWrong : ChangeSpec := { name := "logicPuts", fn := fun _ => fun
  | [d1, d2, d3] => { results := [.lit (.bool false)], args := [d1, d2, d3] }
  | _ => none }
def LogicPutsWrongFalsely : Prop := logicPutsRow.holds Tryz.pinned (OpenSpec.ofChange logicPutsWrong)

/-- 'litmuslaw11.FactsHold': WHATEVER THE INPUT: true; the input reads as it did. -/
def factsHoldSpec : ChangeSpec := { name := "factsHold", fn := fun _ => fun
  | [d1, d2, d3] => { results := [.lit (.bool true)], args := [d1, d2, d3] }
  | _ => none }
def factsHoldRow : OpenClaim := { program := "ytoncclhbdkjhmaagreatdoor", sum := "44cce32b3ff85d0fa1eb258124a0e69c2506c4872470b7218e1ec6bb405856b8", func := "litmus/litmuslaw11.FactsHold", spec := "factsHold", inPlace := ["internal/abi.NoEscape"], unfollowed := true, recurses := true, named := ["internal/strconv.uint64pow10", "math/bits.deBruijn32tab", "math/bits.deBruijn64tab", "litmus/logic.words", "unicode/utf8.first", "unicode/utf8.acceptRanges", "strconv.isPrint16", "strconv.isNotPrint16", "strconv.isPrint32", "strconv.isNotPrint32", "strconv.isGraphic"], loops := true, apart := false, laid := [("math/bits.deBruijn32tab", laid_math_bits_deBruijn32tab), ("math/bits.deBruijn64tab", laid_math_bits_deBruijn64tab), ("internal/strconv.uint64pow10", laid_internal_strconv_uint64pow10), ("unicode/utf8.acceptRanges", laid_unicode_utf8_acceptRanges), ("litmus/logic.words", laid_litmus_logic_words), ("strconv.isGraphic", laid_strconv_isGraphic), ("strconv.isNotPrint16", laid_strconv_isNotPrint16), ("strconv.isNotPrint32", laid_strconv_isNotPrint32), ("strconv.isPrint16", laid_strconv_isPrint16), ("strconv.isPrint32", laid_strconv_isPrint32), ("unicode/utf8.first", laid_unicode_utf8_first)] }
def FactsHoldSaid : Prop := factsHoldRow.holds Tryz.pinned (OpenSpec.ofChange factsHoldSpec)

/-- ITS FALSE NEIGHBOUR: 'it returns false'. Refute it at one input. -/
def factsHoldWrong : ChangeSpec := { name := "factsHold", fn := fun _ => fun
  | [d1, d2, d3] => { results := [.lit (.bool false)], args := [d1, d2, d3] }
  | _ => none }
def FactsHoldWrongFalsely : Prop := factsHoldRow.holds Tryz.pinned (OpenSpec.ofChange factsHoldWrong)

/-- 'litmuslaw11.FactsAre': WHATEVER THE INPUT: true; the input reads as it did. -/
def factsAreSpec : ChangeSpec := { name := "factsAre", fn := fun _ => fun
  | [d1, d2] => { results := [.lit (.bool true)], args := [d1, d2] }
  | _ => none }
def factsAreRow : OpenClaim := { program := "ytoncclhbdkjhmaagreatdoor", sum := "44cce32b3ff85d0fa1eb258124a0e69c2506c4872470b7218e1ec6bb405856b8", func := "litmus/litmuslaw11.FactsAre", spec := "factsAre", inPlace := ["internal/abi.NoEscape"], unfollowed := true, recurses := true, named := ["internal/strconv.uint64pow10", "math/bits.deBruijn32tab", "math/bits.deBruijn64tab", "litmus/logic.words", "unicode/utf8.first", "unicode/utf8.acceptRanges", "strconv.isPrint16", "strconv.isNotPrint16", "strconv.isPrint32", "strconv.isNotPrint32", "strconv.isGraphic"], loops := true, apart := false, laid := [("math/bits.deBruijn32tab", laid_math_bits_deBruijn32tab), ("math/bits.deBruijn64tab", laid_math_bits_deBruijn64tab), ("internal/strconv.uint64pow10", laid_internal_strconv_uint64pow10), ("unicode/utf8.acceptRanges", laid_unicode_utf8_acceptRanges), ("litmus/logic.words", laid_litmus_logic_words), ("strconv.isGraphic", laid_strconv_isGraphic), ("strconv.isNotPrint16", laid_strconv_isNotPrint16), ("strconv.isNotPrint32", laid_strconv_isNotPrint32), ("strconv.isPrint16", laid_strconv_isPrint16), ("strconv.isPrint32", laid_strconv_isPrint32), ("unicode/utf8.first", laid_unicode_utf8_first)] }
def FactsAreSaid : Prop := factsAreRow.holds Tryz.pinned (OpenSpec.ofChange factsAreSpec)

/-- ITS FALSE NEIGHBOUR: 'it returns false'. Refute it at one input. -/
def factsAreWrong : ChangeSpec := { name := "factsAre", fn := fun _ => fun
  | [d1, d2] => { results := [.lit (.bool false)], args := [d1, d2] }
  | _ => none }
def FactsAreWrongFalsely : Prop := factsAreRow.holds Tryz.pinned (OpenSpec.ofChange factsAreWrong)

/-- 'litmuslaw11.FactsGrow': WHATEVER THE INPUT: true; the input reads as it did. -/
def factsGrowSpec : ChangeSpec := { name := "factsGrow", fn := fun _ => fun
  | [d1, d2] => { results := [.lit (.bool true)], args := [d1, d2] }
  | _ => none }
def factsGrowRow : OpenClaim := { program := "ytoncclhbdkjhmaagreatdoor", sum := "44cce32b3ff85d0fa1eb258124a0e69c2506c4872470b7218e1ec6bb405856b8", func := "litmus/litmuslaw11.FactsGrow", spec := "factsGrow", inPlace := ["internal/abi.NoEscape"], unfollowed := true, recurses := true, named := ["internal/strconv.uint64pow10", "math/bits.deBruijn32tab", "math/bits.deBruijn64tab", "litmus/logic.words", "unicode/utf8.first", "unicode/utf8.acceptRanges", "strconv.isPrint16", "strconv.isNotPrint16", "strconv.isPrint32", "strconv.isNotPrint32", "strconv.isGraphic"], loops := true, apart := false, laid := [("math/bits.deBruijn32tab", laid_math_bits_deBruijn32tab), ("math/bits.deBruijn64tab", laid_math_bits_deBruijn64tab), ("internal/strconv.uint64pow10", laid_internal_strconv_uint64pow10), ("unicode/utf8.acceptRanges", laid_unicode_utf8_acceptRanges), ("litmus/logic.words", laid_litmus_logic_words), ("strconv.isGraphic", laid_strconv_isGraphic), ("strconv.isNotPrint16", laid_strconv_isNotPrint16), ("strconv.isNotPrint32", laid_strconv_isNotPrint32), ("strconv.isPrint16", laid_strconv_isPrint16), ("strconv.isPrint32", laid_strconv_isPrint32), ("unicode/utf8.first", laid_unicode_utf8_first)] }
def FactsGrowSaid : Prop := factsGrowRow.holds Tryz.pinned (OpenSpec.ofChange factsGrowSpec)

/-- ITS FALSE NEIGHBOUR: 'it returns false'. Refute it at one input. -/
def factsGrowWrong : ChangeSpec := { name := "factsGrow", fn := fun _ => fun
  | [d1, d2] => { results := [.lit (.bool false)], args := [d1, d2] }
  | _ => none }
def FactsGrowWrongFalsely : Prop := factsGrowRow.holds Tryz.pinned (OpenSpec.ofChange factsGrowWrong)

/-- 'litmuslaw12.BankTerms': WHATEVER THE INPUT: true; the input reads as it did. -/
def bankTermsSpec : ChangeSpec := { name := "bankTerms", fn := fun _ => fun
  | [d1, d2, d3] => { results := [.lit (.bool true)], args := [d1, d2, d3] }
  | _ => none }
def bankTermsRow : OpenClaim := { program := "ytoncclhbdkjhmaagreatdoor", sum := "44cce32b3ff85d0fa1eb258124a0e69c2506c4872470b7218e1ec6bb405856b8", func := "litmus/litmuslaw12.BankTerms", spec := "bankTerms", inPlace := ["internal/abi.NoEscape"], unfollowed := true, recurses := true, named := ["litmus/bank.nodeOps", "internal/strconv.uint64pow10", "math/bits.deBruijn32tab", "math/bits.deBruijn64tab", "litmus/bank.termOps"], loops := true, apart := false, laid := [("math/bits.deBruijn32tab", laid_math_bits_deBruijn32tab), ("math/bits.deBruijn64tab", laid_math_bits_deBruijn64tab), ("internal/strconv.uint64pow10", laid_internal_strconv_uint64pow10), ("litmus/bank.termOps", laid_litmus_bank_termOps), ("litmus/bank.nodeOps", laid_litmus_bank_nodeOps)] }
def BankTermsSaid : Prop := bankTermsRow.holds Tryz.pinned (OpenSpec.ofChange bankTermsSpec)

/-- ITS FALSE NEIGHBOUR: 'it returns false'. Refute it at one input. -/
def bankTermsWrong : ChangeSpec := { name := "bankTerms", fn := fun _ => fun
  | [d1, d2, d3] => { results := [.lit (.bool false)], args := [d1, d2, d3] }
  | _ => none }
def BankTermsWrongFalsely : Prop := bankTermsRow.holds Tryz.pinned (OpenSpec.ofChange bankTermsWrong)

/-- 'litmuslaw12.BankOrders': WHATEVER THE INPUT: true; the input reads as it did. -/
def bankOrdersSpec : ChangeSpec := { name := "bankOrders", fn := fun _ => fun
  | [d] => { results := [.lit (.bool true)], args := [d] }
  | _ => none }
def bankOrdersRow : OpenClaim := { program := "ytoncclhbdkjhmaagreatdoor", sum := "44cce32b3ff85d0fa1eb258124a0e69c2506c4872470b7218e1ec6bb405856b8", func := "litmus/litmuslaw12.BankOrders", spec := "bankOrders", inPlace := ["internal/abi.NoEscape"], unfollowed := true, recurses := true, named := ["litmus/bank.nodeOps", "internal/strconv.uint64pow10", "math/bits.deBruijn32tab", "math/bits.deBruijn64tab", "litmus/bank.termOps", "litmus/logic.words", "unicode/utf8.first", "unicode/utf8.acceptRanges", "strconv.isPrint16", "strconv.isNotPrint16", "strconv.isPrint32", "strconv.isNotPrint32", "strconv.isGraphic"], loops := true, apart := false, laid := [("math/bits.deBruijn32tab", laid_math_bits_deBruijn32tab), ("math/bits.deBruijn64tab", laid_math_bits_deBruijn64tab), ("internal/strconv.uint64pow10", laid_internal_strconv_uint64pow10), ("unicode/utf8.acceptRanges", laid_unicode_utf8_acceptRanges), ("litmus/logic.words", laid_litmus_logic_words), ("litmus/bank.termOps", laid_litmus_bank_termOps), ("litmus/bank.nodeOps", laid_litmus_bank_nodeOps), ("strconv.isGraphic", laid_strconv_isGraphic), ("strconv.isNotPrint16", laid_strconv_isNotPrint16), ("strconv.isNotPrint32", laid_strconv_isNotPrint32), ("strconv.isPrint16", laid_strconv_isPrint16), ("strconv.isPrint32", laid_strconv_isPrint32), ("unicode/utf8.first", laid_unicode_utf8_first)] }
def BankOrdersSaid : Prop := bankOrdersRow.holds Tryz.pinned (OpenSpec.ofChange bankOrdersSpec)

/-- ITS FALSE NEIGHBOUR: 'it returns false'. Refute it at one input. -/
def bankOrdersWrong : ChangeSpec := { name := "bankOrders", fn := fun _ => fun
  | [d] => { results := [.lit (.bool false)], args := [d] }
  | _ => none }
def BankOrdersWrongFalsely : Prop := bankOrdersRow.holds Tryz.pinned (OpenSpec.ofChange bankOrdersWrong)

/-- 'litmuslaw12.BankSums': WHATEVER THE INPUT: true; the input reads as it did. -/
def bankSumsSpec : ChangeSpec := { name := "bankSums", fn := fun _ => fun
  | [d1, d2, d3] => { results := [.lit (.bool true)], args := [d1, d2, d3] }
  | _ => none }
def bankSumsRow : OpenClaim := { program := "ytoncclhbdkjhmaagreatdoor", sum := "44cce32b3ff85d0fa1eb258124a0e69c2506c4872470b7218e1ec6bb405856b8", func := "litmus/litmuslaw12.BankSums", spec := "bankSums", inPlace := ["internal/abi.NoEscape"], unfollowed := true, recurses := true, named := ["litmus/bank.nodeOps", "internal/strconv.uint64pow10", "math/bits.deBruijn32tab", "math/bits.deBruijn64tab", "litmus/bank.termOps"], apart := false, laid := [("math/bits.deBruijn32tab", laid_math_bits_deBruijn32tab), ("math/bits.deBruijn64tab", laid_math_bits_deBruijn64tab), ("internal/strconv.uint64pow10", laid_internal_strconv_uint64pow10), ("litmus/bank.termOps", laid_litmus_bank_termOps), ("litmus/bank.nodeOps", laid_litmus_bank_nodeOps)] }
def BankSumsSaid : Prop := bankSumsRow.holds Tryz.pinned (OpenSpec.ofChange bankSumsSpec)

/-- ITS FALSE NEIGHBOUR: 'it returns false'. Refute it at one input. -/
def bankSumsWrong : ChangeSpec := { name := "bankSums", fn := fun _ => fun
  | [d1, d2, d3] => { results := [.lit (.bool false)], args := [d1, d2, d3] }
  | _ => none }
def BankSumsWrongFalsely : Prop := bankSumsRow.holds Tryz.pinned (OpenSpec.ofChange bankSumsWrong)

/-- 'litmuslaw12.BankTights': WHATEVER THE INPUT: true; the input reads as it did. -/
def bankTightsSpec : ChangeSpec := { name := "bankTights", fn := fun _ => fun
  | [d1, d2] => { results := [.lit (.bool true)], args := [d1, d2] }
  | _ => none }
def bankTightsRow : OpenClaim := { program := "ytoncclhbdkjhmaagreatdoor", sum := "44cce32b3ff85d0fa1eb258124a0e69c2506c4872470b7218e1ec6bb405856b8", func := "litmus/litmuslaw12.BankTights", spec := "bankTights", inPlace := ["internal/abi.NoEscape"], unfollowed := true, recurses := true, named := ["litmus/bank.nodeOps", "internal/strconv.uint64pow10", "math/bits.deBruijn32tab", "math/bits.deBruijn64tab", "litmus/bank.termOps"], apart := false, laid := [("math/bits.deBruijn32tab", laid_math_bits_deBruijn32tab), ("math/bits.deBruijn64tab", laid_math_bits_deBruijn64tab), ("internal/strconv.uint64pow10", laid_internal_strconv_uint64pow10), ("litmus/bank.termOps", laid_litmus_bank_termOps), ("litmus/bank.nodeOps", laid_litmus_bank_nodeOps)] }
def BankTightsSaid : Prop := bankTightsRow.holds Tryz.pinned (OpenSpec.ofChange bankTightsSpec)

/-- ITS FALSE NEIGHBOUR: 'it returns false'. Refute it at one input. -/
def bankTightsWrong : ChangeSpec := { name := "bankTights", fn := fun _ => fun
  | [d1, d2] => { results := [.lit (.bool false)], args := [d1, d2] }
  | _ => none }
def BankTightsWrongFalsely : Prop := bankTightsRow.holds Tryz.pinned (OpenSpec.ofChange bankTightsWrong)

/- THE SECOND FORM. 'bulk': how many values and letters a reading holds, each counted each time it is reached (what is shared counts as often as it is met; a slice's spare places count too). A statement '..UptoSaid' is the law's where the arguments, and the package variables that the reading takes, are together of bulk at most 1048576: NARROWER than '..Said'. Prove '..Said' where nothing that the law and all that it calls make is longer than what came in: it says more and counts as full. Else prove '..UptoSaid'. A law counts once. -/
mutual
def uptoBulk {H : Type} : DataW H → Nat
  | .lit (.string bytes) => bytes.length + 1
  | .lit _ => 1
  | .nil => 1
  | .ptr d => uptoBulk d + 1
  | .slice elems spare => uptoBulkAll elems + uptoBulkAll spare + 1
  | .agg parts => uptoBulkAll parts + 1
  | .iface _ d => uptoBulk d + 1
  | .map entries => uptoBulkEntries entries + 1
  | .held _ => 1
def uptoBulkAll {H : Type} : List (DataW H) → Nat
  | [] => 0
  | d :: r => uptoBulk d + uptoBulkAll r
def uptoBulkEntries {H : Type} : List (Lit × DataW H) → Nat
  | [] => 0
  | x :: r => uptoBulkEntry x + uptoBulkEntries r
def uptoBulkEntry {H : Type} : Lit × DataW H → Nat
  | (.string bytes, d) => bytes.length + uptoBulk d + 1
  | (_, d) => uptoBulk d + 1
 end
def uptoSmall : (H : Type) → List (DataW H) → Bool := fun _ ds => decide (uptoBulkAll ds ≤ 1048576)
def OpenSpec.upto (s : _root_.Go.ChangeSpec) : _root_.Go.OpenSpec := { _root_.Go.OpenSpec.ofChange s with cond := some uptoSmall }

/-- 'litmuslaw10.LogicPuts', WHERE WHAT IT READS IS OF BULK AT MOST 1048576: true; the input reads as it did. -/
def logicPutsUptoRow : OpenClaim := { program := "ytoncclhbdkjhmaagreatdoor", sum := "44cce32b3ff85d0fa1eb258124a0e69c2506c4872470b7218e1ec6bb405856b8", func := "litmus/litmuslaw10.LogicPuts", spec := "logicPuts", inPlace := ["internal/abi.NoEscape"], unfollowed := true, recurses := true, named := ["litmus/logic.words", "internal/strconv.uint64pow10", "math/bits.deBruijn32tab", "math/bits.deBruijn64tab", "unicode/utf8.first", "unicode/utf8.acceptRanges", "strconv.isPrint16", "strconv.isNotPrint16", "strconv.isPrint32", "strconv.isNotPrint32", "strconv.isGraphic"], loops := true, apart := false, laid := [("math/bits.deBruijn32tab", laid_math_bits_deBruijn32tab), ("math/bits.deBruijn64tab", laid_math_bits_deBruijn64tab), ("internal/strconv.uint64pow10", laid_internal_strconv_uint64pow10), ("unicode/utf8.acceptRanges", laid_unicode_utf8_acceptRanges), ("litmus/logic.words", laid_litmus_logic_words), ("strconv.isGraphic", laid_strconv_isGraphic), ("strconv.isNotPrint16", laid_strconv_isNotPrint16), ("strconv.isNotPrint32", laid_strconv_isNotPrint32), ("strconv.isPrint16", laid_strconv_isPrint16), ("strconv.isPrint32", laid_strconv_isPrint32), ("unicode/utf8.first", laid_unicode_utf8_first)], narrowed := true }
def LogicPutsUptoSaid : Prop := logicPutsUptoRow.holds Tryz.pinned (OpenSpec.upto logicPutsSpec)

/-- 'litmuslaw11.FactsHold', WHERE WHAT IT READS IS OF BULK AT MOST 1048576: true; the input reads as it did. -/
def factsHoldUptoRow : OpenClaim := { program := "ytoncclhbdkjhmaagreatdoor", sum := "44cce32b3ff85d0fa1eb258124a0e69c2506c4872470b7218e1ec6bb405856b8", func := "litmus/litmuslaw11.FactsHold", spec := "factsHold", inPlace := ["internal/abi.NoEscape"], unfollowed := true, recurses := true, named := ["internal/strconv.uint64pow10", "math/bits.deBruijn32tab", "math/bits.deBruijn64tab", "litmus/logic.words", "unicode/utf8.first", "unicode/utf8.acceptRanges", "strconv.isPrint16", "strconv.isNotPrint16", "strconv.isPrint32", "strconv.isNotPrint32", "strconv.isGraphic"], loops := true, apart := false, laid := [("math/bits.deBruijn32tab", laid_math_bits_deBruijn32tab), ("math/bits.deBruijn64tab", laid_math_bits_deBruijn64tab), ("internal/strconv.uint64pow10", laid_internal_strconv_uint64pow10), ("unicode/utf8.acceptRanges", laid_unicode_utf8_acceptRanges), ("litmus/logic.words", laid_litmus_logic_words), ("strconv.isGraphic", laid_strconv_isGraphic), ("strconv.isNotPrint16", laid_strconv_isNotPrint16), ("strconv.isNotPrint32", laid_strconv_isNotPrint32), ("strconv.isPrint16", laid_strconv_isPrint16), ("strconv.isPrint32", laid_strconv_isPrint32), ("unicode/utf8.first", laid_unicode_utf8_first)], narrowed := true }
def FactsHoldUptoSaid : Prop := factsHoldUptoRow.holds Tryz.pinned (OpenSpec.upto factsHoldSpec)

/-- 'litmuslaw11.FactsAre', WHERE WHAT IT READS IS OF BULK AT MOST 1048576: true; the input reads as it did. -/
def factsAreUptoRow : OpenClaim := { program := "ytoncclhbdkjhmaagreatdoor", sum := "44cce32b3ff85d0fa1eb258124a0e69c2506c4872470b7218e1ec6bb405856b8", func := "litmus/litmuslaw11.FactsAre", spec := "factsAre", inPlace := ["internal/abi.NoEscape"], unfollowed := true, recurses := true, named := ["internal/strconv.uint64pow10", "math/bits.deBruijn32tab", "math/bits.deBruijn64tab", "litmus/logic.words", "unicode/utf8.first", "unicode/utf8.acceptRanges", "strconv.isPrint16", "strconv.isNotPrint16", "strconv.isPrint32", "strconv.isNotPrint32", "strconv.isGraphic"], loops := true, apart := false, laid := [("math/bits.deBruijn32tab", laid_math_bits_deBruijn32tab), ("math/bits.deBruijn64tab", laid_math_bits_deBruijn64tab), ("internal/strconv.uint64pow10", laid_internal_strconv_uint64pow10), ("unicode/utf8.acceptRanges", laid_unicode_utf8_acceptRanges), ("litmus/logic.words", laid_litmus_logic_words), ("strconv.isGraphic", laid_strconv_isGraphic), ("strconv.isNotPrint16", laid_strconv_isNotPrint16), ("strconv.isNotPrint32", laid_strconv_isNotPrint32), ("strconv.isPrint16", laid_strconv_isPrint16), ("strconv.isPrint32", laid_strconv_isPrint32), ("unicode/utf8.first", laid_unicode_utf8_first)], narrowed := true }
def FactsAreUptoSaid : Prop := factsAreUptoRow.holds Tryz.pinned (OpenSpec.upto factsAreSpec)

/-- 'litmuslaw11.FactsGrow', WHERE WHAT IT READS IS OF BULK AT MOST 1048576: true; the input reads as it did. -/
def factsGrowUptoRow : OpenClaim := { program := "ytoncclhbdkjhmaagreatdoor", sum := "44cce32b3ff85d0fa1eb258124a0e69c2506c4872470b7218e1ec6bb405856b8", func := "litmus/litmuslaw11.FactsGrow", spec := "factsGrow", inPlace := ["internal/abi.NoEscape"], unfollowed := true, recurses := true, named := ["internal/strconv.uint64pow10", "math/bits.deBruijn32tab", "math/bits.deBruijn64tab", "litmus/logic.words", "unicode/utf8.first", "unicode/utf8.acceptRanges", "strconv.isPrint16", "strconv.isNotPrint16", "strconv.isPrint32", "strconv.isNotPrint32", "strconv.isGraphic"], loops := true, apart := false, laid := [("math/bits.deBruijn32tab", laid_math_bits_deBruijn32tab), ("math/bits.deBruijn64tab", laid_math_bits_deBruijn64tab), ("internal/strconv.uint64pow10", laid_internal_strconv_uint64pow10), ("unicode/utf8.acceptRanges", laid_unicode_utf8_acceptRanges), ("litmus/logic.words", laid_litmus_logic_words), ("strconv.isGraphic", laid_strconv_isGraphic), ("strconv.isNotPrint16", laid_strconv_isNotPrint16), ("strconv.isNotPrint32", laid_strconv_isNotPrint32), ("strconv.isPrint16", laid_strconv_isPrint16), ("strconv.isPrint32", laid_strconv_isPrint32), ("unicode/utf8.first", laid_unicode_utf8_first)], narrowed := true }
def FactsGrowUptoSaid : Prop := factsGrowUptoRow.holds Tryz.pinned (OpenSpec.upto factsGrowSpec)

/-- 'litmuslaw12.BankTerms', WHERE WHAT IT READS IS OF BULK AT MOST 1048576: true; the input reads as it did. -/
def bankTermsUptoRow : OpenClaim := { program := "ytoncclhbdkjhmaagreatdoor", sum := "44cce32b3ff85d0fa1eb258124a0e69c2506c4872470b7218e1ec6bb405856b8", func := "litmus/litmuslaw12.BankTerms", spec := "bankTerms", inPlace := ["internal/abi.NoEscape"], unfollowed := true, recurses := true, named := ["litmus/bank.nodeOps", "internal/strconv.uint64pow10", "math/bits.deBruijn32tab", "math/bits.deBruijn64tab", "litmus/bank.termOps"], loops := true, apart := false, laid := [("math/bits.deBruijn32tab", laid_math_bits_deBruijn32tab), ("math/bits.deBruijn64tab", laid_math_bits_deBruijn64tab), ("internal/strconv.uint64pow10", laid_internal_strconv_uint64pow10), ("litmus/bank.termOps", laid_litmus_bank_termOps), ("litmus/bank.nodeOps", laid_litmus_bank_nodeOps)], narrowed := true }
def BankTermsUptoSaid : Prop := bankTermsUptoRow.holds Tryz.pinned (OpenSpec.upto bankTermsSpec)

/-- 'litmuslaw12.BankOrders', WHERE WHAT IT READS IS OF BULK AT MOST 1048576: true; the input reads as it did. -/
def bankOrdersUptoRow : OpenClaim := { program := "ytoncclhbdkjhmaagreatdoor", sum := "44cce32b3ff85d0fa1eb258124a0e69c2506c4872470b7218e1ec6bb405856b8", func := "litmus/litmuslaw12.BankOrders", spec := "bankOrders", inPlace := ["internal/abi.NoEscape"], unfollowed := true, recurses := true, named := ["litmus/bank.nodeOps", "internal/strconv.uint64pow10", "math/bits.deBruijn32tab", "math/bits.deBruijn64tab", "litmus/bank.termOps", "litmus/logic.words", "unicode/utf8.first", "unicode/utf8.acceptRanges", "strconv.isPrint16", "strconv.isNotPrint16", "strconv.isPrint32", "strconv.isNotPrint32", "strconv.isGraphic"], loops := true, apart := false, laid := [("math/bits.deBruijn32tab", laid_math_bits_deBruijn32tab), ("math/bits.deBruijn64tab", laid_math_bits_deBruijn64tab), ("internal/strconv.uint64pow10", laid_internal_strconv_uint64pow10), ("unicode/utf8.acceptRanges", laid_unicode_utf8_acceptRanges), ("litmus/logic.words", laid_litmus_logic_words), ("litmus/bank.termOps", laid_litmus_bank_termOps), ("litmus/bank.nodeOps", laid_litmus_bank_nodeOps), ("strconv.isGraphic", laid_strconv_isGraphic), ("strconv.isNotPrint16", laid_strconv_isNotPrint16), ("strconv.isNotPrint32", laid_strconv_isNotPrint32), ("strconv.isPrint16", laid_strconv_isPrint16), ("strconv.isPrint32", laid_strconv_isPrint32), ("unicode/utf8.first", laid_unicode_utf8_first)], narrowed := true }
def BankOrdersUptoSaid : Prop := bankOrdersUptoRow.holds Tryz.pinned (OpenSpec.upto bankOrdersSpec)

/-- 'litmuslaw12.BankSums', WHERE WHAT IT READS IS OF BULK AT MOST 1048576: true; the input reads as it did. -/
def bankSumsUptoRow : OpenClaim := { program := "ytoncclhbdkjhmaagreatdoor", sum := "44cce32b3ff85d0fa1eb258124a0e69c2506c4872470b7218e1ec6bb405856b8", func := "litmus/litmuslaw12.BankSums", spec := "bankSums", inPlace := ["internal/abi.NoEscape"], unfollowed := true, recurses := true, named := ["litmus/bank.nodeOps", "internal/strconv.uint64pow10", "math/bits.deBruijn32tab", "math/bits.deBruijn64tab", "litmus/bank.termOps"], apart := false, laid := [("math/bits.deBruijn32tab", laid_math_bits_deBruijn32tab), ("math/bits.deBruijn64tab", laid_math_bits_deBruijn64tab), ("internal/strconv.uint64pow10", laid_internal_strconv_uint64pow10), ("litmus/bank.termOps", laid_litmus_bank_termOps), ("litmus/bank.nodeOps", laid_litmus_bank_nodeOps)], narrowed := true }
def BankSumsUptoSaid : Prop := bankSumsUptoRow.holds Tryz.pinned (OpenSpec.upto bankSumsSpec)

/-- 'litmuslaw12.BankTights', WHERE WHAT IT READS IS OF BULK AT MOST 1048576: true; the input reads as it did. -/
def bankTightsUptoRow : OpenClaim := { program := "ytoncclhbdkjhmaagreatdoor", sum := "44cce32b3ff85d0fa1eb258124a0e69c2506c4872470b7218e1ec6bb405856b8", func := "litmus/litmuslaw12.BankTights", spec := "bankTights", inPlace := ["internal/abi.NoEscape"], unfollowed := true, recurses := true, named := ["litmus/bank.nodeOps", "internal/strconv.uint64pow10", "math/bits.deBruijn32tab", "math/bits.deBruijn64tab", "litmus/bank.termOps"], apart := false, laid := [("math/bits.deBruijn32tab", laid_math_bits_deBruijn32tab), ("math/bits.deBruijn64tab", laid_math_bits_deBruijn64tab), ("internal/strconv.uint64pow10", laid_internal_strconv_uint64pow10), ("litmus/bank.termOps", laid_litmus_bank_termOps), ("litmus/bank.nodeOps", laid_litmus_bank_nodeOps)], narrowed := true }
def BankTightsUptoSaid : Prop := bankTightsUptoRow.holds Tryz.pinned (OpenSpec.upto bankTightsSpec)

end Rows
end Go.Proofs.YtoncclhbdkjhmaaGreatDoor
