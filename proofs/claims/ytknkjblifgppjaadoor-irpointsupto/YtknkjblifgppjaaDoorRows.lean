/-
  NARROWER THAN 'FOR EVERY INPUT', by the rows' own cells (each row's printed sentence says how): IrPoints: laid · IrInstr: laid · IrPrint: laid · IrNone: laid · IrRound: laid · IrNext: laid.
  DERIVED. THE GIVEN ROWS OF THIS SEAT. 6 by the template 'for every input the law returns true; each argument reads behind the call as it read before'; 0 by the template 'total and deterministic' (their statements: YtknkjblifgppjaaDoorTotals.lean).
  GIVEN WITH THE SEED: the statements are not yours to turn. If you find one false, say at which input.
  Laid BY PROGRAM, IN A SANDBOX (cutbox-rows.mjs): the forced cells as the released guide's own fill.sh prints them over the translation 73513abeac428bbc… (all of the seat's roots in one cut). By AI agents, Wed Nov 11 2026. No macro, syntax, notation, axiom, sorry.
-/
import Derived.Test.YtknkjblifgppjaaDoorChecked
import GoSem.Claim
import GoSem.ClaimJoined
import GoSem.ClaimMapViews
import Derived.JoinedTies
import Derived.KernelRfl
namespace Go.Proofs.YtknkjblifgppjaaDoor
/- THE CELL 'sum', in the pinned program and in every row, IS THE sha256 OF THE DUMP (.gsa) THAT YtknkjblifgppjaaDoorProg.lean LOADS. Nothing in Lean hashes anything: it is a label: what it is worth is what the hold of that sum in a sandbox is worth. -/
noncomputable def Tryd.pinned : Pinned := { name := "ytknkjblifgppjaadoor", sum := "73513abeac428bbcb7f832353a9dc19ac5158f7d59bab345f4aa9ba9bafea0c9", checked := Tryd.checked }
namespace Rows
def none {H : Type} : Left H := { results := [], args := [] }

/- WHAT THE LISTED PACKAGE-LEVEL VARIABLES READ AS WHEN THE CALL BEGINS. Each datum BY PROGRAM (the guide's laid-datum.mjs) off the statement by which the dump's own 'gosem.cut.vars' lays the variable. In a bare row this is a premise. The card (YtknkjblifgppjaaDoorCards.lean) ties it to the program's text. -/
def laid_math_bits_deBruijn32tab {H : Type} : DataW H := .agg [.lit (.int .u8 0), .lit (.int .u8 1), .lit (.int .u8 28), .lit (.int .u8 2), .lit (.int .u8 29), .lit (.int .u8 14), .lit (.int .u8 24), .lit (.int .u8 3), .lit (.int .u8 30), .lit (.int .u8 22), .lit (.int .u8 20), .lit (.int .u8 15), .lit (.int .u8 25), .lit (.int .u8 17), .lit (.int .u8 4), .lit (.int .u8 8), .lit (.int .u8 31), .lit (.int .u8 27), .lit (.int .u8 13), .lit (.int .u8 23), .lit (.int .u8 21), .lit (.int .u8 19), .lit (.int .u8 16), .lit (.int .u8 7), .lit (.int .u8 26), .lit (.int .u8 12), .lit (.int .u8 18), .lit (.int .u8 6), .lit (.int .u8 11), .lit (.int .u8 5), .lit (.int .u8 10), .lit (.int .u8 9)]
def laid_math_bits_deBruijn64tab {H : Type} : DataW H := .agg [.lit (.int .u8 0), .lit (.int .u8 1), .lit (.int .u8 56), .lit (.int .u8 2), .lit (.int .u8 57), .lit (.int .u8 49), .lit (.int .u8 28), .lit (.int .u8 3), .lit (.int .u8 61), .lit (.int .u8 58), .lit (.int .u8 42), .lit (.int .u8 50), .lit (.int .u8 38), .lit (.int .u8 29), .lit (.int .u8 17), .lit (.int .u8 4), .lit (.int .u8 62), .lit (.int .u8 47), .lit (.int .u8 59), .lit (.int .u8 36), .lit (.int .u8 45), .lit (.int .u8 43), .lit (.int .u8 51), .lit (.int .u8 22), .lit (.int .u8 53), .lit (.int .u8 39), .lit (.int .u8 33), .lit (.int .u8 30), .lit (.int .u8 24), .lit (.int .u8 18), .lit (.int .u8 12), .lit (.int .u8 5), .lit (.int .u8 63), .lit (.int .u8 55), .lit (.int .u8 48), .lit (.int .u8 27), .lit (.int .u8 60), .lit (.int .u8 41), .lit (.int .u8 37), .lit (.int .u8 16), .lit (.int .u8 46), .lit (.int .u8 35), .lit (.int .u8 44), .lit (.int .u8 21), .lit (.int .u8 52), .lit (.int .u8 32), .lit (.int .u8 23), .lit (.int .u8 11), .lit (.int .u8 54), .lit (.int .u8 26), .lit (.int .u8 40), .lit (.int .u8 15), .lit (.int .u8 34), .lit (.int .u8 20), .lit (.int .u8 31), .lit (.int .u8 10), .lit (.int .u8 25), .lit (.int .u8 14), .lit (.int .u8 19), .lit (.int .u8 9), .lit (.int .u8 13), .lit (.int .u8 8), .lit (.int .u8 7), .lit (.int .u8 6)]
def laid_internal_strconv_uint64pow10 {H : Type} : DataW H := .agg [.lit (.int .u64 1), .lit (.int .u64 10), .lit (.int .u64 100), .lit (.int .u64 1000), .lit (.int .u64 10000), .lit (.int .u64 100000), .lit (.int .u64 1000000), .lit (.int .u64 10000000), .lit (.int .u64 100000000), .lit (.int .u64 1000000000), .lit (.int .u64 10000000000), .lit (.int .u64 100000000000), .lit (.int .u64 1000000000000), .lit (.int .u64 10000000000000), .lit (.int .u64 100000000000000), .lit (.int .u64 1000000000000000), .lit (.int .u64 10000000000000000), .lit (.int .u64 100000000000000000), .lit (.int .u64 1000000000000000000), .lit (.int .u64 10000000000000000000)]

/-- 'haruspexlaw8.IrPoints': WHATEVER THE INPUT: true; the input reads as it did. -/
def irPointsSpec : ChangeSpec := { name := "irPoints", fn := fun _ => fun
  | [d1, d2, d3] => { results := [.lit (.bool true)], args := [d1, d2, d3] }
  | _ => none }
def irPointsRow : OpenClaim := { program := "ytknkjblifgppjaadoor", sum := "73513abeac428bbcb7f832353a9dc19ac5158f7d59bab345f4aa9ba9bafea0c9", func := "haruspex/haruspexlaw8.IrPoints", spec := "irPoints", inPlace := ["internal/abi.NoEscape", "internal/bytealg.MakeNoZero"], recurses := true, named := ["internal/strconv.uint64pow10", "math/bits.deBruijn32tab", "math/bits.deBruijn64tab"], apart := false, laid := [("math/bits.deBruijn32tab", laid_math_bits_deBruijn32tab), ("math/bits.deBruijn64tab", laid_math_bits_deBruijn64tab), ("internal/strconv.uint64pow10", laid_internal_strconv_uint64pow10)] }
def IrPointsSaid : Prop := irPointsRow.holds Tryd.pinned (OpenSpec.ofChange irPointsSpec)

/-- ITS FALSE NEIGHBOUR: 'it returns false'. Refute it at one input. -/
def irPointsWrong : ChangeSpec := { name := "irPoints", fn := fun _ => fun
  | [d1, d2, d3] => { results := [.lit (.bool false)], args := [d1, d2, d3] }
  | _ => none }
def IrPointsWrongFalsely : Prop := irPointsRow.holds Tryd.pinned (OpenSpec.ofChange irPointsWrong)

/-- 'haruspexlaw8.IrInstr': WHATEVER THE INPUT: true; the input reads as it did. -/
def irInstrSpec : ChangeSpec := { name := "irInstr", fn := fun _ => fun
  | [d] => { results := [.lit (.bool true)], args := [d] }
  | _ => none }
def irInstrRow : OpenClaim := { program := "ytknkjblifgppjaadoor", sum := "73513abeac428bbcb7f832353a9dc19ac5158f7d59bab345f4aa9ba9bafea0c9", func := "haruspex/haruspexlaw8.IrInstr", spec := "irInstr", inPlace := ["internal/abi.NoEscape", "internal/bytealg.MakeNoZero"], recurses := true, named := ["internal/strconv.uint64pow10", "math/bits.deBruijn32tab", "math/bits.deBruijn64tab"], apart := false, laid := [("math/bits.deBruijn32tab", laid_math_bits_deBruijn32tab), ("math/bits.deBruijn64tab", laid_math_bits_deBruijn64tab), ("internal/strconv.uint64pow10", laid_internal_strconv_uint64pow10)] }
def IrInstrSaid : Prop := irInstrRow.holds Tryd.pinned (OpenSpec.ofChange irInstrSpec)

/-- ITS FALSE NEIGHBOUR: 'it returns false'. Refute it at one input. -/
def irInstrWrong : ChangeSpec := { name := "irInstr", fn := fun _ => fun
  | [d] => { results := [.lit (.bool false)], args := [d] }
  | _ => none }
def IrInstrWrongFalsely : Prop := irInstrRow.holds Tryd.pinned (OpenSpec.ofChange irInstrWrong)

/-- 'haruspexlaw8.IrPrint': WHATEVER THE INPUT: true; the input reads as it did. -/
def irPrintSpec : ChangeSpec := { name := "irPrint", fn := fun _ => fun
  | [d] => { results := [.lit (.bool true)], args := [d] }
  | _ => none }
def irPrintRow : OpenClaim := { program := "ytknkjblifgppjaadoor", sum := "73513abeac428bbcb7f832353a9dc19ac5158f7d59bab345f4aa9ba9bafea0c9", func := "haruspex/haruspexlaw8.IrPrint", spec := "irPrint", inPlace := ["internal/abi.NoEscape", "internal/bytealg.MakeNoZero"], recurses := true, named := ["internal/strconv.uint64pow10", "math/bits.deBruijn32tab", "math/bits.deBruijn64tab"], apart := false, laid := [("math/bits.deBruijn32tab", laid_math_bits_deBruijn32tab), ("math/bits.deBruijn64tab", laid_math_bits_deBruijn64tab), ("internal/strconv.uint64pow10", laid_internal_strconv_uint64pow10)] }
def IrPrintSaid : Prop := irPrintRow.holds Tryd.pinned (OpenSpec.ofChange irPrintSpec)

/-- ITS FALSE NEIGHBOUR: 'it returns false'. Refute it at one input. -/
def irPrintWrong : ChangeSpec := { name := "irPrint", fn := fun _ => fun
  | [d] => { results := [.lit (.bool false)], args := [d] }
  | _ => none }
def IrPrintWrongFalsely : Prop := irPrintRow.holds Tryd.pinned (OpenSpec.ofChange irPrintWrong)

/-- 'haruspexlaw8.IrNone': WHATEVER THE INPUT: true; the input reads as it did. -/
def irNoneSpec : ChangeSpec := { name := "irNone", fn := fun _ => fun
  | [] => { results := [.lit (.bool true)], args := [] }
  | _ => none }
def irNoneRow : OpenClaim := { program := "ytknkjblifgppjaadoor", sum := "73513abeac428bbcb7f832353a9dc19ac5158f7d59bab345f4aa9ba9bafea0c9", func := "haruspex/haruspexlaw8.IrNone", spec := "irNone", inPlace := ["internal/abi.NoEscape", "internal/bytealg.MakeNoZero"], named := ["internal/strconv.uint64pow10", "math/bits.deBruijn32tab", "math/bits.deBruijn64tab"], apart := false, laid := [("math/bits.deBruijn32tab", laid_math_bits_deBruijn32tab), ("math/bits.deBruijn64tab", laid_math_bits_deBruijn64tab), ("internal/strconv.uint64pow10", laid_internal_strconv_uint64pow10)] }
def IrNoneSaid : Prop := irNoneRow.holds Tryd.pinned (OpenSpec.ofChange irNoneSpec)

/-- ITS FALSE NEIGHBOUR: 'it returns false'. Refute it at one input. -/
def irNoneWrong : ChangeSpec := { name := "irNone", fn := fun _ => fun
  | [] => { results := [.lit (.bool false)], args := [] }
  | _ => none }
def IrNoneWrongFalsely : Prop := irNoneRow.holds Tryd.pinned (OpenSpec.ofChange irNoneWrong)

/-- 'haruspexlaw8.IrRound': WHATEVER THE INPUT: true; the input reads as it did. -/
def irRoundSpec : ChangeSpec := { name := "irRound", fn := fun _ => fun
  | [d] => { results := [.lit (.bool true)], args := [d] }
  | _ => none }
def irRoundRow : OpenClaim := { program := "ytknkjblifgppjaadoor", sum := "73513abeac428bbcb7f832353a9dc19ac5158f7d59bab345f4aa9ba9bafea0c9", func := "haruspex/haruspexlaw8.IrRound", spec := "irRound", inPlace := ["internal/abi.NoEscape", "internal/bytealg.MakeNoZero"], named := ["internal/strconv.uint64pow10", "math/bits.deBruijn32tab", "math/bits.deBruijn64tab"], apart := false, laid := [("math/bits.deBruijn32tab", laid_math_bits_deBruijn32tab), ("math/bits.deBruijn64tab", laid_math_bits_deBruijn64tab), ("internal/strconv.uint64pow10", laid_internal_strconv_uint64pow10)] }
def IrRoundSaid : Prop := irRoundRow.holds Tryd.pinned (OpenSpec.ofChange irRoundSpec)

/-- ITS FALSE NEIGHBOUR: 'it returns false'. Refute it at one input. -/
def irRoundWrong : ChangeSpec := { name := "irRound", fn := fun _ => fun
  | [d] => { results := [.lit (.bool false)], args := [d] }
  | _ => none }
def IrRoundWrongFalsely : Prop := irRoundRow.holds Tryd.pinned (OpenSpec.ofChange irRoundWrong)

/-- 'haruspexlaw8.IrNext': WHATEVER THE INPUT: true; the input reads as it did. -/
def irNextSpec : ChangeSpec := { name := "irNext", fn := fun _ => fun
  | [d] => { results := [.lit (.bool true)], args := [d] }
  | _ => none }
def irNextRow : OpenClaim := { program := "ytknkjblifgppjaadoor", sum := "73513abeac428bbcb7f832353a9dc19ac5158f7d59bab345f4aa9ba9bafea0c9", func := "haruspex/haruspexlaw8.IrNext", spec := "irNext", inPlace := ["internal/abi.NoEscape", "internal/bytealg.MakeNoZero"], named := ["internal/strconv.uint64pow10", "math/bits.deBruijn32tab", "math/bits.deBruijn64tab"], apart := false, laid := [("math/bits.deBruijn32tab", laid_math_bits_deBruijn32tab), ("math/bits.deBruijn64tab", laid_math_bits_deBruijn64tab), ("internal/strconv.uint64pow10", laid_internal_strconv_uint64pow10)] }
def IrNextSaid : Prop := irNextRow.holds Tryd.pinned (OpenSpec.ofChange irNextSpec)

/-- ITS FALSE NEIGHBOUR: 'it returns false'. Refute it at one input. -/
def irNextWrong : ChangeSpec := { name := "irNext", fn := fun _ => fun
  | [d] => { results := [.lit (.bool false)], args := [d] }
  | _ => none }
def IrNextWrongFalsely : Prop := irNextRow.holds Tryd.pinned (OpenSpec.ofChange irNextWrong)

/- THE SECOND FORM. 'bulk': how many values and letters a reading holds, each counted each time it is reached (what is shared counts as often as it is met; a slice's spare places count too). A statement '..UptoSaid' is the law's where the arguments, and the package variables that the reading takes, are together of bulk at most 1048576: NARROWER than '..Said'. Prove '..Said' where nothing that the law and all that it calls make is longer than what came in: it says more and counts as full. Else prove '..UptoSaid'. A law counts once. -/
mutual
def uptoBulk {H : Type} : DataW H → Nat
  | .lit (.string bytes) => bytes.length + 1
  | .lit _ => 1
  | .nil => 1
  | .ptr d => uptoBulk d + 1
  | .slice elems spare => uptoBulkAll elems + uptoBulkAll spare + 1
  | .agg parts => uptoBulkAll parts + 1
  | .iface _ d => uptoBulk d + 1
  | .map entries => uptoBulkEntries entries + 1
  | .held _ => 1
def uptoBulkAll {H : Type} : List (DataW H) → Nat
  | [] => 0
  | d :: r => uptoBulk d + uptoBulkAll r
def uptoBulkEntries {H : Type} : List (Lit × DataW H) → Nat
  | [] => 0
  | x :: r => uptoBulkEntry x + uptoBulkEntries r
def uptoBulkEntry {H : Type} : Lit × DataW H → Nat
  | (.string bytes, d) => bytes.length + uptoBulk d + 1
  | (_, d) => uptoBulk d + 1
 end
def uptoSmall : (H : Type) → List (DataW H) → Bool := fun _ ds => decide (uptoBulkAll ds ≤ 1048576)
def OpenSpec.upto (s : _root_.Go.ChangeSpec) : _root_.Go.OpenSpec := { _root_.Go.OpenSpec.ofChange s with cond := some uptoSmall }

/-- 'haruspexlaw8.IrPoints', WHERE WHAT IT READS IS OF BULK AT MOST 1048576: true; the input reads as it did. -/
def irPointsUptoRow : OpenClaim := { program := "ytknkjblifgppjaadoor", sum := "73513abeac428bbcb7f832353a9dc19ac5158f7d59bab345f4aa9ba9bafea0c9", func := "haruspex/haruspexlaw8.IrPoints", spec := "irPoints", inPlace := ["internal/abi.NoEscape", "internal/bytealg.MakeNoZero"], recurses := true, named := ["internal/strconv.uint64pow10", "math/bits.deBruijn32tab", "math/bits.deBruijn64tab"], apart := false, laid := [("math/bits.deBruijn32tab", laid_math_bits_deBruijn32tab), ("math/bits.deBruijn64tab", laid_math_bits_deBruijn64tab), ("internal/strconv.uint64pow10", laid_internal_strconv_uint64pow10)], narrowed := true }
def IrPointsUptoSaid : Prop := irPointsUptoRow.holds Tryd.pinned (OpenSpec.upto irPointsSpec)

/-- 'haruspexlaw8.IrInstr', WHERE WHAT IT READS IS OF BULK AT MOST 1048576: true; the input reads as it did. -/
def irInstrUptoRow : OpenClaim := { program := "ytknkjblifgppjaadoor", sum := "73513abeac428bbcb7f832353a9dc19ac5158f7d59bab345f4aa9ba9bafea0c9", func := "haruspex/haruspexlaw8.IrInstr", spec := "irInstr", inPlace := ["internal/abi.NoEscape", "internal/bytealg.MakeNoZero"], recurses := true, named := ["internal/strconv.uint64pow10", "math/bits.deBruijn32tab", "math/bits.deBruijn64tab"], apart := false, laid := [("math/bits.deBruijn32tab", laid_math_bits_deBruijn32tab), ("math/bits.deBruijn64tab", laid_math_bits_deBruijn64tab), ("internal/strconv.uint64pow10", laid_internal_strconv_uint64pow10)], narrowed := true }
def IrInstrUptoSaid : Prop := irInstrUptoRow.holds Tryd.pinned (OpenSpec.upto irInstrSpec)

/-- 'haruspexlaw8.IrPrint', WHERE WHAT IT READS IS OF BULK AT MOST 1048576: true; the input reads as it did. -/
def irPrintUptoRow : OpenClaim := { program := "ytknkjblifgppjaadoor", sum := "73513abeac428bbcb7f832353a9dc19ac5158f7d59bab345f4aa9ba9bafea0c9", func := "haruspex/haruspexlaw8.IrPrint", spec := "irPrint", inPlace := ["internal/abi.NoEscape", "internal/bytealg.MakeNoZero"], recurses := true, named := ["internal/strconv.uint64pow10", "math/bits.deBruijn32tab", "math/bits.deBruijn64tab"], apart := false, laid := [("math/bits.deBruijn32tab", laid_math_bits_deBruijn32tab), ("math/bits.deBruijn64tab", laid_math_bits_deBruijn64tab), ("internal/strconv.uint64pow10", laid_internal_strconv_uint64pow10)], narrowed := true }
def IrPrintUptoSaid : Prop := irPrintUptoRow.holds Tryd.pinned (OpenSpec.upto irPrintSpec)

/-- 'haruspexlaw8.IrNone', WHERE WHAT IT READS IS OF BULK AT MOST 1048576: true; the input reads as it did. -/
def irNoneUptoRow : OpenClaim := { program := "ytknkjblifgppjaadoor", sum := "73513abeac428bbcb7f832353a9dc19ac5158f7d59bab345f4aa9ba9bafea0c9", func := "haruspex/haruspexlaw8.IrNone", spec := "irNone", inPlace := ["internal/abi.NoEscape", "internal/bytealg.MakeNoZero"], named := ["internal/strconv.uint64pow10", "math/bits.deBruijn32tab", "math/bits.deBruijn64tab"], apart := false, laid := [("math/bits.deBruijn32tab", laid_math_bits_deBruijn32tab), ("math/bits.deBruijn64tab", laid_math_bits_deBruijn64tab), ("internal/strconv.uint64pow10", laid_internal_strconv_uint64pow10)], narrowed := true }
def IrNoneUptoSaid : Prop := irNoneUptoRow.holds Tryd.pinned (OpenSpec.upto irNoneSpec)

/-- 'haruspexlaw8.IrRound', WHERE WHAT IT READS IS OF BULK AT MOST 1048576: true; the input reads as it did. -/
def irRoundUptoRow : OpenClaim := { program := "ytknkjblifgppjaadoor", sum := "73513abeac428bbcb7f832353a9dc19ac5158f7d59bab345f4aa9ba9bafea0c9", func := "haruspex/haruspexlaw8.IrRound", spec := "irRound", inPlace := ["internal/abi.NoEscape", "internal/bytealg.MakeNoZero"], named := ["internal/strconv.uint64pow10", "math/bits.deBruijn32tab", "math/bits.deBruijn64tab"], apart := false, laid := [("math/bits.deBruijn32tab", laid_math_bits_deBruijn32tab), ("math/bits.deBruijn64tab", laid_math_bits_deBruijn64tab), ("internal/strconv.uint64pow10", laid_internal_strconv_uint64pow10)], narrowed := true }
def IrRoundUptoSaid : Prop := irRoundUptoRow.holds Tryd.pinned (OpenSpec.upto irRoundSpec)

/-- 'haruspexlaw8.IrNext', WHERE WHAT IT READS IS OF BULK AT MOST 1048576: true; the input reads as it did. -/
def irNextUptoRow : OpenClaim := { program := "ytknkjblifgppjaadoor", sum := "73513abeac428bbcb7f832353a9dc19ac5158f7d59bab345f4aa9ba9bafea0c9", func := "haruspex/haruspexlaw8.IrNext", spec := "irNext", inPlace := ["internal/abi.NoEscape", "internal/bytealg.MakeNoZero"], named := ["internal/strconv.uint64pow10", "math/bits.deBruijn32tab", "math/bits.deBruijn64tab"], apart := false, laid := [("math/bits.deBruijn32tab", laid_math_bits_deBruijn32tab), ("math/bits.deBruijn64tab", laid_math_bits_deBruijn64tab), ("internal/strconv.uint64pow10", laid_internal_strconv_uint64pow10)], narrowed := true }
def IrNextUptoSaid : Prop := irNextUptoRow.holds Tryd.pinned (OpenSpec.upto irNextSpec)

end Rows
end Go.Proofs.YtknkjblifgppjaaDoor
