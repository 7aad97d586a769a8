/-
  NARROWER THAN 'FOR EVERY INPUT', by the rows' own cells (each row's printed sentence says how): BigintNormal: laid · BigintOf: laid · BigintSum: laid · BigintProduct: laid · BigintDivision: laid · BigintGCD: laid · BigintText: laid · BigintRing: laid · BigintRemainder: laid · BigintMemory: laid.
  DERIVED. THE GIVEN ROWS OF THIS SEAT. 10 by the template 'for every input the law returns true; each argument reads behind the call as it read before'; 0 by the template 'total and deterministic' (their statements: YtndkcimdbidgaaaDoorTotals.lean).
  GIVEN WITH THE SEED: the statements are not yours to turn. If you find one false, say at which input.
  Laid BY PROGRAM, IN A SANDBOX (cutbox-rows.mjs): the forced cells as the released guide's own fill.sh prints them over the translation ee33be6441234d55… (all of the seat's roots in one cut). By AI agents, Wed Nov 11 2026. No macro, syntax, notation, axiom, sorry.
-/
import Derived.Test.YtndkcimdbidgaaaDoorChecked
import GoSem.Claim
import GoSem.ClaimJoined
import GoSem.ClaimMapViews
import Derived.JoinedTies
import Derived.KernelRfl
namespace Go.Proofs.YtndkcimdbidgaaaDoor
/- THE CELL 'sum', in the pinned program and in every row, IS THE sha256 OF THE DUMP (.gsa) THAT YtndkcimdbidgaaaDoorProg.lean LOADS. Nothing in Lean hashes anything: it is a label: what it is worth is what the hold of that sum in a sandbox is worth. -/
noncomputable def Tryd.pinned : Pinned := { name := "ytndkcimdbidgaaadoor", sum := "ee33be6441234d552d80ace65eff8d677c8c9f00b7f0e3052730b0b3a96b2ed8", checked := Tryd.checked }
namespace Rows
def none {H : Type} : Left H := { results := [], args := [] }

/- WHAT THE LISTED PACKAGE-LEVEL VARIABLES READ AS WHEN THE CALL BEGINS. Each datum BY PROGRAM (the guide's laid-datum.mjs) off the statement by which the dump's own 'gosem.cut.vars' lays the variable. In a bare row this is a premise. The card (YtndkcimdbidgaaaDoorCards.lean) ties it to the program's text. -/
def laid_math_bits_deBruijn32tab {H : Type} : DataW H := .agg [.lit (.int .u8 0), .lit (.int .u8 1), .lit (.int .u8 28), .lit (.int .u8 2), .lit (.int .u8 29), .lit (.int .u8 14), .lit (.int .u8 24), .lit (.int .u8 3), .lit (.int .u8 30), .lit (.int .u8 22), .lit (.int .u8 20), .lit (.int .u8 15), .lit (.int .u8 25), .lit (.int .u8 17), .lit (.int .u8 4), .lit (.int .u8 8), .lit (.int .u8 31), .lit (.int .u8 27), .lit (.int .u8 13), .lit (.int .u8 23), .lit (.int .u8 21), .lit (.int .u8 19), .lit (.int .u8 16), .lit (.int .u8 7), .lit (.int .u8 26), .lit (.int .u8 12), .lit (.int .u8 18), .lit (.int .u8 6), .lit (.int .u8 11), .lit (.int .u8 5), .lit (.int .u8 10), .lit (.int .u8 9)]
def laid_math_bits_deBruijn64tab {H : Type} : DataW H := .agg [.lit (.int .u8 0), .lit (.int .u8 1), .lit (.int .u8 56), .lit (.int .u8 2), .lit (.int .u8 57), .lit (.int .u8 49), .lit (.int .u8 28), .lit (.int .u8 3), .lit (.int .u8 61), .lit (.int .u8 58), .lit (.int .u8 42), .lit (.int .u8 50), .lit (.int .u8 38), .lit (.int .u8 29), .lit (.int .u8 17), .lit (.int .u8 4), .lit (.int .u8 62), .lit (.int .u8 47), .lit (.int .u8 59), .lit (.int .u8 36), .lit (.int .u8 45), .lit (.int .u8 43), .lit (.int .u8 51), .lit (.int .u8 22), .lit (.int .u8 53), .lit (.int .u8 39), .lit (.int .u8 33), .lit (.int .u8 30), .lit (.int .u8 24), .lit (.int .u8 18), .lit (.int .u8 12), .lit (.int .u8 5), .lit (.int .u8 63), .lit (.int .u8 55), .lit (.int .u8 48), .lit (.int .u8 27), .lit (.int .u8 60), .lit (.int .u8 41), .lit (.int .u8 37), .lit (.int .u8 16), .lit (.int .u8 46), .lit (.int .u8 35), .lit (.int .u8 44), .lit (.int .u8 21), .lit (.int .u8 52), .lit (.int .u8 32), .lit (.int .u8 23), .lit (.int .u8 11), .lit (.int .u8 54), .lit (.int .u8 26), .lit (.int .u8 40), .lit (.int .u8 15), .lit (.int .u8 34), .lit (.int .u8 20), .lit (.int .u8 31), .lit (.int .u8 10), .lit (.int .u8 25), .lit (.int .u8 14), .lit (.int .u8 19), .lit (.int .u8 9), .lit (.int .u8 13), .lit (.int .u8 8), .lit (.int .u8 7), .lit (.int .u8 6)]
def laid_internal_strconv_uint64pow10 {H : Type} : DataW H := .agg [.lit (.int .u64 1), .lit (.int .u64 10), .lit (.int .u64 100), .lit (.int .u64 1000), .lit (.int .u64 10000), .lit (.int .u64 100000), .lit (.int .u64 1000000), .lit (.int .u64 10000000), .lit (.int .u64 100000000), .lit (.int .u64 1000000000), .lit (.int .u64 10000000000), .lit (.int .u64 100000000000), .lit (.int .u64 1000000000000), .lit (.int .u64 10000000000000), .lit (.int .u64 100000000000000), .lit (.int .u64 1000000000000000), .lit (.int .u64 10000000000000000), .lit (.int .u64 100000000000000000), .lit (.int .u64 1000000000000000000), .lit (.int .u64 10000000000000000000)]

/-- 'disjointlaw02.BigintNormal': WHATEVER THE INPUT: true; the input reads as it did. -/
def bigintNormalSpec : ChangeSpec := { name := "bigintNormal", fn := fun _ => fun
  | [d] => { results := [.lit (.bool true)], args := [d] }
  | _ => none }
def bigintNormalRow : OpenClaim := { program := "ytndkcimdbidgaaadoor", sum := "ee33be6441234d552d80ace65eff8d677c8c9f00b7f0e3052730b0b3a96b2ed8", func := "disjoint/disjointlaw02.BigintNormal", spec := "bigintNormal", inPlace := ["internal/abi.NoEscape", "internal/bytealg.MakeNoZero"], named := ["internal/strconv.uint64pow10", "math/bits.deBruijn32tab", "math/bits.deBruijn64tab"], apart := false, laid := [("math/bits.deBruijn32tab", laid_math_bits_deBruijn32tab), ("math/bits.deBruijn64tab", laid_math_bits_deBruijn64tab), ("internal/strconv.uint64pow10", laid_internal_strconv_uint64pow10)] }
def BigintNormalSaid : Prop := bigintNormalRow.holds Tryd.pinned (OpenSpec.ofChange bigintNormalSpec)

/-- ITS FALSE NEIGHBOUR: 'it returns false'. Refute it at one input. -/
def bigintNormalWrong : ChangeSpec := { name := "bigintNormal", fn := fun _ => fun
  | [d] => { results := [.lit (.bool false)], args := [d] }
  | _ => none }
def BigintNormalWrongFalsely : Prop := bigintNormalRow.holds Tryd.pinned (OpenSpec.ofChange bigintNormalWrong)

/-- 'disjointlaw02.BigintOf': WHATEVER THE INPUT: true; the input reads as it did. -/
def bigintOfSpec : ChangeSpec := { name := "bigintOf", fn := fun _ => fun
  | [d] => { results := [.lit (.bool true)], args := [d] }
  | _ => none }
def bigintOfRow : OpenClaim := { program := "ytndkcimdbidgaaadoor", sum := "ee33be6441234d552d80ace65eff8d677c8c9f00b7f0e3052730b0b3a96b2ed8", func := "disjoint/disjointlaw02.BigintOf", spec := "bigintOf", inPlace := ["internal/abi.NoEscape", "internal/bytealg.MakeNoZero"], named := ["internal/strconv.uint64pow10", "math/bits.deBruijn32tab", "math/bits.deBruijn64tab"], apart := false, laid := [("math/bits.deBruijn32tab", laid_math_bits_deBruijn32tab), ("math/bits.deBruijn64tab", laid_math_bits_deBruijn64tab), ("internal/strconv.uint64pow10", laid_internal_strconv_uint64pow10)] }
def BigintOfSaid : Prop := bigintOfRow.holds Tryd.pinned (OpenSpec.ofChange bigintOfSpec)

/-- ITS FALSE NEIGHBOUR: 'it returns false'. Refute it at one input. -/
def bigintOfWrong : ChangeSpec := { name := "bigintOf", fn := fun _ => fun
  | [d] => { results := [.lit (.bool false)], args := [d] }
  | _ => none }
def BigintOfWrongFalsely : Prop := bigintOfRow.holds Tryd.pinned (OpenSpec.ofChange bigintOfWrong)

/-- 'disjointlaw02.BigintSum': WHATEVER THE INPUT: true; the input reads as it did. -/
def bigintSumSpec : ChangeSpec := { name := "bigintSum", fn := fun _ => fun
  | [d1, d2] => { results := [.lit (.bool true)], args := [d1, d2] }
  | _ => none }
def bigintSumRow : OpenClaim := { program := "ytndkcimdbidgaaadoor", sum := "ee33be6441234d552d80ace65eff8d677c8c9f00b7f0e3052730b0b3a96b2ed8", func := "disjoint/disjointlaw02.BigintSum", spec := "bigintSum", inPlace := ["internal/abi.NoEscape", "internal/bytealg.MakeNoZero"], named := ["internal/strconv.uint64pow10", "math/bits.deBruijn32tab", "math/bits.deBruijn64tab"], apart := false, laid := [("math/bits.deBruijn32tab", laid_math_bits_deBruijn32tab), ("math/bits.deBruijn64tab", laid_math_bits_deBruijn64tab), ("internal/strconv.uint64pow10", laid_internal_strconv_uint64pow10)] }
def BigintSumSaid : Prop := bigintSumRow.holds Tryd.pinned (OpenSpec.ofChange bigintSumSpec)

/-- ITS FALSE NEIGHBOUR: 'it returns false'. Refute it at one input. -/
def bigintSumWrong : ChangeSpec := { name := "bigintSum", fn := fun _ => fun
  | [d1, d2] => { results := [.lit (.bool false)], args := [d1, d2] }
  | _ => none }
def BigintSumWrongFalsely : Prop := bigintSumRow.holds Tryd.pinned (OpenSpec.ofChange bigintSumWrong)

/-- 'disjointlaw02.BigintProduct': WHATEVER THE INPUT: true; the input reads as it did. -/
def bigintProductSpec : ChangeSpec := { name := "bigintProduct", fn := fun _ => fun
  | [d1, d2] => { results := [.lit (.bool true)], args := [d1, d2] }
  | _ => none }
def bigintProductRow : OpenClaim := { program := "ytndkcimdbidgaaadoor", sum := "ee33be6441234d552d80ace65eff8d677c8c9f00b7f0e3052730b0b3a96b2ed8", func := "disjoint/disjointlaw02.BigintProduct", spec := "bigintProduct", inPlace := ["internal/abi.NoEscape", "internal/bytealg.MakeNoZero"], named := ["internal/strconv.uint64pow10", "math/bits.deBruijn32tab", "math/bits.deBruijn64tab"], apart := false, laid := [("math/bits.deBruijn32tab", laid_math_bits_deBruijn32tab), ("math/bits.deBruijn64tab", laid_math_bits_deBruijn64tab), ("internal/strconv.uint64pow10", laid_internal_strconv_uint64pow10)] }
def BigintProductSaid : Prop := bigintProductRow.holds Tryd.pinned (OpenSpec.ofChange bigintProductSpec)

/-- ITS FALSE NEIGHBOUR: 'it returns false'. Refute it at one input. -/
def bigintProductWrong : ChangeSpec := { name := "bigintProduct", fn := fun _ => fun
  | [d1, d2] => { results := [.lit (.bool false)], args := [d1, d2] }
  | _ => none }
def BigintProductWrongFalsely : Prop := bigintProductRow.holds Tryd.pinned (OpenSpec.ofChange bigintProductWrong)

/-- 'disjointlaw02.BigintDivision': WHATEVER THE INPUT: true; the input reads as it did. -/
def bigintDivisionSpec : ChangeSpec := { name := "bigintDivision", fn := fun _ => fun
  | [d1, d2] => { results := [.lit (.bool true)], args := [d1, d2] }
  | _ => none }
def bigintDivisionRow : OpenClaim := { program := "ytndkcimdbidgaaadoor", sum := "ee33be6441234d552d80ace65eff8d677c8c9f00b7f0e3052730b0b3a96b2ed8", func := "disjoint/disjointlaw02.BigintDivision", spec := "bigintDivision", inPlace := ["internal/abi.NoEscape", "internal/bytealg.MakeNoZero"], named := ["internal/strconv.uint64pow10", "math/bits.deBruijn32tab", "math/bits.deBruijn64tab"], apart := false, laid := [("math/bits.deBruijn32tab", laid_math_bits_deBruijn32tab), ("math/bits.deBruijn64tab", laid_math_bits_deBruijn64tab), ("internal/strconv.uint64pow10", laid_internal_strconv_uint64pow10)] }
def BigintDivisionSaid : Prop := bigintDivisionRow.holds Tryd.pinned (OpenSpec.ofChange bigintDivisionSpec)

/-- ITS FALSE NEIGHBOUR: 'it returns false'. Refute it at one input. -/
def bigintDivisionWrong : ChangeSpec := { name := "bigintDivision", fn := fun _ => fun
  | [d1, d2] => { results := [.lit (.bool false)], args := [d1, d2] }
  | _ => none }
def BigintDivisionWrongFalsely : Prop := bigintDivisionRow.holds Tryd.pinned (OpenSpec.ofChange bigintDivisionWrong)

/-- 'disjointlaw02.BigintGCD': WHATEVER THE INPUT: true; the input reads as it did. -/
def bigintGCDSpec : ChangeSpec := { name := "bigintGCD", fn := fun _ => fun
  | [d1, d2] => { results := [.lit (.bool true)], args := [d1, d2] }
  | _ => none }
def bigintGCDRow : OpenClaim := { program := "ytndkcimdbidgaaadoor", sum := "ee33be6441234d552d80ace65eff8d677c8c9f00b7f0e3052730b0b3a96b2ed8", func := "disjoint/disjointlaw02.BigintGCD", spec := "bigintGCD", inPlace := ["internal/abi.NoEscape", "internal/bytealg.MakeNoZero"], named := ["internal/strconv.uint64pow10", "math/bits.deBruijn32tab", "math/bits.deBruijn64tab"], apart := false, laid := [("math/bits.deBruijn32tab", laid_math_bits_deBruijn32tab), ("math/bits.deBruijn64tab", laid_math_bits_deBruijn64tab), ("internal/strconv.uint64pow10", laid_internal_strconv_uint64pow10)] }
def BigintGCDSaid : Prop := bigintGCDRow.holds Tryd.pinned (OpenSpec.ofChange bigintGCDSpec)

/-- ITS FALSE NEIGHBOUR: 'it returns false'. Refute it at one input. -/
def bigintGCDWrong : ChangeSpec := { name := "bigintGCD", fn := fun _ => fun
  | [d1, d2] => { results := [.lit (.bool false)], args := [d1, d2] }
  | _ => none }
def BigintGCDWrongFalsely : Prop := bigintGCDRow.holds Tryd.pinned (OpenSpec.ofChange bigintGCDWrong)

/-- 'disjointlaw02.BigintText': WHATEVER THE INPUT: true; the input reads as it did. -/
def bigintTextSpec : ChangeSpec := { name := "bigintText", fn := fun _ => fun
  | [d1, d2] => { results := [.lit (.bool true)], args := [d1, d2] }
  | _ => none }
def bigintTextRow : OpenClaim := { program := "ytndkcimdbidgaaadoor", sum := "ee33be6441234d552d80ace65eff8d677c8c9f00b7f0e3052730b0b3a96b2ed8", func := "disjoint/disjointlaw02.BigintText", spec := "bigintText", inPlace := ["internal/abi.NoEscape", "internal/bytealg.MakeNoZero"], named := ["internal/strconv.uint64pow10", "math/bits.deBruijn32tab", "math/bits.deBruijn64tab"], apart := false, laid := [("math/bits.deBruijn32tab", laid_math_bits_deBruijn32tab), ("math/bits.deBruijn64tab", laid_math_bits_deBruijn64tab), ("internal/strconv.uint64pow10", laid_internal_strconv_uint64pow10)] }
def BigintTextSaid : Prop := bigintTextRow.holds Tryd.pinned (OpenSpec.ofChange bigintTextSpec)

/-- ITS FALSE NEIGHBOUR: 'it returns false'. Refute it at one input. -/
def bigintTextWrong : ChangeSpec := { name := "bigintText", fn := fun _ => fun
  | [d1, d2] => { results := [.lit (.bool false)], args := [d1, d2] }
  | _ => none }
def BigintTextWrongFalsely : Prop := bigintTextRow.holds Tryd.pinned (OpenSpec.ofChange bigintTextWrong)

/-- 'disjointlaw02.BigintRing': WHATEVER THE INPUT: true; the input reads as it did. -/
def bigintRingSpec : ChangeSpec := { name := "bigintRing", fn := fun _ => fun
  | [d1, d2, d3] => { results := [.lit (.bool true)], args := [d1, d2, d3] }
  | _ => none }
def bigintRingRow : OpenClaim := { program := "ytndkcimdbidgaaadoor", sum := "ee33be6441234d552d80ace65eff8d677c8c9f00b7f0e3052730b0b3a96b2ed8", func := "disjoint/disjointlaw02.BigintRing", spec := "bigintRing", inPlace := ["internal/abi.NoEscape", "internal/bytealg.MakeNoZero"], named := ["internal/strconv.uint64pow10", "math/bits.deBruijn32tab", "math/bits.deBruijn64tab"], apart := false, laid := [("math/bits.deBruijn32tab", laid_math_bits_deBruijn32tab), ("math/bits.deBruijn64tab", laid_math_bits_deBruijn64tab), ("internal/strconv.uint64pow10", laid_internal_strconv_uint64pow10)] }
def BigintRingSaid : Prop := bigintRingRow.holds Tryd.pinned (OpenSpec.ofChange bigintRingSpec)

/-- ITS FALSE NEIGHBOUR: 'it returns false'. Refute it at one input. -/
def bigintRingWrong : ChangeSpec := { name := "bigintRing", fn := fun _ => fun
  | [d1, d2, d3] => { results := [.lit (.bool false)], args := [d1, d2, d3] }
  | _ => none }
def BigintRingWrongFalsely : Prop := bigintRingRow.holds Tryd.pinned (OpenSpec.ofChange bigintRingWrong)

/-- 'disjointlaw02.BigintRemainder': WHATEVER THE INPUT: true; the input reads as it did. -/
def bigintRemainderSpec : ChangeSpec := { name := "bigintRemainder", fn := fun _ => fun
  | [d1, d2] => { results := [.lit (.bool true)], args := [d1, d2] }
  | _ => none }
def bigintRemainderRow : OpenClaim := { program := "ytndkcimdbidgaaadoor", sum := "ee33be6441234d552d80ace65eff8d677c8c9f00b7f0e3052730b0b3a96b2ed8", func := "disjoint/disjointlaw02.BigintRemainder", spec := "bigintRemainder", inPlace := ["internal/abi.NoEscape", "internal/bytealg.MakeNoZero"], named := ["internal/strconv.uint64pow10", "math/bits.deBruijn32tab", "math/bits.deBruijn64tab"], apart := false, laid := [("math/bits.deBruijn32tab", laid_math_bits_deBruijn32tab), ("math/bits.deBruijn64tab", laid_math_bits_deBruijn64tab), ("internal/strconv.uint64pow10", laid_internal_strconv_uint64pow10)] }
def BigintRemainderSaid : Prop := bigintRemainderRow.holds Tryd.pinned (OpenSpec.ofChange bigintRemainderSpec)

/-- ITS FALSE NEIGHBOUR: 'it returns false'. Refute it at one input. -/
def bigintRemainderWrong : ChangeSpec := { name := "bigintRemainder", fn := fun _ => fun
  | [d1, d2] => { results := [.lit (.bool false)], args := [d1, d2] }
  | _ => none }
def BigintRemainderWrongFalsely : Prop := bigintRemainderRow.holds Tryd.pinned (OpenSpec.ofChange bigintRemainderWrong)

/-- 'disjointlaw02.BigintMemory': WHATEVER THE INPUT: true; the input reads as it did. -/
def bigintMemorySpec : ChangeSpec := { name := "bigintMemory", fn := fun _ => fun
  | [d1, d2] => { results := [.lit (.bool true)], args := [d1, d2] }
  | _ => none }
def bigintMemoryRow : OpenClaim := { program := "ytndkcimdbidgaaadoor", sum := "ee33be6441234d552d80ace65eff8d677c8c9f00b7f0e3052730b0b3a96b2ed8", func := "disjoint/disjointlaw02.BigintMemory", spec := "bigintMemory", inPlace := ["internal/abi.NoEscape", "internal/bytealg.MakeNoZero"], named := ["internal/strconv.uint64pow10", "math/bits.deBruijn32tab", "math/bits.deBruijn64tab"], apart := false, laid := [("math/bits.deBruijn32tab", laid_math_bits_deBruijn32tab), ("math/bits.deBruijn64tab", laid_math_bits_deBruijn64tab), ("internal/strconv.uint64pow10", laid_internal_strconv_uint64pow10)] }
def BigintMemorySaid : Prop := bigintMemoryRow.holds Tryd.pinned (OpenSpec.ofChange bigintMemorySpec)

/-- ITS FALSE NEIGHBOUR: 'it returns false'. Refute it at one input. -/
def bigintMemoryWrong : ChangeSpec := { name := "bigintMemory", fn := fun _ => fun
  | [d1, d2] => { results := [.lit (.bool false)], args := [d1, d2] }
  | _ => none }
def BigintMemoryWrongFalsely : Prop := bigintMemoryRow.holds Tryd.pinned (OpenSpec.ofChange bigintMemoryWrong)

/- THE SECOND FORM. 'bulk': how many values and letters a reading holds, each counted each time it is reached (what is shared counts as often as it is met; a slice's spare places count too). A statement '..UptoSaid' is the law's where the arguments, and the package variables that the reading takes, are together of bulk at most 1048576: NARROWER than '..Said'. Prove '..Said' where nothing that the law and all that it calls make is longer than what came in: it says more and counts as full. Else prove '..UptoSaid'. A law counts once. -/
mutual
def uptoBulk {H : Type} : DataW H → Nat
  | .lit (.string bytes) => bytes.length + 1
  | .lit _ => 1
  | .nil => 1
  | .ptr d => uptoBulk d + 1
  | .slice elems spare => uptoBulkAll elems + uptoBulkAll spare + 1
  | .agg parts => uptoBulkAll parts + 1
  | .iface _ d => uptoBulk d + 1
  | .map entries => uptoBulkEntries entries + 1
  | .held _ => 1
def uptoBulkAll {H : Type} : List (DataW H) → Nat
  | [] => 0
  | d :: r => uptoBulk d + uptoBulkAll r
def uptoBulkEntries {H : Type} : List (Lit × DataW H) → Nat
  | [] => 0
  | x :: r => uptoBulkEntry x + uptoBulkEntries r
def uptoBulkEntry {H : Type} : Lit × DataW H → Nat
  | (.string bytes, d) => bytes.length + uptoBulk d + 1
  | (_, d) => uptoBulk d + 1
 end
def uptoSmall : (H : Type) → List (DataW H) → Bool := fun _ ds => decide (uptoBulkAll ds ≤ 1048576)
def OpenSpec.upto (s : _root_.Go.ChangeSpec) : _root_.Go.OpenSpec := { _root_.Go.OpenSpec.ofChange s with cond := some uptoSmall }

/-- 'disjointlaw02.BigintNormal', WHERE WHAT IT READS IS OF BULK AT MOST 1048576: true; the input reads as it did. -/
def bigintNormalUptoRow : OpenClaim := { program := "ytndkcimdbidgaaadoor", sum := "ee33be6441234d552d80ace65eff8d677c8c9f00b7f0e3052730b0b3a96b2ed8", func := "disjoint/disjointlaw02.BigintNormal", spec := "bigintNormal", inPlace := ["internal/abi.NoEscape", "internal/bytealg.MakeNoZero"], named := ["internal/strconv.uint64pow10", "math/bits.deBruijn32tab", "math/bits.deBruijn64tab"], apart := false, laid := [("math/bits.deBruijn32tab", laid_math_bits_deBruijn32tab), ("math/bits.deBruijn64tab", laid_math_bits_deBruijn64tab), ("internal/strconv.uint64pow10", laid_internal_strconv_uint64pow10)], narrowed := true }
def BigintNormalUptoSaid : Prop := bigintNormalUptoRow.holds Tryd.pinned (OpenSpec.upto bigintNormalSpec)

/-- 'disjointlaw02.BigintOf', WHERE WHAT IT READS IS OF BULK AT MOST 1048576: true; the input reads as it did. -/
def bigintOfUptoRow : OpenClaim := { program := "ytndkcimdbidgaaadoor", sum := "ee33be6441234d552d80ace65eff8d677c8c9f00b7f0e3052730b0b3a96b2ed8", func := "disjoint/disjointlaw02.BigintOf", spec := "bigintOf", inPlace := ["internal/abi.NoEscape", "internal/bytealg.MakeNoZero"], named := ["internal/strconv.uint64pow10", "math/bits.deBruijn32tab", "math/bits.deBruijn64tab"], apart := false, laid := [("math/bits.deBruijn32tab", laid_math_bits_deBruijn32tab), ("math/bits.deBruijn64tab", laid_math_bits_deBruijn64tab), ("internal/strconv.uint64pow10", laid_internal_strconv_uint64pow10)], narrowed := true }
def BigintOfUptoSaid : Prop := bigintOfUptoRow.holds Tryd.pinned (OpenSpec.upto bigintOfSpec)

/-- 'disjointlaw02.BigintSum', WHERE WHAT IT READS IS OF BULK AT MOST 1048576: true; the input reads as it did. -/
def bigintSumUptoRow : OpenClaim := { program := "ytndkcimdbidgaaadoor", sum := "ee33be6441234d552d80ace65eff8d677c8c9f00b7f0e3052730b0b3a96b2ed8", func := "disjoint/disjointlaw02.BigintSum", spec := "bigintSum", inPlace := ["internal/abi.NoEscape", "internal/bytealg.MakeNoZero"], named := ["internal/strconv.uint64pow10", "math/bits.deBruijn32tab", "math/bits.deBruijn64tab"], apart := false, laid := [("math/bits.deBruijn32tab", laid_math_bits_deBruijn32tab), ("math/bits.deBruijn64tab", laid_math_bits_deBruijn64tab), ("internal/strconv.uint64pow10", laid_internal_strconv_uint64pow10)], narrowed := true }
def BigintSumUptoSaid : Prop := bigintSumUptoRow.holds Tryd.pinned (OpenSpec.upto bigintSumSpec)

/-- 'disjointlaw02.BigintProduct', WHERE WHAT IT READS IS OF BULK AT MOST 1048576: true; the input reads as it did. -/
def bigintProductUptoRow : OpenClaim := { program := "ytndkcimdbidgaaadoor", sum := "ee33be6441234d552d80ace65eff8d677c8c9f00b7f0e3052730b0b3a96b2ed8", func := "disjoint/disjointlaw02.BigintProduct", spec := "bigintProduct", inPlace := ["internal/abi.NoEscape", "internal/bytealg.MakeNoZero"], named := ["internal/strconv.uint64pow10", "math/bits.deBruijn32tab", "math/bits.deBruijn64tab"], apart := false, laid := [("math/bits.deBruijn32tab", laid_math_bits_deBruijn32tab), ("math/bits.deBruijn64tab", laid_math_bits_deBruijn64tab), ("internal/strconv.uint64pow10", laid_internal_strconv_uint64pow10)], narrowed := true }
def BigintProductUptoSaid : Prop := bigintProductUptoRow.holds Tryd.pinned (OpenSpec.upto bigintProductSpec)

/-- 'disjointlaw02.BigintDivision', WHERE WHAT IT READS IS OF BULK AT MOST 1048576: true; the input reads as it did. -/
def bigintDivisionUptoRow : OpenClaim := { program := "ytndkcimdbidgaaadoor", sum := "ee33be6441234d552d80ace65eff8d677c8c9f00b7f0e3052730b0b3a96b2ed8", func := "disjoint/disjointlaw02.BigintDivision", spec := "bigintDivision", inPlace := ["internal/abi.NoEscape", "internal/bytealg.MakeNoZero"], named := ["internal/strconv.uint64pow10", "math/bits.deBruijn32tab", "math/bits.deBruijn64tab"], apart := false, laid := [("math/bits.deBruijn32tab", laid_math_bits_deBruijn32tab), ("math/bits.deBruijn64tab", laid_math_bits_deBruijn64tab), ("internal/strconv.uint64pow10", laid_internal_strconv_uint64pow10)], narrowed := true }
def BigintDivisionUptoSaid : Prop := bigintDivisionUptoRow.holds Tryd.pinned (OpenSpec.upto bigintDivisionSpec)

/-- 'disjointlaw02.BigintGCD', WHERE WHAT IT READS IS OF BULK AT MOST 1048576: true; the input reads as it did. -/
def bigintGCDUptoRow : OpenClaim := { program := "ytndkcimdbidgaaadoor", sum := "ee33be6441234d552d80ace65eff8d677c8c9f00b7f0e3052730b0b3a96b2ed8", func := "disjoint/disjointlaw02.BigintGCD", spec := "bigintGCD", inPlace := ["internal/abi.NoEscape", "internal/bytealg.MakeNoZero"], named := ["internal/strconv.uint64pow10", "math/bits.deBruijn32tab", "math/bits.deBruijn64tab"], apart := false, laid := [("math/bits.deBruijn32tab", laid_math_bits_deBruijn32tab), ("math/bits.deBruijn64tab", laid_math_bits_deBruijn64tab), ("internal/strconv.uint64pow10", laid_internal_strconv_uint64pow10)], narrowed := true }
def BigintGCDUptoSaid : Prop := bigintGCDUptoRow.holds Tryd.pinned (OpenSpec.upto bigintGCDSpec)

/-- 'disjointlaw02.BigintText', WHERE WHAT IT READS IS OF BULK AT MOST 1048576: true; the input reads as it did. -/
def bigintTextUptoRow : OpenClaim := { program := "ytndkcimdbidgaaadoor", sum := "ee33be6441234d552d80ace65eff8d677c8c9f00b7f0e3052730b0b3a96b2ed8", func := "disjoint/disjointlaw02.BigintText", spec := "bigintText", inPlace := ["internal/abi.NoEscape", "internal/bytealg.MakeNoZero"], named := ["internal/strconv.uint64pow10", "math/bits.deBruijn32tab", "math/bits.deBruijn64tab"], apart := false, laid := [("math/bits.deBruijn32tab", laid_math_bits_deBruijn32tab), ("math/bits.deBruijn64tab", laid_math_bits_deBruijn64tab), ("internal/strconv.uint64pow10", laid_internal_strconv_uint64pow10)], narrowed := true }
def BigintTextUptoSaid : Prop := bigintTextUptoRow.holds Tryd.pinned (OpenSpec.upto bigintTextSpec)

/-- 'disjointlaw02.BigintRing', WHERE WHAT IT READS IS OF BULK AT MOST 1048576: true; the input reads as it did. -/
def bigintRingUptoRow : OpenClaim := { program := "ytndkcimdbidgaaadoor", sum := "ee33be6441234d552d80ace65eff8d677c8c9f00b7f0e3052730b0b3a96b2ed8", func := "disjoint/disjointlaw02.BigintRing", spec := "bigintRing", inPlace := ["internal/abi.NoEscape", "internal/bytealg.MakeNoZero"], named := ["internal/strconv.uint64pow10", "math/bits.deBruijn32tab", "math/bits.deBruijn64tab"], apart := false, laid := [("math/bits.deBruijn32tab", laid_math_bits_deBruijn32tab), ("math/bits.deBruijn64tab", laid_math_bits_deBruijn64tab), ("internal/strconv.uint64pow10", laid_internal_strconv_uint64pow10)], narrowed := true }
def BigintRingUptoSaid : Prop := bigintRingUptoRow.holds Tryd.pinned (OpenSpec.upto bigintRingSpec)

/-- 'disjointlaw02.BigintRemainder', WHERE WHAT IT READS IS OF BULK AT MOST 1048576: true; the input reads as it did. -/
def bigintRemainderUptoRow : OpenClaim := { program := "ytndkcimdbidgaaadoor", sum := "ee33be6441234d552d80ace65eff8d677c8c9f00b7f0e3052730b0b3a96b2ed8", func := "disjoint/disjointlaw02.BigintRemainder", spec := "bigintRemainder", inPlace := ["internal/abi.NoEscape", "internal/bytealg.MakeNoZero"], named := ["internal/strconv.uint64pow10", "math/bits.deBruijn32tab", "math/bits.deBruijn64tab"], apart := false, laid := [("math/bits.deBruijn32tab", laid_math_bits_deBruijn32tab), ("math/bits.deBruijn64tab", laid_math_bits_deBruijn64tab), ("internal/strconv.uint64pow10", laid_internal_strconv_uint64pow10)], narrowed := true }
def BigintRemainderUptoSaid : Prop := bigintRemainderUptoRow.holds Tryd.pinned (OpenSpec.upto bigintRemainderSpec)

/-- 'disjointlaw02.BigintMemory', WHERE WHAT IT READS IS OF BULK AT MOST 1048576: true; the input reads as it did. -/
def bigintMemoryUptoRow : OpenClaim := { program := "ytndkcimdbidgaaadoor", sum := "ee33be6441234d552d80ace65eff8d677c8c9f00b7f0e3052730b0b3a96b2ed8", func := "disjoint/disjointlaw02.BigintMemory", spec := "bigintMemory", inPlace := ["internal/abi.NoEscape", "internal/bytealg.MakeNoZero"], named := ["internal/strconv.uint64pow10", "math/bits.deBruijn32tab", "math/bits.deBruijn64tab"], apart := false, laid := [("math/bits.deBruijn32tab", laid_math_bits_deBruijn32tab), ("math/bits.deBruijn64tab", laid_math_bits_deBruijn64tab), ("internal/strconv.uint64pow10", laid_internal_strconv_uint64pow10)], narrowed := true }
def BigintMemoryUptoSaid : Prop := bigintMemoryUptoRow.holds Tryd.pinned (OpenSpec.upto bigintMemorySpec)

end Rows
end Go.Proofs.YtndkcimdbidgaaaDoor
