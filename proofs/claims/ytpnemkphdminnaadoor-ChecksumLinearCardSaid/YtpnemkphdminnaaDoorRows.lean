/-
  NARROWER THAN 'FOR EVERY INPUT', by the rows' own cells (each row's printed sentence says how): ChecksumSum: laid · ChecksumUpdate: laid · ChecksumAppend: laid · ChecksumCheck: laid · ChecksumFormat: laid · ChecksumBurst: laid · ChecksumLinear: laid · ChecksumMemory: laid.
  DERIVED. THE GIVEN ROWS OF THIS SEAT. 8 by the template 'for every input the law returns true; each argument reads behind the call as it read before'; 0 by the template 'total and deterministic' (their statements: YtpnemkphdminnaaDoorTotals.lean).
  GIVEN WITH THE SEED: the statements are not yours to turn. If you find one false, say at which input.
  Laid BY PROGRAM, IN A SANDBOX (cutbox-rows.mjs): the forced cells as the released guide's own fill.sh prints them over the translation 7e06aef2508e0638… (all of the seat's roots in one cut). By AI agents, Wed Nov 11 2026. No macro, syntax, notation, axiom, sorry.
-/
import Derived.Test.YtpnemkphdminnaaDoorChecked
import GoSem.Claim
import GoSem.ClaimJoined
import GoSem.ClaimMapViews
import Derived.JoinedTies
import Derived.KernelRfl
namespace Go.Proofs.YtpnemkphdminnaaDoor
/- THE CELL 'sum', in the pinned program and in every row, IS THE sha256 OF THE DUMP (.gsa) THAT YtpnemkphdminnaaDoorProg.lean LOADS. Nothing in Lean hashes anything: it is a label: what it is worth is what the hold of that sum in a sandbox is worth. -/
noncomputable def Tryd.pinned : Pinned := { name := "ytpnemkphdminnaadoor", sum := "7e06aef2508e0638db522e70400b37f1d53c58e5715f5b66636c51d3ce570154", checked := Tryd.checked }
namespace Rows
def none {H : Type} : Left H := { results := [], args := [] }

/- WHAT THE LISTED PACKAGE-LEVEL VARIABLES READ AS WHEN THE CALL BEGINS. Each datum BY PROGRAM (the guide's laid-datum.mjs) off the statement by which the dump's own 'gosem.cut.vars' lays the variable. In a bare row this is a premise. The card (YtpnemkphdminnaaDoorCards.lean) ties it to the program's text. -/
def laid_math_bits_deBruijn32tab {H : Type} : DataW H := .agg [.lit (.int .u8 0), .lit (.int .u8 1), .lit (.int .u8 28), .lit (.int .u8 2), .lit (.int .u8 29), .lit (.int .u8 14), .lit (.int .u8 24), .lit (.int .u8 3), .lit (.int .u8 30), .lit (.int .u8 22), .lit (.int .u8 20), .lit (.int .u8 15), .lit (.int .u8 25), .lit (.int .u8 17), .lit (.int .u8 4), .lit (.int .u8 8), .lit (.int .u8 31), .lit (.int .u8 27), .lit (.int .u8 13), .lit (.int .u8 23), .lit (.int .u8 21), .lit (.int .u8 19), .lit (.int .u8 16), .lit (.int .u8 7), .lit (.int .u8 26), .lit (.int .u8 12), .lit (.int .u8 18), .lit (.int .u8 6), .lit (.int .u8 11), .lit (.int .u8 5), .lit (.int .u8 10), .lit (.int .u8 9)]
def laid_math_bits_deBruijn64tab {H : Type} : DataW H := .agg [.lit (.int .u8 0), .lit (.int .u8 1), .lit (.int .u8 56), .lit (.int .u8 2), .lit (.int .u8 57), .lit (.int .u8 49), .lit (.int .u8 28), .lit (.int .u8 3), .lit (.int .u8 61), .lit (.int .u8 58), .lit (.int .u8 42), .lit (.int .u8 50), .lit (.int .u8 38), .lit (.int .u8 29), .lit (.int .u8 17), .lit (.int .u8 4), .lit (.int .u8 62), .lit (.int .u8 47), .lit (.int .u8 59), .lit (.int .u8 36), .lit (.int .u8 45), .lit (.int .u8 43), .lit (.int .u8 51), .lit (.int .u8 22), .lit (.int .u8 53), .lit (.int .u8 39), .lit (.int .u8 33), .lit (.int .u8 30), .lit (.int .u8 24), .lit (.int .u8 18), .lit (.int .u8 12), .lit (.int .u8 5), .lit (.int .u8 63), .lit (.int .u8 55), .lit (.int .u8 48), .lit (.int .u8 27), .lit (.int .u8 60), .lit (.int .u8 41), .lit (.int .u8 37), .lit (.int .u8 16), .lit (.int .u8 46), .lit (.int .u8 35), .lit (.int .u8 44), .lit (.int .u8 21), .lit (.int .u8 52), .lit (.int .u8 32), .lit (.int .u8 23), .lit (.int .u8 11), .lit (.int .u8 54), .lit (.int .u8 26), .lit (.int .u8 40), .lit (.int .u8 15), .lit (.int .u8 34), .lit (.int .u8 20), .lit (.int .u8 31), .lit (.int .u8 10), .lit (.int .u8 25), .lit (.int .u8 14), .lit (.int .u8 19), .lit (.int .u8 9), .lit (.int .u8 13), .lit (.int .u8 8), .lit (.int .u8 7), .lit (.int .u8 6)]
def laid_internal_strconv_uint64pow10 {H : Type} : DataW H := .agg [.lit (.int .u64 1), .lit (.int .u64 10), .lit (.int .u64 100), .lit (.int .u64 1000), .lit (.int .u64 10000), .lit (.int .u64 100000), .lit (.int .u64 1000000), .lit (.int .u64 10000000), .lit (.int .u64 100000000), .lit (.int .u64 1000000000), .lit (.int .u64 10000000000), .lit (.int .u64 100000000000), .lit (.int .u64 1000000000000), .lit (.int .u64 10000000000000), .lit (.int .u64 100000000000000), .lit (.int .u64 1000000000000000), .lit (.int .u64 10000000000000000), .lit (.int .u64 100000000000000000), .lit (.int .u64 1000000000000000000), .lit (.int .u64 10000000000000000000)]
def laid_disjoint_checksum_steps {H : Type} : DataW H := .agg [.lit (.int .u64 0), .lit (.int .u64 9051005139383707209), .lit (.int .u64 18102010278767414418), .lit (.int .u64 9704381199536204507), .lit (.int .u64 7257036000092981153), .lit (.int .u64 1814259000023245288), .lit (.int .u64 11493583972846619443), .lit (.int .u64 16292555063049989498), .lit (.int .u64 14514072000185962306), .lit (.int .u64 13040162471224305931), .lit (.int .u64 3628518000046490576), .lit (.int .u64 5746791986423309721), .lit (.int .u64 12527462061959317731), .lit (.int .u64 15006518869663149738), .lit (.int .u64 6263731030979658865), .lit (.int .u64 3131865515489829432)]

/-- 'disjointlaw06.ChecksumSum': WHATEVER THE INPUT: true; the input reads as it did. -/
def checksumSumSpec : ChangeSpec := { name := "checksumSum", fn := fun _ => fun
  | [d] => { results := [.lit (.bool true)], args := [d] }
  | _ => none }
def checksumSumRow : OpenClaim := { program := "ytpnemkphdminnaadoor", sum := "7e06aef2508e0638db522e70400b37f1d53c58e5715f5b66636c51d3ce570154", func := "disjoint/disjointlaw06.ChecksumSum", spec := "checksumSum", inPlace := ["internal/abi.NoEscape", "internal/bytealg.MakeNoZero"], named := ["disjoint/checksum.steps", "internal/strconv.uint64pow10", "math/bits.deBruijn32tab", "math/bits.deBruijn64tab"], apart := false, laid := [("math/bits.deBruijn32tab", laid_math_bits_deBruijn32tab), ("math/bits.deBruijn64tab", laid_math_bits_deBruijn64tab), ("internal/strconv.uint64pow10", laid_internal_strconv_uint64pow10), ("disjoint/checksum.steps", laid_disjoint_checksum_steps)] }
def ChecksumSumSaid : Prop := checksumSumRow.holds Tryd.pinned (OpenSpec.ofChange checksumSumSpec)

/-- ITS FALSE NEIGHBOUR: 'it returns false'. Refute it at one input. -/
def checksumSumWrong : ChangeSpec := { name := "checksumSum", fn := fun _ => fun
  | [d] => { results := [.lit (.bool false)], args := [d] }
  | _ => none }
def ChecksumSumWrongFalsely : Prop := checksumSumRow.holds Tryd.pinned (OpenSpec.ofChange checksumSumWrong)

/-- 'disjointlaw06.ChecksumUpdate': WHATEVER THE INPUT: true; the input reads as it did. -/
def checksumUpdateSpec : ChangeSpec := { name := "checksumUpdate", fn := fun _ => fun
  | [d1, d2, d3] => { results := [.lit (.bool true)], args := [d1, d2, d3] }
  | _ => none }
def checksumUpdateRow : OpenClaim := { program := "ytpnemkphdminnaadoor", sum := "7e06aef2508e0638db522e70400b37f1d53c58e5715f5b66636c51d3ce570154", func := "disjoint/disjointlaw06.ChecksumUpdate", spec := "checksumUpdate", inPlace := ["internal/abi.NoEscape", "internal/bytealg.MakeNoZero"], named := ["disjoint/checksum.steps", "internal/strconv.uint64pow10", "math/bits.deBruijn32tab", "math/bits.deBruijn64tab"], apart := false, laid := [("math/bits.deBruijn32tab", laid_math_bits_deBruijn32tab), ("math/bits.deBruijn64tab", laid_math_bits_deBruijn64tab), ("internal/strconv.uint64pow10", laid_internal_strconv_uint64pow10), ("disjoint/checksum.steps", laid_disjoint_checksum_steps)] }
def ChecksumUpdateSaid : Prop := checksumUpdateRow.holds Tryd.pinned (OpenSpec.ofChange checksumUpdateSpec)

/-- ITS FALSE NEIGHBOUR: 'it returns false'. Refute it at one input. -/
def checksumUpdateWrong : ChangeSpec := { name := "checksumUpdate", fn := fun _ => fun
  | [d1, d2, d3] => { results := [.lit (.bool false)], args := [d1, d2, d3] }
  | _ => none }
def ChecksumUpdateWrongFalsely : Prop := checksumUpdateRow.holds Tryd.pinned (OpenSpec.ofChange checksumUpdateWrong)

/-- 'disjointlaw06.ChecksumAppend': WHATEVER THE INPUT: true; the input reads as it did. -/
def checksumAppendSpec : ChangeSpec := { name := "checksumAppend", fn := fun _ => fun
  | [d] => { results := [.lit (.bool true)], args := [d] }
  | _ => none }
def checksumAppendRow : OpenClaim := { program := "ytpnemkphdminnaadoor", sum := "7e06aef2508e0638db522e70400b37f1d53c58e5715f5b66636c51d3ce570154", func := "disjoint/disjointlaw06.ChecksumAppend", spec := "checksumAppend", inPlace := ["internal/abi.NoEscape", "internal/bytealg.MakeNoZero"], named := ["disjoint/checksum.steps", "internal/strconv.uint64pow10", "math/bits.deBruijn32tab", "math/bits.deBruijn64tab"], apart := false, laid := [("math/bits.deBruijn32tab", laid_math_bits_deBruijn32tab), ("math/bits.deBruijn64tab", laid_math_bits_deBruijn64tab), ("internal/strconv.uint64pow10", laid_internal_strconv_uint64pow10), ("disjoint/checksum.steps", laid_disjoint_checksum_steps)] }
def ChecksumAppendSaid : Prop := checksumAppendRow.holds Tryd.pinned (OpenSpec.ofChange checksumAppendSpec)

/-- ITS FALSE NEIGHBOUR: 'it returns false'. Refute it at one input. -/
def checksumAppendWrong : ChangeSpec := { name := "checksumAppend", fn := fun _ => fun
  | [d] => { results := [.lit (.bool false)], args := [d] }
  | _ => none }
def ChecksumAppendWrongFalsely : Prop := checksumAppendRow.holds Tryd.pinned (OpenSpec.ofChange checksumAppendWrong)

/-- 'disjointlaw06.ChecksumCheck': WHATEVER THE INPUT: true; the input reads as it did. -/
def checksumCheckSpec : ChangeSpec := { name := "checksumCheck", fn := fun _ => fun
  | [d] => { results := [.lit (.bool true)], args := [d] }
  | _ => none }
def checksumCheckRow : OpenClaim := { program := "ytpnemkphdminnaadoor", sum := "7e06aef2508e0638db522e70400b37f1d53c58e5715f5b66636c51d3ce570154", func := "disjoint/disjointlaw06.ChecksumCheck", spec := "checksumCheck", inPlace := ["internal/abi.NoEscape", "internal/bytealg.MakeNoZero"], named := ["disjoint/checksum.steps", "internal/strconv.uint64pow10", "math/bits.deBruijn32tab", "math/bits.deBruijn64tab"], apart := false, laid := [("math/bits.deBruijn32tab", laid_math_bits_deBruijn32tab), ("math/bits.deBruijn64tab", laid_math_bits_deBruijn64tab), ("internal/strconv.uint64pow10", laid_internal_strconv_uint64pow10), ("disjoint/checksum.steps", laid_disjoint_checksum_steps)] }
def ChecksumCheckSaid : Prop := checksumCheckRow.holds Tryd.pinned (OpenSpec.ofChange checksumCheckSpec)

/-- ITS FALSE NEIGHBOUR: 'it returns false'. Refute it at one input. -/
def checksumCheckWrong : ChangeSpec := { name := "checksumCheck", fn := fun _ => fun
  | [d] => { results := [.lit (.bool false)], args := [d] }
  | _ => none }
def ChecksumCheckWrongFalsely : Prop := checksumCheckRow.holds Tryd.pinned (OpenSpec.ofChange checksumCheckWrong)

/-- 'disjointlaw06.ChecksumFormat': WHATEVER THE INPUT: true; the input reads as it did. -/
def checksumFormatSpec : ChangeSpec := { name := "checksumFormat", fn := fun _ => fun
  | [d] => { results := [.lit (.bool true)], args := [d] }
  | _ => none }
def checksumFormatRow : OpenClaim := { program := "ytpnemkphdminnaadoor", sum := "7e06aef2508e0638db522e70400b37f1d53c58e5715f5b66636c51d3ce570154", func := "disjoint/disjointlaw06.ChecksumFormat", spec := "checksumFormat", inPlace := ["internal/abi.NoEscape", "internal/bytealg.MakeNoZero"], named := ["disjoint/checksum.steps", "internal/strconv.uint64pow10", "math/bits.deBruijn32tab", "math/bits.deBruijn64tab"], apart := false, laid := [("math/bits.deBruijn32tab", laid_math_bits_deBruijn32tab), ("math/bits.deBruijn64tab", laid_math_bits_deBruijn64tab), ("internal/strconv.uint64pow10", laid_internal_strconv_uint64pow10), ("disjoint/checksum.steps", laid_disjoint_checksum_steps)] }
def ChecksumFormatSaid : Prop := checksumFormatRow.holds Tryd.pinned (OpenSpec.ofChange checksumFormatSpec)

/-- ITS FALSE NEIGHBOUR: 'it returns false'. Refute it at one input. -/
def checksumFormatWrong : ChangeSpec := { name := "checksumFormat", fn := fun _ => fun
  | [d] => { results := [.lit (.bool false)], args := [d] }
  | _ => none }
def ChecksumFormatWrongFalsely : Prop := checksumFormatRow.holds Tryd.pinned (OpenSpec.ofChange checksumFormatWrong)

/-- 'disjointlaw06.ChecksumBurst': WHATEVER THE INPUT: true; the input reads as it did. -/
def checksumBurstSpec : ChangeSpec := { name := "checksumBurst", fn := fun _ => fun
  | [d1, d2, d3] => { results := [.lit (.bool true)], args := [d1, d2, d3] }
  | _ => none }
def checksumBurstRow : OpenClaim := { program := "ytpnemkphdminnaadoor", sum := "7e06aef2508e0638db522e70400b37f1d53c58e5715f5b66636c51d3ce570154", func := "disjoint/disjointlaw06.ChecksumBurst", spec := "checksumBurst", inPlace := ["internal/abi.NoEscape", "internal/bytealg.MakeNoZero"], named := ["disjoint/checksum.steps", "internal/strconv.uint64pow10", "math/bits.deBruijn32tab", "math/bits.deBruijn64tab"], apart := false, laid := [("math/bits.deBruijn32tab", laid_math_bits_deBruijn32tab), ("math/bits.deBruijn64tab", laid_math_bits_deBruijn64tab), ("internal/strconv.uint64pow10", laid_internal_strconv_uint64pow10), ("disjoint/checksum.steps", laid_disjoint_checksum_steps)] }
def ChecksumBurstSaid : Prop := checksumBurstRow.holds Tryd.pinned (OpenSpec.ofChange checksumBurstSpec)

/-- ITS FALSE NEIGHBOUR: 'it returns false'. Refute it at one input. -/
def checksumBurstWrong : ChangeSpec := { name := "checksumBurst", fn := fun _ => fun
  | [d1, d2, d3] => { results := [.lit (.bool false)], args := [d1, d2, d3] }
  | _ => none }
def ChecksumBurstWrongFalsely : Prop := checksumBurstRow.holds Tryd.pinned (OpenSpec.ofChange checksumBurstWrong)

/-- 'disjointlaw06.ChecksumLinear': WHATEVER THE INPUT: true; the input reads as it did. -/
def checksumLinearSpec : ChangeSpec := { name := "checksumLinear", fn := fun _ => fun
  | [d] => { results := [.lit (.bool true)], args := [d] }
  | _ => none }
def checksumLinearRow : OpenClaim := { program := "ytpnemkphdminnaadoor", sum := "7e06aef2508e0638db522e70400b37f1d53c58e5715f5b66636c51d3ce570154", func := "disjoint/disjointlaw06.ChecksumLinear", spec := "checksumLinear", inPlace := ["internal/abi.NoEscape", "internal/bytealg.MakeNoZero"], named := ["disjoint/checksum.steps", "internal/strconv.uint64pow10", "math/bits.deBruijn32tab", "math/bits.deBruijn64tab"], apart := false, laid := [("math/bits.deBruijn32tab", laid_math_bits_deBruijn32tab), ("math/bits.deBruijn64tab", laid_math_bits_deBruijn64tab), ("internal/strconv.uint64pow10", laid_internal_strconv_uint64pow10), ("disjoint/checksum.steps", laid_disjoint_checksum_steps)] }
def ChecksumLinearSaid : Prop := checksumLinearRow.holds Tryd.pinned (OpenSpec.ofChange checksumLinearSpec)

/-- ITS FALSE NEIGHBOUR: 'it returns false'. Refute it at one input. -/
def checksumLinearWrong : ChangeSpec := { name := "checksumLinear", fn := fun _ => fun
  | [d] => { results := [.lit (.bool false)], args := [d] }
  | _ => none }
def ChecksumLinearWrongFalsely : Prop := checksumLinearRow.holds Tryd.pinned (OpenSpec.ofChange checksumLinearWrong)

/-- 'disjointlaw06.ChecksumMemory': WHATEVER THE INPUT: true; the input reads as it did. -/
def checksumMemorySpec : ChangeSpec := { name := "checksumMemory", fn := fun _ => fun
  | [d] => { results := [.lit (.bool true)], args := [d] }
  | _ => none }
def checksumMemoryRow : OpenClaim := { program := "ytpnemkphdminnaadoor", sum := "7e06aef2508e0638db522e70400b37f1d53c58e5715f5b66636c51d3ce570154", func := "disjoint/disjointlaw06.ChecksumMemory", spec := "checksumMemory", inPlace := ["internal/abi.NoEscape", "internal/bytealg.MakeNoZero"], named := ["disjoint/checksum.steps", "internal/strconv.uint64pow10", "math/bits.deBruijn32tab", "math/bits.deBruijn64tab"], apart := false, laid := [("math/bits.deBruijn32tab", laid_math_bits_deBruijn32tab), ("math/bits.deBruijn64tab", laid_math_bits_deBruijn64tab), ("internal/strconv.uint64pow10", laid_internal_strconv_uint64pow10), ("disjoint/checksum.steps", laid_disjoint_checksum_steps)] }
def ChecksumMemorySaid : Prop := checksumMemoryRow.holds Tryd.pinned (OpenSpec.ofChange checksumMemorySpec)

/-- ITS FALSE NEIGHBOUR: 'it returns false'. Refute it at one input. -/
def checksumMemoryWrong : ChangeSpec := { name := "checksumMemory", fn := fun _ => fun
  | [d] => { results := [.lit (.bool false)], args := [d] }
  | _ => none }
def ChecksumMemoryWrongFalsely : Prop := checksumMemoryRow.holds Tryd.pinned (OpenSpec.ofChange checksumMemoryWrong)

/- THE SECOND FORM. 'bulk': how many values and letters a reading holds, each counted each time it is reached (what is shared counts as often as it is met; a slice's spare places count too). A statement '..UptoSaid' is the law's where the arguments, and the package variables that the reading takes, are together of bulk at most 1048576: NARROWER than '..Said'. Prove '..Said' where nothing that the law and all that it calls make is longer than what came in: it says more and counts as full. Else prove '..UptoSaid'. A law counts once. -/
mutual
def uptoBulk {H : Type} : DataW H → Nat
  | .lit (.string bytes) => bytes.length + 1
  | .lit _ => 1
  | .nil => 1
  | .ptr d => uptoBulk d + 1
  | .slice elems spare => uptoBulkAll elems + uptoBulkAll spare + 1
  | .agg parts => uptoBulkAll parts + 1
  | .iface _ d => uptoBulk d + 1
  | .map entries => uptoBulkEntries entries + 1
  | .held _ => 1
def uptoBulkAll {H : Type} : List (DataW H) → Nat
  | [] => 0
  | d :: r => uptoBulk d + uptoBulkAll r
def uptoBulkEntries {H : Type} : List (Lit × DataW H) → Nat
  | [] => 0
  | x :: r => uptoBulkEntry x + uptoBulkEntries r
def uptoBulkEntry {H : Type} : Lit × DataW H → Nat
  | (.string bytes, d) => bytes.length + uptoBulk d + 1
  | (_, d) => uptoBulk d + 1
 end
def uptoSmall : (H : Type) → List (DataW H) → Bool := fun _ ds => decide (uptoBulkAll ds ≤ 1048576)
def OpenSpec.upto (s : _root_.Go.ChangeSpec) : _root_.Go.OpenSpec := { _root_.Go.OpenSpec.ofChange s with cond := some uptoSmall }

/-- 'disjointlaw06.ChecksumSum', WHERE WHAT IT READS IS OF BULK AT MOST 1048576: true; the input reads as it did. -/
def checksumSumUptoRow : OpenClaim := { program := "ytpnemkphdminnaadoor", sum := "7e06aef2508e0638db522e70400b37f1d53c58e5715f5b66636c51d3ce570154", func := "disjoint/disjointlaw06.ChecksumSum", spec := "checksumSum", inPlace := ["internal/abi.NoEscape", "internal/bytealg.MakeNoZero"], named := ["disjoint/checksum.steps", "internal/strconv.uint64pow10", "math/bits.deBruijn32tab", "math/bits.deBruijn64tab"], apart := false, laid := [("math/bits.deBruijn32tab", laid_math_bits_deBruijn32tab), ("math/bits.deBruijn64tab", laid_math_bits_deBruijn64tab), ("internal/strconv.uint64pow10", laid_internal_strconv_uint64pow10), ("disjoint/checksum.steps", laid_disjoint_checksum_steps)], narrowed := true }
def ChecksumSumUptoSaid : Prop := checksumSumUptoRow.holds Tryd.pinned (OpenSpec.upto checksumSumSpec)

/-- 'disjointlaw06.ChecksumUpdate', WHERE WHAT IT READS IS OF BULK AT MOST 1048576: true; the input reads as it did. -/
def checksumUpdateUptoRow : OpenClaim := { program := "ytpnemkphdminnaadoor", sum := "7e06aef2508e0638db522e70400b37f1d53c58e5715f5b66636c51d3ce570154", func := "disjoint/disjointlaw06.ChecksumUpdate", spec := "checksumUpdate", inPlace := ["internal/abi.NoEscape", "internal/bytealg.MakeNoZero"], named := ["disjoint/checksum.steps", "internal/strconv.uint64pow10", "math/bits.deBruijn32tab", "math/bits.deBruijn64tab"], apart := false, laid := [("math/bits.deBruijn32tab", laid_math_bits_deBruijn32tab), ("math/bits.deBruijn64tab", laid_math_bits_deBruijn64tab), ("internal/strconv.uint64pow10", laid_internal_strconv_uint64pow10), ("disjoint/checksum.steps", laid_disjoint_checksum_steps)], narrowed := true }
def ChecksumUpdateUptoSaid : Prop := checksumUpdateUptoRow.holds Tryd.pinned (OpenSpec.upto checksumUpdateSpec)

/-- 'disjointlaw06.ChecksumAppend', WHERE WHAT IT READS IS OF BULK AT MOST 1048576: true; the input reads as it did. -/
def checksumAppendUptoRow : OpenClaim := { program := "ytpnemkphdminnaadoor", sum := "7e06aef2508e0638db522e70400b37f1d53c58e5715f5b66636c51d3ce570154", func := "disjoint/disjointlaw06.ChecksumAppend", spec := "checksumAppend", inPlace := ["internal/abi.NoEscape", "internal/bytealg.MakeNoZero"], named := ["disjoint/checksum.steps", "internal/strconv.uint64pow10", "math/bits.deBruijn32tab", "math/bits.deBruijn64tab"], apart := false, laid := [("math/bits.deBruijn32tab", laid_math_bits_deBruijn32tab), ("math/bits.deBruijn64tab", laid_math_bits_deBruijn64tab), ("internal/strconv.uint64pow10", laid_internal_strconv_uint64pow10), ("disjoint/checksum.steps", laid_disjoint_checksum_steps)], narrowed := true }
def ChecksumAppendUptoSaid : Prop := checksumAppendUptoRow.holds Tryd.pinned (OpenSpec.upto checksumAppendSpec)

/-- 'disjointlaw06.ChecksumCheck', WHERE WHAT IT READS IS OF BULK AT MOST 1048576: true; the input reads as it did. -/
def checksumCheckUptoRow : OpenClaim := { program := "ytpnemkphdminnaadoor", sum := "7e06aef2508e0638db522e70400b37f1d53c58e5715f5b66636c51d3ce570154", func := "disjoint/disjointlaw06.ChecksumCheck", spec := "checksumCheck", inPlace := ["internal/abi.NoEscape", "internal/bytealg.MakeNoZero"], named := ["disjoint/checksum.steps", "internal/strconv.uint64pow10", "math/bits.deBruijn32tab", "math/bits.deBruijn64tab"], apart := false, laid := [("math/bits.deBruijn32tab", laid_math_bits_deBruijn32tab), ("math/bits.deBruijn64tab", laid_math_bits_deBruijn64tab), ("internal/strconv.uint64pow10", laid_internal_strconv_uint64pow10), ("disjoint/checksum.steps", laid_disjoint_checksum_steps)], narrowed := true }
def ChecksumCheckUptoSaid : Prop := checksumCheckUptoRow.holds Tryd.pinned (OpenSpec.upto checksumCheckSpec)

/-- 'disjointlaw06.ChecksumFormat', WHERE WHAT IT READS IS OF BULK AT MOST 1048576: true; the input reads as it did. -/
def checksumFormatUptoRow : OpenClaim := { program := "ytpnemkphdminnaadoor", sum := "7e06aef2508e0638db522e70400b37f1d53c58e5715f5b66636c51d3ce570154", func := "disjoint/disjointlaw06.ChecksumFormat", spec := "checksumFormat", inPlace := ["internal/abi.NoEscape", "internal/bytealg.MakeNoZero"], named := ["disjoint/checksum.steps", "internal/strconv.uint64pow10", "math/bits.deBruijn32tab", "math/bits.deBruijn64tab"], apart := false, laid := [("math/bits.deBruijn32tab", laid_math_bits_deBruijn32tab), ("math/bits.deBruijn64tab", laid_math_bits_deBruijn64tab), ("internal/strconv.uint64pow10", laid_internal_strconv_uint64pow10), ("disjoint/checksum.steps", laid_disjoint_checksum_steps)], narrowed := true }
def ChecksumFormatUptoSaid : Prop := checksumFormatUptoRow.holds Tryd.pinned (OpenSpec.upto checksumFormatSpec)

/-- 'disjointlaw06.ChecksumBurst', WHERE WHAT IT READS IS OF BULK AT MOST 1048576: true; the input reads as it did. -/
def checksumBurstUptoRow : OpenClaim := { program := "ytpnemkphdminnaadoor", sum := "7e06aef2508e0638db522e70400b37f1d53c58e5715f5b66636c51d3ce570154", func := "disjoint/disjointlaw06.ChecksumBurst", spec := "checksumBurst", inPlace := ["internal/abi.NoEscape", "internal/bytealg.MakeNoZero"], named := ["disjoint/checksum.steps", "internal/strconv.uint64pow10", "math/bits.deBruijn32tab", "math/bits.deBruijn64tab"], apart := false, laid := [("math/bits.deBruijn32tab", laid_math_bits_deBruijn32tab), ("math/bits.deBruijn64tab", laid_math_bits_deBruijn64tab), ("internal/strconv.uint64pow10", laid_internal_strconv_uint64pow10), ("disjoint/checksum.steps", laid_disjoint_checksum_steps)], narrowed := true }
def ChecksumBurstUptoSaid : Prop := checksumBurstUptoRow.holds Tryd.pinned (OpenSpec.upto checksumBurstSpec)

/-- 'disjointlaw06.ChecksumLinear', WHERE WHAT IT READS IS OF BULK AT MOST 1048576: true; the input reads as it did. -/
def checksumLinearUptoRow : OpenClaim := { program := "ytpnemkphdminnaadoor", sum := "7e06aef2508e0638db522e70400b37f1d53c58e5715f5b66636c51d3ce570154", func := "disjoint/disjointlaw06.ChecksumLinear", spec := "checksumLinear", inPlace := ["internal/abi.NoEscape", "internal/bytealg.MakeNoZero"], named := ["disjoint/checksum.steps", "internal/strconv.uint64pow10", "math/bits.deBruijn32tab", "math/bits.deBruijn64tab"], apart := false, laid := [("math/bits.deBruijn32tab", laid_math_bits_deBruijn32tab), ("math/bits.deBruijn64tab", laid_math_bits_deBruijn64tab), ("internal/strconv.uint64pow10", laid_internal_strconv_uint64pow10), ("disjoint/checksum.steps", laid_disjoint_checksum_steps)], narrowed := true }
def ChecksumLinearUptoSaid : Prop := checksumLinearUptoRow.holds Tryd.pinned (OpenSpec.upto checksumLinearSpec)

/-- 'disjointlaw06.ChecksumMemory', WHERE WHAT IT READS IS OF BULK AT MOST 1048576: true; the input reads as it did. -/
def checksumMemoryUptoRow : OpenClaim := { program := "ytpnemkphdminnaadoor", sum := "7e06aef2508e0638db522e70400b37f1d53c58e5715f5b66636c51d3ce570154", func := "disjoint/disjointlaw06.ChecksumMemory", spec := "checksumMemory", inPlace := ["internal/abi.NoEscape", "internal/bytealg.MakeNoZero"], named := ["disjoint/checksum.steps", "internal/strconv.uint64pow10", "math/bits.deBruijn32tab", "math/bits.deBruijn64tab"], apart := false, laid := [("math/bits.deBruijn32tab", laid_math_bits_deBruijn32tab), ("math/bits.deBruijn64tab", laid_math_bits_deBruijn64tab), ("internal/strconv.uint64pow10", laid_internal_strconv_uint64pow10), ("disjoint/checksum.steps", laid_disjoint_checksum_steps)], narrowed := true }
def ChecksumMemoryUptoSaid : Prop := checksumMemoryUptoRow.holds Tryd.pinned (OpenSpec.upto checksumMemorySpec)

end Rows
end Go.Proofs.YtpnemkphdminnaaDoor
