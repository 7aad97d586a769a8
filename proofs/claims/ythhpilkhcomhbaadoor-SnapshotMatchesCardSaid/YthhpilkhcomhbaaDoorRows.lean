/-
  NARROWER THAN 'FOR EVERY INPUT', by the rows' own cells (each row's printed sentence says how): SnapshotDivide: laid · SnapshotMatches: laid · SnapshotRoundTrip: laid · SnapshotTorn: laid · SnapshotDamage: laid · SnapshotFull: laid · SnapshotWrites: laid.
  DERIVED. THE GIVEN ROWS OF THIS SEAT. 7 by the template 'for every input the law returns true; each argument reads behind the call as it read before'; 0 by the template 'total and deterministic' (their statements: YthhpilkhcomhbaaDoorTotals.lean).
  GIVEN WITH THE SEED: the statements are not yours to turn. If you find one false, say at which input.
  Laid BY PROGRAM, IN A SANDBOX (cutbox-rows.mjs): the forced cells as the released guide's own fill.sh prints them over the translation 762e6f057c980cd5… (all of the seat's roots in one cut). By AI agents, Wed Nov 11 2026. No macro, syntax, notation, axiom, sorry.
-/
import Derived.Test.YthhpilkhcomhbaaDoorChecked
import GoSem.Claim
import GoSem.ClaimJoined
import GoSem.ClaimMapViews
import Derived.JoinedTies
import Derived.KernelRfl
namespace Go.Proofs.YthhpilkhcomhbaaDoor
/- THE CELL 'sum', in the pinned program and in every row, IS THE sha256 OF THE DUMP (.gsa) THAT YthhpilkhcomhbaaDoorProg.lean LOADS. Nothing in Lean hashes anything: it is a label: what it is worth is what the hold of that sum in a sandbox is worth. -/
noncomputable def Tryd.pinned : Pinned := { name := "ythhpilkhcomhbaadoor", sum := "762e6f057c980cd5b4f17225cfffcfc0133205d62fc0f450f3a7f76e620f88d5", checked := Tryd.checked }
namespace Rows
def none {H : Type} : Left H := { results := [], args := [] }

/- WHAT THE LISTED PACKAGE-LEVEL VARIABLES READ AS WHEN THE CALL BEGINS. Each datum BY PROGRAM (the guide's laid-datum.mjs) off the statement by which the dump's own 'gosem.cut.vars' lays the variable. In a bare row this is a premise. The card (YthhpilkhcomhbaaDoorCards.lean) ties it to the program's text. -/
def laid_disjoint_checksum_steps {H : Type} : DataW H := .agg [.lit (.int .u64 0), .lit (.int .u64 9051005139383707209), .lit (.int .u64 18102010278767414418), .lit (.int .u64 9704381199536204507), .lit (.int .u64 7257036000092981153), .lit (.int .u64 1814259000023245288), .lit (.int .u64 11493583972846619443), .lit (.int .u64 16292555063049989498), .lit (.int .u64 14514072000185962306), .lit (.int .u64 13040162471224305931), .lit (.int .u64 3628518000046490576), .lit (.int .u64 5746791986423309721), .lit (.int .u64 12527462061959317731), .lit (.int .u64 15006518869663149738), .lit (.int .u64 6263731030979658865), .lit (.int .u64 3131865515489829432)]

/-- 'disjointlaw38.SnapshotDivide': WHATEVER THE INPUT: true; the input reads as it did. -/
def snapshotDivideSpec : ChangeSpec := { name := "snapshotDivide", fn := fun _ => fun
  | [d] => { results := [.lit (.bool true)], args := [d] }
  | _ => none }
def snapshotDivideRow : OpenClaim := { program := "ythhpilkhcomhbaadoor", sum := "762e6f057c980cd5b4f17225cfffcfc0133205d62fc0f450f3a7f76e620f88d5", func := "disjoint/disjointlaw38.SnapshotDivide", spec := "snapshotDivide", named := ["disjoint/checksum.steps"], apart := false, laid := [("disjoint/checksum.steps", laid_disjoint_checksum_steps)] }
def SnapshotDivideSaid : Prop := snapshotDivideRow.holds Tryd.pinned (OpenSpec.ofChange snapshotDivideSpec)

/-- ITS FALSE NEIGHBOUR: 'it returns false'. Refute it at one input. -/
def snapshotDivideWrong : ChangeSpec := { name := "snapshotDivide", fn := fun _ => fun
  | [d] => { results := [.lit (.bool false)], args := [d] }
  | _ => none }
def SnapshotDivideWrongFalsely : Prop := snapshotDivideRow.holds Tryd.pinned (OpenSpec.ofChange snapshotDivideWrong)

/-- 'disjointlaw38.SnapshotMatches': WHATEVER THE INPUT: true; the input reads as it did. -/
def snapshotMatchesSpec : ChangeSpec := { name := "snapshotMatches", fn := fun _ => fun
  | [d1, d2] => { results := [.lit (.bool true)], args := [d1, d2] }
  | _ => none }
def snapshotMatchesRow : OpenClaim := { program := "ythhpilkhcomhbaadoor", sum := "762e6f057c980cd5b4f17225cfffcfc0133205d62fc0f450f3a7f76e620f88d5", func := "disjoint/disjointlaw38.SnapshotMatches", spec := "snapshotMatches", named := ["disjoint/checksum.steps"], apart := false, laid := [("disjoint/checksum.steps", laid_disjoint_checksum_steps)] }
def SnapshotMatchesSaid : Prop := snapshotMatchesRow.holds Tryd.pinned (OpenSpec.ofChange snapshotMatchesSpec)

/-- ITS FALSE NEIGHBOUR: 'it returns false'. Refute it at one input. -/
def snapshotMatchesWrong : ChangeSpec := { name := "snapshotMatches", fn := fun _ => fun
  | [d1, d2] => { results := [.lit (.bool false)], args := [d1, d2] }
  | _ => none }
def SnapshotMatchesWrongFalsely : Prop := snapshotMatchesRow.holds Tryd.pinned (OpenSpec.ofChange snapshotMatchesWrong)

/-- 'disjointlaw38.SnapshotRoundTrip': WHATEVER THE INPUT: true; the input reads as it did. -/
def snapshotRoundTripSpec : ChangeSpec := { name := "snapshotRoundTrip", fn := fun _ => fun
  | [d] => { results := [.lit (.bool true)], args := [d] }
  | _ => none }
def snapshotRoundTripRow : OpenClaim := { program := "ythhpilkhcomhbaadoor", sum := "762e6f057c980cd5b4f17225cfffcfc0133205d62fc0f450f3a7f76e620f88d5", func := "disjoint/disjointlaw38.SnapshotRoundTrip", spec := "snapshotRoundTrip", named := ["disjoint/checksum.steps"], apart := false, laid := [("disjoint/checksum.steps", laid_disjoint_checksum_steps)] }
def SnapshotRoundTripSaid : Prop := snapshotRoundTripRow.holds Tryd.pinned (OpenSpec.ofChange snapshotRoundTripSpec)

/-- ITS FALSE NEIGHBOUR: 'it returns false'. Refute it at one input. -/
def snapshotRoundTripWrong : ChangeSpec := { name := "snapshotRoundTrip", fn := fun _ => fun
  | [d] => { results := [.lit (.bool false)], args := [d] }
  | _ => none }
def SnapshotRoundTripWrongFalsely : Prop := snapshotRoundTripRow.holds Tryd.pinned (OpenSpec.ofChange snapshotRoundTripWrong)

/-- 'disjointlaw38.SnapshotTorn': WHATEVER THE INPUT: true; the input reads as it did. -/
def snapshotTornSpec : ChangeSpec := { name := "snapshotTorn", fn := fun _ => fun
  | [d1, d2, d3] => { results := [.lit (.bool true)], args := [d1, d2, d3] }
  | _ => none }
def snapshotTornRow : OpenClaim := { program := "ythhpilkhcomhbaadoor", sum := "762e6f057c980cd5b4f17225cfffcfc0133205d62fc0f450f3a7f76e620f88d5", func := "disjoint/disjointlaw38.SnapshotTorn", spec := "snapshotTorn", named := ["disjoint/checksum.steps"], apart := false, laid := [("disjoint/checksum.steps", laid_disjoint_checksum_steps)] }
def SnapshotTornSaid : Prop := snapshotTornRow.holds Tryd.pinned (OpenSpec.ofChange snapshotTornSpec)

/-- ITS FALSE NEIGHBOUR: 'it returns false'. Refute it at one input. -/
def snapshotTornWrong : ChangeSpec := { name := "snapshotTorn", fn := fun _ => fun
  | [d1, d2, d3] => { results := [.lit (.bool false)], args := [d1, d2, d3] }
  | _ => none }
def SnapshotTornWrongFalsely : Prop := snapshotTornRow.holds Tryd.pinned (OpenSpec.ofChange snapshotTornWrong)

/-- 'disjointlaw38.SnapshotDamage': WHATEVER THE INPUT: true; the input reads as it did. -/
def snapshotDamageSpec : ChangeSpec := { name := "snapshotDamage", fn := fun _ => fun
  | [d1, d2, d3] => { results := [.lit (.bool true)], args := [d1, d2, d3] }
  | _ => none }
def snapshotDamageRow : OpenClaim := { program := "ythhpilkhcomhbaadoor", sum := "762e6f057c980cd5b4f17225cfffcfc0133205d62fc0f450f3a7f76e620f88d5", func := "disjoint/disjointlaw38.SnapshotDamage", spec := "snapshotDamage", named := ["disjoint/checksum.steps"], apart := false, laid := [("disjoint/checksum.steps", laid_disjoint_checksum_steps)] }
def SnapshotDamageSaid : Prop := snapshotDamageRow.holds Tryd.pinned (OpenSpec.ofChange snapshotDamageSpec)

/-- ITS FALSE NEIGHBOUR: 'it returns false'. Refute it at one input. -/
def snapshotDamageWrong : ChangeSpec := { name := "snapshotDamage", fn := fun _ => fun
  | [d1, d2, d3] => { results := [.lit (.bool false)], args := [d1, d2, d3] }
  | _ => none }
def SnapshotDamageWrongFalsely : Prop := snapshotDamageRow.holds Tryd.pinned (OpenSpec.ofChange snapshotDamageWrong)

/-- 'disjointlaw38.SnapshotFull': WHATEVER THE INPUT: true; the input reads as it did. -/
def snapshotFullSpec : ChangeSpec := { name := "snapshotFull", fn := fun _ => fun
  | [d1, d2] => { results := [.lit (.bool true)], args := [d1, d2] }
  | _ => none }
def snapshotFullRow : OpenClaim := { program := "ythhpilkhcomhbaadoor", sum := "762e6f057c980cd5b4f17225cfffcfc0133205d62fc0f450f3a7f76e620f88d5", func := "disjoint/disjointlaw38.SnapshotFull", spec := "snapshotFull", named := ["disjoint/checksum.steps"], apart := false, laid := [("disjoint/checksum.steps", laid_disjoint_checksum_steps)] }
def SnapshotFullSaid : Prop := snapshotFullRow.holds Tryd.pinned (OpenSpec.ofChange snapshotFullSpec)

/-- ITS FALSE NEIGHBOUR: 'it returns false'. Refute it at one input. -/
def snapshotFullWrong : ChangeSpec := { name := "snapshotFull", fn := fun _ => fun
  | [d1, d2] => { results := [.lit (.bool false)], args := [d1, d2] }
  | _ => none }
def SnapshotFullWrongFalsely : Prop := snapshotFullRow.holds Tryd.pinned (OpenSpec.ofChange snapshotFullWrong)

/-- 'disjointlaw38.SnapshotWrites': WHATEVER THE INPUT: true; the input reads as it did. -/
def snapshotWritesSpec : ChangeSpec := { name := "snapshotWrites", fn := fun _ => fun
  | [d] => { results := [.lit (.bool true)], args := [d] }
  | _ => none }
def snapshotWritesRow : OpenClaim := { program := "ythhpilkhcomhbaadoor", sum := "762e6f057c980cd5b4f17225cfffcfc0133205d62fc0f450f3a7f76e620f88d5", func := "disjoint/disjointlaw38.SnapshotWrites", spec := "snapshotWrites", named := ["disjoint/checksum.steps"], apart := false, laid := [("disjoint/checksum.steps", laid_disjoint_checksum_steps)] }
def SnapshotWritesSaid : Prop := snapshotWritesRow.holds Tryd.pinned (OpenSpec.ofChange snapshotWritesSpec)

/-- ITS FALSE NEIGHBOUR: 'it returns false'. Refute it at one input. -/
def snapshotWritesWrong : ChangeSpec := { name := "snapshotWrites", fn := fun _ => fun
  | [d] => { results := [.lit (.bool false)], args := [d] }
  | _ => none }
def SnapshotWritesWrongFalsely : Prop := snapshotWritesRow.holds Tryd.pinned (OpenSpec.ofChange snapshotWritesWrong)

/- THE SECOND FORM. 'bulk': how many values and letters a reading holds, each counted each time it is reached (what is shared counts as often as it is met; a slice's spare places count too). A statement '..UptoSaid' is the law's where the arguments, and the package variables that the reading takes, are together of bulk at most 1048576: NARROWER than '..Said'. Prove '..Said' where nothing that the law and all that it calls make is longer than what came in: it says more and counts as full. Else prove '..UptoSaid'. A law counts once. -/
mutual
def uptoBulk {H : Type} : DataW H → Nat
  | .lit (.string bytes) => bytes.length + 1
  | .lit _ => 1
  | .nil => 1
  | .ptr d => uptoBulk d + 1
  | .slice elems spare => uptoBulkAll elems + uptoBulkAll spare + 1
  | .agg parts => uptoBulkAll parts + 1
  | .iface _ d => uptoBulk d + 1
  | .map entries => uptoBulkEntries entries + 1
  | .held _ => 1
def uptoBulkAll {H : Type} : List (DataW H) → Nat
  | [] => 0
  | d :: r => uptoBulk d + uptoBulkAll r
def uptoBulkEntries {H : Type} : List (Lit × DataW H) → Nat
  | [] => 0
  | x :: r => uptoBulkEntry x + uptoBulkEntries r
def uptoBulkEntry {H : Type} : Lit × DataW H → Nat
  | (.string bytes, d) => bytes.length + uptoBulk d + 1
  | (_, d) => uptoBulk d + 1
 end
def uptoSmall : (H : Type) → List (DataW H) → Bool := fun _ ds => decide (uptoBulkAll ds ≤ 1048576)
def OpenSpec.upto (s : _root_.Go.ChangeSpec) : _root_.Go.OpenSpec := { _root_.Go.OpenSpec.ofChange s with cond := some uptoSmall }

/-- 'disjointlaw38.SnapshotDivide', WHERE WHAT IT READS IS OF BULK AT MOST 1048576: true; the input reads as it did. -/
def snapshotDivideUptoRow : OpenClaim := { program := "ythhpilkhcomhbaadoor", sum := "762e6f057c980cd5b4f17225cfffcfc0133205d62fc0f450f3a7f76e620f88d5", func := "disjoint/disjointlaw38.SnapshotDivide", spec := "snapshotDivide", named := ["disjoint/checksum.steps"], apart := false, laid := [("disjoint/checksum.steps", laid_disjoint_checksum_steps)], narrowed := true }
def SnapshotDivideUptoSaid : Prop := snapshotDivideUptoRow.holds Tryd.pinned (OpenSpec.upto snapshotDivideSpec)

/-- 'disjointlaw38.SnapshotMatches', WHERE WHAT IT READS IS OF BULK AT MOST 1048576: true; the input reads as it did. -/
def snapshotMatchesUptoRow : OpenClaim := { program := "ythhpilkhcomhbaadoor", sum := "762e6f057c980cd5b4f17225cfffcfc0133205d62fc0f450f3a7f76e620f88d5", func := "disjoint/disjointlaw38.SnapshotMatches", spec := "snapshotMatches", named := ["disjoint/checksum.steps"], apart := false, laid := [("disjoint/checksum.steps", laid_disjoint_checksum_steps)], narrowed := true }
def SnapshotMatchesUptoSaid : Prop := snapshotMatchesUptoRow.holds Tryd.pinned (OpenSpec.upto snapshotMatchesSpec)

/-- 'disjointlaw38.SnapshotRoundTrip', WHERE WHAT IT READS IS OF BULK AT MOST 1048576: true; the input reads as it did. -/
def snapshotRoundTripUptoRow : OpenClaim := { program := "ythhpilkhcomhbaadoor", sum := "762e6f057c980cd5b4f17225cfffcfc0133205d62fc0f450f3a7f76e620f88d5", func := "disjoint/disjointlaw38.SnapshotRoundTrip", spec := "snapshotRoundTrip", named := ["disjoint/checksum.steps"], apart := false, laid := [("disjoint/checksum.steps", laid_disjoint_checksum_steps)], narrowed := true }
def SnapshotRoundTripUptoSaid : Prop := snapshotRoundTripUptoRow.holds Tryd.pinned (OpenSpec.upto snapshotRoundTripSpec)

/-- 'disjointlaw38.SnapshotTorn', WHERE WHAT IT READS IS OF BULK AT MOST 1048576: true; the input reads as it did. -/
def snapshotTornUptoRow : OpenClaim := { program := "ythhpilkhcomhbaadoor", sum := "762e6f057c980cd5b4f17225cfffcfc0133205d62fc0f450f3a7f76e620f88d5", func := "disjoint/disjointlaw38.SnapshotTorn", spec := "snapshotTorn", named := ["disjoint/checksum.steps"], apart := false, laid := [("disjoint/checksum.steps", laid_disjoint_checksum_steps)], narrowed := true }
def SnapshotTornUptoSaid : Prop := snapshotTornUptoRow.holds Tryd.pinned (OpenSpec.upto snapshotTornSpec)

/-- 'disjointlaw38.SnapshotDamage', WHERE WHAT IT READS IS OF BULK AT MOST 1048576: true; the input reads as it did. -/
def snapshotDamageUptoRow : OpenClaim := { program := "ythhpilkhcomhbaadoor", sum := "762e6f057c980cd5b4f17225cfffcfc0133205d62fc0f450f3a7f76e620f88d5", func := "disjoint/disjointlaw38.SnapshotDamage", spec := "snapshotDamage", named := ["disjoint/checksum.steps"], apart := false, laid := [("disjoint/checksum.steps", laid_disjoint_checksum_steps)], narrowed := true }
def SnapshotDamageUptoSaid : Prop := snapshotDamageUptoRow.holds Tryd.pinned (OpenSpec.upto snapshotDamageSpec)

/-- 'disjointlaw38.SnapshotFull', WHERE WHAT IT READS IS OF BULK AT MOST 1048576: true; the input reads as it did. -/
def snapshotFullUptoRow : OpenClaim := { program := "ythhpilkhcomhbaadoor", sum := "762e6f057c980cd5b4f17225cfffcfc0133205d62fc0f450f3a7f76e620f88d5", func := "disjoint/disjointlaw38.SnapshotFull", spec := "snapshotFull", named := ["disjoint/checksum.steps"], apart := false, laid := [("disjoint/checksum.steps", laid_disjoint_checksum_steps)], narrowed := true }
def SnapshotFullUptoSaid : Prop := snapshotFullUptoRow.holds Tryd.pinned (OpenSpec.upto snapshotFullSpec)

/-- 'disjointlaw38.SnapshotWrites', WHERE WHAT IT READS IS OF BULK AT MOST 1048576: true; the input reads as it did. -/
def snapshotWritesUptoRow : OpenClaim := { program := "ythhpilkhcomhbaadoor", sum := "762e6f057c980cd5b4f17225cfffcfc0133205d62fc0f450f3a7f76e620f88d5", func := "disjoint/disjointlaw38.SnapshotWrites", spec := "snapshotWrites", named := ["disjoint/checksum.steps"], apart := false, laid := [("disjoint/checksum.steps", laid_disjoint_checksum_steps)], narrowed := true }
def SnapshotWritesUptoSaid : Prop := snapshotWritesUptoRow.holds Tryd.pinned (OpenSpec.upto snapshotWritesSpec)

end Rows
end Go.Proofs.YthhpilkhcomhbaaDoor
