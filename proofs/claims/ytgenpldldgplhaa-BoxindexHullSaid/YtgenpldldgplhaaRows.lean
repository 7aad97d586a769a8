/-
  No cell of these rows narrows 'for every input' (looked for: loops, veiled, ifaces, maps, wideKeys, modest, calm, conditions, laid).
  DERIVED. THE GIVEN ROWS OF THIS SEAT. 6 by the template 'for every input the law returns true; each argument reads behind the call as it read before'; 0 by the template 'total and deterministic' (their statements: YtgenpldldgplhaaTotals.lean).
  GIVEN WITH THE SEED: the statements are not yours to turn. If you find one false, say at which input.
  Laid BY PROGRAM, IN A SANDBOX (cutbox-rows.mjs): the forced cells as the released guide's own fill.sh prints them over the translation 13afff094967c3eb… (all of the seat's roots in one cut). By AI agents, Wed Nov 11 2026. No macro, syntax, notation, axiom, sorry.
-/
import Derived.Test.YtgenpldldgplhaaChecked
import GoSem.Claim
import GoSem.ClaimJoined
import GoSem.ClaimMapViews
import Derived.JoinedTies
import Derived.KernelRfl
namespace Go.Proofs.Ytgenpldldgplhaa
/- THE CELL 'sum', in the pinned program and in every row, IS THE sha256 OF THE DUMP (.gsa) THAT YtgenpldldgplhaaProg.lean LOADS. Nothing in Lean hashes anything: it is a label: what it is worth is what the hold of that sum in a sandbox is worth. -/
noncomputable def Try.pinned : Pinned := { name := "ytgenpldldgplhaa", sum := "13afff094967c3eb6dc99d5ccb3e3d95d75ba86644b3fc2013ec6495f46a7c1c", checked := Try.checked }
namespace Rows
def none {H : Type} : Left H := { results := [], args := [] }

/-- 'disjointlaw31.BoxindexMatchesList': WHATEVER THE INPUT: true; the input reads as it did. -/
def boxindexMatchesListSpec : ChangeSpec := { name := "boxindexMatchesList", fn := fun _ => fun
  | [d] => { results := [.lit (.bool true)], args := [d] }
  | _ => none }
def boxindexMatchesListRow : OpenClaim := { program := "ytgenpldldgplhaa", sum := "13afff094967c3eb6dc99d5ccb3e3d95d75ba86644b3fc2013ec6495f46a7c1c", func := "disjoint/disjointlaw31.BoxindexMatchesList", spec := "boxindexMatchesList", recurses := true, apart := false }
def BoxindexMatchesListSaid : Prop := boxindexMatchesListRow.holds Try.pinned (OpenSpec.ofChange boxindexMatchesListSpec)

/-- ITS FALSE NEIGHBOUR: 'it returns false'. Refute it at one input. -/
def boxindexMatchesListWrong : ChangeSpec := { name := "boxindexMatchesList", fn := fun _ => fun
  | [d] => { results := [.lit (.bool false)], args := [d] }
  | _ => none }
def BoxindexMatchesListWrongFalsely : Prop := boxindexMatchesListRow.holds Try.pinned (OpenSpec.ofChange boxindexMatchesListWrong)

/-- 'disjointlaw31.BoxindexLen': WHATEVER THE INPUT: true; the input reads as it did. -/
def boxindexLenSpec : ChangeSpec := { name := "boxindexLen", fn := fun _ => fun
  | [d] => { results := [.lit (.bool true)], args := [d] }
  | _ => none }
def boxindexLenRow : OpenClaim := { program := "ytgenpldldgplhaa", sum := "13afff094967c3eb6dc99d5ccb3e3d95d75ba86644b3fc2013ec6495f46a7c1c", func := "disjoint/disjointlaw31.BoxindexLen", spec := "boxindexLen", recurses := true, apart := false }
def BoxindexLenSaid : Prop := boxindexLenRow.holds Try.pinned (OpenSpec.ofChange boxindexLenSpec)

/-- ITS FALSE NEIGHBOUR: 'it returns false'. Refute it at one input. -/
def boxindexLenWrong : ChangeSpec := { name := "boxindexLen", fn := fun _ => fun
  | [d] => { results := [.lit (.bool false)], args := [d] }
  | _ => none }
def BoxindexLenWrongFalsely : Prop := boxindexLenRow.holds Try.pinned (OpenSpec.ofChange boxindexLenWrong)

/-- 'disjointlaw31.BoxindexOrder': WHATEVER THE INPUT: true; the input reads as it did. -/
def boxindexOrderSpec : ChangeSpec := { name := "boxindexOrder", fn := fun _ => fun
  | [d1, d2] => { results := [.lit (.bool true)], args := [d1, d2] }
  | _ => none }
def boxindexOrderRow : OpenClaim := { program := "ytgenpldldgplhaa", sum := "13afff094967c3eb6dc99d5ccb3e3d95d75ba86644b3fc2013ec6495f46a7c1c", func := "disjoint/disjointlaw31.BoxindexOrder", spec := "boxindexOrder", recurses := true, apart := false }
def BoxindexOrderSaid : Prop := boxindexOrderRow.holds Try.pinned (OpenSpec.ofChange boxindexOrderSpec)

/-- ITS FALSE NEIGHBOUR: 'it returns false'. Refute it at one input. -/
def boxindexOrderWrong : ChangeSpec := { name := "boxindexOrder", fn := fun _ => fun
  | [d1, d2] => { results := [.lit (.bool false)], args := [d1, d2] }
  | _ => none }
def BoxindexOrderWrongFalsely : Prop := boxindexOrderRow.holds Try.pinned (OpenSpec.ofChange boxindexOrderWrong)

/-- 'disjointlaw31.BoxindexHull': WHATEVER THE INPUT: true; the input reads as it did. -/
def boxindexHullSpec : ChangeSpec := { name := "boxindexHull", fn := fun _ => fun
  | [d] => { results := [.lit (.bool true)], args := [d] }
  | _ => none }
def boxindexHullRow : OpenClaim := { program := "ytgenpldldgplhaa", sum := "13afff094967c3eb6dc99d5ccb3e3d95d75ba86644b3fc2013ec6495f46a7c1c", func := "disjoint/disjointlaw31.BoxindexHull", spec := "boxindexHull", recurses := true, apart := false }
def BoxindexHullSaid : Prop := boxindexHullRow.holds Try.pinned (OpenSpec.ofChange boxindexHullSpec)

/-- ITS FALSE NEIGHBOUR: 'it returns false'. Refute it at one input. -/
def boxindexHullWrong : ChangeSpec := { name := "boxindexHull", fn := fun _ => fun
  | [d] => { results := [.lit (.bool false)], args := [d] }
  | _ => none }
def BoxindexHullWrongFalsely : Prop := boxindexHullRow.holds Try.pinned (OpenSpec.ofChange boxindexHullWrong)

/-- 'disjointlaw31.BoxindexReplaced': WHATEVER THE INPUT: true; the input reads as it did. -/
def boxindexReplacedSpec : ChangeSpec := { name := "boxindexReplaced", fn := fun _ => fun
  | [d1, d2, d3] => { results := [.lit (.bool true)], args := [d1, d2, d3] }
  | _ => none }
def boxindexReplacedRow : OpenClaim := { program := "ytgenpldldgplhaa", sum := "13afff094967c3eb6dc99d5ccb3e3d95d75ba86644b3fc2013ec6495f46a7c1c", func := "disjoint/disjointlaw31.BoxindexReplaced", spec := "boxindexReplaced", recurses := true, apart := false }
def BoxindexReplacedSaid : Prop := boxindexReplacedRow.holds Try.pinned (OpenSpec.ofChange boxindexReplacedSpec)

/-- ITS FALSE NEIGHBOUR: 'it returns false'. Refute it at one input. -/
def boxindexReplacedWrong : ChangeSpec := { name := "boxindexReplaced", fn := fun _ => fun
  | [d1, d2, d3] => { results := [.lit (.bool false)], args := [d1, d2, d3] }
  | _ => none }
def BoxindexReplacedWrongFalsely : Prop := boxindexReplacedRow.holds Try.pinned (OpenSpec.ofChange boxindexReplacedWrong)

/-- 'disjointlaw31.BoxindexNoAliasing': WHATEVER THE INPUT: true; the input reads as it did. -/
def boxindexNoAliasingSpec : ChangeSpec := { name := "boxindexNoAliasing", fn := fun _ => fun
  | [d1, d2] => { results := [.lit (.bool true)], args := [d1, d2] }
  | _ => none }
def boxindexNoAliasingRow : OpenClaim := { program := "ytgenpldldgplhaa", sum := "13afff094967c3eb6dc99d5ccb3e3d95d75ba86644b3fc2013ec6495f46a7c1c", func := "disjoint/disjointlaw31.BoxindexNoAliasing", spec := "boxindexNoAliasing", recurses := true, apart := false }
def BoxindexNoAliasingSaid : Prop := boxindexNoAliasingRow.holds Try.pinned (OpenSpec.ofChange boxindexNoAliasingSpec)

/-- ITS FALSE NEIGHBOUR: 'it returns false'. Refute it at one input. -/
def boxindexNoAliasingWrong : ChangeSpec := { name := "boxindexNoAliasing", fn := fun _ => fun
  | [d1, d2] => { results := [.lit (.bool false)], args := [d1, d2] }
  | _ => none }
def BoxindexNoAliasingWrongFalsely : Prop := boxindexNoAliasingRow.holds Try.pinned (OpenSpec.ofChange boxindexNoAliasingWrong)

/- THE SECOND FORM. 'bulk': how many values and letters a reading holds, each counted each time it is reached (what is shared counts as often as it is met; a slice's spare places count too). A statement '..UptoSaid' is the law's where the arguments, and the package variables that the reading takes, are together of bulk at most 1048576: NARROWER than '..Said'. Prove '..Said' where nothing that the law and all that it calls make is longer than what came in: it says more and counts as full. Else prove '..UptoSaid'. A law counts once. -/
mutual
def uptoBulk {H : Type} : DataW H → Nat
  | .lit (.string bytes) => bytes.length + 1
  | .lit _ => 1
  | .nil => 1
  | .ptr d => uptoBulk d + 1
  | .slice elems spare => uptoBulkAll elems + uptoBulkAll spare + 1
  | .agg parts => uptoBulkAll parts + 1
  | .iface _ d => uptoBulk d + 1
  | .map entries => uptoBulkEntries entries + 1
  | .held _ => 1
def uptoBulkAll {H : Type} : List (DataW H) → Nat
  | [] => 0
  | d :: r => uptoBulk d + uptoBulkAll r
def uptoBulkEntries {H : Type} : List (Lit × DataW H) → Nat
  | [] => 0
  | x :: r => uptoBulkEntry x + uptoBulkEntries r
def uptoBulkEntry {H : Type} : Lit × DataW H → Nat
  | (.string bytes, d) => bytes.length + uptoBulk d + 1
  | (_, d) => uptoBulk d + 1
 end
def uptoSmall : (H : Type) → List (DataW H) → Bool := fun _ ds => decide (uptoBulkAll ds ≤ 1048576)
def OpenSpec.upto (s : _root_.Go.ChangeSpec) : _root_.Go.OpenSpec := { _root_.Go.OpenSpec.ofChange s with cond := some uptoSmall }

/-- 'disjointlaw31.BoxindexMatchesList', WHERE WHAT IT READS IS OF BULK AT MOST 1048576: true; the input reads as it did. -/
def boxindexMatchesListUptoRow : OpenClaim := { program := "ytgenpldldgplhaa", sum := "13afff094967c3eb6dc99d5ccb3e3d95d75ba86644b3fc2013ec6495f46a7c1c", func := "disjoint/disjointlaw31.BoxindexMatchesList", spec := "boxindexMatchesList", recurses := true, apart := false, narrowed := true }
def BoxindexMatchesListUptoSaid : Prop := boxindexMatchesListUptoRow.holds Try.pinned (OpenSpec.upto boxindexMatchesListSpec)

/-- 'disjointlaw31.BoxindexLen', WHERE WHAT IT READS IS OF BULK AT MOST 1048576: true; the input reads as it did. -/
def boxindexLenUptoRow : OpenClaim := { program := "ytgenpldldgplhaa", sum := "13afff094967c3eb6dc99d5ccb3e3d95d75ba86644b3fc2013ec6495f46a7c1c", func := "disjoint/disjointlaw31.BoxindexLen", spec := "boxindexLen", recurses := true, apart := false, narrowed := true }
def BoxindexLenUptoSaid : Prop := boxindexLenUptoRow.holds Try.pinned (OpenSpec.upto boxindexLenSpec)

/-- 'disjointlaw31.BoxindexOrder', WHERE WHAT IT READS IS OF BULK AT MOST 1048576: true; the input reads as it did. -/
def boxindexOrderUptoRow : OpenClaim := { program := "ytgenpldldgplhaa", sum := "13afff094967c3eb6dc99d5ccb3e3d95d75ba86644b3fc2013ec6495f46a7c1c", func := "disjoint/disjointlaw31.BoxindexOrder", spec := "boxindexOrder", recurses := true, apart := false, narrowed := true }
def BoxindexOrderUptoSaid : Prop := boxindexOrderUptoRow.holds Try.pinned (OpenSpec.upto boxindexOrderSpec)

/-- 'disjointlaw31.BoxindexHull', WHERE WHAT IT READS IS OF BULK AT MOST 1048576: true; the input reads as it did. -/
def boxindexHullUptoRow : OpenClaim := { program := "ytgenpldldgplhaa", sum := "13afff094967c3eb6dc99d5ccb3e3d95d75ba86644b3fc2013ec6495f46a7c1c", func := "disjoint/disjointlaw31.BoxindexHull", spec := "boxindexHull", recurses := true, apart := false, narrowed := true }
def BoxindexHullUptoSaid : Prop := boxindexHullUptoRow.holds Try.pinned (OpenSpec.upto boxindexHullSpec)

/-- 'disjointlaw31.BoxindexReplaced', WHERE WHAT IT READS IS OF BULK AT MOST 1048576: true; the input reads as it did. -/
def boxindexReplacedUptoRow : OpenClaim := { program := "ytgenpldldgplhaa", sum := "13afff094967c3eb6dc99d5ccb3e3d95d75ba86644b3fc2013ec6495f46a7c1c", func := "disjoint/disjointlaw31.BoxindexReplaced", spec := "boxindexReplaced", recurses := true, apart := false, narrowed := true }
def BoxindexReplacedUptoSaid : Prop := boxindexReplacedUptoRow.holds Try.pinned (OpenSpec.upto boxindexReplacedSpec)

/-- 'disjointlaw31.BoxindexNoAliasing', WHERE WHAT IT READS IS OF BULK AT MOST 1048576: true; the input reads as it did. -/
def boxindexNoAliasingUptoRow : OpenClaim := { program := "ytgenpldldgplhaa", sum := "13afff094967c3eb6dc99d5ccb3e3d95d75ba86644b3fc2013ec6495f46a7c1c", func := "disjoint/disjointlaw31.BoxindexNoAliasing", spec := "boxindexNoAliasing", recurses := true, apart := false, narrowed := true }
def BoxindexNoAliasingUptoSaid : Prop := boxindexNoAliasingUptoRow.holds Try.pinned (OpenSpec.upto boxindexNoAliasingSpec)

end Rows
end Go.Proofs.Ytgenpldldgplhaa
