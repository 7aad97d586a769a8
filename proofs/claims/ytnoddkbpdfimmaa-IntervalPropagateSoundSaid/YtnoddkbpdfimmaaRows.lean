/-
  No cell of these rows narrows 'for every input' (looked for: loops, veiled, ifaces, maps, wideKeys, modest, calm, conditions, laid).
  DERIVED. THE GIVEN ROWS OF THIS SEAT. 8 by the template 'for every input the law returns true; each argument reads behind the call as it read before'; 0 by the template 'total and deterministic' (their statements: YtnoddkbpdfimmaaTotals.lean).
  GIVEN WITH THE SEED: the statements are not yours to turn. If you find one false, say at which input.
  Laid BY PROGRAM, IN A SANDBOX (cutbox-rows.mjs): the forced cells as the released guide's own fill.sh prints them over the translation 6b3c86555f8e658d… (all of the seat's roots in one cut). By AI agents, Wed Nov 11 2026. No macro, syntax, notation, axiom, sorry.
-/
import Derived.Test.YtnoddkbpdfimmaaChecked
import GoSem.Claim
import GoSem.ClaimJoined
import GoSem.ClaimMapViews
import Derived.JoinedTies
import Derived.KernelRfl
namespace Go.Proofs.Ytnoddkbpdfimmaa
/- THE CELL 'sum', in the pinned program and in every row, IS THE sha256 OF THE DUMP (.gsa) THAT YtnoddkbpdfimmaaProg.lean LOADS. Nothing in Lean hashes anything: it is a label: what it is worth is what the hold of that sum in a sandbox is worth. -/
noncomputable def Try.pinned : Pinned := { name := "ytnoddkbpdfimmaa", sum := "6b3c86555f8e658d82bdaec143f3fb8d428849eb6dfab19215a68dc3aafdd32a", checked := Try.checked }
namespace Rows
def none {H : Type} : Left H := { results := [], args := [] }

/-- 'disjointlaw23.IntervalOf': WHATEVER THE INPUT: true; the input reads as it did. -/
def intervalOfSpec : ChangeSpec := { name := "intervalOf", fn := fun _ => fun
  | [d] => { results := [.lit (.bool true)], args := [d] }
  | _ => none }
def intervalOfRow : OpenClaim := { program := "ytnoddkbpdfimmaa", sum := "6b3c86555f8e658d82bdaec143f3fb8d428849eb6dfab19215a68dc3aafdd32a", func := "disjoint/disjointlaw23.IntervalOf", spec := "intervalOf", unfollowed := true, recurses := true, apart := false }
def IntervalOfSaid : Prop := intervalOfRow.holds Try.pinned (OpenSpec.ofChange intervalOfSpec)

/-- ITS FALSE NEIGHBOUR: 'it returns false'. Refute it at one input. -/
def intervalOfWrong : ChangeSpec := { name := "intervalOf", fn := fun _ => fun
  | [d] => { results := [.lit (.bool false)], args := [d] }
  | _ => none }
def IntervalOfWrongFalsely : Prop := intervalOfRow.holds Try.pinned (OpenSpec.ofChange intervalOfWrong)

/-- 'disjointlaw23.IntervalContains': WHATEVER THE INPUT: true; the input reads as it did. -/
def intervalContainsSpec : ChangeSpec := { name := "intervalContains", fn := fun _ => fun
  | [d1, d2] => { results := [.lit (.bool true)], args := [d1, d2] }
  | _ => none }
def intervalContainsRow : OpenClaim := { program := "ytnoddkbpdfimmaa", sum := "6b3c86555f8e658d82bdaec143f3fb8d428849eb6dfab19215a68dc3aafdd32a", func := "disjoint/disjointlaw23.IntervalContains", spec := "intervalContains", unfollowed := true, recurses := true, apart := false }
def IntervalContainsSaid : Prop := intervalContainsRow.holds Try.pinned (OpenSpec.ofChange intervalContainsSpec)

/-- ITS FALSE NEIGHBOUR: 'it returns false'. Refute it at one input. -/
def intervalContainsWrong : ChangeSpec := { name := "intervalContains", fn := fun _ => fun
  | [d1, d2] => { results := [.lit (.bool false)], args := [d1, d2] }
  | _ => none }
def IntervalContainsWrongFalsely : Prop := intervalContainsRow.holds Try.pinned (OpenSpec.ofChange intervalContainsWrong)

/-- 'disjointlaw23.IntervalUnionMeet': WHATEVER THE INPUT: true; the input reads as it did. -/
def intervalUnionMeetSpec : ChangeSpec := { name := "intervalUnionMeet", fn := fun _ => fun
  | [d1, d2] => { results := [.lit (.bool true)], args := [d1, d2] }
  | _ => none }
def intervalUnionMeetRow : OpenClaim := { program := "ytnoddkbpdfimmaa", sum := "6b3c86555f8e658d82bdaec143f3fb8d428849eb6dfab19215a68dc3aafdd32a", func := "disjoint/disjointlaw23.IntervalUnionMeet", spec := "intervalUnionMeet", unfollowed := true, recurses := true, apart := false }
def IntervalUnionMeetSaid : Prop := intervalUnionMeetRow.holds Try.pinned (OpenSpec.ofChange intervalUnionMeetSpec)

/-- ITS FALSE NEIGHBOUR: 'it returns false'. Refute it at one input. -/
def intervalUnionMeetWrong : ChangeSpec := { name := "intervalUnionMeet", fn := fun _ => fun
  | [d1, d2] => { results := [.lit (.bool false)], args := [d1, d2] }
  | _ => none }
def IntervalUnionMeetWrongFalsely : Prop := intervalUnionMeetRow.holds Try.pinned (OpenSpec.ofChange intervalUnionMeetWrong)

/-- 'disjointlaw23.IntervalAlgebra': WHATEVER THE INPUT: true; the input reads as it did. -/
def intervalAlgebraSpec : ChangeSpec := { name := "intervalAlgebra", fn := fun _ => fun
  | [d1, d2, d3] => { results := [.lit (.bool true)], args := [d1, d2, d3] }
  | _ => none }
def intervalAlgebraRow : OpenClaim := { program := "ytnoddkbpdfimmaa", sum := "6b3c86555f8e658d82bdaec143f3fb8d428849eb6dfab19215a68dc3aafdd32a", func := "disjoint/disjointlaw23.IntervalAlgebra", spec := "intervalAlgebra", unfollowed := true, recurses := true, apart := false }
def IntervalAlgebraSaid : Prop := intervalAlgebraRow.holds Try.pinned (OpenSpec.ofChange intervalAlgebraSpec)

/-- ITS FALSE NEIGHBOUR: 'it returns false'. Refute it at one input. -/
def intervalAlgebraWrong : ChangeSpec := { name := "intervalAlgebra", fn := fun _ => fun
  | [d1, d2, d3] => { results := [.lit (.bool false)], args := [d1, d2, d3] }
  | _ => none }
def IntervalAlgebraWrongFalsely : Prop := intervalAlgebraRow.holds Try.pinned (OpenSpec.ofChange intervalAlgebraWrong)

/-- 'disjointlaw23.IntervalHull': WHATEVER THE INPUT: true; the input reads as it did. -/
def intervalHullSpec : ChangeSpec := { name := "intervalHull", fn := fun _ => fun
  | [d] => { results := [.lit (.bool true)], args := [d] }
  | _ => none }
def intervalHullRow : OpenClaim := { program := "ytnoddkbpdfimmaa", sum := "6b3c86555f8e658d82bdaec143f3fb8d428849eb6dfab19215a68dc3aafdd32a", func := "disjoint/disjointlaw23.IntervalHull", spec := "intervalHull", unfollowed := true, recurses := true, apart := false }
def IntervalHullSaid : Prop := intervalHullRow.holds Try.pinned (OpenSpec.ofChange intervalHullSpec)

/-- ITS FALSE NEIGHBOUR: 'it returns false'. Refute it at one input. -/
def intervalHullWrong : ChangeSpec := { name := "intervalHull", fn := fun _ => fun
  | [d] => { results := [.lit (.bool false)], args := [d] }
  | _ => none }
def IntervalHullWrongFalsely : Prop := intervalHullRow.holds Try.pinned (OpenSpec.ofChange intervalHullWrong)

/-- 'disjointlaw23.IntervalPropagate': WHATEVER THE INPUT: true; the input reads as it did. -/
def intervalPropagateSpec : ChangeSpec := { name := "intervalPropagate", fn := fun _ => fun
  | [d] => { results := [.lit (.bool true)], args := [d] }
  | _ => none }
def intervalPropagateRow : OpenClaim := { program := "ytnoddkbpdfimmaa", sum := "6b3c86555f8e658d82bdaec143f3fb8d428849eb6dfab19215a68dc3aafdd32a", func := "disjoint/disjointlaw23.IntervalPropagate", spec := "intervalPropagate", unfollowed := true, recurses := true, apart := false }
def IntervalPropagateSaid : Prop := intervalPropagateRow.holds Try.pinned (OpenSpec.ofChange intervalPropagateSpec)

/-- ITS FALSE NEIGHBOUR: 'it returns false'. Refute it at one input. -/
def intervalPropagateWrong : ChangeSpec := { name := "intervalPropagate", fn := fun _ => fun
  | [d] => { results := [.lit (.bool false)], args := [d] }
  | _ => none }
def IntervalPropagateWrongFalsely : Prop := intervalPropagateRow.holds Try.pinned (OpenSpec.ofChange intervalPropagateWrong)

/-- 'disjointlaw23.IntervalPropagateSound': WHATEVER THE INPUT: true; the input reads as it did. -/
def intervalPropagateSoundSpec : ChangeSpec := { name := "intervalPropagateSound", fn := fun _ => fun
  | [d1, d2] => { results := [.lit (.bool true)], args := [d1, d2] }
  | _ => none }
def intervalPropagateSoundRow : OpenClaim := { program := "ytnoddkbpdfimmaa", sum := "6b3c86555f8e658d82bdaec143f3fb8d428849eb6dfab19215a68dc3aafdd32a", func := "disjoint/disjointlaw23.IntervalPropagateSound", spec := "intervalPropagateSound", unfollowed := true, recurses := true, apart := false }
def IntervalPropagateSoundSaid : Prop := intervalPropagateSoundRow.holds Try.pinned (OpenSpec.ofChange intervalPropagateSoundSpec)

/-- ITS FALSE NEIGHBOUR: 'it returns false'. Refute it at one input. -/
def intervalPropagateSoundWrong : ChangeSpec := { name := "intervalPropagateSound", fn := fun _ => fun
  | [d1, d2] => { results := [.lit (.bool false)], args := [d1, d2] }
  | _ => none }
def IntervalPropagateSoundWrongFalsely : Prop := intervalPropagateSoundRow.holds Try.pinned (OpenSpec.ofChange intervalPropagateSoundWrong)

/-- 'disjointlaw23.IntervalRange': WHATEVER THE INPUT: true; the input reads as it did. -/
def intervalRangeSpec : ChangeSpec := { name := "intervalRange", fn := fun _ => fun
  | [d1, d2] => { results := [.lit (.bool true)], args := [d1, d2] }
  | _ => none }
def intervalRangeRow : OpenClaim := { program := "ytnoddkbpdfimmaa", sum := "6b3c86555f8e658d82bdaec143f3fb8d428849eb6dfab19215a68dc3aafdd32a", func := "disjoint/disjointlaw23.IntervalRange", spec := "intervalRange", unfollowed := true, recurses := true, apart := false }
def IntervalRangeSaid : Prop := intervalRangeRow.holds Try.pinned (OpenSpec.ofChange intervalRangeSpec)

/-- ITS FALSE NEIGHBOUR: 'it returns false'. Refute it at one input. -/
def intervalRangeWrong : ChangeSpec := { name := "intervalRange", fn := fun _ => fun
  | [d1, d2] => { results := [.lit (.bool false)], args := [d1, d2] }
  | _ => none }
def IntervalRangeWrongFalsely : Prop := intervalRangeRow.holds Try.pinned (OpenSpec.ofChange intervalRangeWrong)

/- THE SECOND FORM. 'bulk': how many values and letters a reading holds, each counted each time it is reached (what is shared counts as often as it is met; a slice's spare places count too). A statement '..UptoSaid' is the law's where the arguments, and the package variables that the reading takes, are together of bulk at most 1048576: NARROWER than '..Said'. Prove '..Said' where nothing that the law and all that it calls make is longer than what came in: it says more and counts as full. Else prove '..UptoSaid'. A law counts once. -/
mutual
def uptoBulk {H : Type} : DataW H → Nat
  | .lit (.string bytes) => bytes.length + 1
  | .lit _ => 1
  | .nil => 1
  | .ptr d => uptoBulk d + 1
  | .slice elems spare => uptoBulkAll elems + uptoBulkAll spare + 1
  | .agg parts => uptoBulkAll parts + 1
  | .iface _ d => uptoBulk d + 1
  | .map entries => uptoBulkEntries entries + 1
  | .held _ => 1
def uptoBulkAll {H : Type} : List (DataW H) → Nat
  | [] => 0
  | d :: r => uptoBulk d + uptoBulkAll r
def uptoBulkEntries {H : Type} : List (Lit × DataW H) → Nat
  | [] => 0
  | x :: r => uptoBulkEntry x + uptoBulkEntries r
def uptoBulkEntry {H : Type} : Lit × DataW H → Nat
  | (.string bytes, d) => bytes.length + uptoBulk d + 1
  | (_, d) => uptoBulk d + 1
 end
def uptoSmall : (H : Type) → List (DataW H) → Bool := fun _ ds => decide (uptoBulkAll ds ≤ 1048576)
def OpenSpec.upto (s : _root_.Go.ChangeSpec) : _root_.Go.OpenSpec := { _root_.Go.OpenSpec.ofChange s with cond := some uptoSmall }

/-- 'disjointlaw23.IntervalOf', WHERE WHAT IT READS IS OF BULK AT MOST 1048576: true; the input reads as it did. -/
def intervalOfUptoRow : OpenClaim := { program := "ytnoddkbpdfimmaa", sum := "6b3c86555f8e658d82bdaec143f3fb8d428849eb6dfab19215a68dc3aafdd32a", func := "disjoint/disjointlaw23.IntervalOf", spec := "intervalOf", unfollowed := true, recurses := true, apart := false, narrowed := true }
def IntervalOfUptoSaid : Prop := intervalOfUptoRow.holds Try.pinned (OpenSpec.upto intervalOfSpec)

/-- 'disjointlaw23.IntervalContains', WHERE WHAT IT READS IS OF BULK AT MOST 1048576: true; the input reads as it did. -/
def intervalContainsUptoRow : OpenClaim := { program := "ytnoddkbpdfimmaa", sum := "6b3c86555f8e658d82bdaec143f3fb8d428849eb6dfab19215a68dc3aafdd32a", func := "disjoint/disjointlaw23.IntervalContains", spec := "intervalContains", unfollowed := true, recurses := true, apart := false, narrowed := true }
def IntervalContainsUptoSaid : Prop := intervalContainsUptoRow.holds Try.pinned (OpenSpec.upto intervalContainsSpec)

/-- 'disjointlaw23.IntervalUnionMeet', WHERE WHAT IT READS IS OF BULK AT MOST 1048576: true; the input reads as it did. -/
def intervalUnionMeetUptoRow : OpenClaim := { program := "ytnoddkbpdfimmaa", sum := "6b3c86555f8e658d82bdaec143f3fb8d428849eb6dfab19215a68dc3aafdd32a", func := "disjoint/disjointlaw23.IntervalUnionMeet", spec := "intervalUnionMeet", unfollowed := true, recurses := true, apart := false, narrowed := true }
def IntervalUnionMeetUptoSaid : Prop := intervalUnionMeetUptoRow.holds Try.pinned (OpenSpec.upto intervalUnionMeetSpec)

/-- 'disjointlaw23.IntervalAlgebra', WHERE WHAT IT READS IS OF BULK AT MOST 1048576: true; the input reads as it did. -/
def intervalAlgebraUptoRow : OpenClaim := { program := "ytnoddkbpdfimmaa", sum := "6b3c86555f8e658d82bdaec143f3fb8d428849eb6dfab19215a68dc3aafdd32a", func := "disjoint/disjointlaw23.IntervalAlgebra", spec := "intervalAlgebra", unfollowed := true, recurses := true, apart := false, narrowed := true }
def IntervalAlgebraUptoSaid : Prop := intervalAlgebraUptoRow.holds Try.pinned (OpenSpec.upto intervalAlgebraSpec)

/-- 'disjointlaw23.IntervalHull', WHERE WHAT IT READS IS OF BULK AT MOST 1048576: true; the input reads as it did. -/
def intervalHullUptoRow : OpenClaim := { program := "ytnoddkbpdfimmaa", sum := "6b3c86555f8e658d82bdaec143f3fb8d428849eb6dfab19215a68dc3aafdd32a", func := "disjoint/disjointlaw23.IntervalHull", spec := "intervalHull", unfollowed := true, recurses := true, apart := false, narrowed := true }
def IntervalHullUptoSaid : Prop := intervalHullUptoRow.holds Try.pinned (OpenSpec.upto intervalHullSpec)

/-- 'disjointlaw23.IntervalPropagate', WHERE WHAT IT READS IS OF BULK AT MOST 1048576: true; the input reads as it did. -/
def intervalPropagateUptoRow : OpenClaim := { program := "ytnoddkbpdfimmaa", sum := "6b3c86555f8e658d82bdaec143f3fb8d428849eb6dfab19215a68dc3aafdd32a", func := "disjoint/disjointlaw23.IntervalPropagate", spec := "intervalPropagate", unfollowed := true, recurses := true, apart := false, narrowed := true }
def IntervalPropagateUptoSaid : Prop := intervalPropagateUptoRow.holds Try.pinned (OpenSpec.upto intervalPropagateSpec)

/-- 'disjointlaw23.IntervalPropagateSound', WHERE WHAT IT READS IS OF BULK AT MOST 1048576: true; the input reads as it did. -/
def intervalPropagateSoundUptoRow : OpenClaim := { program := "ytnoddkbpdfimmaa", sum := "6b3c86555f8e658d82bdaec143f3fb8d428849eb6dfab19215a68dc3aafdd32a", func := "disjoint/disjointlaw23.IntervalPropagateSound", spec := "intervalPropagateSound", unfollowed := true, recurses := true, apart := false, narrowed := true }
def IntervalPropagateSoundUptoSaid : Prop := intervalPropagateSoundUptoRow.holds Try.pinned (OpenSpec.upto intervalPropagateSoundSpec)

/-- 'disjointlaw23.IntervalRange', WHERE WHAT IT READS IS OF BULK AT MOST 1048576: true; the input reads as it did. -/
def intervalRangeUptoRow : OpenClaim := { program := "ytnoddkbpdfimmaa", sum := "6b3c86555f8e658d82bdaec143f3fb8d428849eb6dfab19215a68dc3aafdd32a", func := "disjoint/disjointlaw23.IntervalRange", spec := "intervalRange", unfollowed := true, recurses := true, apart := false, narrowed := true }
def IntervalRangeUptoSaid : Prop := intervalRangeUptoRow.holds Try.pinned (OpenSpec.upto intervalRangeSpec)

end Rows
end Go.Proofs.Ytnoddkbpdfimmaa
