/-
  NARROWER THAN 'FOR EVERY INPUT', by the rows' own cells (each row's printed sentence says how): CutproofCheck: loops · CutproofSize: loops · CutproofSound: loops.
  DERIVED. THE GIVEN ROWS OF THIS SEAT. 8 by the template 'for every input the law returns true; each argument reads behind the call as it read before'; 0 by the template 'total and deterministic' (their statements: YthfolccofjaknaaTotals.lean).
  GIVEN WITH THE SEED: the statements are not yours to turn. If you find one false, say at which input.
  Laid BY PROGRAM, IN A SANDBOX (cutbox-rows.mjs): the forced cells as the released guide's own fill.sh prints them over the translation a7d4c55ed28e7386… (all of the seat's roots in one cut). By AI agents, Wed Nov 11 2026. No macro, syntax, notation, axiom, sorry.
-/
import Derived.Test.YthfolccofjaknaaChecked
import GoSem.Claim
import GoSem.ClaimJoined
import GoSem.ClaimMapViews
import Derived.JoinedTies
import Derived.KernelRfl
namespace Go.Proofs.Ythfolccofjaknaa
/- THE CELL 'sum', in the pinned program and in every row, IS THE sha256 OF THE DUMP (.gsa) THAT YthfolccofjaknaaProg.lean LOADS. Nothing in Lean hashes anything: it is a label: what it is worth is what the hold of that sum in a sandbox is worth. -/
noncomputable def Try.pinned : Pinned := { name := "ythfolccofjaknaa", sum := "a7d4c55ed28e73861812a87e4c4ae60cc13a29c3be32c6430ee44bd0d5a5ff6c", checked := Try.checked }
namespace Rows
def none {H : Type} : Left H := { results := [], args := [] }

/-- 'disjointlaw18.CutproofOf': WHATEVER THE INPUT: true; the input reads as it did. -/
def cutproofOfSpec : ChangeSpec := { name := "cutproofOf", fn := fun _ => fun
  | [d1, d2] => { results := [.lit (.bool true)], args := [d1, d2] }
  | _ => none }
def cutproofOfRow : OpenClaim := { program := "ythfolccofjaknaa", sum := "a7d4c55ed28e73861812a87e4c4ae60cc13a29c3be32c6430ee44bd0d5a5ff6c", func := "disjoint/disjointlaw18.CutproofOf", spec := "cutproofOf", recurses := true, apart := false }
def CutproofOfSaid : Prop := cutproofOfRow.holds Try.pinned (OpenSpec.ofChange cutproofOfSpec)

/-- ITS FALSE NEIGHBOUR: 'it returns false'. Refute it at one input. -/
def cutproofOfWrong : ChangeSpec := { name := "cutproofOf", fn := fun _ => fun
  | [d1, d2] => { results := [.lit (.bool false)], args := [d1, d2] }
  | _ => none }
def CutproofOfWrongFalsely : Prop := cutproofOfRow.holds Try.pinned (OpenSpec.ofChange cutproofOfWrong)

/-- 'disjointlaw18.CutproofApply': WHATEVER THE INPUT: true; the input reads as it did. -/
def cutproofApplySpec : ChangeSpec := { name := "cutproofApply", fn := fun _ => fun
  | [d1, d2] => { results := [.lit (.bool true)], args := [d1, d2] }
  | _ => none }
def cutproofApplyRow : OpenClaim := { program := "ythfolccofjaknaa", sum := "a7d4c55ed28e73861812a87e4c4ae60cc13a29c3be32c6430ee44bd0d5a5ff6c", func := "disjoint/disjointlaw18.CutproofApply", spec := "cutproofApply", recurses := true, apart := false }
def CutproofApplySaid : Prop := cutproofApplyRow.holds Try.pinned (OpenSpec.ofChange cutproofApplySpec)

/-- ITS FALSE NEIGHBOUR: 'it returns false'. Refute it at one input. -/
def cutproofApplyWrong : ChangeSpec := { name := "cutproofApply", fn := fun _ => fun
  | [d1, d2] => { results := [.lit (.bool false)], args := [d1, d2] }
  | _ => none }
def CutproofApplyWrongFalsely : Prop := cutproofApplyRow.holds Try.pinned (OpenSpec.ofChange cutproofApplyWrong)

/-- 'disjointlaw18.CutproofCheck': WHATEVER THE INPUT: true; the input reads as it did. -/
def cutproofCheckSpec : ChangeSpec := { name := "cutproofCheck", fn := fun _ => fun
  | [d1, d2] => { results := [.lit (.bool true)], args := [d1, d2] }
  | _ => none }
def cutproofCheckRow : OpenClaim := { program := "ythfolccofjaknaa", sum := "a7d4c55ed28e73861812a87e4c4ae60cc13a29c3be32c6430ee44bd0d5a5ff6c", func := "disjoint/disjointlaw18.CutproofCheck", spec := "cutproofCheck", recurses := true, loops := true, apart := false }
def CutproofCheckSaid : Prop := cutproofCheckRow.holds Try.pinned (OpenSpec.ofChange cutproofCheckSpec)

/-- ITS FALSE NEIGHBOUR: 'it returns false'. Refute it at one input. -/
def cutproofCheckWrong : ChangeSpec := { name := "cutproofCheck", fn := fun _ => fun
  | [d1, d2] => { results := [.lit (.bool false)], args := [d1, d2] }
  | _ => none }
def CutproofCheckWrongFalsely : Prop := cutproofCheckRow.holds Try.pinned (OpenSpec.ofChange cutproofCheckWrong)

/-- 'disjointlaw18.CutproofHolds': WHATEVER THE INPUT: true; the input reads as it did. -/
def cutproofHoldsSpec : ChangeSpec := { name := "cutproofHolds", fn := fun _ => fun
  | [d1, d2] => { results := [.lit (.bool true)], args := [d1, d2] }
  | _ => none }
def cutproofHoldsRow : OpenClaim := { program := "ythfolccofjaknaa", sum := "a7d4c55ed28e73861812a87e4c4ae60cc13a29c3be32c6430ee44bd0d5a5ff6c", func := "disjoint/disjointlaw18.CutproofHolds", spec := "cutproofHolds", recurses := true, apart := false }
def CutproofHoldsSaid : Prop := cutproofHoldsRow.holds Try.pinned (OpenSpec.ofChange cutproofHoldsSpec)

/-- ITS FALSE NEIGHBOUR: 'it returns false'. Refute it at one input. -/
def cutproofHoldsWrong : ChangeSpec := { name := "cutproofHolds", fn := fun _ => fun
  | [d1, d2] => { results := [.lit (.bool false)], args := [d1, d2] }
  | _ => none }
def CutproofHoldsWrongFalsely : Prop := cutproofHoldsRow.holds Try.pinned (OpenSpec.ofChange cutproofHoldsWrong)

/-- 'disjointlaw18.CutproofSize': WHATEVER THE INPUT: true; the input reads as it did. -/
def cutproofSizeSpec : ChangeSpec := { name := "cutproofSize", fn := fun _ => fun
  | [d1, d2] => { results := [.lit (.bool true)], args := [d1, d2] }
  | _ => none }
def cutproofSizeRow : OpenClaim := { program := "ythfolccofjaknaa", sum := "a7d4c55ed28e73861812a87e4c4ae60cc13a29c3be32c6430ee44bd0d5a5ff6c", func := "disjoint/disjointlaw18.CutproofSize", spec := "cutproofSize", recurses := true, loops := true, apart := false }
def CutproofSizeSaid : Prop := cutproofSizeRow.holds Try.pinned (OpenSpec.ofChange cutproofSizeSpec)

/-- ITS FALSE NEIGHBOUR: 'it returns false'. Refute it at one input. -/
def cutproofSizeWrong : ChangeSpec := { name := "cutproofSize", fn := fun _ => fun
  | [d1, d2] => { results := [.lit (.bool false)], args := [d1, d2] }
  | _ => none }
def CutproofSizeWrongFalsely : Prop := cutproofSizeRow.holds Try.pinned (OpenSpec.ofChange cutproofSizeWrong)

/-- 'disjointlaw18.CutproofStep': WHATEVER THE INPUT: true; the input reads as it did. -/
def cutproofStepSpec : ChangeSpec := { name := "cutproofStep", fn := fun _ => fun
  | [d1, d2, d3] => { results := [.lit (.bool true)], args := [d1, d2, d3] }
  | _ => none }
def cutproofStepRow : OpenClaim := { program := "ythfolccofjaknaa", sum := "a7d4c55ed28e73861812a87e4c4ae60cc13a29c3be32c6430ee44bd0d5a5ff6c", func := "disjoint/disjointlaw18.CutproofStep", spec := "cutproofStep", recurses := true, apart := false }
def CutproofStepSaid : Prop := cutproofStepRow.holds Try.pinned (OpenSpec.ofChange cutproofStepSpec)

/-- ITS FALSE NEIGHBOUR: 'it returns false'. Refute it at one input. -/
def cutproofStepWrong : ChangeSpec := { name := "cutproofStep", fn := fun _ => fun
  | [d1, d2, d3] => { results := [.lit (.bool false)], args := [d1, d2, d3] }
  | _ => none }
def CutproofStepWrongFalsely : Prop := cutproofStepRow.holds Try.pinned (OpenSpec.ofChange cutproofStepWrong)

/-- 'disjointlaw18.CutproofSound': WHATEVER THE INPUT: true; the input reads as it did. -/
def cutproofSoundSpec : ChangeSpec := { name := "cutproofSound", fn := fun _ => fun
  | [d1, d2, d3] => { results := [.lit (.bool true)], args := [d1, d2, d3] }
  | _ => none }
def cutproofSoundRow : OpenClaim := { program := "ythfolccofjaknaa", sum := "a7d4c55ed28e73861812a87e4c4ae60cc13a29c3be32c6430ee44bd0d5a5ff6c", func := "disjoint/disjointlaw18.CutproofSound", spec := "cutproofSound", recurses := true, loops := true, apart := false }
def CutproofSoundSaid : Prop := cutproofSoundRow.holds Try.pinned (OpenSpec.ofChange cutproofSoundSpec)

/-- ITS FALSE NEIGHBOUR: 'it returns false'. Refute it at one input. -/
def cutproofSoundWrong : ChangeSpec := { name := "cutproofSound", fn := fun _ => fun
  | [d1, d2, d3] => { results := [.lit (.bool false)], args := [d1, d2, d3] }
  | _ => none }
def CutproofSoundWrongFalsely : Prop := cutproofSoundRow.holds Try.pinned (OpenSpec.ofChange cutproofSoundWrong)

/-- 'disjointlaw18.CutproofConstraint': WHATEVER THE INPUT: true; the input reads as it did. -/
def cutproofConstraintSpec : ChangeSpec := { name := "cutproofConstraint", fn := fun _ => fun
  | [d1, d2] => { results := [.lit (.bool true)], args := [d1, d2] }
  | _ => none }
def cutproofConstraintRow : OpenClaim := { program := "ythfolccofjaknaa", sum := "a7d4c55ed28e73861812a87e4c4ae60cc13a29c3be32c6430ee44bd0d5a5ff6c", func := "disjoint/disjointlaw18.CutproofConstraint", spec := "cutproofConstraint", recurses := true, apart := false }
def CutproofConstraintSaid : Prop := cutproofConstraintRow.holds Try.pinned (OpenSpec.ofChange cutproofConstraintSpec)

/-- ITS FALSE NEIGHBOUR: 'it returns false'. Refute it at one input. -/
def cutproofConstraintWrong : ChangeSpec := { name := "cutproofConstraint", fn := fun _ => fun
  | [d1, d2] => { results := [.lit (.bool false)], args := [d1, d2] }
  | _ => none }
def CutproofConstraintWrongFalsely : Prop := cutproofConstraintRow.holds Try.pinned (OpenSpec.ofChange cutproofConstraintWrong)

/- THE SECOND FORM. 'bulk': how many values and letters a reading holds, each counted each time it is reached (what is shared counts as often as it is met; a slice's spare places count too). A statement '..UptoSaid' is the law's where the arguments, and the package variables that the reading takes, are together of bulk at most 1048576: NARROWER than '..Said'. Prove '..Said' where nothing that the law and all that it calls make is longer than what came in: it says more and counts as full. Else prove '..UptoSaid'. A law counts once. -/
mutual
def uptoBulk {H : Type} : DataW H → Nat
  | .lit (.string bytes) => bytes.length + 1
  | .lit _ => 1
  | .nil => 1
  | .ptr d => uptoBulk d + 1
  | .slice elems spare => uptoBulkAll elems + uptoBulkAll spare + 1
  | .agg parts => uptoBulkAll parts + 1
  | .iface _ d => uptoBulk d + 1
  | .map entries => uptoBulkEntries entries + 1
  | .held _ => 1
def uptoBulkAll {H : Type} : List (DataW H) → Nat
  | [] => 0
  | d :: r => uptoBulk d + uptoBulkAll r
def uptoBulkEntries {H : Type} : List (Lit × DataW H) → Nat
  | [] => 0
  | x :: r => uptoBulkEntry x + uptoBulkEntries r
def uptoBulkEntry {H : Type} : Lit × DataW H → Nat
  | (.string bytes, d) => bytes.length + uptoBulk d + 1
  | (_, d) => uptoBulk d + 1
 end
def uptoSmall : (H : Type) → List (DataW H) → Bool := fun _ ds => decide (uptoBulkAll ds ≤ 1048576)
def OpenSpec.upto (s : _root_.Go.ChangeSpec) : _root_.Go.OpenSpec := { _root_.Go.OpenSpec.ofChange s with cond := some uptoSmall }

/-- 'disjointlaw18.CutproofOf', WHERE WHAT IT READS IS OF BULK AT MOST 1048576: true; the input reads as it did. -/
def cutproofOfUptoRow : OpenClaim := { program := "ythfolccofjaknaa", sum := "a7d4c55ed28e73861812a87e4c4ae60cc13a29c3be32c6430ee44bd0d5a5ff6c", func := "disjoint/disjointlaw18.CutproofOf", spec := "cutproofOf", recurses := true, apart := false, narrowed := true }
def CutproofOfUptoSaid : Prop := cutproofOfUptoRow.holds Try.pinned (OpenSpec.upto cutproofOfSpec)

/-- 'disjointlaw18.CutproofApply', WHERE WHAT IT READS IS OF BULK AT MOST 1048576: true; the input reads as it did. -/
def cutproofApplyUptoRow : OpenClaim := { program := "ythfolccofjaknaa", sum := "a7d4c55ed28e73861812a87e4c4ae60cc13a29c3be32c6430ee44bd0d5a5ff6c", func := "disjoint/disjointlaw18.CutproofApply", spec := "cutproofApply", recurses := true, apart := false, narrowed := true }
def CutproofApplyUptoSaid : Prop := cutproofApplyUptoRow.holds Try.pinned (OpenSpec.upto cutproofApplySpec)

/-- 'disjointlaw18.CutproofCheck', WHERE WHAT IT READS IS OF BULK AT MOST 1048576: true; the input reads as it did. -/
def cutproofCheckUptoRow : OpenClaim := { program := "ythfolccofjaknaa", sum := "a7d4c55ed28e73861812a87e4c4ae60cc13a29c3be32c6430ee44bd0d5a5ff6c", func := "disjoint/disjointlaw18.CutproofCheck", spec := "cutproofCheck", recurses := true, loops := true, apart := false, narrowed := true }
def CutproofCheckUptoSaid : Prop := cutproofCheckUptoRow.holds Try.pinned (OpenSpec.upto cutproofCheckSpec)

/-- 'disjointlaw18.CutproofHolds', WHERE WHAT IT READS IS OF BULK AT MOST 1048576: true; the input reads as it did. -/
def cutproofHoldsUptoRow : OpenClaim := { program := "ythfolccofjaknaa", sum := "a7d4c55ed28e73861812a87e4c4ae60cc13a29c3be32c6430ee44bd0d5a5ff6c", func := "disjoint/disjointlaw18.CutproofHolds", spec := "cutproofHolds", recurses := true, apart := false, narrowed := true }
def CutproofHoldsUptoSaid : Prop := cutproofHoldsUptoRow.holds Try.pinned (OpenSpec.upto cutproofHoldsSpec)

/-- 'disjointlaw18.CutproofSize', WHERE WHAT IT READS IS OF BULK AT MOST 1048576: true; the input reads as it did. -/
def cutproofSizeUptoRow : OpenClaim := { program := "ythfolccofjaknaa", sum := "a7d4c55ed28e73861812a87e4c4ae60cc13a29c3be32c6430ee44bd0d5a5ff6c", func := "disjoint/disjointlaw18.CutproofSize", spec := "cutproofSize", recurses := true, loops := true, apart := false, narrowed := true }
def CutproofSizeUptoSaid : Prop := cutproofSizeUptoRow.holds Try.pinned (OpenSpec.upto cutproofSizeSpec)

/-- 'disjointlaw18.CutproofStep', WHERE WHAT IT READS IS OF BULK AT MOST 1048576: true; the input reads as it did. -/
def cutproofStepUptoRow : OpenClaim := { program := "ythfolccofjaknaa", sum := "a7d4c55ed28e73861812a87e4c4ae60cc13a29c3be32c6430ee44bd0d5a5ff6c", func := "disjoint/disjointlaw18.CutproofStep", spec := "cutproofStep", recurses := true, apart := false, narrowed := true }
def CutproofStepUptoSaid : Prop := cutproofStepUptoRow.holds Try.pinned (OpenSpec.upto cutproofStepSpec)

/-- 'disjointlaw18.CutproofSound', WHERE WHAT IT READS IS OF BULK AT MOST 1048576: true; the input reads as it did. -/
def cutproofSoundUptoRow : OpenClaim := { program := "ythfolccofjaknaa", sum := "a7d4c55ed28e73861812a87e4c4ae60cc13a29c3be32c6430ee44bd0d5a5ff6c", func := "disjoint/disjointlaw18.CutproofSound", spec := "cutproofSound", recurses := true, loops := true, apart := false, narrowed := true }
def CutproofSoundUptoSaid : Prop := cutproofSoundUptoRow.holds Try.pinned (OpenSpec.upto cutproofSoundSpec)

/-- 'disjointlaw18.CutproofConstraint', WHERE WHAT IT READS IS OF BULK AT MOST 1048576: true; the input reads as it did. -/
def cutproofConstraintUptoRow : OpenClaim := { program := "ythfolccofjaknaa", sum := "a7d4c55ed28e73861812a87e4c4ae60cc13a29c3be32c6430ee44bd0d5a5ff6c", func := "disjoint/disjointlaw18.CutproofConstraint", spec := "cutproofConstraint", recurses := true, apart := false, narrowed := true }
def CutproofConstraintUptoSaid : Prop := cutproofConstraintUptoRow.holds Try.pinned (OpenSpec.upto cutproofConstraintSpec)

end Rows
end Go.Proofs.Ythfolccofjaknaa
