/-
  NARROWER THAN 'FOR EVERY INPUT', by the rows' own cells (each row's printed sentence says how): EvaluateValue: loops · EvaluateCondition: loops · EvaluateMatches: loops · EvaluateConstant: loops · EvaluateNull: loops · EvaluateMonotone: loops.
  DERIVED. THE GIVEN ROWS OF THIS SEAT. 8 by the template 'for every input the law returns true; each argument reads behind the call as it read before'; 0 by the template 'total and deterministic' (their statements: YtfhbffgnpedaeaaTotals.lean).
  GIVEN WITH THE SEED: the statements are not yours to turn. If you find one false, say at which input.
  Laid BY PROGRAM, IN A SANDBOX (cutbox-rows.mjs): the forced cells as the released guide's own fill.sh prints them over the translation e66c63fdc9fc4d9c… (all of the seat's roots in one cut). By AI agents, Wed Nov 11 2026. No macro, syntax, notation, axiom, sorry.
-/
import Derived.Test.YtfhbffgnpedaeaaChecked
import GoSem.Claim
import GoSem.ClaimJoined
import GoSem.ClaimMapViews
import Derived.JoinedTies
import Derived.KernelRfl
namespace Go.Proofs.Ytfhbffgnpedaeaa
/- THE CELL 'sum', in the pinned program and in every row, IS THE sha256 OF THE DUMP (.gsa) THAT YtfhbffgnpedaeaaProg.lean LOADS. Nothing in Lean hashes anything: it is a label: what it is worth is what the hold of that sum in a sandbox is worth. -/
noncomputable def Try.pinned : Pinned := { name := "ytfhbffgnpedaeaa", sum := "e66c63fdc9fc4d9c5c74a1e31f58cf2b1962bc62a9f9fe3f2bb4b0ed9796cf95", checked := Try.checked }
namespace Rows
def none {H : Type} : Left H := { results := [], args := [] }

/-- 'disjointlaw14.EvaluateValue': WHATEVER THE INPUT: true; the input reads as it did. -/
def evaluateValueSpec : ChangeSpec := { name := "evaluateValue", fn := fun _ => fun
  | [d] => { results := [.lit (.bool true)], args := [d] }
  | _ => none }
def evaluateValueRow : OpenClaim := { program := "ytfhbffgnpedaeaa", sum := "e66c63fdc9fc4d9c5c74a1e31f58cf2b1962bc62a9f9fe3f2bb4b0ed9796cf95", func := "disjoint/disjointlaw14.EvaluateValue", spec := "evaluateValue", inPlace := ["internal/bytealg.abigen_runtime_cmpstring"], recurses := true, loops := true, apart := false }
def EvaluateValueSaid : Prop := evaluateValueRow.holds Try.pinned (OpenSpec.ofChange evaluateValueSpec)

/-- ITS FALSE NEIGHBOUR: 'it returns false'. Refute it at one input. -/
def evaluateValueWrong : ChangeSpec := { name := "evaluateValue", fn := fun _ => fun
  | [d] => { results := [.lit (.bool false)], args := [d] }
  | _ => none }
def EvaluateValueWrongFalsely : Prop := evaluateValueRow.holds Try.pinned (OpenSpec.ofChange evaluateValueWrong)

/-- 'disjointlaw14.EvaluateCondition': WHATEVER THE INPUT: true; the input reads as it did. -/
def evaluateConditionSpec : ChangeSpec := { name := "evaluateCondition", fn := fun _ => fun
  | [d] => { results := [.lit (.bool true)], args := [d] }
  | _ => none }
def evaluateConditionRow : OpenClaim := { program := "ytfhbffgnpedaeaa", sum := "e66c63fdc9fc4d9c5c74a1e31f58cf2b1962bc62a9f9fe3f2bb4b0ed9796cf95", func := "disjoint/disjointlaw14.EvaluateCondition", spec := "evaluateCondition", inPlace := ["internal/bytealg.abigen_runtime_cmpstring"], recurses := true, loops := true, apart := false }
def EvaluateConditionSaid : Prop := evaluateConditionRow.holds Try.pinned (OpenSpec.ofChange evaluateConditionSpec)

/-- ITS FALSE NEIGHBOUR: 'it returns false'. Refute it at one input. -/
def evaluateConditionWrong : ChangeSpec := { name := "evaluateCondition", fn := fun _ => fun
  | [d] => { results := [.lit (.bool false)], args := [d] }
  | _ => none }
def EvaluateConditionWrongFalsely : Prop := evaluateConditionRow.holds Try.pinned (OpenSpec.ofChange evaluateConditionWrong)

/-- 'disjointlaw14.EvaluateMatches': WHATEVER THE INPUT: true; the input reads as it did. -/
def evaluateMatchesSpec : ChangeSpec := { name := "evaluateMatches", fn := fun _ => fun
  | [d] => { results := [.lit (.bool true)], args := [d] }
  | _ => none }
def evaluateMatchesRow : OpenClaim := { program := "ytfhbffgnpedaeaa", sum := "e66c63fdc9fc4d9c5c74a1e31f58cf2b1962bc62a9f9fe3f2bb4b0ed9796cf95", func := "disjoint/disjointlaw14.EvaluateMatches", spec := "evaluateMatches", inPlace := ["internal/bytealg.abigen_runtime_cmpstring"], recurses := true, loops := true, apart := false }
def EvaluateMatchesSaid : Prop := evaluateMatchesRow.holds Try.pinned (OpenSpec.ofChange evaluateMatchesSpec)

/-- ITS FALSE NEIGHBOUR: 'it returns false'. Refute it at one input. -/
def evaluateMatchesWrong : ChangeSpec := { name := "evaluateMatches", fn := fun _ => fun
  | [d] => { results := [.lit (.bool false)], args := [d] }
  | _ => none }
def EvaluateMatchesWrongFalsely : Prop := evaluateMatchesRow.holds Try.pinned (OpenSpec.ofChange evaluateMatchesWrong)

/-- 'disjointlaw14.EvaluateConstant': WHATEVER THE INPUT: true; the input reads as it did. -/
def evaluateConstantSpec : ChangeSpec := { name := "evaluateConstant", fn := fun _ => fun
  | [d1, d2] => { results := [.lit (.bool true)], args := [d1, d2] }
  | _ => none }
def evaluateConstantRow : OpenClaim := { program := "ytfhbffgnpedaeaa", sum := "e66c63fdc9fc4d9c5c74a1e31f58cf2b1962bc62a9f9fe3f2bb4b0ed9796cf95", func := "disjoint/disjointlaw14.EvaluateConstant", spec := "evaluateConstant", inPlace := ["internal/bytealg.abigen_runtime_cmpstring"], recurses := true, loops := true, apart := false }
def EvaluateConstantSaid : Prop := evaluateConstantRow.holds Try.pinned (OpenSpec.ofChange evaluateConstantSpec)

/-- ITS FALSE NEIGHBOUR: 'it returns false'. Refute it at one input. -/
def evaluateConstantWrong : ChangeSpec := { name := "evaluateConstant", fn := fun _ => fun
  | [d1, d2] => { results := [.lit (.bool false)], args := [d1, d2] }
  | _ => none }
def EvaluateConstantWrongFalsely : Prop := evaluateConstantRow.holds Try.pinned (OpenSpec.ofChange evaluateConstantWrong)

/-- 'disjointlaw14.EvaluateLikeParts': WHATEVER THE INPUT: true; the input reads as it did. -/
def evaluateLikePartsSpec : ChangeSpec := { name := "evaluateLikeParts", fn := fun _ => fun
  | [d1, d2, d3] => { results := [.lit (.bool true)], args := [d1, d2, d3] }
  | _ => none }
def evaluateLikePartsRow : OpenClaim := { program := "ytfhbffgnpedaeaa", sum := "e66c63fdc9fc4d9c5c74a1e31f58cf2b1962bc62a9f9fe3f2bb4b0ed9796cf95", func := "disjoint/disjointlaw14.EvaluateLikeParts", spec := "evaluateLikeParts", inPlace := ["internal/bytealg.abigen_runtime_cmpstring"], recurses := true, apart := false }
def EvaluateLikePartsSaid : Prop := evaluateLikePartsRow.holds Try.pinned (OpenSpec.ofChange evaluateLikePartsSpec)

/-- ITS FALSE NEIGHBOUR: 'it returns false'. Refute it at one input. -/
def evaluateLikePartsWrong : ChangeSpec := { name := "evaluateLikeParts", fn := fun _ => fun
  | [d1, d2, d3] => { results := [.lit (.bool false)], args := [d1, d2, d3] }
  | _ => none }
def EvaluateLikePartsWrongFalsely : Prop := evaluateLikePartsRow.holds Try.pinned (OpenSpec.ofChange evaluateLikePartsWrong)

/-- 'disjointlaw14.EvaluateNull': WHATEVER THE INPUT: true; the input reads as it did. -/
def evaluateNullSpec : ChangeSpec := { name := "evaluateNull", fn := fun _ => fun
  | [d1, d2] => { results := [.lit (.bool true)], args := [d1, d2] }
  | _ => none }
def evaluateNullRow : OpenClaim := { program := "ytfhbffgnpedaeaa", sum := "e66c63fdc9fc4d9c5c74a1e31f58cf2b1962bc62a9f9fe3f2bb4b0ed9796cf95", func := "disjoint/disjointlaw14.EvaluateNull", spec := "evaluateNull", inPlace := ["internal/bytealg.abigen_runtime_cmpstring"], recurses := true, loops := true, apart := false }
def EvaluateNullSaid : Prop := evaluateNullRow.holds Try.pinned (OpenSpec.ofChange evaluateNullSpec)

/-- ITS FALSE NEIGHBOUR: 'it returns false'. Refute it at one input. -/
def evaluateNullWrong : ChangeSpec := { name := "evaluateNull", fn := fun _ => fun
  | [d1, d2] => { results := [.lit (.bool false)], args := [d1, d2] }
  | _ => none }
def EvaluateNullWrongFalsely : Prop := evaluateNullRow.holds Try.pinned (OpenSpec.ofChange evaluateNullWrong)

/-- 'disjointlaw14.EvaluateMonotone': WHATEVER THE INPUT: true; the input reads as it did. -/
def evaluateMonotoneSpec : ChangeSpec := { name := "evaluateMonotone", fn := fun _ => fun
  | [d1, d2] => { results := [.lit (.bool true)], args := [d1, d2] }
  | _ => none }
def evaluateMonotoneRow : OpenClaim := { program := "ytfhbffgnpedaeaa", sum := "e66c63fdc9fc4d9c5c74a1e31f58cf2b1962bc62a9f9fe3f2bb4b0ed9796cf95", func := "disjoint/disjointlaw14.EvaluateMonotone", spec := "evaluateMonotone", inPlace := ["internal/bytealg.abigen_runtime_cmpstring"], recurses := true, loops := true, apart := false }
def EvaluateMonotoneSaid : Prop := evaluateMonotoneRow.holds Try.pinned (OpenSpec.ofChange evaluateMonotoneSpec)

/-- ITS FALSE NEIGHBOUR: 'it returns false'. Refute it at one input. -/
def evaluateMonotoneWrong : ChangeSpec := { name := "evaluateMonotone", fn := fun _ => fun
  | [d1, d2] => { results := [.lit (.bool false)], args := [d1, d2] }
  | _ => none }
def EvaluateMonotoneWrongFalsely : Prop := evaluateMonotoneRow.holds Try.pinned (OpenSpec.ofChange evaluateMonotoneWrong)

/-- 'disjointlaw14.EvaluateDivision': WHATEVER THE INPUT: true; the input reads as it did. -/
def evaluateDivisionSpec : ChangeSpec := { name := "evaluateDivision", fn := fun _ => fun
  | [d1, d2] => { results := [.lit (.bool true)], args := [d1, d2] }
  | _ => none }
def evaluateDivisionRow : OpenClaim := { program := "ytfhbffgnpedaeaa", sum := "e66c63fdc9fc4d9c5c74a1e31f58cf2b1962bc62a9f9fe3f2bb4b0ed9796cf95", func := "disjoint/disjointlaw14.EvaluateDivision", spec := "evaluateDivision", inPlace := ["internal/bytealg.abigen_runtime_cmpstring"], recurses := true, apart := false }
def EvaluateDivisionSaid : Prop := evaluateDivisionRow.holds Try.pinned (OpenSpec.ofChange evaluateDivisionSpec)

/-- ITS FALSE NEIGHBOUR: 'it returns false'. Refute it at one input. -/
def evaluateDivisionWrong : ChangeSpec := { name := "evaluateDivision", fn := fun _ => fun
  | [d1, d2] => { results := [.lit (.bool false)], args := [d1, d2] }
  | _ => none }
def EvaluateDivisionWrongFalsely : Prop := evaluateDivisionRow.holds Try.pinned (OpenSpec.ofChange evaluateDivisionWrong)

/- THE SECOND FORM. 'bulk': how many values and letters a reading holds, each counted each time it is reached (what is shared counts as often as it is met; a slice's spare places count too). A statement '..UptoSaid' is the law's where the arguments, and the package variables that the reading takes, are together of bulk at most 1048576: NARROWER than '..Said'. Prove '..Said' where nothing that the law and all that it calls make is longer than what came in: it says more and counts as full. Else prove '..UptoSaid'. A law counts once. -/
mutual
def uptoBulk {H : Type} : DataW H → Nat
  | .lit (.string bytes) => bytes.length + 1
  | .lit _ => 1
  | .nil => 1
  | .ptr d => uptoBulk d + 1
  | .slice elems spare => uptoBulkAll elems + uptoBulkAll spare + 1
  | .agg parts => uptoBulkAll parts + 1
  | .iface _ d => uptoBulk d + 1
  | .map entries => uptoBulkEntries entries + 1
  | .held _ => 1
def uptoBulkAll {H : Type} : List (DataW H) → Nat
  | [] => 0
  | d :: r => uptoBulk d + uptoBulkAll r
def uptoBulkEntries {H : Type} : List (Lit × DataW H) → Nat
  | [] => 0
  | x :: r => uptoBulkEntry x + uptoBulkEntries r
def uptoBulkEntry {H : Type} : Lit × DataW H → Nat
  | (.string bytes, d) => bytes.length + uptoBulk d + 1
  | (_, d) => uptoBulk d + 1
 end
def uptoSmall : (H : Type) → List (DataW H) → Bool := fun _ ds => decide (uptoBulkAll ds ≤ 1048576)
def OpenSpec.upto (s : _root_.Go.ChangeSpec) : _root_.Go.OpenSpec := { _root_.Go.OpenSpec.ofChange s with cond := some uptoSmall }

/-- 'disjointlaw14.EvaluateValue', WHERE WHAT IT READS IS OF BULK AT MOST 1048576: true; the input reads as it did. -/
def evaluateValueUptoRow : OpenClaim := { program := "ytfhbffgnpedaeaa", sum := "e66c63fdc9fc4d9c5c74a1e31f58cf2b1962bc62a9f9fe3f2bb4b0ed9796cf95", func := "disjoint/disjointlaw14.EvaluateValue", spec := "evaluateValue", inPlace := ["internal/bytealg.abigen_runtime_cmpstring"], recurses := true, loops := true, apart := false, narrowed := true }
def EvaluateValueUptoSaid : Prop := evaluateValueUptoRow.holds Try.pinned (OpenSpec.upto evaluateValueSpec)

/-- 'disjointlaw14.EvaluateCondition', WHERE WHAT IT READS IS OF BULK AT MOST 1048576: true; the input reads as it did. -/
def evaluateConditionUptoRow : OpenClaim := { program := "ytfhbffgnpedaeaa", sum := "e66c63fdc9fc4d9c5c74a1e31f58cf2b1962bc62a9f9fe3f2bb4b0ed9796cf95", func := "disjoint/disjointlaw14.EvaluateCondition", spec := "evaluateCondition", inPlace := ["internal/bytealg.abigen_runtime_cmpstring"], recurses := true, loops := true, apart := false, narrowed := true }
def EvaluateConditionUptoSaid : Prop := evaluateConditionUptoRow.holds Try.pinned (OpenSpec.upto evaluateConditionSpec)

/-- 'disjointlaw14.EvaluateMatches', WHERE WHAT IT READS IS OF BULK AT MOST 1048576: true; the input reads as it did. -/
def evaluateMatchesUptoRow : OpenClaim := { program := "ytfhbffgnpedaeaa", sum := "e66c63fdc9fc4d9c5c74a1e31f58cf2b1962bc62a9f9fe3f2bb4b0ed9796cf95", func := "disjoint/disjointlaw14.EvaluateMatches", spec := "evaluateMatches", inPlace := ["internal/bytealg.abigen_runtime_cmpstring"], recurses := true, loops := true, apart := false, narrowed := true }
def EvaluateMatchesUptoSaid : Prop := evaluateMatchesUptoRow.holds Try.pinned (OpenSpec.upto evaluateMatchesSpec)

/-- 'disjointlaw14.EvaluateConstant', WHERE WHAT IT READS IS OF BULK AT MOST 1048576: true; the input reads as it did. -/
def evaluateConstantUptoRow : OpenClaim := { program := "ytfhbffgnpedaeaa", sum := "e66c63fdc9fc4d9c5c74a1e31f58cf2b1962bc62a9f9fe3f2bb4b0ed9796cf95", func := "disjoint/disjointlaw14.EvaluateConstant", spec := "evaluateConstant", inPlace := ["internal/bytealg.abigen_runtime_cmpstring"], recurses := true, loops := true, apart := false, narrowed := true }
def EvaluateConstantUptoSaid : Prop := evaluateConstantUptoRow.holds Try.pinned (OpenSpec.upto evaluateConstantSpec)

/-- 'disjointlaw14.EvaluateLikeParts', WHERE WHAT IT READS IS OF BULK AT MOST 1048576: true; the input reads as it did. -/
def evaluateLikePartsUptoRow : OpenClaim := { program := "ytfhbffgnpedaeaa", sum := "e66c63fdc9fc4d9c5c74a1e31f58cf2b1962bc62a9f9fe3f2bb4b0ed9796cf95", func := "disjoint/disjointlaw14.EvaluateLikeParts", spec := "evaluateLikeParts", inPlace := ["internal/bytealg.abigen_runtime_cmpstring"], recurses := true, apart := false, narrowed := true }
def EvaluateLikePartsUptoSaid : Prop := evaluateLikePartsUptoRow.holds Try.pinned (OpenSpec.upto evaluateLikePartsSpec)

/-- 'disjointlaw14.EvaluateNull', WHERE WHAT IT READS IS OF BULK AT MOST 1048576: true; the input reads as it did. -/
def evaluateNullUptoRow : OpenClaim := { program := "ytfhbffgnpedaeaa", sum := "e66c63fdc9fc4d9c5c74a1e31f58cf2b1962bc62a9f9fe3f2bb4b0ed9796cf95", func := "disjoint/disjointlaw14.EvaluateNull", spec := "evaluateNull", inPlace := ["internal/bytealg.abigen_runtime_cmpstring"], recurses := true, loops := true, apart := false, narrowed := true }
def EvaluateNullUptoSaid : Prop := evaluateNullUptoRow.holds Try.pinned (OpenSpec.upto evaluateNullSpec)

/-- 'disjointlaw14.EvaluateMonotone', WHERE WHAT IT READS IS OF BULK AT MOST 1048576: true; the input reads as it did. -/
def evaluateMonotoneUptoRow : OpenClaim := { program := "ytfhbffgnpedaeaa", sum := "e66c63fdc9fc4d9c5c74a1e31f58cf2b1962bc62a9f9fe3f2bb4b0ed9796cf95", func := "disjoint/disjointlaw14.EvaluateMonotone", spec := "evaluateMonotone", inPlace := ["internal/bytealg.abigen_runtime_cmpstring"], recurses := true, loops := true, apart := false, narrowed := true }
def EvaluateMonotoneUptoSaid : Prop := evaluateMonotoneUptoRow.holds Try.pinned (OpenSpec.upto evaluateMonotoneSpec)

/-- 'disjointlaw14.EvaluateDivision', WHERE WHAT IT READS IS OF BULK AT MOST 1048576: true; the input reads as it did. -/
def evaluateDivisionUptoRow : OpenClaim := { program := "ytfhbffgnpedaeaa", sum := "e66c63fdc9fc4d9c5c74a1e31f58cf2b1962bc62a9f9fe3f2bb4b0ed9796cf95", func := "disjoint/disjointlaw14.EvaluateDivision", spec := "evaluateDivision", inPlace := ["internal/bytealg.abigen_runtime_cmpstring"], recurses := true, apart := false, narrowed := true }
def EvaluateDivisionUptoSaid : Prop := evaluateDivisionUptoRow.holds Try.pinned (OpenSpec.upto evaluateDivisionSpec)

end Rows
end Go.Proofs.Ytfhbffgnpedaeaa
