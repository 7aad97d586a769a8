/-
  No cell of these rows narrows 'for every input' (looked for: loops, veiled, ifaces, maps, wideKeys, modest, calm, conditions, laid).
  DERIVED. THE GIVEN ROWS OF THIS SEAT. 8 by the template 'for every input the law returns true; each argument reads behind the call as it read before'; 0 by the template 'total and deterministic' (their statements: YtbmofagaammgmaaTotals.lean).
  GIVEN WITH THE SEED: the statements are not yours to turn. If you find one false, say at which input.
  Laid BY PROGRAM, IN A SANDBOX (cutbox-rows.mjs): the forced cells as the released guide's own fill.sh prints them over the translation 270a2e4c7fcda5cb… (all of the seat's roots in one cut). By AI agents, Wed Nov 11 2026. No macro, syntax, notation, axiom, sorry.
-/
import Derived.Test.YtbmofagaammgmaaChecked
import GoSem.Claim
import GoSem.ClaimJoined
import GoSem.ClaimMapViews
import Derived.JoinedTies
import Derived.KernelRfl
namespace Go.Proofs.Ytbmofagaammgmaa
/- THE CELL 'sum', in the pinned program and in every row, IS THE sha256 OF THE DUMP (.gsa) THAT YtbmofagaammgmaaProg.lean LOADS. Nothing in Lean hashes anything: it is a label: what it is worth is what the hold of that sum in a sandbox is worth. -/
noncomputable def Try.pinned : Pinned := { name := "ytbmofagaammgmaa", sum := "270a2e4c7fcda5cbcc6e303ba4c5ca5f2b6cd458b8db9f80758e270daeddc572", checked := Try.checked }
namespace Rows
def none {H : Type} : Left H := { results := [], args := [] }

/-- 'disjointlaw19.DbmMatchesReference': WHATEVER THE INPUT: true; the input reads as it did. -/
def dbmMatchesReferenceSpec : ChangeSpec := { name := "dbmMatchesReference", fn := fun _ => fun
  | [d1, d2] => { results := [.lit (.bool true)], args := [d1, d2] }
  | _ => none }
def dbmMatchesReferenceRow : OpenClaim := { program := "ytbmofagaammgmaa", sum := "270a2e4c7fcda5cbcc6e303ba4c5ca5f2b6cd458b8db9f80758e270daeddc572", func := "disjoint/disjointlaw19.DbmMatchesReference", spec := "dbmMatchesReference", plainKeys := false, apart := false }
def DbmMatchesReferenceSaid : Prop := dbmMatchesReferenceRow.holds Try.pinned (OpenSpec.ofChange dbmMatchesReferenceSpec)

/-- ITS FALSE NEIGHBOUR: 'it returns false'. Refute it at one input. -/
def dbmMatchesReferenceWrong : ChangeSpec := { name := "dbmMatchesReference", fn := fun _ => fun
  | [d1, d2] => { results := [.lit (.bool false)], args := [d1, d2] }
  | _ => none }
def DbmMatchesReferenceWrongFalsely : Prop := dbmMatchesReferenceRow.holds Try.pinned (OpenSpec.ofChange dbmMatchesReferenceWrong)

/-- 'disjointlaw19.DbmModel': WHATEVER THE INPUT: true; the input reads as it did. -/
def dbmModelSpec : ChangeSpec := { name := "dbmModel", fn := fun _ => fun
  | [d1, d2] => { results := [.lit (.bool true)], args := [d1, d2] }
  | _ => none }
def dbmModelRow : OpenClaim := { program := "ytbmofagaammgmaa", sum := "270a2e4c7fcda5cbcc6e303ba4c5ca5f2b6cd458b8db9f80758e270daeddc572", func := "disjoint/disjointlaw19.DbmModel", spec := "dbmModel", plainKeys := false, apart := false }
def DbmModelSaid : Prop := dbmModelRow.holds Try.pinned (OpenSpec.ofChange dbmModelSpec)

/-- ITS FALSE NEIGHBOUR: 'it returns false'. Refute it at one input. -/
def dbmModelWrong : ChangeSpec := { name := "dbmModel", fn := fun _ => fun
  | [d1, d2] => { results := [.lit (.bool false)], args := [d1, d2] }
  | _ => none }
def DbmModelWrongFalsely : Prop := dbmModelRow.holds Try.pinned (OpenSpec.ofChange dbmModelWrong)

/-- 'disjointlaw19.DbmCycle': WHATEVER THE INPUT: true; the input reads as it did. -/
def dbmCycleSpec : ChangeSpec := { name := "dbmCycle", fn := fun _ => fun
  | [d1, d2] => { results := [.lit (.bool true)], args := [d1, d2] }
  | _ => none }
def dbmCycleRow : OpenClaim := { program := "ytbmofagaammgmaa", sum := "270a2e4c7fcda5cbcc6e303ba4c5ca5f2b6cd458b8db9f80758e270daeddc572", func := "disjoint/disjointlaw19.DbmCycle", spec := "dbmCycle", plainKeys := false, apart := false }
def DbmCycleSaid : Prop := dbmCycleRow.holds Try.pinned (OpenSpec.ofChange dbmCycleSpec)

/-- ITS FALSE NEIGHBOUR: 'it returns false'. Refute it at one input. -/
def dbmCycleWrong : ChangeSpec := { name := "dbmCycle", fn := fun _ => fun
  | [d1, d2] => { results := [.lit (.bool false)], args := [d1, d2] }
  | _ => none }
def DbmCycleWrongFalsely : Prop := dbmCycleRow.holds Try.pinned (OpenSpec.ofChange dbmCycleWrong)

/-- 'disjointlaw19.DbmTight': WHATEVER THE INPUT: true; the input reads as it did. -/
def dbmTightSpec : ChangeSpec := { name := "dbmTight", fn := fun _ => fun
  | [d1, d2, d3] => { results := [.lit (.bool true)], args := [d1, d2, d3] }
  | _ => none }
def dbmTightRow : OpenClaim := { program := "ytbmofagaammgmaa", sum := "270a2e4c7fcda5cbcc6e303ba4c5ca5f2b6cd458b8db9f80758e270daeddc572", func := "disjoint/disjointlaw19.DbmTight", spec := "dbmTight", plainKeys := false, apart := false }
def DbmTightSaid : Prop := dbmTightRow.holds Try.pinned (OpenSpec.ofChange dbmTightSpec)

/-- ITS FALSE NEIGHBOUR: 'it returns false'. Refute it at one input. -/
def dbmTightWrong : ChangeSpec := { name := "dbmTight", fn := fun _ => fun
  | [d1, d2, d3] => { results := [.lit (.bool false)], args := [d1, d2, d3] }
  | _ => none }
def DbmTightWrongFalsely : Prop := dbmTightRow.holds Try.pinned (OpenSpec.ofChange dbmTightWrong)

/-- 'disjointlaw19.DbmMonotonic': WHATEVER THE INPUT: true; the input reads as it did. -/
def dbmMonotonicSpec : ChangeSpec := { name := "dbmMonotonic", fn := fun _ => fun
  | [d1, d2, d3] => { results := [.lit (.bool true)], args := [d1, d2, d3] }
  | _ => none }
def dbmMonotonicRow : OpenClaim := { program := "ytbmofagaammgmaa", sum := "270a2e4c7fcda5cbcc6e303ba4c5ca5f2b6cd458b8db9f80758e270daeddc572", func := "disjoint/disjointlaw19.DbmMonotonic", spec := "dbmMonotonic", plainKeys := false, apart := false }
def DbmMonotonicSaid : Prop := dbmMonotonicRow.holds Try.pinned (OpenSpec.ofChange dbmMonotonicSpec)

/-- ITS FALSE NEIGHBOUR: 'it returns false'. Refute it at one input. -/
def dbmMonotonicWrong : ChangeSpec := { name := "dbmMonotonic", fn := fun _ => fun
  | [d1, d2, d3] => { results := [.lit (.bool false)], args := [d1, d2, d3] }
  | _ => none }
def DbmMonotonicWrongFalsely : Prop := dbmMonotonicRow.holds Try.pinned (OpenSpec.ofChange dbmMonotonicWrong)

/-- 'disjointlaw19.DbmOrder': WHATEVER THE INPUT: true; the input reads as it did. -/
def dbmOrderSpec : ChangeSpec := { name := "dbmOrder", fn := fun _ => fun
  | [d1, d2, d3] => { results := [.lit (.bool true)], args := [d1, d2, d3] }
  | _ => none }
def dbmOrderRow : OpenClaim := { program := "ytbmofagaammgmaa", sum := "270a2e4c7fcda5cbcc6e303ba4c5ca5f2b6cd458b8db9f80758e270daeddc572", func := "disjoint/disjointlaw19.DbmOrder", spec := "dbmOrder", plainKeys := false, apart := false }
def DbmOrderSaid : Prop := dbmOrderRow.holds Try.pinned (OpenSpec.ofChange dbmOrderSpec)

/-- ITS FALSE NEIGHBOUR: 'it returns false'. Refute it at one input. -/
def dbmOrderWrong : ChangeSpec := { name := "dbmOrder", fn := fun _ => fun
  | [d1, d2, d3] => { results := [.lit (.bool false)], args := [d1, d2, d3] }
  | _ => none }
def DbmOrderWrongFalsely : Prop := dbmOrderRow.holds Try.pinned (OpenSpec.ofChange dbmOrderWrong)

/-- 'disjointlaw19.DbmOf': WHATEVER THE INPUT: true; the input reads as it did. -/
def dbmOfSpec : ChangeSpec := { name := "dbmOf", fn := fun _ => fun
  | [d1, d2] => { results := [.lit (.bool true)], args := [d1, d2] }
  | _ => none }
def dbmOfRow : OpenClaim := { program := "ytbmofagaammgmaa", sum := "270a2e4c7fcda5cbcc6e303ba4c5ca5f2b6cd458b8db9f80758e270daeddc572", func := "disjoint/disjointlaw19.DbmOf", spec := "dbmOf", plainKeys := false, apart := false }
def DbmOfSaid : Prop := dbmOfRow.holds Try.pinned (OpenSpec.ofChange dbmOfSpec)

/-- ITS FALSE NEIGHBOUR: 'it returns false'. Refute it at one input. -/
def dbmOfWrong : ChangeSpec := { name := "dbmOf", fn := fun _ => fun
  | [d1, d2] => { results := [.lit (.bool false)], args := [d1, d2] }
  | _ => none }
def DbmOfWrongFalsely : Prop := dbmOfRow.holds Try.pinned (OpenSpec.ofChange dbmOfWrong)

/-- 'disjointlaw19.DbmChain': WHATEVER THE INPUT: true; the input reads as it did. -/
def dbmChainSpec : ChangeSpec := { name := "dbmChain", fn := fun _ => fun
  | [d] => { results := [.lit (.bool true)], args := [d] }
  | _ => none }
def dbmChainRow : OpenClaim := { program := "ytbmofagaammgmaa", sum := "270a2e4c7fcda5cbcc6e303ba4c5ca5f2b6cd458b8db9f80758e270daeddc572", func := "disjoint/disjointlaw19.DbmChain", spec := "dbmChain", plainKeys := false, apart := false }
def DbmChainSaid : Prop := dbmChainRow.holds Try.pinned (OpenSpec.ofChange dbmChainSpec)

/-- ITS FALSE NEIGHBOUR: 'it returns false'. Refute it at one input. -/
def dbmChainWrong : ChangeSpec := { name := "dbmChain", fn := fun _ => fun
  | [d] => { results := [.lit (.bool false)], args := [d] }
  | _ => none }
def DbmChainWrongFalsely : Prop := dbmChainRow.holds Try.pinned (OpenSpec.ofChange dbmChainWrong)

/- THE SECOND FORM. 'bulk': how many values and letters a reading holds, each counted each time it is reached (what is shared counts as often as it is met; a slice's spare places count too). A statement '..UptoSaid' is the law's where the arguments, and the package variables that the reading takes, are together of bulk at most 1048576: NARROWER than '..Said'. Prove '..Said' where nothing that the law and all that it calls make is longer than what came in: it says more and counts as full. Else prove '..UptoSaid'. A law counts once. -/
mutual
def uptoBulk {H : Type} : DataW H → Nat
  | .lit (.string bytes) => bytes.length + 1
  | .lit _ => 1
  | .nil => 1
  | .ptr d => uptoBulk d + 1
  | .slice elems spare => uptoBulkAll elems + uptoBulkAll spare + 1
  | .agg parts => uptoBulkAll parts + 1
  | .iface _ d => uptoBulk d + 1
  | .map entries => uptoBulkEntries entries + 1
  | .held _ => 1
def uptoBulkAll {H : Type} : List (DataW H) → Nat
  | [] => 0
  | d :: r => uptoBulk d + uptoBulkAll r
def uptoBulkEntries {H : Type} : List (Lit × DataW H) → Nat
  | [] => 0
  | x :: r => uptoBulkEntry x + uptoBulkEntries r
def uptoBulkEntry {H : Type} : Lit × DataW H → Nat
  | (.string bytes, d) => bytes.length + uptoBulk d + 1
  | (_, d) => uptoBulk d + 1
 end
def uptoSmall : (H : Type) → List (DataW H) → Bool := fun _ ds => decide (uptoBulkAll ds ≤ 1048576)
def OpenSpec.upto (s : _root_.Go.ChangeSpec) : _root_.Go.OpenSpec := { _root_.Go.OpenSpec.ofChange s with cond := some uptoSmall }

/-- 'disjointlaw19.DbmMatchesReference', WHERE WHAT IT READS IS OF BULK AT MOST 1048576: true; the input reads as it did. -/
def dbmMatchesReferenceUptoRow : OpenClaim := { program := "ytbmofagaammgmaa", sum := "270a2e4c7fcda5cbcc6e303ba4c5ca5f2b6cd458b8db9f80758e270daeddc572", func := "disjoint/disjointlaw19.DbmMatchesReference", spec := "dbmMatchesReference", plainKeys := false, apart := false, narrowed := true }
def DbmMatchesReferenceUptoSaid : Prop := dbmMatchesReferenceUptoRow.holds Try.pinned (OpenSpec.upto dbmMatchesReferenceSpec)

/-- 'disjointlaw19.DbmModel', WHERE WHAT IT READS IS OF BULK AT MOST 1048576: true; the input reads as it did. -/
def dbmModelUptoRow : OpenClaim := { program := "ytbmofagaammgmaa", sum := "270a2e4c7fcda5cbcc6e303ba4c5ca5f2b6cd458b8db9f80758e270daeddc572", func := "disjoint/disjointlaw19.DbmModel", spec := "dbmModel", plainKeys := false, apart := false, narrowed := true }
def DbmModelUptoSaid : Prop := dbmModelUptoRow.holds Try.pinned (OpenSpec.upto dbmModelSpec)

/-- 'disjointlaw19.DbmCycle', WHERE WHAT IT READS IS OF BULK AT MOST 1048576: true; the input reads as it did. -/
def dbmCycleUptoRow : OpenClaim := { program := "ytbmofagaammgmaa", sum := "270a2e4c7fcda5cbcc6e303ba4c5ca5f2b6cd458b8db9f80758e270daeddc572", func := "disjoint/disjointlaw19.DbmCycle", spec := "dbmCycle", plainKeys := false, apart := false, narrowed := true }
def DbmCycleUptoSaid : Prop := dbmCycleUptoRow.holds Try.pinned (OpenSpec.upto dbmCycleSpec)

/-- 'disjointlaw19.DbmTight', WHERE WHAT IT READS IS OF BULK AT MOST 1048576: true; the input reads as it did. -/
def dbmTightUptoRow : OpenClaim := { program := "ytbmofagaammgmaa", sum := "270a2e4c7fcda5cbcc6e303ba4c5ca5f2b6cd458b8db9f80758e270daeddc572", func := "disjoint/disjointlaw19.DbmTight", spec := "dbmTight", plainKeys := false, apart := false, narrowed := true }
def DbmTightUptoSaid : Prop := dbmTightUptoRow.holds Try.pinned (OpenSpec.upto dbmTightSpec)

/-- 'disjointlaw19.DbmMonotonic', WHERE WHAT IT READS IS OF BULK AT MOST 1048576: true; the input reads as it did. -/
def dbmMonotonicUptoRow : OpenClaim := { program := "ytbmofagaammgmaa", sum := "270a2e4c7fcda5cbcc6e303ba4c5ca5f2b6cd458b8db9f80758e270daeddc572", func := "disjoint/disjointlaw19.DbmMonotonic", spec := "dbmMonotonic", plainKeys := false, apart := false, narrowed := true }
def DbmMonotonicUptoSaid : Prop := dbmMonotonicUptoRow.holds Try.pinned (OpenSpec.upto dbmMonotonicSpec)

/-- 'disjointlaw19.DbmOrder', WHERE WHAT IT READS IS OF BULK AT MOST 1048576: true; the input reads as it did. -/
def dbmOrderUptoRow : OpenClaim := { program := "ytbmofagaammgmaa", sum := "270a2e4c7fcda5cbcc6e303ba4c5ca5f2b6cd458b8db9f80758e270daeddc572", func := "disjoint/disjointlaw19.DbmOrder", spec := "dbmOrder", plainKeys := false, apart := false, narrowed := true }
def DbmOrderUptoSaid : Prop := dbmOrderUptoRow.holds Try.pinned (OpenSpec.upto dbmOrderSpec)

/-- 'disjointlaw19.DbmOf', WHERE WHAT IT READS IS OF BULK AT MOST 1048576: true; the input reads as it did. -/
def dbmOfUptoRow : OpenClaim := { program := "ytbmofagaammgmaa", sum := "270a2e4c7fcda5cbcc6e303ba4c5ca5f2b6cd458b8db9f80758e270daeddc572", func := "disjoint/disjointlaw19.DbmOf", spec := "dbmOf", plainKeys := false, apart := false, narrowed := true }
def DbmOfUptoSaid : Prop := dbmOfUptoRow.holds Try.pinned (OpenSpec.upto dbmOfSpec)

/-- 'disjointlaw19.DbmChain', WHERE WHAT IT READS IS OF BULK AT MOST 1048576: true; the input reads as it did. -/
def dbmChainUptoRow : OpenClaim := { program := "ytbmofagaammgmaa", sum := "270a2e4c7fcda5cbcc6e303ba4c5ca5f2b6cd458b8db9f80758e270daeddc572", func := "disjoint/disjointlaw19.DbmChain", spec := "dbmChain", plainKeys := false, apart := false, narrowed := true }
def DbmChainUptoSaid : Prop := dbmChainUptoRow.holds Try.pinned (OpenSpec.upto dbmChainSpec)

end Rows
end Go.Proofs.Ytbmofagaammgmaa
