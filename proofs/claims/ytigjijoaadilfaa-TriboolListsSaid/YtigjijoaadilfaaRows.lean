/-
  No cell of these rows narrows 'for every input' (looked for: loops, veiled, ifaces, maps, wideKeys, modest, calm, conditions, laid).
  DERIVED. THE GIVEN ROWS OF THIS SEAT. 6 by the template 'for every input the law returns true; each argument reads behind the call as it read before'; 0 by the template 'total and deterministic' (their statements: YtigjijoaadilfaaTotals.lean).
  GIVEN WITH THE SEED: the statements are not yours to turn. If you find one false, say at which input.
  Laid BY PROGRAM, IN A SANDBOX (cutbox-rows.mjs): the forced cells as the released guide's own fill.sh prints them over the translation 219f838251dfaf80… (all of the seat's roots in one cut). By AI agents, Wed Nov 11 2026. No macro, syntax, notation, axiom, sorry.
-/
import Derived.Test.YtigjijoaadilfaaChecked
import GoSem.Claim
import GoSem.ClaimJoined
import GoSem.ClaimMapViews
import Derived.JoinedTies
import Derived.KernelRfl
namespace Go.Proofs.Ytigjijoaadilfaa
/- THE CELL 'sum', in the pinned program and in every row, IS THE sha256 OF THE DUMP (.gsa) THAT YtigjijoaadilfaaProg.lean LOADS. Nothing in Lean hashes anything: it is a label: what it is worth is what the hold of that sum in a sandbox is worth. -/
noncomputable def Try.pinned : Pinned := { name := "ytigjijoaadilfaa", sum := "219f838251dfaf80da07f051a93e52cfdd572ece8df78a455776f31fa654d476", checked := Try.checked }
namespace Rows
def none {H : Type} : Left H := { results := [], args := [] }

/-- 'disjointlaw01.TriboolConnectives': WHATEVER THE INPUT: true; the input reads as it did. -/
def triboolConnectivesSpec : ChangeSpec := { name := "triboolConnectives", fn := fun _ => fun
  | [d1, d2] => { results := [.lit (.bool true)], args := [d1, d2] }
  | _ => none }
def triboolConnectivesRow : OpenClaim := { program := "ytigjijoaadilfaa", sum := "219f838251dfaf80da07f051a93e52cfdd572ece8df78a455776f31fa654d476", func := "disjoint/disjointlaw01.TriboolConnectives", spec := "triboolConnectives", apart := false }
def TriboolConnectivesSaid : Prop := triboolConnectivesRow.holds Try.pinned (OpenSpec.ofChange triboolConnectivesSpec)

/-- ITS FALSE NEIGHBOUR: 'it returns false'. Refute it at one input. -/
def triboolConnectivesWrong : ChangeSpec := { name := "triboolConnectives", fn := fun _ => fun
  | [d1, d2] => { results := [.lit (.bool false)], args := [d1, d2] }
  | _ => none }
def TriboolConnectivesWrongFalsely : Prop := triboolConnectivesRow.holds Try.pinned (OpenSpec.ofChange triboolConnectivesWrong)

/-- 'disjointlaw01.TriboolLists': WHATEVER THE INPUT: true; the input reads as it did. -/
def triboolListsSpec : ChangeSpec := { name := "triboolLists", fn := fun _ => fun
  | [d] => { results := [.lit (.bool true)], args := [d] }
  | _ => none }
def triboolListsRow : OpenClaim := { program := "ytigjijoaadilfaa", sum := "219f838251dfaf80da07f051a93e52cfdd572ece8df78a455776f31fa654d476", func := "disjoint/disjointlaw01.TriboolLists", spec := "triboolLists", apart := false }
def TriboolListsSaid : Prop := triboolListsRow.holds Try.pinned (OpenSpec.ofChange triboolListsSpec)

/-- ITS FALSE NEIGHBOUR: 'it returns false'. Refute it at one input. -/
def triboolListsWrong : ChangeSpec := { name := "triboolLists", fn := fun _ => fun
  | [d] => { results := [.lit (.bool false)], args := [d] }
  | _ => none }
def TriboolListsWrongFalsely : Prop := triboolListsRow.holds Try.pinned (OpenSpec.ofChange triboolListsWrong)

/-- 'disjointlaw01.TriboolBooleans': WHATEVER THE INPUT: true; the input reads as it did. -/
def triboolBooleansSpec : ChangeSpec := { name := "triboolBooleans", fn := fun _ => fun
  | [d1, d2] => { results := [.lit (.bool true)], args := [d1, d2] }
  | _ => none }
def triboolBooleansRow : OpenClaim := { program := "ytigjijoaadilfaa", sum := "219f838251dfaf80da07f051a93e52cfdd572ece8df78a455776f31fa654d476", func := "disjoint/disjointlaw01.TriboolBooleans", spec := "triboolBooleans", apart := false }
def TriboolBooleansSaid : Prop := triboolBooleansRow.holds Try.pinned (OpenSpec.ofChange triboolBooleansSpec)

/-- ITS FALSE NEIGHBOUR: 'it returns false'. Refute it at one input. -/
def triboolBooleansWrong : ChangeSpec := { name := "triboolBooleans", fn := fun _ => fun
  | [d1, d2] => { results := [.lit (.bool false)], args := [d1, d2] }
  | _ => none }
def TriboolBooleansWrongFalsely : Prop := triboolBooleansRow.holds Try.pinned (OpenSpec.ofChange triboolBooleansWrong)

/-- 'disjointlaw01.TriboolLaws': WHATEVER THE INPUT: true; the input reads as it did. -/
def triboolLawsSpec : ChangeSpec := { name := "triboolLaws", fn := fun _ => fun
  | [d1, d2, d3] => { results := [.lit (.bool true)], args := [d1, d2, d3] }
  | _ => none }
def triboolLawsRow : OpenClaim := { program := "ytigjijoaadilfaa", sum := "219f838251dfaf80da07f051a93e52cfdd572ece8df78a455776f31fa654d476", func := "disjoint/disjointlaw01.TriboolLaws", spec := "triboolLaws", apart := false }
def TriboolLawsSaid : Prop := triboolLawsRow.holds Try.pinned (OpenSpec.ofChange triboolLawsSpec)

/-- ITS FALSE NEIGHBOUR: 'it returns false'. Refute it at one input. -/
def triboolLawsWrong : ChangeSpec := { name := "triboolLaws", fn := fun _ => fun
  | [d1, d2, d3] => { results := [.lit (.bool false)], args := [d1, d2, d3] }
  | _ => none }
def TriboolLawsWrongFalsely : Prop := triboolLawsRow.holds Try.pinned (OpenSpec.ofChange triboolLawsWrong)

/-- 'disjointlaw01.TriboolKnown': WHATEVER THE INPUT: true; the input reads as it did. -/
def triboolKnownSpec : ChangeSpec := { name := "triboolKnown", fn := fun _ => fun
  | [d1, d2, d3] => { results := [.lit (.bool true)], args := [d1, d2, d3] }
  | _ => none }
def triboolKnownRow : OpenClaim := { program := "ytigjijoaadilfaa", sum := "219f838251dfaf80da07f051a93e52cfdd572ece8df78a455776f31fa654d476", func := "disjoint/disjointlaw01.TriboolKnown", spec := "triboolKnown", apart := false }
def TriboolKnownSaid : Prop := triboolKnownRow.holds Try.pinned (OpenSpec.ofChange triboolKnownSpec)

/-- ITS FALSE NEIGHBOUR: 'it returns false'. Refute it at one input. -/
def triboolKnownWrong : ChangeSpec := { name := "triboolKnown", fn := fun _ => fun
  | [d1, d2, d3] => { results := [.lit (.bool false)], args := [d1, d2, d3] }
  | _ => none }
def TriboolKnownWrongFalsely : Prop := triboolKnownRow.holds Try.pinned (OpenSpec.ofChange triboolKnownWrong)

/-- 'disjointlaw01.TriboolDistributive': WHATEVER THE INPUT: true; the input reads as it did. -/
def triboolDistributiveSpec : ChangeSpec := { name := "triboolDistributive", fn := fun _ => fun
  | [d1, d2, d3] => { results := [.lit (.bool true)], args := [d1, d2, d3] }
  | _ => none }
def triboolDistributiveRow : OpenClaim := { program := "ytigjijoaadilfaa", sum := "219f838251dfaf80da07f051a93e52cfdd572ece8df78a455776f31fa654d476", func := "disjoint/disjointlaw01.TriboolDistributive", spec := "triboolDistributive", apart := false }
def TriboolDistributiveSaid : Prop := triboolDistributiveRow.holds Try.pinned (OpenSpec.ofChange triboolDistributiveSpec)

/-- ITS FALSE NEIGHBOUR: 'it returns false'. Refute it at one input. -/
def triboolDistributiveWrong : ChangeSpec := { name := "triboolDistributive", fn := fun _ => fun
  | [d1, d2, d3] => { results := [.lit (.bool false)], args := [d1, d2, d3] }
  | _ => none }
def TriboolDistributiveWrongFalsely : Prop := triboolDistributiveRow.holds Try.pinned (OpenSpec.ofChange triboolDistributiveWrong)

/- THE SECOND FORM. 'bulk': how many values and letters a reading holds, each counted each time it is reached (what is shared counts as often as it is met; a slice's spare places count too). A statement '..UptoSaid' is the law's where the arguments, and the package variables that the reading takes, are together of bulk at most 1048576: NARROWER than '..Said'. Prove '..Said' where nothing that the law and all that it calls make is longer than what came in: it says more and counts as full. Else prove '..UptoSaid'. A law counts once. -/
mutual
def uptoBulk {H : Type} : DataW H → Nat
  | .lit (.string bytes) => bytes.length + 1
  | .lit _ => 1
  | .nil => 1
  | .ptr d => uptoBulk d + 1
  | .slice elems spare => uptoBulkAll elems + uptoBulkAll spare + 1
  | .agg parts => uptoBulkAll parts + 1
  | .iface _ d => uptoBulk d + 1
  | .map entries => uptoBulkEntries entries + 1
  | .held _ => 1
def uptoBulkAll {H : Type} : List (DataW H) → Nat
  | [] => 0
  | d :: r => uptoBulk d + uptoBulkAll r
def uptoBulkEntries {H : Type} : List (Lit × DataW H) → Nat
  | [] => 0
  | x :: r => uptoBulkEntry x + uptoBulkEntries r
def uptoBulkEntry {H : Type} : Lit × DataW H → Nat
  | (.string bytes, d) => bytes.length + uptoBulk d + 1
  | (_, d) => uptoBulk d + 1
 end
def uptoSmall : (H : Type) → List (DataW H) → Bool := fun _ ds => decide (uptoBulkAll ds ≤ 1048576)
def OpenSpec.upto (s : _root_.Go.ChangeSpec) : _root_.Go.OpenSpec := { _root_.Go.OpenSpec.ofChange s with cond := some uptoSmall }

/-- 'disjointlaw01.TriboolConnectives', WHERE WHAT IT READS IS OF BULK AT MOST 1048576: true; the input reads as it did. -/
def triboolConnectivesUptoRow : OpenClaim := { program := "ytigjijoaadilfaa", sum := "219f838251dfaf80da07f051a93e52cfdd572ece8df78a455776f31fa654d476", func := "disjoint/disjointlaw01.TriboolConnectives", spec := "triboolConnectives", apart := false, narrowed := true }
def TriboolConnectivesUptoSaid : Prop := triboolConnectivesUptoRow.holds Try.pinned (OpenSpec.upto triboolConnectivesSpec)

/-- 'disjointlaw01.TriboolLists', WHERE WHAT IT READS IS OF BULK AT MOST 1048576: true; the input reads as it did. -/
def triboolListsUptoRow : OpenClaim := { program := "ytigjijoaadilfaa", sum := "219f838251dfaf80da07f051a93e52cfdd572ece8df78a455776f31fa654d476", func := "disjoint/disjointlaw01.TriboolLists", spec := "triboolLists", apart := false, narrowed := true }
def TriboolListsUptoSaid : Prop := triboolListsUptoRow.holds Try.pinned (OpenSpec.upto triboolListsSpec)

/-- 'disjointlaw01.TriboolBooleans', WHERE WHAT IT READS IS OF BULK AT MOST 1048576: true; the input reads as it did. -/
def triboolBooleansUptoRow : OpenClaim := { program := "ytigjijoaadilfaa", sum := "219f838251dfaf80da07f051a93e52cfdd572ece8df78a455776f31fa654d476", func := "disjoint/disjointlaw01.TriboolBooleans", spec := "triboolBooleans", apart := false, narrowed := true }
def TriboolBooleansUptoSaid : Prop := triboolBooleansUptoRow.holds Try.pinned (OpenSpec.upto triboolBooleansSpec)

/-- 'disjointlaw01.TriboolLaws', WHERE WHAT IT READS IS OF BULK AT MOST 1048576: true; the input reads as it did. -/
def triboolLawsUptoRow : OpenClaim := { program := "ytigjijoaadilfaa", sum := "219f838251dfaf80da07f051a93e52cfdd572ece8df78a455776f31fa654d476", func := "disjoint/disjointlaw01.TriboolLaws", spec := "triboolLaws", apart := false, narrowed := true }
def TriboolLawsUptoSaid : Prop := triboolLawsUptoRow.holds Try.pinned (OpenSpec.upto triboolLawsSpec)

/-- 'disjointlaw01.TriboolKnown', WHERE WHAT IT READS IS OF BULK AT MOST 1048576: true; the input reads as it did. -/
def triboolKnownUptoRow : OpenClaim := { program := "ytigjijoaadilfaa", sum := "219f838251dfaf80da07f051a93e52cfdd572ece8df78a455776f31fa654d476", func := "disjoint/disjointlaw01.TriboolKnown", spec := "triboolKnown", apart := false, narrowed := true }
def TriboolKnownUptoSaid : Prop := triboolKnownUptoRow.holds Try.pinned (OpenSpec.upto triboolKnownSpec)

/-- 'disjointlaw01.TriboolDistributive', WHERE WHAT IT READS IS OF BULK AT MOST 1048576: true; the input reads as it did. -/
def triboolDistributiveUptoRow : OpenClaim := { program := "ytigjijoaadilfaa", sum := "219f838251dfaf80da07f051a93e52cfdd572ece8df78a455776f31fa654d476", func := "disjoint/disjointlaw01.TriboolDistributive", spec := "triboolDistributive", apart := false, narrowed := true }
def TriboolDistributiveUptoSaid : Prop := triboolDistributiveUptoRow.holds Try.pinned (OpenSpec.upto triboolDistributiveSpec)

end Rows
end Go.Proofs.Ytigjijoaadilfaa
