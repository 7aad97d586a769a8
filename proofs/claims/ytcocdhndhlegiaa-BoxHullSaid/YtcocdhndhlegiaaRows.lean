/-
  No cell of these rows narrows 'for every input' (looked for: loops, veiled, ifaces, maps, wideKeys, modest, calm, conditions, laid).
  DERIVED. THE GIVEN ROWS OF THIS SEAT. 5 by the template 'for every input the law returns true; each argument reads behind the call as it read before'; 0 by the template 'total and deterministic' (their statements: YtcocdhndhlegiaaTotals.lean).
  GIVEN WITH THE SEED: the statements are not yours to turn. If you find one false, say at which input.
  Laid BY PROGRAM, IN A SANDBOX (cutbox-rows.mjs): the forced cells as the released guide's own fill.sh prints them over the translation 62dd0dc2a327b593… (all of the seat's roots in one cut). By AI agents, Wed Nov 11 2026. No macro, syntax, notation, axiom, sorry.
-/
import Derived.Test.YtcocdhndhlegiaaChecked
import GoSem.Claim
import GoSem.ClaimJoined
import GoSem.ClaimMapViews
import Derived.JoinedTies
import Derived.KernelRfl
namespace Go.Proofs.Ytcocdhndhlegiaa
/- THE CELL 'sum', in the pinned program and in every row, IS THE sha256 OF THE DUMP (.gsa) THAT YtcocdhndhlegiaaProg.lean LOADS. Nothing in Lean hashes anything: it is a label: what it is worth is what the hold of that sum in a sandbox is worth. -/
noncomputable def Try.pinned : Pinned := { name := "ytcocdhndhlegiaa", sum := "62dd0dc2a327b5931a0e512f90e2e28042b6c5e3d7b0fe9121b333228b854416", checked := Try.checked }
namespace Rows
def none {H : Type} : Left H := { results := [], args := [] }

/-- 'disjointlaw30.BoxContains': WHATEVER THE INPUT: true; the input reads as it did. -/
def boxContainsSpec : ChangeSpec := { name := "boxContains", fn := fun _ => fun
  | [d1, d2] => { results := [.lit (.bool true)], args := [d1, d2] }
  | _ => none }
def boxContainsRow : OpenClaim := { program := "ytcocdhndhlegiaa", sum := "62dd0dc2a327b5931a0e512f90e2e28042b6c5e3d7b0fe9121b333228b854416", func := "disjoint/disjointlaw30.BoxContains", spec := "boxContains", apart := false }
def BoxContainsSaid : Prop := boxContainsRow.holds Try.pinned (OpenSpec.ofChange boxContainsSpec)

/-- ITS FALSE NEIGHBOUR: 'it returns false'. Refute it at one input. -/
def boxContainsWrong : ChangeSpec := { name := "boxContains", fn := fun _ => fun
  | [d1, d2] => { results := [.lit (.bool false)], args := [d1, d2] }
  | _ => none }
def BoxContainsWrongFalsely : Prop := boxContainsRow.holds Try.pinned (OpenSpec.ofChange boxContainsWrong)

/-- 'disjointlaw30.BoxMeet': WHATEVER THE INPUT: true; the input reads as it did. -/
def boxMeetSpec : ChangeSpec := { name := "boxMeet", fn := fun _ => fun
  | [d1, d2] => { results := [.lit (.bool true)], args := [d1, d2] }
  | _ => none }
def boxMeetRow : OpenClaim := { program := "ytcocdhndhlegiaa", sum := "62dd0dc2a327b5931a0e512f90e2e28042b6c5e3d7b0fe9121b333228b854416", func := "disjoint/disjointlaw30.BoxMeet", spec := "boxMeet", apart := false }
def BoxMeetSaid : Prop := boxMeetRow.holds Try.pinned (OpenSpec.ofChange boxMeetSpec)

/-- ITS FALSE NEIGHBOUR: 'it returns false'. Refute it at one input. -/
def boxMeetWrong : ChangeSpec := { name := "boxMeet", fn := fun _ => fun
  | [d1, d2] => { results := [.lit (.bool false)], args := [d1, d2] }
  | _ => none }
def BoxMeetWrongFalsely : Prop := boxMeetRow.holds Try.pinned (OpenSpec.ofChange boxMeetWrong)

/-- 'disjointlaw30.BoxCommon': WHATEVER THE INPUT: true; the input reads as it did. -/
def boxCommonSpec : ChangeSpec := { name := "boxCommon", fn := fun _ => fun
  | [d1, d2, d3] => { results := [.lit (.bool true)], args := [d1, d2, d3] }
  | _ => none }
def boxCommonRow : OpenClaim := { program := "ytcocdhndhlegiaa", sum := "62dd0dc2a327b5931a0e512f90e2e28042b6c5e3d7b0fe9121b333228b854416", func := "disjoint/disjointlaw30.BoxCommon", spec := "boxCommon", apart := false }
def BoxCommonSaid : Prop := boxCommonRow.holds Try.pinned (OpenSpec.ofChange boxCommonSpec)

/-- ITS FALSE NEIGHBOUR: 'it returns false'. Refute it at one input. -/
def boxCommonWrong : ChangeSpec := { name := "boxCommon", fn := fun _ => fun
  | [d1, d2, d3] => { results := [.lit (.bool false)], args := [d1, d2, d3] }
  | _ => none }
def BoxCommonWrongFalsely : Prop := boxCommonRow.holds Try.pinned (OpenSpec.ofChange boxCommonWrong)

/-- 'disjointlaw30.BoxHull': WHATEVER THE INPUT: true; the input reads as it did. -/
def boxHullSpec : ChangeSpec := { name := "boxHull", fn := fun _ => fun
  | [d1, d2, d3] => { results := [.lit (.bool true)], args := [d1, d2, d3] }
  | _ => none }
def boxHullRow : OpenClaim := { program := "ytcocdhndhlegiaa", sum := "62dd0dc2a327b5931a0e512f90e2e28042b6c5e3d7b0fe9121b333228b854416", func := "disjoint/disjointlaw30.BoxHull", spec := "boxHull", apart := false }
def BoxHullSaid : Prop := boxHullRow.holds Try.pinned (OpenSpec.ofChange boxHullSpec)

/-- ITS FALSE NEIGHBOUR: 'it returns false'. Refute it at one input. -/
def boxHullWrong : ChangeSpec := { name := "boxHull", fn := fun _ => fun
  | [d1, d2, d3] => { results := [.lit (.bool false)], args := [d1, d2, d3] }
  | _ => none }
def BoxHullWrongFalsely : Prop := boxHullRow.holds Try.pinned (OpenSpec.ofChange boxHullWrong)

/-- 'disjointlaw30.BoxRow': WHATEVER THE INPUT: true; the input reads as it did. -/
def boxRowSpec : ChangeSpec := { name := "boxRow", fn := fun _ => fun
  | [d1, d2, d3] => { results := [.lit (.bool true)], args := [d1, d2, d3] }
  | _ => none }
def boxRowRow : OpenClaim := { program := "ytcocdhndhlegiaa", sum := "62dd0dc2a327b5931a0e512f90e2e28042b6c5e3d7b0fe9121b333228b854416", func := "disjoint/disjointlaw30.BoxRow", spec := "boxRow", apart := false }
def BoxRowSaid : Prop := boxRowRow.holds Try.pinned (OpenSpec.ofChange boxRowSpec)

/-- ITS FALSE NEIGHBOUR: 'it returns false'. Refute it at one input. -/
def boxRowWrong : ChangeSpec := { name := "boxRow", fn := fun _ => fun
  | [d1, d2, d3] => { results := [.lit (.bool false)], args := [d1, d2, d3] }
  | _ => none }
def BoxRowWrongFalsely : Prop := boxRowRow.holds Try.pinned (OpenSpec.ofChange boxRowWrong)

/- THE SECOND FORM. 'bulk': how many values and letters a reading holds, each counted each time it is reached (what is shared counts as often as it is met; a slice's spare places count too). A statement '..UptoSaid' is the law's where the arguments, and the package variables that the reading takes, are together of bulk at most 1048576: NARROWER than '..Said'. Prove '..Said' where nothing that the law and all that it calls make is longer than what came in: it says more and counts as full. Else prove '..UptoSaid'. A law counts once. -/
mutual
def uptoBulk {H : Type} : DataW H → Nat
  | .lit (.string bytes) => bytes.length + 1
  | .lit _ => 1
  | .nil => 1
  | .ptr d => uptoBulk d + 1
  | .slice elems spare => uptoBulkAll elems + uptoBulkAll spare + 1
  | .agg parts => uptoBulkAll parts + 1
  | .iface _ d => uptoBulk d + 1
  | .map entries => uptoBulkEntries entries + 1
  | .held _ => 1
def uptoBulkAll {H : Type} : List (DataW H) → Nat
  | [] => 0
  | d :: r => uptoBulk d + uptoBulkAll r
def uptoBulkEntries {H : Type} : List (Lit × DataW H) → Nat
  | [] => 0
  | x :: r => uptoBulkEntry x + uptoBulkEntries r
def uptoBulkEntry {H : Type} : Lit × DataW H → Nat
  | (.string bytes, d) => bytes.length + uptoBulk d + 1
  | (_, d) => uptoBulk d + 1
 end
def uptoSmall : (H : Type) → List (DataW H) → Bool := fun _ ds => decide (uptoBulkAll ds ≤ 1048576)
def OpenSpec.upto (s : _root_.Go.ChangeSpec) : _root_.Go.OpenSpec := { _root_.Go.OpenSpec.ofChange s with cond := some uptoSmall }

/-- 'disjointlaw30.BoxContains', WHERE WHAT IT READS IS OF BULK AT MOST 1048576: true; the input reads as it did. -/
def boxContainsUptoRow : OpenClaim := { program := "ytcocdhndhlegiaa", sum := "62dd0dc2a327b5931a0e512f90e2e28042b6c5e3d7b0fe9121b333228b854416", func := "disjoint/disjointlaw30.BoxContains", spec := "boxContains", apart := false, narrowed := true }
def BoxContainsUptoSaid : Prop := boxContainsUptoRow.holds Try.pinned (OpenSpec.upto boxContainsSpec)

/-- 'disjointlaw30.BoxMeet', WHERE WHAT IT READS IS OF BULK AT MOST 1048576: true; the input reads as it did. -/
def boxMeetUptoRow : OpenClaim := { program := "ytcocdhndhlegiaa", sum := "62dd0dc2a327b5931a0e512f90e2e28042b6c5e3d7b0fe9121b333228b854416", func := "disjoint/disjointlaw30.BoxMeet", spec := "boxMeet", apart := false, narrowed := true }
def BoxMeetUptoSaid : Prop := boxMeetUptoRow.holds Try.pinned (OpenSpec.upto boxMeetSpec)

/-- 'disjointlaw30.BoxCommon', WHERE WHAT IT READS IS OF BULK AT MOST 1048576: true; the input reads as it did. -/
def boxCommonUptoRow : OpenClaim := { program := "ytcocdhndhlegiaa", sum := "62dd0dc2a327b5931a0e512f90e2e28042b6c5e3d7b0fe9121b333228b854416", func := "disjoint/disjointlaw30.BoxCommon", spec := "boxCommon", apart := false, narrowed := true }
def BoxCommonUptoSaid : Prop := boxCommonUptoRow.holds Try.pinned (OpenSpec.upto boxCommonSpec)

/-- 'disjointlaw30.BoxHull', WHERE WHAT IT READS IS OF BULK AT MOST 1048576: true; the input reads as it did. -/
def boxHullUptoRow : OpenClaim := { program := "ytcocdhndhlegiaa", sum := "62dd0dc2a327b5931a0e512f90e2e28042b6c5e3d7b0fe9121b333228b854416", func := "disjoint/disjointlaw30.BoxHull", spec := "boxHull", apart := false, narrowed := true }
def BoxHullUptoSaid : Prop := boxHullUptoRow.holds Try.pinned (OpenSpec.upto boxHullSpec)

/-- 'disjointlaw30.BoxRow', WHERE WHAT IT READS IS OF BULK AT MOST 1048576: true; the input reads as it did. -/
def boxRowUptoRow : OpenClaim := { program := "ytcocdhndhlegiaa", sum := "62dd0dc2a327b5931a0e512f90e2e28042b6c5e3d7b0fe9121b333228b854416", func := "disjoint/disjointlaw30.BoxRow", spec := "boxRow", apart := false, narrowed := true }
def BoxRowUptoSaid : Prop := boxRowUptoRow.holds Try.pinned (OpenSpec.upto boxRowSpec)

end Rows
end Go.Proofs.Ytcocdhndhlegiaa
