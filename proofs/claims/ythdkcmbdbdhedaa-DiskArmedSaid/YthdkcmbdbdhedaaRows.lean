/-
  No cell of these rows narrows 'for every input' (looked for: loops, veiled, ifaces, maps, wideKeys, modest, calm, conditions, laid).
  DERIVED. THE GIVEN ROWS OF THIS SEAT. 6 by the template 'for every input the law returns true; each argument reads behind the call as it read before'; 0 by the template 'total and deterministic' (their statements: YthdkcmbdbdhedaaTotals.lean).
  GIVEN WITH THE SEED: the statements are not yours to turn. If you find one false, say at which input.
  Laid BY PROGRAM, IN A SANDBOX (cutbox-rows.mjs): the forced cells as the released guide's own fill.sh prints them over the translation 80f95130dcac0bfb… (all of the seat's roots in one cut). By AI agents, Wed Nov 11 2026. No macro, syntax, notation, axiom, sorry.
-/
import Derived.Test.YthdkcmbdbdhedaaChecked
import GoSem.Claim
import GoSem.ClaimJoined
import GoSem.ClaimMapViews
import Derived.JoinedTies
import Derived.KernelRfl
namespace Go.Proofs.Ythdkcmbdbdhedaa
/- THE CELL 'sum', in the pinned program and in every row, IS THE sha256 OF THE DUMP (.gsa) THAT YthdkcmbdbdhedaaProg.lean LOADS. Nothing in Lean hashes anything: it is a label: what it is worth is what the hold of that sum in a sandbox is worth. -/
noncomputable def Try.pinned : Pinned := { name := "ythdkcmbdbdhedaa", sum := "80f95130dcac0bfbfc223e41ba48cb5560d79f7ace2de6ca6f9270423737ab7f", checked := Try.checked }
namespace Rows
def none {H : Type} : Left H := { results := [], args := [] }

/-- 'disjointlaw36.DiskMatchesModel': WHATEVER THE INPUT: true; the input reads as it did. -/
def diskMatchesModelSpec : ChangeSpec := { name := "diskMatchesModel", fn := fun _ => fun
  | [d] => { results := [.lit (.bool true)], args := [d] }
  | _ => none }
def diskMatchesModelRow : OpenClaim := { program := "ythdkcmbdbdhedaa", sum := "80f95130dcac0bfbfc223e41ba48cb5560d79f7ace2de6ca6f9270423737ab7f", func := "disjoint/disjointlaw36.DiskMatchesModel", spec := "diskMatchesModel", apart := false }
def DiskMatchesModelSaid : Prop := diskMatchesModelRow.holds Try.pinned (OpenSpec.ofChange diskMatchesModelSpec)

/-- ITS FALSE NEIGHBOUR: 'it returns false'. Refute it at one input. -/
def diskMatchesModelWrong : ChangeSpec := { name := "diskMatchesModel", fn := fun _ => fun
  | [d] => { results := [.lit (.bool false)], args := [d] }
  | _ => none }
def DiskMatchesModelWrongFalsely : Prop := diskMatchesModelRow.holds Try.pinned (OpenSpec.ofChange diskMatchesModelWrong)

/-- 'disjointlaw36.DiskNew': WHATEVER THE INPUT: true; the input reads as it did. -/
def diskNewSpec : ChangeSpec := { name := "diskNew", fn := fun _ => fun
  | [d] => { results := [.lit (.bool true)], args := [d] }
  | _ => none }
def diskNewRow : OpenClaim := { program := "ythdkcmbdbdhedaa", sum := "80f95130dcac0bfbfc223e41ba48cb5560d79f7ace2de6ca6f9270423737ab7f", func := "disjoint/disjointlaw36.DiskNew", spec := "diskNew", apart := false }
def DiskNewSaid : Prop := diskNewRow.holds Try.pinned (OpenSpec.ofChange diskNewSpec)

/-- ITS FALSE NEIGHBOUR: 'it returns false'. Refute it at one input. -/
def diskNewWrong : ChangeSpec := { name := "diskNew", fn := fun _ => fun
  | [d] => { results := [.lit (.bool false)], args := [d] }
  | _ => none }
def DiskNewWrongFalsely : Prop := diskNewRow.holds Try.pinned (OpenSpec.ofChange diskNewWrong)

/-- 'disjointlaw36.DiskArmed': WHATEVER THE INPUT: true; the input reads as it did. -/
def diskArmedSpec : ChangeSpec := { name := "diskArmed", fn := fun _ => fun
  | [d1, d2, d3, d4] => { results := [.lit (.bool true)], args := [d1, d2, d3, d4] }
  | _ => none }
def diskArmedRow : OpenClaim := { program := "ythdkcmbdbdhedaa", sum := "80f95130dcac0bfbfc223e41ba48cb5560d79f7ace2de6ca6f9270423737ab7f", func := "disjoint/disjointlaw36.DiskArmed", spec := "diskArmed", apart := false }
def DiskArmedSaid : Prop := diskArmedRow.holds Try.pinned (OpenSpec.ofChange diskArmedSpec)

/-- ITS FALSE NEIGHBOUR: 'it returns false'. Refute it at one input. -/
def diskArmedWrong : ChangeSpec := { name := "diskArmed", fn := fun _ => fun
  | [d1, d2, d3, d4] => { results := [.lit (.bool false)], args := [d1, d2, d3, d4] }
  | _ => none }
def DiskArmedWrongFalsely : Prop := diskArmedRow.holds Try.pinned (OpenSpec.ofChange diskArmedWrong)

/-- 'disjointlaw36.DiskDurable': WHATEVER THE INPUT: true; the input reads as it did. -/
def diskDurableSpec : ChangeSpec := { name := "diskDurable", fn := fun _ => fun
  | [d] => { results := [.lit (.bool true)], args := [d] }
  | _ => none }
def diskDurableRow : OpenClaim := { program := "ythdkcmbdbdhedaa", sum := "80f95130dcac0bfbfc223e41ba48cb5560d79f7ace2de6ca6f9270423737ab7f", func := "disjoint/disjointlaw36.DiskDurable", spec := "diskDurable", apart := false }
def DiskDurableSaid : Prop := diskDurableRow.holds Try.pinned (OpenSpec.ofChange diskDurableSpec)

/-- ITS FALSE NEIGHBOUR: 'it returns false'. Refute it at one input. -/
def diskDurableWrong : ChangeSpec := { name := "diskDurable", fn := fun _ => fun
  | [d] => { results := [.lit (.bool false)], args := [d] }
  | _ => none }
def DiskDurableWrongFalsely : Prop := diskDurableRow.holds Try.pinned (OpenSpec.ofChange diskDurableWrong)

/-- 'disjointlaw36.DiskFailed': WHATEVER THE INPUT: true; the input reads as it did. -/
def diskFailedSpec : ChangeSpec := { name := "diskFailed", fn := fun _ => fun
  | [d1, d2] => { results := [.lit (.bool true)], args := [d1, d2] }
  | _ => none }
def diskFailedRow : OpenClaim := { program := "ythdkcmbdbdhedaa", sum := "80f95130dcac0bfbfc223e41ba48cb5560d79f7ace2de6ca6f9270423737ab7f", func := "disjoint/disjointlaw36.DiskFailed", spec := "diskFailed", apart := false }
def DiskFailedSaid : Prop := diskFailedRow.holds Try.pinned (OpenSpec.ofChange diskFailedSpec)

/-- ITS FALSE NEIGHBOUR: 'it returns false'. Refute it at one input. -/
def diskFailedWrong : ChangeSpec := { name := "diskFailed", fn := fun _ => fun
  | [d1, d2] => { results := [.lit (.bool false)], args := [d1, d2] }
  | _ => none }
def DiskFailedWrongFalsely : Prop := diskFailedRow.holds Try.pinned (OpenSpec.ofChange diskFailedWrong)

/-- 'disjointlaw36.DiskIsolated': WHATEVER THE INPUT: true; the input reads as it did. -/
def diskIsolatedSpec : ChangeSpec := { name := "diskIsolated", fn := fun _ => fun
  | [d1, d2] => { results := [.lit (.bool true)], args := [d1, d2] }
  | _ => none }
def diskIsolatedRow : OpenClaim := { program := "ythdkcmbdbdhedaa", sum := "80f95130dcac0bfbfc223e41ba48cb5560d79f7ace2de6ca6f9270423737ab7f", func := "disjoint/disjointlaw36.DiskIsolated", spec := "diskIsolated", apart := false }
def DiskIsolatedSaid : Prop := diskIsolatedRow.holds Try.pinned (OpenSpec.ofChange diskIsolatedSpec)

/-- ITS FALSE NEIGHBOUR: 'it returns false'. Refute it at one input. -/
def diskIsolatedWrong : ChangeSpec := { name := "diskIsolated", fn := fun _ => fun
  | [d1, d2] => { results := [.lit (.bool false)], args := [d1, d2] }
  | _ => none }
def DiskIsolatedWrongFalsely : Prop := diskIsolatedRow.holds Try.pinned (OpenSpec.ofChange diskIsolatedWrong)

/- THE SECOND FORM. 'bulk': how many values and letters a reading holds, each counted each time it is reached (what is shared counts as often as it is met; a slice's spare places count too). A statement '..UptoSaid' is the law's where the arguments, and the package variables that the reading takes, are together of bulk at most 1048576: NARROWER than '..Said'. Prove '..Said' where nothing that the law and all that it calls make is longer than what came in: it says more and counts as full. Else prove '..UptoSaid'. A law counts once. -/
mutual
def uptoBulk {H : Type} : DataW H → Nat
  | .lit (.string bytes) => bytes.length + 1
  | .lit _ => 1
  | .nil => 1
  | .ptr d => uptoBulk d + 1
  | .slice elems spare => uptoBulkAll elems + uptoBulkAll spare + 1
  | .agg parts => uptoBulkAll parts + 1
  | .iface _ d => uptoBulk d + 1
  | .map entries => uptoBulkEntries entries + 1
  | .held _ => 1
def uptoBulkAll {H : Type} : List (DataW H) → Nat
  | [] => 0
  | d :: r => uptoBulk d + uptoBulkAll r
def uptoBulkEntries {H : Type} : List (Lit × DataW H) → Nat
  | [] => 0
  | x :: r => uptoBulkEntry x + uptoBulkEntries r
def uptoBulkEntry {H : Type} : Lit × DataW H → Nat
  | (.string bytes, d) => bytes.length + uptoBulk d + 1
  | (_, d) => uptoBulk d + 1
 end
def uptoSmall : (H : Type) → List (DataW H) → Bool := fun _ ds => decide (uptoBulkAll ds ≤ 1048576)
def OpenSpec.upto (s : _root_.Go.ChangeSpec) : _root_.Go.OpenSpec := { _root_.Go.OpenSpec.ofChange s with cond := some uptoSmall }

/-- 'disjointlaw36.DiskMatchesModel', WHERE WHAT IT READS IS OF BULK AT MOST 1048576: true; the input reads as it did. -/
def diskMatchesModelUptoRow : OpenClaim := { program := "ythdkcmbdbdhedaa", sum := "80f95130dcac0bfbfc223e41ba48cb5560d79f7ace2de6ca6f9270423737ab7f", func := "disjoint/disjointlaw36.DiskMatchesModel", spec := "diskMatchesModel", apart := false, narrowed := true }
def DiskMatchesModelUptoSaid : Prop := diskMatchesModelUptoRow.holds Try.pinned (OpenSpec.upto diskMatchesModelSpec)

/-- 'disjointlaw36.DiskNew', WHERE WHAT IT READS IS OF BULK AT MOST 1048576: true; the input reads as it did. -/
def diskNewUptoRow : OpenClaim := { program := "ythdkcmbdbdhedaa", sum := "80f95130dcac0bfbfc223e41ba48cb5560d79f7ace2de6ca6f9270423737ab7f", func := "disjoint/disjointlaw36.DiskNew", spec := "diskNew", apart := false, narrowed := true }
def DiskNewUptoSaid : Prop := diskNewUptoRow.holds Try.pinned (OpenSpec.upto diskNewSpec)

/-- 'disjointlaw36.DiskArmed', WHERE WHAT IT READS IS OF BULK AT MOST 1048576: true; the input reads as it did. -/
def diskArmedUptoRow : OpenClaim := { program := "ythdkcmbdbdhedaa", sum := "80f95130dcac0bfbfc223e41ba48cb5560d79f7ace2de6ca6f9270423737ab7f", func := "disjoint/disjointlaw36.DiskArmed", spec := "diskArmed", apart := false, narrowed := true }
def DiskArmedUptoSaid : Prop := diskArmedUptoRow.holds Try.pinned (OpenSpec.upto diskArmedSpec)

/-- 'disjointlaw36.DiskDurable', WHERE WHAT IT READS IS OF BULK AT MOST 1048576: true; the input reads as it did. -/
def diskDurableUptoRow : OpenClaim := { program := "ythdkcmbdbdhedaa", sum := "80f95130dcac0bfbfc223e41ba48cb5560d79f7ace2de6ca6f9270423737ab7f", func := "disjoint/disjointlaw36.DiskDurable", spec := "diskDurable", apart := false, narrowed := true }
def DiskDurableUptoSaid : Prop := diskDurableUptoRow.holds Try.pinned (OpenSpec.upto diskDurableSpec)

/-- 'disjointlaw36.DiskFailed', WHERE WHAT IT READS IS OF BULK AT MOST 1048576: true; the input reads as it did. -/
def diskFailedUptoRow : OpenClaim := { program := "ythdkcmbdbdhedaa", sum := "80f95130dcac0bfbfc223e41ba48cb5560d79f7ace2de6ca6f9270423737ab7f", func := "disjoint/disjointlaw36.DiskFailed", spec := "diskFailed", apart := false, narrowed := true }
def DiskFailedUptoSaid : Prop := diskFailedUptoRow.holds Try.pinned (OpenSpec.upto diskFailedSpec)

/-- 'disjointlaw36.DiskIsolated', WHERE WHAT IT READS IS OF BULK AT MOST 1048576: true; the input reads as it did. -/
def diskIsolatedUptoRow : OpenClaim := { program := "ythdkcmbdbdhedaa", sum := "80f95130dcac0bfbfc223e41ba48cb5560d79f7ace2de6ca6f9270423737ab7f", func := "disjoint/disjointlaw36.DiskIsolated", spec := "diskIsolated", apart := false, narrowed := true }
def DiskIsolatedUptoSaid : Prop := diskIsolatedUptoRow.holds Try.pinned (OpenSpec.upto diskIsolatedSpec)

end Rows
end Go.Proofs.Ythdkcmbdbdhedaa
