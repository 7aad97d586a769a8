/-
  No cell of these rows narrows 'for every input' (looked for: loops, veiled, ifaces, maps, wideKeys, modest, calm, conditions, laid).
  DERIVED. THE GIVEN ROWS OF THIS SEAT. 8 by the template 'for every input the law returns true; each argument reads behind the call as it read before'; 0 by the template 'total and deterministic' (their statements: YtdfkcibmmabjcaaTotals.lean).
  GIVEN WITH THE SEED: the statements are not yours to turn. If you find one false, say at which input.
  Laid BY PROGRAM, IN A SANDBOX (cutbox-rows.mjs): the forced cells as the released guide's own fill.sh prints them over the translation a036ea548e45e813… (all of the seat's roots in one cut). By AI agents, Wed Nov 11 2026. No macro, syntax, notation, axiom, sorry.
-/
import Derived.Test.YtdfkcibmmabjcaaChecked
import GoSem.Claim
import GoSem.ClaimJoined
import GoSem.ClaimMapViews
import Derived.JoinedTies
import Derived.KernelRfl
namespace Go.Proofs.Ytdfkcibmmabjcaa
/- THE CELL 'sum', in the pinned program and in every row, IS THE sha256 OF THE DUMP (.gsa) THAT YtdfkcibmmabjcaaProg.lean LOADS. Nothing in Lean hashes anything: it is a label: what it is worth is what the hold of that sum in a sandbox is worth. -/
noncomputable def Try.pinned : Pinned := { name := "ytdfkcibmmabjcaa", sum := "a036ea548e45e8139da55b9d31330953a8b2083028a2e1f886089f005bd668ff", checked := Try.checked }
namespace Rows
def none {H : Type} : Left H := { results := [], args := [] }

/-- 'disjointlaw05.RowcodecEncoding': WHATEVER THE INPUT: true; the input reads as it did. -/
def rowcodecEncodingSpec : ChangeSpec := { name := "rowcodecEncoding", fn := fun _ => fun
  | [d1, d2] => { results := [.lit (.bool true)], args := [d1, d2] }
  | _ => none }
def rowcodecEncodingRow : OpenClaim := { program := "ytdfkcibmmabjcaa", sum := "a036ea548e45e8139da55b9d31330953a8b2083028a2e1f886089f005bd668ff", func := "disjoint/disjointlaw05.RowcodecEncoding", spec := "rowcodecEncoding", apart := false }
def RowcodecEncodingSaid : Prop := rowcodecEncodingRow.holds Try.pinned (OpenSpec.ofChange rowcodecEncodingSpec)

/-- ITS FALSE NEIGHBOUR: 'it returns false'. Refute it at one input. -/
def rowcodecEncodingWrong : ChangeSpec := { name := "rowcodecEncoding", fn := fun _ => fun
  | [d1, d2] => { results := [.lit (.bool false)], args := [d1, d2] }
  | _ => none }
def RowcodecEncodingWrongFalsely : Prop := rowcodecEncodingRow.holds Try.pinned (OpenSpec.ofChange rowcodecEncodingWrong)

/-- 'disjointlaw05.RowcodecDecoding': WHATEVER THE INPUT: true; the input reads as it did. -/
def rowcodecDecodingSpec : ChangeSpec := { name := "rowcodecDecoding", fn := fun _ => fun
  | [d] => { results := [.lit (.bool true)], args := [d] }
  | _ => none }
def rowcodecDecodingRow : OpenClaim := { program := "ytdfkcibmmabjcaa", sum := "a036ea548e45e8139da55b9d31330953a8b2083028a2e1f886089f005bd668ff", func := "disjoint/disjointlaw05.RowcodecDecoding", spec := "rowcodecDecoding", inPlace := ["internal/bytealg.IndexByte"], apart := false }
def RowcodecDecodingSaid : Prop := rowcodecDecodingRow.holds Try.pinned (OpenSpec.ofChange rowcodecDecodingSpec)

/-- ITS FALSE NEIGHBOUR: 'it returns false'. Refute it at one input. -/
def rowcodecDecodingWrong : ChangeSpec := { name := "rowcodecDecoding", fn := fun _ => fun
  | [d] => { results := [.lit (.bool false)], args := [d] }
  | _ => none }
def RowcodecDecodingWrongFalsely : Prop := rowcodecDecodingRow.holds Try.pinned (OpenSpec.ofChange rowcodecDecodingWrong)

/-- 'disjointlaw05.RowcodecRoundTrip': WHATEVER THE INPUT: true; the input reads as it did. -/
def rowcodecRoundTripSpec : ChangeSpec := { name := "rowcodecRoundTrip", fn := fun _ => fun
  | [d] => { results := [.lit (.bool true)], args := [d] }
  | _ => none }
def rowcodecRoundTripRow : OpenClaim := { program := "ytdfkcibmmabjcaa", sum := "a036ea548e45e8139da55b9d31330953a8b2083028a2e1f886089f005bd668ff", func := "disjoint/disjointlaw05.RowcodecRoundTrip", spec := "rowcodecRoundTrip", inPlace := ["internal/bytealg.IndexByte"], apart := false }
def RowcodecRoundTripSaid : Prop := rowcodecRoundTripRow.holds Try.pinned (OpenSpec.ofChange rowcodecRoundTripSpec)

/-- ITS FALSE NEIGHBOUR: 'it returns false'. Refute it at one input. -/
def rowcodecRoundTripWrong : ChangeSpec := { name := "rowcodecRoundTrip", fn := fun _ => fun
  | [d] => { results := [.lit (.bool false)], args := [d] }
  | _ => none }
def RowcodecRoundTripWrongFalsely : Prop := rowcodecRoundTripRow.holds Try.pinned (OpenSpec.ofChange rowcodecRoundTripWrong)

/-- 'disjointlaw05.RowcodecOrder': WHATEVER THE INPUT: true; the input reads as it did. -/
def rowcodecOrderSpec : ChangeSpec := { name := "rowcodecOrder", fn := fun _ => fun
  | [d1, d2] => { results := [.lit (.bool true)], args := [d1, d2] }
  | _ => none }
def rowcodecOrderRow : OpenClaim := { program := "ytdfkcibmmabjcaa", sum := "a036ea548e45e8139da55b9d31330953a8b2083028a2e1f886089f005bd668ff", func := "disjoint/disjointlaw05.RowcodecOrder", spec := "rowcodecOrder", apart := false }
def RowcodecOrderSaid : Prop := rowcodecOrderRow.holds Try.pinned (OpenSpec.ofChange rowcodecOrderSpec)

/-- ITS FALSE NEIGHBOUR: 'it returns false'. Refute it at one input. -/
def rowcodecOrderWrong : ChangeSpec := { name := "rowcodecOrder", fn := fun _ => fun
  | [d1, d2] => { results := [.lit (.bool false)], args := [d1, d2] }
  | _ => none }
def RowcodecOrderWrongFalsely : Prop := rowcodecOrderRow.holds Try.pinned (OpenSpec.ofChange rowcodecOrderWrong)

/-- 'disjointlaw05.RowcodecPrefixFree': WHATEVER THE INPUT: true; the input reads as it did. -/
def rowcodecPrefixFreeSpec : ChangeSpec := { name := "rowcodecPrefixFree", fn := fun _ => fun
  | [d1, d2] => { results := [.lit (.bool true)], args := [d1, d2] }
  | _ => none }
def rowcodecPrefixFreeRow : OpenClaim := { program := "ytdfkcibmmabjcaa", sum := "a036ea548e45e8139da55b9d31330953a8b2083028a2e1f886089f005bd668ff", func := "disjoint/disjointlaw05.RowcodecPrefixFree", spec := "rowcodecPrefixFree", apart := false }
def RowcodecPrefixFreeSaid : Prop := rowcodecPrefixFreeRow.holds Try.pinned (OpenSpec.ofChange rowcodecPrefixFreeSpec)

/-- ITS FALSE NEIGHBOUR: 'it returns false'. Refute it at one input. -/
def rowcodecPrefixFreeWrong : ChangeSpec := { name := "rowcodecPrefixFree", fn := fun _ => fun
  | [d1, d2] => { results := [.lit (.bool false)], args := [d1, d2] }
  | _ => none }
def RowcodecPrefixFreeWrongFalsely : Prop := rowcodecPrefixFreeRow.holds Try.pinned (OpenSpec.ofChange rowcodecPrefixFreeWrong)

/-- 'disjointlaw05.RowcodecKey': WHATEVER THE INPUT: true; the input reads as it did. -/
def rowcodecKeySpec : ChangeSpec := { name := "rowcodecKey", fn := fun _ => fun
  | [d1, d2] => { results := [.lit (.bool true)], args := [d1, d2] }
  | _ => none }
def rowcodecKeyRow : OpenClaim := { program := "ytdfkcibmmabjcaa", sum := "a036ea548e45e8139da55b9d31330953a8b2083028a2e1f886089f005bd668ff", func := "disjoint/disjointlaw05.RowcodecKey", spec := "rowcodecKey", apart := false }
def RowcodecKeySaid : Prop := rowcodecKeyRow.holds Try.pinned (OpenSpec.ofChange rowcodecKeySpec)

/-- ITS FALSE NEIGHBOUR: 'it returns false'. Refute it at one input. -/
def rowcodecKeyWrong : ChangeSpec := { name := "rowcodecKey", fn := fun _ => fun
  | [d1, d2] => { results := [.lit (.bool false)], args := [d1, d2] }
  | _ => none }
def RowcodecKeyWrongFalsely : Prop := rowcodecKeyRow.holds Try.pinned (OpenSpec.ofChange rowcodecKeyWrong)

/-- 'disjointlaw05.RowcodecEnd': WHATEVER THE INPUT: true; the input reads as it did. -/
def rowcodecEndSpec : ChangeSpec := { name := "rowcodecEnd", fn := fun _ => fun
  | [d1, d2] => { results := [.lit (.bool true)], args := [d1, d2] }
  | _ => none }
def rowcodecEndRow : OpenClaim := { program := "ytdfkcibmmabjcaa", sum := "a036ea548e45e8139da55b9d31330953a8b2083028a2e1f886089f005bd668ff", func := "disjoint/disjointlaw05.RowcodecEnd", spec := "rowcodecEnd", apart := false }
def RowcodecEndSaid : Prop := rowcodecEndRow.holds Try.pinned (OpenSpec.ofChange rowcodecEndSpec)

/-- ITS FALSE NEIGHBOUR: 'it returns false'. Refute it at one input. -/
def rowcodecEndWrong : ChangeSpec := { name := "rowcodecEnd", fn := fun _ => fun
  | [d1, d2] => { results := [.lit (.bool false)], args := [d1, d2] }
  | _ => none }
def RowcodecEndWrongFalsely : Prop := rowcodecEndRow.holds Try.pinned (OpenSpec.ofChange rowcodecEndWrong)

/-- 'disjointlaw05.RowcodecNumbers': WHATEVER THE INPUT: true; the input reads as it did. -/
def rowcodecNumbersSpec : ChangeSpec := { name := "rowcodecNumbers", fn := fun _ => fun
  | [d1, d2, d3] => { results := [.lit (.bool true)], args := [d1, d2, d3] }
  | _ => none }
def rowcodecNumbersRow : OpenClaim := { program := "ytdfkcibmmabjcaa", sum := "a036ea548e45e8139da55b9d31330953a8b2083028a2e1f886089f005bd668ff", func := "disjoint/disjointlaw05.RowcodecNumbers", spec := "rowcodecNumbers", apart := false }
def RowcodecNumbersSaid : Prop := rowcodecNumbersRow.holds Try.pinned (OpenSpec.ofChange rowcodecNumbersSpec)

/-- ITS FALSE NEIGHBOUR: 'it returns false'. Refute it at one input. -/
def rowcodecNumbersWrong : ChangeSpec := { name := "rowcodecNumbers", fn := fun _ => fun
  | [d1, d2, d3] => { results := [.lit (.bool false)], args := [d1, d2, d3] }
  | _ => none }
def RowcodecNumbersWrongFalsely : Prop := rowcodecNumbersRow.holds Try.pinned (OpenSpec.ofChange rowcodecNumbersWrong)

/- THE SECOND FORM. 'bulk': how many values and letters a reading holds, each counted each time it is reached (what is shared counts as often as it is met; a slice's spare places count too). A statement '..UptoSaid' is the law's where the arguments, and the package variables that the reading takes, are together of bulk at most 1048576: NARROWER than '..Said'. Prove '..Said' where nothing that the law and all that it calls make is longer than what came in: it says more and counts as full. Else prove '..UptoSaid'. A law counts once. -/
mutual
def uptoBulk {H : Type} : DataW H → Nat
  | .lit (.string bytes) => bytes.length + 1
  | .lit _ => 1
  | .nil => 1
  | .ptr d => uptoBulk d + 1
  | .slice elems spare => uptoBulkAll elems + uptoBulkAll spare + 1
  | .agg parts => uptoBulkAll parts + 1
  | .iface _ d => uptoBulk d + 1
  | .map entries => uptoBulkEntries entries + 1
  | .held _ => 1
def uptoBulkAll {H : Type} : List (DataW H) → Nat
  | [] => 0
  | d :: r => uptoBulk d + uptoBulkAll r
def uptoBulkEntries {H : Type} : List (Lit × DataW H) → Nat
  | [] => 0
  | x :: r => uptoBulkEntry x + uptoBulkEntries r
def uptoBulkEntry {H : Type} : Lit × DataW H → Nat
  | (.string bytes, d) => bytes.length + uptoBulk d + 1
  | (_, d) => uptoBulk d + 1
 end
def uptoSmall : (H : Type) → List (DataW H) → Bool := fun _ ds => decide (uptoBulkAll ds ≤ 1048576)
def OpenSpec.upto (s : _root_.Go.ChangeSpec) : _root_.Go.OpenSpec := { _root_.Go.OpenSpec.ofChange s with cond := some uptoSmall }

/-- 'disjointlaw05.RowcodecEncoding', WHERE WHAT IT READS IS OF BULK AT MOST 1048576: true; the input reads as it did. -/
def rowcodecEncodingUptoRow : OpenClaim := { program := "ytdfkcibmmabjcaa", sum := "a036ea548e45e8139da55b9d31330953a8b2083028a2e1f886089f005bd668ff", func := "disjoint/disjointlaw05.RowcodecEncoding", spec := "rowcodecEncoding", apart := false, narrowed := true }
def RowcodecEncodingUptoSaid : Prop := rowcodecEncodingUptoRow.holds Try.pinned (OpenSpec.upto rowcodecEncodingSpec)

/-- 'disjointlaw05.RowcodecDecoding', WHERE WHAT IT READS IS OF BULK AT MOST 1048576: true; the input reads as it did. -/
def rowcodecDecodingUptoRow : OpenClaim := { program := "ytdfkcibmmabjcaa", sum := "a036ea548e45e8139da55b9d31330953a8b2083028a2e1f886089f005bd668ff", func := "disjoint/disjointlaw05.RowcodecDecoding", spec := "rowcodecDecoding", inPlace := ["internal/bytealg.IndexByte"], apart := false, narrowed := true }
def RowcodecDecodingUptoSaid : Prop := rowcodecDecodingUptoRow.holds Try.pinned (OpenSpec.upto rowcodecDecodingSpec)

/-- 'disjointlaw05.RowcodecRoundTrip', WHERE WHAT IT READS IS OF BULK AT MOST 1048576: true; the input reads as it did. -/
def rowcodecRoundTripUptoRow : OpenClaim := { program := "ytdfkcibmmabjcaa", sum := "a036ea548e45e8139da55b9d31330953a8b2083028a2e1f886089f005bd668ff", func := "disjoint/disjointlaw05.RowcodecRoundTrip", spec := "rowcodecRoundTrip", inPlace := ["internal/bytealg.IndexByte"], apart := false, narrowed := true }
def RowcodecRoundTripUptoSaid : Prop := rowcodecRoundTripUptoRow.holds Try.pinned (OpenSpec.upto rowcodecRoundTripSpec)

/-- 'disjointlaw05.RowcodecOrder', WHERE WHAT IT READS IS OF BULK AT MOST 1048576: true; the input reads as it did. -/
def rowcodecOrderUptoRow : OpenClaim := { program := "ytdfkcibmmabjcaa", sum := "a036ea548e45e8139da55b9d31330953a8b2083028a2e1f886089f005bd668ff", func := "disjoint/disjointlaw05.RowcodecOrder", spec := "rowcodecOrder", apart := false, narrowed := true }
def RowcodecOrderUptoSaid : Prop := rowcodecOrderUptoRow.holds Try.pinned (OpenSpec.upto rowcodecOrderSpec)

/-- 'disjointlaw05.RowcodecPrefixFree', WHERE WHAT IT READS IS OF BULK AT MOST 1048576: true; the input reads as it did. -/
def rowcodecPrefixFreeUptoRow : OpenClaim := { program := "ytdfkcibmmabjcaa", sum := "a036ea548e45e8139da55b9d31330953a8b2083028a2e1f886089f005bd668ff", func := "disjoint/disjointlaw05.RowcodecPrefixFree", spec := "rowcodecPrefixFree", apart := false, narrowed := true }
def RowcodecPrefixFreeUptoSaid : Prop := rowcodecPrefixFreeUptoRow.holds Try.pinned (OpenSpec.upto rowcodecPrefixFreeSpec)

/-- 'disjointlaw05.RowcodecKey', WHERE WHAT IT READS IS OF BULK AT MOST 1048576: true; the input reads as it did. -/
def rowcodecKeyUptoRow : OpenClaim := { program := "ytdfkcibmmabjcaa", sum := "a036ea548e45e8139da55b9d31330953a8b2083028a2e1f886089f005bd668ff", func := "disjoint/disjointlaw05.RowcodecKey", spec := "rowcodecKey", apart := false, narrowed := true }
def RowcodecKeyUptoSaid : Prop := rowcodecKeyUptoRow.holds Try.pinned (OpenSpec.upto rowcodecKeySpec)

/-- 'disjointlaw05.RowcodecEnd', WHERE WHAT IT READS IS OF BULK AT MOST 1048576: true; the input reads as it did. -/
def rowcodecEndUptoRow : OpenClaim := { program := "ytdfkcibmmabjcaa", sum := "a036ea548e45e8139da55b9d31330953a8b2083028a2e1f886089f005bd668ff", func := "disjoint/disjointlaw05.RowcodecEnd", spec := "rowcodecEnd", apart := false, narrowed := true }
def RowcodecEndUptoSaid : Prop := rowcodecEndUptoRow.holds Try.pinned (OpenSpec.upto rowcodecEndSpec)

/-- 'disjointlaw05.RowcodecNumbers', WHERE WHAT IT READS IS OF BULK AT MOST 1048576: true; the input reads as it did. -/
def rowcodecNumbersUptoRow : OpenClaim := { program := "ytdfkcibmmabjcaa", sum := "a036ea548e45e8139da55b9d31330953a8b2083028a2e1f886089f005bd668ff", func := "disjoint/disjointlaw05.RowcodecNumbers", spec := "rowcodecNumbers", apart := false, narrowed := true }
def RowcodecNumbersUptoSaid : Prop := rowcodecNumbersUptoRow.holds Try.pinned (OpenSpec.upto rowcodecNumbersSpec)

end Rows
end Go.Proofs.Ytdfkcibmmabjcaa
