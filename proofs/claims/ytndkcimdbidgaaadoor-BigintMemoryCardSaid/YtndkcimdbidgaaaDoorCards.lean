/-
  DERIVED. GIVEN WITH THE SEED: THE CARDS: each row of YtndkcimdbidgaaaDoorRows.lean that lists a variable, with what it lists TIED to the program's text (the seventh form; the later family's looks); each row that meets fmt, with fmt's text TOLD by the authors' own Lean function (tested against real Go, not proved from fmt's source: count such statements apart). THE CARD IS WHAT COUNTS. Prove the row's statement (the work); the ties are given (YtndkcimdbidgaaaDoorTie.lean); close each card by the builder's one call (the guide's Derived/Test/ToyasCard.lean, 'card_holds'). Laid BY PROGRAM, IN A SANDBOX (cutbox-door.mjs). By AI agents, Wed Nov 11 2026. No macro, syntax, notation, axiom, sorry.
-/
import Derived.Test.YtndkcimdbidgaaaDoorRows
import GoSem.ClaimSeven
namespace Go.Proofs.YtndkcimdbidgaaaDoor
namespace Rows

/-- THE TIED CARD OF 'disjointlaw02.BigintNormal'. -/
def bigintNormalCard : Claim7 := { stood := { row := bigintNormalRow, standIns := [], harness := (true, "1d762e0d4f9c983056144b13e0838cadf91257c531d4dc3566f789e4f130c6f2"), looks := false }, kinds := [], alts := [], laidByText := true, laidKinds := [.data, .data, .data], laidTests := true, laidLooks := .later }
def BigintNormalCardSaid : Prop := Claim7.holds Tryd.pinned (.plain (OpenSpec.ofChange bigintNormalSpec)) bigintNormalCard

/-- THE TIED CARD OF 'disjointlaw02.BigintOf'. -/
def bigintOfCard : Claim7 := { stood := { row := bigintOfRow, standIns := [], harness := (true, "1d762e0d4f9c983056144b13e0838cadf91257c531d4dc3566f789e4f130c6f2"), looks := false }, kinds := [], alts := [], laidByText := true, laidKinds := [.data, .data, .data], laidTests := true, laidLooks := .later }
def BigintOfCardSaid : Prop := Claim7.holds Tryd.pinned (.plain (OpenSpec.ofChange bigintOfSpec)) bigintOfCard

/-- THE TIED CARD OF 'disjointlaw02.BigintSum'. -/
def bigintSumCard : Claim7 := { stood := { row := bigintSumRow, standIns := [], harness := (true, "1d762e0d4f9c983056144b13e0838cadf91257c531d4dc3566f789e4f130c6f2"), looks := false }, kinds := [], alts := [], laidByText := true, laidKinds := [.data, .data, .data], laidTests := true, laidLooks := .later }
def BigintSumCardSaid : Prop := Claim7.holds Tryd.pinned (.plain (OpenSpec.ofChange bigintSumSpec)) bigintSumCard

/-- THE TIED CARD OF 'disjointlaw02.BigintProduct'. -/
def bigintProductCard : Claim7 := { stood := { row := bigintProductRow, standIns := [], harness := (true, "1d762e0d4f9c983056144b13e0838cadf91257c531d4dc3566f789e4f130c6f2"), looks := false }, kinds := [], alts := [], laidByText := true, laidKinds := [.data, .data, .data], laidTests := true, laidLooks := .later }
def BigintProductCardSaid : Prop := Claim7.holds Tryd.pinned (.plain (OpenSpec.ofChange bigintProductSpec)) bigintProductCard

/-- THE TIED CARD OF 'disjointlaw02.BigintDivision'. -/
def bigintDivisionCard : Claim7 := { stood := { row := bigintDivisionRow, standIns := [], harness := (true, "1d762e0d4f9c983056144b13e0838cadf91257c531d4dc3566f789e4f130c6f2"), looks := false }, kinds := [], alts := [], laidByText := true, laidKinds := [.data, .data, .data], laidTests := true, laidLooks := .later }
def BigintDivisionCardSaid : Prop := Claim7.holds Tryd.pinned (.plain (OpenSpec.ofChange bigintDivisionSpec)) bigintDivisionCard

/-- THE TIED CARD OF 'disjointlaw02.BigintGCD'. -/
def bigintGCDCard : Claim7 := { stood := { row := bigintGCDRow, standIns := [], harness := (true, "1d762e0d4f9c983056144b13e0838cadf91257c531d4dc3566f789e4f130c6f2"), looks := false }, kinds := [], alts := [], laidByText := true, laidKinds := [.data, .data, .data], laidTests := true, laidLooks := .later }
def BigintGCDCardSaid : Prop := Claim7.holds Tryd.pinned (.plain (OpenSpec.ofChange bigintGCDSpec)) bigintGCDCard

/-- THE TIED CARD OF 'disjointlaw02.BigintText'. -/
def bigintTextCard : Claim7 := { stood := { row := bigintTextRow, standIns := [], harness := (true, "1d762e0d4f9c983056144b13e0838cadf91257c531d4dc3566f789e4f130c6f2"), looks := false }, kinds := [], alts := [], laidByText := true, laidKinds := [.data, .data, .data], laidTests := true, laidLooks := .later }
def BigintTextCardSaid : Prop := Claim7.holds Tryd.pinned (.plain (OpenSpec.ofChange bigintTextSpec)) bigintTextCard

/-- THE TIED CARD OF 'disjointlaw02.BigintRing'. -/
def bigintRingCard : Claim7 := { stood := { row := bigintRingRow, standIns := [], harness := (true, "1d762e0d4f9c983056144b13e0838cadf91257c531d4dc3566f789e4f130c6f2"), looks := false }, kinds := [], alts := [], laidByText := true, laidKinds := [.data, .data, .data], laidTests := true, laidLooks := .later }
def BigintRingCardSaid : Prop := Claim7.holds Tryd.pinned (.plain (OpenSpec.ofChange bigintRingSpec)) bigintRingCard

/-- THE TIED CARD OF 'disjointlaw02.BigintRemainder'. -/
def bigintRemainderCard : Claim7 := { stood := { row := bigintRemainderRow, standIns := [], harness := (true, "1d762e0d4f9c983056144b13e0838cadf91257c531d4dc3566f789e4f130c6f2"), looks := false }, kinds := [], alts := [], laidByText := true, laidKinds := [.data, .data, .data], laidTests := true, laidLooks := .later }
def BigintRemainderCardSaid : Prop := Claim7.holds Tryd.pinned (.plain (OpenSpec.ofChange bigintRemainderSpec)) bigintRemainderCard

/-- THE TIED CARD OF 'disjointlaw02.BigintMemory'. -/
def bigintMemoryCard : Claim7 := { stood := { row := bigintMemoryRow, standIns := [], harness := (true, "1d762e0d4f9c983056144b13e0838cadf91257c531d4dc3566f789e4f130c6f2"), looks := false }, kinds := [], alts := [], laidByText := true, laidKinds := [.data, .data, .data], laidTests := true, laidLooks := .later }
def BigintMemoryCardSaid : Prop := Claim7.holds Tryd.pinned (.plain (OpenSpec.ofChange bigintMemorySpec)) bigintMemoryCard

/-- THE SECOND FORM's CARD OF 'disjointlaw02.BigintNormal'. -/
def bigintNormalUptoCard : Claim7 := { stood := { row := bigintNormalUptoRow, standIns := [], harness := (true, "1d762e0d4f9c983056144b13e0838cadf91257c531d4dc3566f789e4f130c6f2"), looks := false }, kinds := [], alts := [], laidByText := true, laidKinds := [.data, .data, .data], laidTests := true, laidLooks := .later }
def BigintNormalUptoCardSaid : Prop := Claim7.holds Tryd.pinned (.plain (OpenSpec.upto bigintNormalSpec)) bigintNormalUptoCard

/-- THE SECOND FORM's CARD OF 'disjointlaw02.BigintOf'. -/
def bigintOfUptoCard : Claim7 := { stood := { row := bigintOfUptoRow, standIns := [], harness := (true, "1d762e0d4f9c983056144b13e0838cadf91257c531d4dc3566f789e4f130c6f2"), looks := false }, kinds := [], alts := [], laidByText := true, laidKinds := [.data, .data, .data], laidTests := true, laidLooks := .later }
def BigintOfUptoCardSaid : Prop := Claim7.holds Tryd.pinned (.plain (OpenSpec.upto bigintOfSpec)) bigintOfUptoCard

/-- THE SECOND FORM's CARD OF 'disjointlaw02.BigintSum'. -/
def bigintSumUptoCard : Claim7 := { stood := { row := bigintSumUptoRow, standIns := [], harness := (true, "1d762e0d4f9c983056144b13e0838cadf91257c531d4dc3566f789e4f130c6f2"), looks := false }, kinds := [], alts := [], laidByText := true, laidKinds := [.data, .data, .data], laidTests := true, laidLooks := .later }
def BigintSumUptoCardSaid : Prop := Claim7.holds Tryd.pinned (.plain (OpenSpec.upto bigintSumSpec)) bigintSumUptoCard

/-- THE SECOND FORM's CARD OF 'disjointlaw02.BigintProduct'. -/
def bigintProductUptoCard : Claim7 := { stood := { row := bigintProductUptoRow, standIns := [], harness := (true, "1d762e0d4f9c983056144b13e0838cadf91257c531d4dc3566f789e4f130c6f2"), looks := false }, kinds := [], alts := [], laidByText := true, laidKinds := [.data, .data, .data], laidTests := true, laidLooks := .later }
def BigintProductUptoCardSaid : Prop := Claim7.holds Tryd.pinned (.plain (OpenSpec.upto bigintProductSpec)) bigintProductUptoCard

/-- THE SECOND FORM's CARD OF 'disjointlaw02.BigintDivision'. -/
def bigintDivisionUptoCard : Claim7 := { stood := { row := bigintDivisionUptoRow, standIns := [], harness := (true, "1d762e0d4f9c983056144b13e0838cadf91257c531d4dc3566f789e4f130c6f2"), looks := false }, kinds := [], alts := [], laidByText := true, laidKinds := [.data, .data, .data], laidTests := true, laidLooks := .later }
def BigintDivisionUptoCardSaid : Prop := Claim7.holds Tryd.pinned (.plain (OpenSpec.upto bigintDivisionSpec)) bigintDivisionUptoCard

/-- THE SECOND FORM's CARD OF 'disjointlaw02.BigintGCD'. -/
def bigintGCDUptoCard : Claim7 := { stood := { row := bigintGCDUptoRow, standIns := [], harness := (true, "1d762e0d4f9c983056144b13e0838cadf91257c531d4dc3566f789e4f130c6f2"), looks := false }, kinds := [], alts := [], laidByText := true, laidKinds := [.data, .data, .data], laidTests := true, laidLooks := .later }
def BigintGCDUptoCardSaid : Prop := Claim7.holds Tryd.pinned (.plain (OpenSpec.upto bigintGCDSpec)) bigintGCDUptoCard

/-- THE SECOND FORM's CARD OF 'disjointlaw02.BigintText'. -/
def bigintTextUptoCard : Claim7 := { stood := { row := bigintTextUptoRow, standIns := [], harness := (true, "1d762e0d4f9c983056144b13e0838cadf91257c531d4dc3566f789e4f130c6f2"), looks := false }, kinds := [], alts := [], laidByText := true, laidKinds := [.data, .data, .data], laidTests := true, laidLooks := .later }
def BigintTextUptoCardSaid : Prop := Claim7.holds Tryd.pinned (.plain (OpenSpec.upto bigintTextSpec)) bigintTextUptoCard

/-- THE SECOND FORM's CARD OF 'disjointlaw02.BigintRing'. -/
def bigintRingUptoCard : Claim7 := { stood := { row := bigintRingUptoRow, standIns := [], harness := (true, "1d762e0d4f9c983056144b13e0838cadf91257c531d4dc3566f789e4f130c6f2"), looks := false }, kinds := [], alts := [], laidByText := true, laidKinds := [.data, .data, .data], laidTests := true, laidLooks := .later }
def BigintRingUptoCardSaid : Prop := Claim7.holds Tryd.pinned (.plain (OpenSpec.upto bigintRingSpec)) bigintRingUptoCard

/-- THE SECOND FORM's CARD OF 'disjointlaw02.BigintRemainder'. -/
def bigintRemainderUptoCard : Claim7 := { stood := { row := bigintRemainderUptoRow, standIns := [], harness := (true, "1d762e0d4f9c983056144b13e0838cadf91257c531d4dc3566f789e4f130c6f2"), looks := false }, kinds := [], alts := [], laidByText := true, laidKinds := [.data, .data, .data], laidTests := true, laidLooks := .later }
def BigintRemainderUptoCardSaid : Prop := Claim7.holds Tryd.pinned (.plain (OpenSpec.upto bigintRemainderSpec)) bigintRemainderUptoCard

/-- THE SECOND FORM's CARD OF 'disjointlaw02.BigintMemory'. -/
def bigintMemoryUptoCard : Claim7 := { stood := { row := bigintMemoryUptoRow, standIns := [], harness := (true, "1d762e0d4f9c983056144b13e0838cadf91257c531d4dc3566f789e4f130c6f2"), looks := false }, kinds := [], alts := [], laidByText := true, laidKinds := [.data, .data, .data], laidTests := true, laidLooks := .later }
def BigintMemoryUptoCardSaid : Prop := Claim7.holds Tryd.pinned (.plain (OpenSpec.upto bigintMemorySpec)) bigintMemoryUptoCard
end Rows
end Go.Proofs.YtndkcimdbidgaaaDoor
