/-
  DERIVED. GIVEN WITH THE SEED: THE CARDS: each row of YtpnemkphdminnaaDoorRows.lean that lists a variable, with what it lists TIED to the program's text (the seventh form; the later family's looks); each row that meets fmt, with fmt's text TOLD by the authors' own Lean function (tested against real Go, not proved from fmt's source: count such statements apart). THE CARD IS WHAT COUNTS. Prove the row's statement (the work); the ties are given (YtpnemkphdminnaaDoorTie.lean); close each card by the builder's one call (the guide's Derived/Test/ToyasCard.lean, 'card_holds'). Laid BY PROGRAM, IN A SANDBOX (cutbox-door.mjs). By AI agents, Wed Nov 11 2026. No macro, syntax, notation, axiom, sorry.
-/
import Derived.Test.YtpnemkphdminnaaDoorRows
import GoSem.ClaimSeven
namespace Go.Proofs.YtpnemkphdminnaaDoor
namespace Rows

/-- THE TIED CARD OF 'disjointlaw06.ChecksumSum'. -/
def checksumSumCard : Claim7 := { stood := { row := checksumSumRow, standIns := [], harness := (true, "e214a311ae84e86c4f6bbdfa98d31631d4e1f48d97253cd9d210968c2740ce68"), looks := false }, kinds := [], alts := [], laidByText := true, laidKinds := [.data, .data, .data, .data], laidTests := true, laidLooks := .later }
def ChecksumSumCardSaid : Prop := Claim7.holds Tryd.pinned (.plain (OpenSpec.ofChange checksumSumSpec)) checksumSumCard

/-- THE TIED CARD OF 'disjointlaw06.ChecksumUpdate'. -/
def checksumUpdateCard : Claim7 := { stood := { row := checksumUpdateRow, standIns := [], harness := (true, "e214a311ae84e86c4f6bbdfa98d31631d4e1f48d97253cd9d210968c2740ce68"), looks := false }, kinds := [], alts := [], laidByText := true, laidKinds := [.data, .data, .data, .data], laidTests := true, laidLooks := .later }
def ChecksumUpdateCardSaid : Prop := Claim7.holds Tryd.pinned (.plain (OpenSpec.ofChange checksumUpdateSpec)) checksumUpdateCard

/-- THE TIED CARD OF 'disjointlaw06.ChecksumAppend'. -/
def checksumAppendCard : Claim7 := { stood := { row := checksumAppendRow, standIns := [], harness := (true, "e214a311ae84e86c4f6bbdfa98d31631d4e1f48d97253cd9d210968c2740ce68"), looks := false }, kinds := [], alts := [], laidByText := true, laidKinds := [.data, .data, .data, .data], laidTests := true, laidLooks := .later }
def ChecksumAppendCardSaid : Prop := Claim7.holds Tryd.pinned (.plain (OpenSpec.ofChange checksumAppendSpec)) checksumAppendCard

/-- THE TIED CARD OF 'disjointlaw06.ChecksumCheck'. -/
def checksumCheckCard : Claim7 := { stood := { row := checksumCheckRow, standIns := [], harness := (true, "e214a311ae84e86c4f6bbdfa98d31631d4e1f48d97253cd9d210968c2740ce68"), looks := false }, kinds := [], alts := [], laidByText := true, laidKinds := [.data, .data, .data, .data], laidTests := true, laidLooks := .later }
def ChecksumCheckCardSaid : Prop := Claim7.holds Tryd.pinned (.plain (OpenSpec.ofChange checksumCheckSpec)) checksumCheckCard

/-- THE TIED CARD OF 'disjointlaw06.ChecksumFormat'. -/
def checksumFormatCard : Claim7 := { stood := { row := checksumFormatRow, standIns := [], harness := (true, "e214a311ae84e86c4f6bbdfa98d31631d4e1f48d97253cd9d210968c2740ce68"), looks := false }, kinds := [], alts := [], laidByText := true, laidKinds := [.data, .data, .data, .data], laidTests := true, laidLooks := .later }
def ChecksumFormatCardSaid : Prop := Claim7.holds Tryd.pinned (.plain (OpenSpec.ofChange checksumFormatSpec)) checksumFormatCard

/-- THE TIED CARD OF 'disjointlaw06.ChecksumBurst'. -/
def checksumBurstCard : Claim7 := { stood := { row := checksumBurstRow, standIns := [], harness := (true, "e214a311ae84e86c4f6bbdfa98d31631d4e1f48d97253cd9d210968c2740ce68"), looks := false }, kinds := [], alts := [], laidByText := true, laidKinds := [.data, .data, .data, .data], laidTests := true, laidLooks := .later }
def ChecksumBurstCardSaid : Prop := Claim7.holds Tryd.pinned (.plain (OpenSpec.ofChange checksumBurstSpec)) checksumBurstCard

/-- THE TIED CARD OF 'disjointlaw06.ChecksumLinear'. -/
def checksumLinearCard : Claim7 := { stood := { row := checksumLinearRow, standIns := [], harness := (true, "e214a311ae84e86c4f6bbdfa98d31631d4e1f48d97253cd9d210968c2740ce68"), looks := false }, kinds := [], alts := [], laidByText := true, laidKinds := [.data, .data, .data, .data], laidTests := true, laidLooks := .later }
def ChecksumLinearCardSaid : Prop := Claim7.holds Tryd.pinned (.plain (OpenSpec.ofChange checksumLinearSpec)) checksumLinearCard

/-- THE TIED CARD OF 'disjointlaw06.ChecksumMemory'. -/
def checksumMemoryCard : Claim7 := { stood := { row := checksumMemoryRow, standIns := [], harness := (true, "e214a311ae84e86c4f6bbdfa98d31631d4e1f48d97253cd9d210968c2740ce68"), looks := false }, kinds := [], alts := [], laidByText := true, laidKinds := [.data, .data, .data, .data], laidTests := true, laidLooks := .later }
def ChecksumMemoryCardSaid : Prop := Claim7.holds Tryd.pinned (.plain (OpenSpec.ofChange checksumMemorySpec)) checksumMemoryCard

/-- THE SECOND FORM's CARD OF 'disjointlaw06.ChecksumSum'. -/
def checksumSumUptoCard : Claim7 := { stood := { row := checksumSumUptoRow, standIns := [], harness := (true, "e214a311ae84e86c4f6bbdfa98d31631d4e1f48d97253cd9d210968c2740ce68"), looks := false }, kinds := [], alts := [], laidByText := true, laidKinds := [.data, .data, .data, .data], laidTests := true, laidLooks := .later }
def ChecksumSumUptoCardSaid : Prop := Claim7.holds Tryd.pinned (.plain (OpenSpec.upto checksumSumSpec)) checksumSumUptoCard

/-- THE SECOND FORM's CARD OF 'disjointlaw06.ChecksumUpdate'. -/
def checksumUpdateUptoCard : Claim7 := { stood := { row := checksumUpdateUptoRow, standIns := [], harness := (true, "e214a311ae84e86c4f6bbdfa98d31631d4e1f48d97253cd9d210968c2740ce68"), looks := false }, kinds := [], alts := [], laidByText := true, laidKinds := [.data, .data, .data, .data], laidTests := true, laidLooks := .later }
def ChecksumUpdateUptoCardSaid : Prop := Claim7.holds Tryd.pinned (.plain (OpenSpec.upto checksumUpdateSpec)) checksumUpdateUptoCard

/-- THE SECOND FORM's CARD OF 'disjointlaw06.ChecksumAppend'. -/
def checksumAppendUptoCard : Claim7 := { stood := { row := checksumAppendUptoRow, standIns := [], harness := (true, "e214a311ae84e86c4f6bbdfa98d31631d4e1f48d97253cd9d210968c2740ce68"), looks := false }, kinds := [], alts := [], laidByText := true, laidKinds := [.data, .data, .data, .data], laidTests := true, laidLooks := .later }
def ChecksumAppendUptoCardSaid : Prop := Claim7.holds Tryd.pinned (.plain (OpenSpec.upto checksumAppendSpec)) checksumAppendUptoCard

/-- THE SECOND FORM's CARD OF 'disjointlaw06.ChecksumCheck'. -/
def checksumCheckUptoCard : Claim7 := { stood := { row := checksumCheckUptoRow, standIns := [], harness := (true, "e214a311ae84e86c4f6bbdfa98d31631d4e1f48d97253cd9d210968c2740ce68"), looks := false }, kinds := [], alts := [], laidByText := true, laidKinds := [.data, .data, .data, .data], laidTests := true, laidLooks := .later }
def ChecksumCheckUptoCardSaid : Prop := Claim7.holds Tryd.pinned (.plain (OpenSpec.upto checksumCheckSpec)) checksumCheckUptoCard

/-- THE SECOND FORM's CARD OF 'disjointlaw06.ChecksumFormat'. -/
def checksumFormatUptoCard : Claim7 := { stood := { row := checksumFormatUptoRow, standIns := [], harness := (true, "e214a311ae84e86c4f6bbdfa98d31631d4e1f48d97253cd9d210968c2740ce68"), looks := false }, kinds := [], alts := [], laidByText := true, laidKinds := [.data, .data, .data, .data], laidTests := true, laidLooks := .later }
def ChecksumFormatUptoCardSaid : Prop := Claim7.holds Tryd.pinned (.plain (OpenSpec.upto checksumFormatSpec)) checksumFormatUptoCard

/-- THE SECOND FORM's CARD OF 'disjointlaw06.ChecksumBurst'. -/
def checksumBurstUptoCard : Claim7 := { stood := { row := checksumBurstUptoRow, standIns := [], harness := (true, "e214a311ae84e86c4f6bbdfa98d31631d4e1f48d97253cd9d210968c2740ce68"), looks := false }, kinds := [], alts := [], laidByText := true, laidKinds := [.data, .data, .data, .data], laidTests := true, laidLooks := .later }
def ChecksumBurstUptoCardSaid : Prop := Claim7.holds Tryd.pinned (.plain (OpenSpec.upto checksumBurstSpec)) checksumBurstUptoCard

/-- THE SECOND FORM's CARD OF 'disjointlaw06.ChecksumLinear'. -/
def checksumLinearUptoCard : Claim7 := { stood := { row := checksumLinearUptoRow, standIns := [], harness := (true, "e214a311ae84e86c4f6bbdfa98d31631d4e1f48d97253cd9d210968c2740ce68"), looks := false }, kinds := [], alts := [], laidByText := true, laidKinds := [.data, .data, .data, .data], laidTests := true, laidLooks := .later }
def ChecksumLinearUptoCardSaid : Prop := Claim7.holds Tryd.pinned (.plain (OpenSpec.upto checksumLinearSpec)) checksumLinearUptoCard

/-- THE SECOND FORM's CARD OF 'disjointlaw06.ChecksumMemory'. -/
def checksumMemoryUptoCard : Claim7 := { stood := { row := checksumMemoryUptoRow, standIns := [], harness := (true, "e214a311ae84e86c4f6bbdfa98d31631d4e1f48d97253cd9d210968c2740ce68"), looks := false }, kinds := [], alts := [], laidByText := true, laidKinds := [.data, .data, .data, .data], laidTests := true, laidLooks := .later }
def ChecksumMemoryUptoCardSaid : Prop := Claim7.holds Tryd.pinned (.plain (OpenSpec.upto checksumMemorySpec)) checksumMemoryUptoCard
end Rows
end Go.Proofs.YtpnemkphdminnaaDoor
