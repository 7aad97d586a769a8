/-
  DERIVED. GIVEN WITH THE SEED: THE CARDS: each row of YthhpilkhcomhbaaDoorRows.lean that lists a variable, with what it lists TIED to the program's text (the seventh form; the later family's looks); each row that meets fmt, with fmt's text TOLD by the authors' own Lean function (tested against real Go, not proved from fmt's source: count such statements apart). THE CARD IS WHAT COUNTS. Prove the row's statement (the work); the ties are given (YthhpilkhcomhbaaDoorTie.lean); close each card by the builder's one call (the guide's Derived/Test/ToyasCard.lean, 'card_holds'). Laid BY PROGRAM, IN A SANDBOX (cutbox-door.mjs). By AI agents, Wed Nov 11 2026. No macro, syntax, notation, axiom, sorry.
-/
import Derived.Test.YthhpilkhcomhbaaDoorRows
import GoSem.ClaimSeven
namespace Go.Proofs.YthhpilkhcomhbaaDoor
namespace Rows

/-- THE TIED CARD OF 'disjointlaw38.SnapshotDivide'. -/
def snapshotDivideCard : Claim7 := { stood := { row := snapshotDivideRow, standIns := [], harness := (true, "0b782f9377c450bd35669e4afb904da01c3f8a9b8a4cbeee99752bcbfa800d17"), looks := false }, kinds := [], alts := [], laidByText := true, laidKinds := [.data], laidTests := true, laidLooks := .later }
def SnapshotDivideCardSaid : Prop := Claim7.holds Tryd.pinned (.plain (OpenSpec.ofChange snapshotDivideSpec)) snapshotDivideCard

/-- THE TIED CARD OF 'disjointlaw38.SnapshotMatches'. -/
def snapshotMatchesCard : Claim7 := { stood := { row := snapshotMatchesRow, standIns := [], harness := (true, "0b782f9377c450bd35669e4afb904da01c3f8a9b8a4cbeee99752bcbfa800d17"), looks := false }, kinds := [], alts := [], laidByText := true, laidKinds := [.data], laidTests := true, laidLooks := .later }
def SnapshotMatchesCardSaid : Prop := Claim7.holds Tryd.pinned (.plain (OpenSpec.ofChange snapshotMatchesSpec)) snapshotMatchesCard

/-- THE TIED CARD OF 'disjointlaw38.SnapshotRoundTrip'. -/
def snapshotRoundTripCard : Claim7 := { stood := { row := snapshotRoundTripRow, standIns := [], harness := (true, "0b782f9377c450bd35669e4afb904da01c3f8a9b8a4cbeee99752bcbfa800d17"), looks := false }, kinds := [], alts := [], laidByText := true, laidKinds := [.data], laidTests := true, laidLooks := .later }
def SnapshotRoundTripCardSaid : Prop := Claim7.holds Tryd.pinned (.plain (OpenSpec.ofChange snapshotRoundTripSpec)) snapshotRoundTripCard

/-- THE TIED CARD OF 'disjointlaw38.SnapshotTorn'. -/
def snapshotTornCard : Claim7 := { stood := { row := snapshotTornRow, standIns := [], harness := (true, "0b782f9377c450bd35669e4afb904da01c3f8a9b8a4cbeee99752bcbfa800d17"), looks := false }, kinds := [], alts := [], laidByText := true, laidKinds := [.data], laidTests := true, laidLooks := .later }
def SnapshotTornCardSaid : Prop := Claim7.holds Tryd.pinned (.plain (OpenSpec.ofChange snapshotTornSpec)) snapshotTornCard

/-- THE TIED CARD OF 'disjointlaw38.SnapshotDamage'. -/
def snapshotDamageCard : Claim7 := { stood := { row := snapshotDamageRow, standIns := [], harness := (true, "0b782f9377c450bd35669e4afb904da01c3f8a9b8a4cbeee99752bcbfa800d17"), looks := false }, kinds := [], alts := [], laidByText := true, laidKinds := [.data], laidTests := true, laidLooks := .later }
def SnapshotDamageCardSaid : Prop := Claim7.holds Tryd.pinned (.plain (OpenSpec.ofChange snapshotDamageSpec)) snapshotDamageCard

/-- THE TIED CARD OF 'disjointlaw38.SnapshotFull'. -/
def snapshotFullCard : Claim7 := { stood := { row := snapshotFullRow, standIns := [], harness := (true, "0b782f9377c450bd35669e4afb904da01c3f8a9b8a4cbeee99752bcbfa800d17"), looks := false }, kinds := [], alts := [], laidByText := true, laidKinds := [.data], laidTests := true, laidLooks := .later }
def SnapshotFullCardSaid : Prop := Claim7.holds Tryd.pinned (.plain (OpenSpec.ofChange snapshotFullSpec)) snapshotFullCard

/-- THE TIED CARD OF 'disjointlaw38.SnapshotWrites'. -/
def snapshotWritesCard : Claim7 := { stood := { row := snapshotWritesRow, standIns := [], harness := (true, "0b782f9377c450bd35669e4afb904da01c3f8a9b8a4cbeee99752bcbfa800d17"), looks := false }, kinds := [], alts := [], laidByText := true, laidKinds := [.data], laidTests := true, laidLooks := .later }
def SnapshotWritesCardSaid : Prop := Claim7.holds Tryd.pinned (.plain (OpenSpec.ofChange snapshotWritesSpec)) snapshotWritesCard

/-- THE SECOND FORM's CARD OF 'disjointlaw38.SnapshotDivide'. -/
def snapshotDivideUptoCard : Claim7 := { stood := { row := snapshotDivideUptoRow, standIns := [], harness := (true, "0b782f9377c450bd35669e4afb904da01c3f8a9b8a4cbeee99752bcbfa800d17"), looks := false }, kinds := [], alts := [], laidByText := true, laidKinds := [.data], laidTests := true, laidLooks := .later }
def SnapshotDivideUptoCardSaid : Prop := Claim7.holds Tryd.pinned (.plain (OpenSpec.upto snapshotDivideSpec)) snapshotDivideUptoCard

/-- THE SECOND FORM's CARD OF 'disjointlaw38.SnapshotMatches'. -/
def snapshotMatchesUptoCard : Claim7 := { stood := { row := snapshotMatchesUptoRow, standIns := [], harness := (true, "0b782f9377c450bd35669e4afb904da01c3f8a9b8a4cbeee99752bcbfa800d17"), looks := false }, kinds := [], alts := [], laidByText := true, laidKinds := [.data], laidTests := true, laidLooks := .later }
def SnapshotMatchesUptoCardSaid : Prop := Claim7.holds Tryd.pinned (.plain (OpenSpec.upto snapshotMatchesSpec)) snapshotMatchesUptoCard

/-- THE SECOND FORM's CARD OF 'disjointlaw38.SnapshotRoundTrip'. -/
def snapshotRoundTripUptoCard : Claim7 := { stood := { row := snapshotRoundTripUptoRow, standIns := [], harness := (true, "0b782f9377c450bd35669e4afb904da01c3f8a9b8a4cbeee99752bcbfa800d17"), looks := false }, kinds := [], alts := [], laidByText := true, laidKinds := [.data], laidTests := true, laidLooks := .later }
def SnapshotRoundTripUptoCardSaid : Prop := Claim7.holds Tryd.pinned (.plain (OpenSpec.upto snapshotRoundTripSpec)) snapshotRoundTripUptoCard

/-- THE SECOND FORM's CARD OF 'disjointlaw38.SnapshotTorn'. -/
def snapshotTornUptoCard : Claim7 := { stood := { row := snapshotTornUptoRow, standIns := [], harness := (true, "0b782f9377c450bd35669e4afb904da01c3f8a9b8a4cbeee99752bcbfa800d17"), looks := false }, kinds := [], alts := [], laidByText := true, laidKinds := [.data], laidTests := true, laidLooks := .later }
def SnapshotTornUptoCardSaid : Prop := Claim7.holds Tryd.pinned (.plain (OpenSpec.upto snapshotTornSpec)) snapshotTornUptoCard

/-- THE SECOND FORM's CARD OF 'disjointlaw38.SnapshotDamage'. -/
def snapshotDamageUptoCard : Claim7 := { stood := { row := snapshotDamageUptoRow, standIns := [], harness := (true, "0b782f9377c450bd35669e4afb904da01c3f8a9b8a4cbeee99752bcbfa800d17"), looks := false }, kinds := [], alts := [], laidByText := true, laidKinds := [.data], laidTests := true, laidLooks := .later }
def SnapshotDamageUptoCardSaid : Prop := Claim7.holds Tryd.pinned (.plain (OpenSpec.upto snapshotDamageSpec)) snapshotDamageUptoCard

/-- THE SECOND FORM's CARD OF 'disjointlaw38.SnapshotFull'. -/
def snapshotFullUptoCard : Claim7 := { stood := { row := snapshotFullUptoRow, standIns := [], harness := (true, "0b782f9377c450bd35669e4afb904da01c3f8a9b8a4cbeee99752bcbfa800d17"), looks := false }, kinds := [], alts := [], laidByText := true, laidKinds := [.data], laidTests := true, laidLooks := .later }
def SnapshotFullUptoCardSaid : Prop := Claim7.holds Tryd.pinned (.plain (OpenSpec.upto snapshotFullSpec)) snapshotFullUptoCard

/-- THE SECOND FORM's CARD OF 'disjointlaw38.SnapshotWrites'. -/
def snapshotWritesUptoCard : Claim7 := { stood := { row := snapshotWritesUptoRow, standIns := [], harness := (true, "0b782f9377c450bd35669e4afb904da01c3f8a9b8a4cbeee99752bcbfa800d17"), looks := false }, kinds := [], alts := [], laidByText := true, laidKinds := [.data], laidTests := true, laidLooks := .later }
def SnapshotWritesUptoCardSaid : Prop := Claim7.holds Tryd.pinned (.plain (OpenSpec.upto snapshotWritesSpec)) snapshotWritesUptoCard
end Rows
end Go.Proofs.YthhpilkhcomhbaaDoor
