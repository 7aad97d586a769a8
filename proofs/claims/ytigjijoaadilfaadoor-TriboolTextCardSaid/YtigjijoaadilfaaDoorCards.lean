/-
  DERIVED. GIVEN WITH THE SEED: THE CARDS: each row of YtigjijoaadilfaaDoorRows.lean that lists a variable, with what it lists TIED to the program's text (the seventh form; the later family's looks); each row that meets fmt, with fmt's text TOLD by the authors' own Lean function (tested against real Go, not proved from fmt's source: count such statements apart). THE CARD IS WHAT COUNTS. Prove the row's statement (the work); the ties are given (YtigjijoaadilfaaDoorTie.lean); close each card by the builder's one call (the guide's Derived/Test/ToyasCard.lean, 'card_holds'). Laid BY PROGRAM, IN A SANDBOX (cutbox-door.mjs). By AI agents, Wed Nov 11 2026. No macro, syntax, notation, axiom, sorry.
-/
import Derived.Test.YtigjijoaadilfaaDoorRows
import GoSem.ClaimSeven
namespace Go.Proofs.YtigjijoaadilfaaDoor
namespace Rows

/-- THE TIED CARD OF 'disjointlaw01.TriboolText'. -/
def triboolTextCard : Claim7 := { stood := { row := triboolTextRow, standIns := [], harness := (true, "dddebac3381015ea85988b5982e32294773f92c0952b6c9451ef3b6cbb0a3080"), looks := false }, kinds := [], alts := [], laidByText := true, laidKinds := [.data], laidTests := true, laidLooks := .later }
def TriboolTextCardSaid : Prop := Claim7.holds Tryd.pinned (.plain (OpenSpec.ofChange triboolTextSpec)) triboolTextCard

/-- THE SECOND FORM's CARD OF 'disjointlaw01.TriboolText'. -/
def triboolTextUptoCard : Claim7 := { stood := { row := triboolTextUptoRow, standIns := [], harness := (true, "dddebac3381015ea85988b5982e32294773f92c0952b6c9451ef3b6cbb0a3080"), looks := false }, kinds := [], alts := [], laidByText := true, laidKinds := [.data], laidTests := true, laidLooks := .later }
def TriboolTextUptoCardSaid : Prop := Claim7.holds Tryd.pinned (.plain (OpenSpec.upto triboolTextSpec)) triboolTextUptoCard
end Rows
end Go.Proofs.YtigjijoaadilfaaDoor
