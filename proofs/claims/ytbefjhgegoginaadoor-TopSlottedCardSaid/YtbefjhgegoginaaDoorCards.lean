/-
  DERIVED. GIVEN WITH THE SEED: THE CARDS: each row of YtbefjhgegoginaaDoorRows.lean that lists a variable, with what it lists TIED to the program's text (the seventh form; the later family's looks); each row that meets fmt, with fmt's text TOLD by the authors' own Lean function (tested against real Go, not proved from fmt's source: count such statements apart). THE CARD IS WHAT COUNTS. Prove the row's statement (the work); the ties are given (YtbefjhgegoginaaDoorTie.lean); close each card by the builder's one call (the guide's Derived/Test/ToyasCard.lean, 'card_holds'). Laid BY PROGRAM, IN A SANDBOX (cutbox-door.mjs). By AI agents, Wed Nov 11 2026. No macro, syntax, notation, axiom, sorry.
-/
import Derived.Test.YtbefjhgegoginaaDoorRows
import GoSem.ClaimSeven
namespace Go.Proofs.YtbefjhgegoginaaDoor
namespace Rows

/-- THE TIED CARD OF 'besomtop.TopSlotted'. -/
def topSlottedCard : Claim7 := { stood := { row := topSlottedRow, standIns := [], harness := (true, "8bde72c68e95b2f6154505a4174898f1e2dd0073927aa32594373845c780e863"), looks := false }, kinds := [], alts := [], laidByText := true, laidKinds := [.data], laidTests := true, laidLooks := .later }
def TopSlottedCardSaid : Prop := Claim7.holds Tryd.pinned (.plain (OpenSpec.ofChange topSlottedSpec)) topSlottedCard

/-- THE SECOND FORM's CARD OF 'besomtop.TopSlotted'. -/
def topSlottedUptoCard : Claim7 := { stood := { row := topSlottedUptoRow, standIns := [], harness := (true, "8bde72c68e95b2f6154505a4174898f1e2dd0073927aa32594373845c780e863"), looks := false }, kinds := [], alts := [], laidByText := true, laidKinds := [.data], laidTests := true, laidLooks := .later }
def TopSlottedUptoCardSaid : Prop := Claim7.holds Tryd.pinned (.plain (OpenSpec.upto topSlottedSpec)) topSlottedUptoCard
end Rows
end Go.Proofs.YtbefjhgegoginaaDoor
