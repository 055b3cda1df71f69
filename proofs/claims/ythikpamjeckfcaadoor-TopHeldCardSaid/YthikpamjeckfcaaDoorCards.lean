/-
  DERIVED. GIVEN WITH THE SEED: THE CARDS: each row of YthikpamjeckfcaaDoorRows.lean that lists a variable, with what it lists TIED to the program's text (the seventh form; the later family's looks); each row that meets fmt, with fmt's text TOLD by the authors' own Lean function (tested against real Go, not proved from fmt's source: count such statements apart). THE CARD IS WHAT COUNTS. Prove the row's statement (the work); the ties are given (YthikpamjeckfcaaDoorTie.lean); close each card by the builder's one call (the guide's Derived/Test/ToyasCard.lean, 'card_holds'). Laid BY PROGRAM, IN A SANDBOX (cutbox-door.mjs). By AI agents, Wed Nov 11 2026. No macro, syntax, notation, axiom, sorry.
-/
import Derived.Test.YthikpamjeckfcaaDoorRows
import GoSem.ClaimSeven
namespace Go.Proofs.YthikpamjeckfcaaDoor
namespace Rows

/-- THE TIED CARD OF 'besomtop.TopHeld'. -/
def topHeldCard : Claim7 := { stood := { row := topHeldRow, standIns := [], harness := (true, "ce31efea66045f4da3e6d2241e105938ec9df1dad70173102b6e19387c6ce906"), looks := false }, kinds := [], alts := [], laidByText := true, laidKinds := [.data], laidTests := true, laidLooks := .later }
def TopHeldCardSaid : Prop := Claim7.holds Tryd.pinned (.plain (OpenSpec.ofChange topHeldSpec)) topHeldCard

/-- THE TIED CARD OF 'besomtop.TopSlotted'. -/
def topSlottedCard : Claim7 := { stood := { row := topSlottedRow, standIns := [], harness := (true, "ce31efea66045f4da3e6d2241e105938ec9df1dad70173102b6e19387c6ce906"), looks := false }, kinds := [], alts := [], laidByText := true, laidKinds := [.data], laidTests := true, laidLooks := .later }
def TopSlottedCardSaid : Prop := Claim7.holds Tryd.pinned (.plain (OpenSpec.ofChange topSlottedSpec)) topSlottedCard

/-- THE SECOND FORM's CARD OF 'besomtop.TopHeld'. -/
def topHeldUptoCard : Claim7 := { stood := { row := topHeldUptoRow, standIns := [], harness := (true, "ce31efea66045f4da3e6d2241e105938ec9df1dad70173102b6e19387c6ce906"), looks := false }, kinds := [], alts := [], laidByText := true, laidKinds := [.data], laidTests := true, laidLooks := .later }
def TopHeldUptoCardSaid : Prop := Claim7.holds Tryd.pinned (.plain (OpenSpec.upto topHeldSpec)) topHeldUptoCard

/-- THE SECOND FORM's CARD OF 'besomtop.TopSlotted'. -/
def topSlottedUptoCard : Claim7 := { stood := { row := topSlottedUptoRow, standIns := [], harness := (true, "ce31efea66045f4da3e6d2241e105938ec9df1dad70173102b6e19387c6ce906"), looks := false }, kinds := [], alts := [], laidByText := true, laidKinds := [.data], laidTests := true, laidLooks := .later }
def TopSlottedUptoCardSaid : Prop := Claim7.holds Tryd.pinned (.plain (OpenSpec.upto topSlottedSpec)) topSlottedUptoCard
end Rows
end Go.Proofs.YthikpamjeckfcaaDoor
