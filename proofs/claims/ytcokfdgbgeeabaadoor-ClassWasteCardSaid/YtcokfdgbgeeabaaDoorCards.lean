/-
  DERIVED. GIVEN WITH THE SEED: THE CARDS: each row of YtcokfdgbgeeabaaDoorRows.lean that lists a variable, with what it lists TIED to the program's text (the seventh form; the later family's looks); each row that meets fmt, with fmt's text TOLD by the authors' own Lean function (tested against real Go, not proved from fmt's source: count such statements apart). THE CARD IS WHAT COUNTS. Prove the row's statement (the work); the ties are given (YtcokfdgbgeeabaaDoorTie.lean); close each card by the builder's one call (the guide's Derived/Test/ToyasCard.lean, 'card_holds'). Laid BY PROGRAM, IN A SANDBOX (cutbox-door.mjs). By AI agents, Wed Nov 11 2026. No macro, syntax, notation, axiom, sorry.
-/
import Derived.Test.YtcokfdgbgeeabaaDoorRows
import GoSem.ClaimSeven
namespace Go.Proofs.YtcokfdgbgeeabaaDoor
namespace Rows

/-- THE TIED CARD OF 'besomlaw04.ClassDoes'. -/
def classDoesCard : Claim7 := { stood := { row := classDoesRow, standIns := [], harness := (true, "14739a85b411278d47ce4805d78627276412c5c0be0b3aec15bdee2d59f170a2"), looks := false }, kinds := [], alts := [], laidByText := true, laidKinds := [.data], laidTests := true, laidLooks := .later }
def ClassDoesCardSaid : Prop := Claim7.holds Tryd.pinned (.plain (OpenSpec.ofChange classDoesSpec)) classDoesCard

/-- THE TIED CARD OF 'besomlaw04.ClassFits'. -/
def classFitsCard : Claim7 := { stood := { row := classFitsRow, standIns := [], harness := (true, "14739a85b411278d47ce4805d78627276412c5c0be0b3aec15bdee2d59f170a2"), looks := false }, kinds := [], alts := [], laidByText := true, laidKinds := [.data], laidTests := true, laidLooks := .later }
def ClassFitsCardSaid : Prop := Claim7.holds Tryd.pinned (.plain (OpenSpec.ofChange classFitsSpec)) classFitsCard

/-- THE TIED CARD OF 'besomlaw04.ClassWaste'. -/
def classWasteCard : Claim7 := { stood := { row := classWasteRow, standIns := [], harness := (true, "14739a85b411278d47ce4805d78627276412c5c0be0b3aec15bdee2d59f170a2"), looks := false }, kinds := [], alts := [], laidByText := true, laidKinds := [.data], laidTests := true, laidLooks := .later }
def ClassWasteCardSaid : Prop := Claim7.holds Tryd.pinned (.plain (OpenSpec.ofChange classWasteSpec)) classWasteCard

/-- THE TIED CARD OF 'besomlaw04.ClassOrder'. -/
def classOrderCard : Claim7 := { stood := { row := classOrderRow, standIns := [], harness := (true, "14739a85b411278d47ce4805d78627276412c5c0be0b3aec15bdee2d59f170a2"), looks := false }, kinds := [], alts := [], laidByText := true, laidKinds := [.data], laidTests := true, laidLooks := .later }
def ClassOrderCardSaid : Prop := Claim7.holds Tryd.pinned (.plain (OpenSpec.ofChange classOrderSpec)) classOrderCard

/-- THE TIED CARD OF 'besomtop.TopHeld'. -/
def topHeldCard : Claim7 := { stood := { row := topHeldRow, standIns := [], harness := (true, "14739a85b411278d47ce4805d78627276412c5c0be0b3aec15bdee2d59f170a2"), looks := false }, kinds := [], alts := [], laidByText := true, laidKinds := [.data], laidTests := true, laidLooks := .later }
def TopHeldCardSaid : Prop := Claim7.holds Tryd.pinned (.plain (OpenSpec.ofChange topHeldSpec)) topHeldCard

/-- THE SECOND FORM's CARD OF 'besomlaw04.ClassDoes'. -/
def classDoesUptoCard : Claim7 := { stood := { row := classDoesUptoRow, standIns := [], harness := (true, "14739a85b411278d47ce4805d78627276412c5c0be0b3aec15bdee2d59f170a2"), looks := false }, kinds := [], alts := [], laidByText := true, laidKinds := [.data], laidTests := true, laidLooks := .later }
def ClassDoesUptoCardSaid : Prop := Claim7.holds Tryd.pinned (.plain (OpenSpec.upto classDoesSpec)) classDoesUptoCard

/-- THE SECOND FORM's CARD OF 'besomlaw04.ClassFits'. -/
def classFitsUptoCard : Claim7 := { stood := { row := classFitsUptoRow, standIns := [], harness := (true, "14739a85b411278d47ce4805d78627276412c5c0be0b3aec15bdee2d59f170a2"), looks := false }, kinds := [], alts := [], laidByText := true, laidKinds := [.data], laidTests := true, laidLooks := .later }
def ClassFitsUptoCardSaid : Prop := Claim7.holds Tryd.pinned (.plain (OpenSpec.upto classFitsSpec)) classFitsUptoCard

/-- THE SECOND FORM's CARD OF 'besomlaw04.ClassWaste'. -/
def classWasteUptoCard : Claim7 := { stood := { row := classWasteUptoRow, standIns := [], harness := (true, "14739a85b411278d47ce4805d78627276412c5c0be0b3aec15bdee2d59f170a2"), looks := false }, kinds := [], alts := [], laidByText := true, laidKinds := [.data], laidTests := true, laidLooks := .later }
def ClassWasteUptoCardSaid : Prop := Claim7.holds Tryd.pinned (.plain (OpenSpec.upto classWasteSpec)) classWasteUptoCard

/-- THE SECOND FORM's CARD OF 'besomlaw04.ClassOrder'. -/
def classOrderUptoCard : Claim7 := { stood := { row := classOrderUptoRow, standIns := [], harness := (true, "14739a85b411278d47ce4805d78627276412c5c0be0b3aec15bdee2d59f170a2"), looks := false }, kinds := [], alts := [], laidByText := true, laidKinds := [.data], laidTests := true, laidLooks := .later }
def ClassOrderUptoCardSaid : Prop := Claim7.holds Tryd.pinned (.plain (OpenSpec.upto classOrderSpec)) classOrderUptoCard

/-- THE SECOND FORM's CARD OF 'besomtop.TopHeld'. -/
def topHeldUptoCard : Claim7 := { stood := { row := topHeldUptoRow, standIns := [], harness := (true, "14739a85b411278d47ce4805d78627276412c5c0be0b3aec15bdee2d59f170a2"), looks := false }, kinds := [], alts := [], laidByText := true, laidKinds := [.data], laidTests := true, laidLooks := .later }
def TopHeldUptoCardSaid : Prop := Claim7.holds Tryd.pinned (.plain (OpenSpec.upto topHeldSpec)) topHeldUptoCard
end Rows
end Go.Proofs.YtcokfdgbgeeabaaDoor
