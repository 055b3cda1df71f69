/-
  DERIVED. GIVEN WITH THE SEED: THE CARDS: each row of YtfhiibohgjbmbaaGreatDoorRows.lean that lists a variable, with what it lists TIED to the program's text (the seventh form; the later family's looks); each row that meets fmt, with fmt's text TOLD by the authors' own Lean function (tested against real Go, not proved from fmt's source: count such statements apart). THE CARD IS WHAT COUNTS. Prove the row's statement (the work); the ties are given (YtfhiibohgjbmbaaGreatDoorTie.lean); close each card by the builder's one call (the guide's Derived/Test/ToyasCard.lean, 'card_holds'). Laid BY PROGRAM, IN A SANDBOX (cutbox-door.mjs). By AI agents, Wed Nov 11 2026. No macro, syntax, notation, axiom, sorry.
-/
import Derived.Test.YtfhiibohgjbmbaaGreatDoorRows
import GoSem.ClaimSeven
namespace Go.Proofs.YtfhiibohgjbmbaaGreatDoor
namespace Rows

/-- THE TIED CARD OF 'besomlaw07.HeapMakes'. -/
def heapMakesCard : Claim7 := { stood := { row := heapMakesRow, standIns := [], harness := (true, "47cb4a04552a04c3fe27a717f45b42fdc82585bad652a6ae9fec8c4263c97e5d"), looks := false }, kinds := [], alts := [], laidByText := true, laidKinds := [.data], laidTests := true, laidLooks := .later }
def HeapMakesCardSaid : Prop := Claim7.holds Tryz.pinned (.plain (OpenSpec.ofChange heapMakesSpec)) heapMakesCard

/-- THE TIED CARD OF 'besomlaw07.HeapFields'. -/
def heapFieldsCard : Claim7 := { stood := { row := heapFieldsRow, standIns := [], harness := (true, "47cb4a04552a04c3fe27a717f45b42fdc82585bad652a6ae9fec8c4263c97e5d"), looks := false }, kinds := [], alts := [], laidByText := true, laidKinds := [.data], laidTests := true, laidLooks := .later }
def HeapFieldsCardSaid : Prop := Claim7.holds Tryz.pinned (.plain (OpenSpec.ofChange heapFieldsSpec)) heapFieldsCard

/-- THE TIED CARD OF 'besomlaw07.HeapMarks'. -/
def heapMarksCard : Claim7 := { stood := { row := heapMarksRow, standIns := [], harness := (true, "47cb4a04552a04c3fe27a717f45b42fdc82585bad652a6ae9fec8c4263c97e5d"), looks := false }, kinds := [], alts := [], laidByText := true, laidKinds := [.data], laidTests := true, laidLooks := .later }
def HeapMarksCardSaid : Prop := Claim7.holds Tryz.pinned (.plain (OpenSpec.ofChange heapMarksSpec)) heapMarksCard

/-- THE TIED CARD OF 'besomlaw07.HeapSweeps'. -/
def heapSweepsCard : Claim7 := { stood := { row := heapSweepsRow, standIns := [], harness := (true, "47cb4a04552a04c3fe27a717f45b42fdc82585bad652a6ae9fec8c4263c97e5d"), looks := false }, kinds := [], alts := [], laidByText := true, laidKinds := [.data], laidTests := true, laidLooks := .later }
def HeapSweepsCardSaid : Prop := Claim7.holds Tryz.pinned (.plain (OpenSpec.ofChange heapSweepsSpec)) heapSweepsCard

/-- THE TIED CARD OF 'besomlaw07.HeapLoaded'. -/
def heapLoadedCard : Claim7 := { stood := { row := heapLoadedRow, standIns := [], harness := (true, "47cb4a04552a04c3fe27a717f45b42fdc82585bad652a6ae9fec8c4263c97e5d"), looks := false }, kinds := [], alts := [], laidByText := true, laidKinds := [.data], laidTests := true, laidLooks := .later }
def HeapLoadedCardSaid : Prop := Claim7.holds Tryz.pinned (.plain (OpenSpec.ofChange heapLoadedSpec)) heapLoadedCard

/-- THE TIED CARD OF 'besomlaw07.HeapApart'. -/
def heapApartCard : Claim7 := { stood := { row := heapApartRow, standIns := [], harness := (true, "47cb4a04552a04c3fe27a717f45b42fdc82585bad652a6ae9fec8c4263c97e5d"), looks := false }, kinds := [], alts := [], laidByText := true, laidKinds := [.data], laidTests := true, laidLooks := .later }
def HeapApartCardSaid : Prop := Claim7.holds Tryz.pinned (.plain (OpenSpec.ofChange heapApartSpec)) heapApartCard

/-- THE TIED CARD OF 'besomlaw07.HeapSwept'. -/
def heapSweptCard : Claim7 := { stood := { row := heapSweptRow, standIns := [], harness := (true, "47cb4a04552a04c3fe27a717f45b42fdc82585bad652a6ae9fec8c4263c97e5d"), looks := false }, kinds := [], alts := [], laidByText := true, laidKinds := [.data], laidTests := true, laidLooks := .later }
def HeapSweptCardSaid : Prop := Claim7.holds Tryz.pinned (.plain (OpenSpec.ofChange heapSweptSpec)) heapSweptCard

/-- THE TIED CARD OF 'besomlaw07.HeapMarked'. -/
def heapMarkedCard : Claim7 := { stood := { row := heapMarkedRow, standIns := [], harness := (true, "47cb4a04552a04c3fe27a717f45b42fdc82585bad652a6ae9fec8c4263c97e5d"), looks := false }, kinds := [], alts := [], laidByText := true, laidKinds := [.data], laidTests := true, laidLooks := .later }
def HeapMarkedCardSaid : Prop := Claim7.holds Tryz.pinned (.plain (OpenSpec.ofChange heapMarkedSpec)) heapMarkedCard

/-- THE TIED CARD OF 'besomlaw07.HeapOwn'. -/
def heapOwnCard : Claim7 := { stood := { row := heapOwnRow, standIns := [], harness := (true, "47cb4a04552a04c3fe27a717f45b42fdc82585bad652a6ae9fec8c4263c97e5d"), looks := false }, kinds := [], alts := [], laidByText := true, laidKinds := [.data], laidTests := true, laidLooks := .later }
def HeapOwnCardSaid : Prop := Claim7.holds Tryz.pinned (.plain (OpenSpec.ofChange heapOwnSpec)) heapOwnCard

/-- THE TIED CARD OF 'besomlaw07.HeapRefused'. -/
def heapRefusedCard : Claim7 := { stood := { row := heapRefusedRow, standIns := [], harness := (true, "47cb4a04552a04c3fe27a717f45b42fdc82585bad652a6ae9fec8c4263c97e5d"), looks := false }, kinds := [], alts := [], laidByText := true, laidKinds := [.data], laidTests := true, laidLooks := .later }
def HeapRefusedCardSaid : Prop := Claim7.holds Tryz.pinned (.plain (OpenSpec.ofChange heapRefusedSpec)) heapRefusedCard

/-- THE TIED CARD OF 'besomtop.TopKept'. -/
def topKeptCard : Claim7 := { stood := { row := topKeptRow, standIns := [], harness := (true, "47cb4a04552a04c3fe27a717f45b42fdc82585bad652a6ae9fec8c4263c97e5d"), looks := false }, kinds := [], alts := [], laidByText := true, laidKinds := [.data], laidTests := true, laidLooks := .later }
def TopKeptCardSaid : Prop := Claim7.holds Tryz.pinned (.plain (OpenSpec.ofChange topKeptSpec)) topKeptCard

/-- THE SECOND FORM's CARD OF 'besomlaw07.HeapMakes'. -/
def heapMakesUptoCard : Claim7 := { stood := { row := heapMakesUptoRow, standIns := [], harness := (true, "47cb4a04552a04c3fe27a717f45b42fdc82585bad652a6ae9fec8c4263c97e5d"), looks := false }, kinds := [], alts := [], laidByText := true, laidKinds := [.data], laidTests := true, laidLooks := .later }
def HeapMakesUptoCardSaid : Prop := Claim7.holds Tryz.pinned (.plain (OpenSpec.upto heapMakesSpec)) heapMakesUptoCard

/-- THE SECOND FORM's CARD OF 'besomlaw07.HeapFields'. -/
def heapFieldsUptoCard : Claim7 := { stood := { row := heapFieldsUptoRow, standIns := [], harness := (true, "47cb4a04552a04c3fe27a717f45b42fdc82585bad652a6ae9fec8c4263c97e5d"), looks := false }, kinds := [], alts := [], laidByText := true, laidKinds := [.data], laidTests := true, laidLooks := .later }
def HeapFieldsUptoCardSaid : Prop := Claim7.holds Tryz.pinned (.plain (OpenSpec.upto heapFieldsSpec)) heapFieldsUptoCard

/-- THE SECOND FORM's CARD OF 'besomlaw07.HeapMarks'. -/
def heapMarksUptoCard : Claim7 := { stood := { row := heapMarksUptoRow, standIns := [], harness := (true, "47cb4a04552a04c3fe27a717f45b42fdc82585bad652a6ae9fec8c4263c97e5d"), looks := false }, kinds := [], alts := [], laidByText := true, laidKinds := [.data], laidTests := true, laidLooks := .later }
def HeapMarksUptoCardSaid : Prop := Claim7.holds Tryz.pinned (.plain (OpenSpec.upto heapMarksSpec)) heapMarksUptoCard

/-- THE SECOND FORM's CARD OF 'besomlaw07.HeapSweeps'. -/
def heapSweepsUptoCard : Claim7 := { stood := { row := heapSweepsUptoRow, standIns := [], harness := (true, "47cb4a04552a04c3fe27a717f45b42fdc82585bad652a6ae9fec8c4263c97e5d"), looks := false }, kinds := [], alts := [], laidByText := true, laidKinds := [.data], laidTests := true, laidLooks := .later }
def HeapSweepsUptoCardSaid : Prop := Claim7.holds Tryz.pinned (.plain (OpenSpec.upto heapSweepsSpec)) heapSweepsUptoCard

/-- THE SECOND FORM's CARD OF 'besomlaw07.HeapLoaded'. -/
def heapLoadedUptoCard : Claim7 := { stood := { row := heapLoadedUptoRow, standIns := [], harness := (true, "47cb4a04552a04c3fe27a717f45b42fdc82585bad652a6ae9fec8c4263c97e5d"), looks := false }, kinds := [], alts := [], laidByText := true, laidKinds := [.data], laidTests := true, laidLooks := .later }
def HeapLoadedUptoCardSaid : Prop := Claim7.holds Tryz.pinned (.plain (OpenSpec.upto heapLoadedSpec)) heapLoadedUptoCard

/-- THE SECOND FORM's CARD OF 'besomlaw07.HeapApart'. -/
def heapApartUptoCard : Claim7 := { stood := { row := heapApartUptoRow, standIns := [], harness := (true, "47cb4a04552a04c3fe27a717f45b42fdc82585bad652a6ae9fec8c4263c97e5d"), looks := false }, kinds := [], alts := [], laidByText := true, laidKinds := [.data], laidTests := true, laidLooks := .later }
def HeapApartUptoCardSaid : Prop := Claim7.holds Tryz.pinned (.plain (OpenSpec.upto heapApartSpec)) heapApartUptoCard

/-- THE SECOND FORM's CARD OF 'besomlaw07.HeapSwept'. -/
def heapSweptUptoCard : Claim7 := { stood := { row := heapSweptUptoRow, standIns := [], harness := (true, "47cb4a04552a04c3fe27a717f45b42fdc82585bad652a6ae9fec8c4263c97e5d"), looks := false }, kinds := [], alts := [], laidByText := true, laidKinds := [.data], laidTests := true, laidLooks := .later }
def HeapSweptUptoCardSaid : Prop := Claim7.holds Tryz.pinned (.plain (OpenSpec.upto heapSweptSpec)) heapSweptUptoCard

/-- THE SECOND FORM's CARD OF 'besomlaw07.HeapMarked'. -/
def heapMarkedUptoCard : Claim7 := { stood := { row := heapMarkedUptoRow, standIns := [], harness := (true, "47cb4a04552a04c3fe27a717f45b42fdc82585bad652a6ae9fec8c4263c97e5d"), looks := false }, kinds := [], alts := [], laidByText := true, laidKinds := [.data], laidTests := true, laidLooks := .later }
def HeapMarkedUptoCardSaid : Prop := Claim7.holds Tryz.pinned (.plain (OpenSpec.upto heapMarkedSpec)) heapMarkedUptoCard

/-- THE SECOND FORM's CARD OF 'besomlaw07.HeapOwn'. -/
def heapOwnUptoCard : Claim7 := { stood := { row := heapOwnUptoRow, standIns := [], harness := (true, "47cb4a04552a04c3fe27a717f45b42fdc82585bad652a6ae9fec8c4263c97e5d"), looks := false }, kinds := [], alts := [], laidByText := true, laidKinds := [.data], laidTests := true, laidLooks := .later }
def HeapOwnUptoCardSaid : Prop := Claim7.holds Tryz.pinned (.plain (OpenSpec.upto heapOwnSpec)) heapOwnUptoCard

/-- THE SECOND FORM's CARD OF 'besomlaw07.HeapRefused'. -/
def heapRefusedUptoCard : Claim7 := { stood := { row := heapRefusedUptoRow, standIns := [], harness := (true, "47cb4a04552a04c3fe27a717f45b42fdc82585bad652a6ae9fec8c4263c97e5d"), looks := false }, kinds := [], alts := [], laidByText := true, laidKinds := [.data], laidTests := true, laidLooks := .later }
def HeapRefusedUptoCardSaid : Prop := Claim7.holds Tryz.pinned (.plain (OpenSpec.upto heapRefusedSpec)) heapRefusedUptoCard

/-- THE SECOND FORM's CARD OF 'besomtop.TopKept'. -/
def topKeptUptoCard : Claim7 := { stood := { row := topKeptUptoRow, standIns := [], harness := (true, "47cb4a04552a04c3fe27a717f45b42fdc82585bad652a6ae9fec8c4263c97e5d"), looks := false }, kinds := [], alts := [], laidByText := true, laidKinds := [.data], laidTests := true, laidLooks := .later }
def TopKeptUptoCardSaid : Prop := Claim7.holds Tryz.pinned (.plain (OpenSpec.upto topKeptSpec)) topKeptUptoCard
end Rows
end Go.Proofs.YtfhiibohgjbmbaaGreatDoor
