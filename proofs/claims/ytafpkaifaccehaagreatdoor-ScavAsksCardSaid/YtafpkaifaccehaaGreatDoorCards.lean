/-
  DERIVED. GIVEN WITH THE SEED: THE CARDS: each row of YtafpkaifaccehaaGreatDoorRows.lean that lists a variable, with what it lists TIED to the program's text (the seventh form; the later family's looks); each row that meets fmt, with fmt's text TOLD by the authors' own Lean function (tested against real Go, not proved from fmt's source: count such statements apart). THE CARD IS WHAT COUNTS. Prove the row's statement (the work); the ties are given (YtafpkaifaccehaaGreatDoorTie.lean); close each card by the builder's one call (the guide's Derived/Test/ToyasCard.lean, 'card_holds'). Laid BY PROGRAM, IN A SANDBOX (cutbox-door.mjs). By AI agents, Wed Nov 11 2026. No macro, syntax, notation, axiom, sorry.
-/
import Derived.Test.YtafpkaifaccehaaGreatDoorRows
import GoSem.ClaimSeven
namespace Go.Proofs.YtafpkaifaccehaaGreatDoor
namespace Rows

/-- THE TIED CARD OF 'besomlaw07.HeapMakes'. -/
def heapMakesCard : Claim7 := { stood := { row := heapMakesRow, standIns := [], harness := (true, "48a7815fd3bb7278fcb6a17cc19037403fc2f62072a5afd30b0d400cce46e661"), looks := false }, kinds := [], alts := [], laidByText := true, laidKinds := [.data], laidTests := true, laidLooks := .later }
def HeapMakesCardSaid : Prop := Claim7.holds Tryz.pinned (.plain (OpenSpec.ofChange heapMakesSpec)) heapMakesCard

/-- THE TIED CARD OF 'besomlaw07.HeapFields'. -/
def heapFieldsCard : Claim7 := { stood := { row := heapFieldsRow, standIns := [], harness := (true, "48a7815fd3bb7278fcb6a17cc19037403fc2f62072a5afd30b0d400cce46e661"), looks := false }, kinds := [], alts := [], laidByText := true, laidKinds := [.data], laidTests := true, laidLooks := .later }
def HeapFieldsCardSaid : Prop := Claim7.holds Tryz.pinned (.plain (OpenSpec.ofChange heapFieldsSpec)) heapFieldsCard

/-- THE TIED CARD OF 'besomlaw07.HeapMarks'. -/
def heapMarksCard : Claim7 := { stood := { row := heapMarksRow, standIns := [], harness := (true, "48a7815fd3bb7278fcb6a17cc19037403fc2f62072a5afd30b0d400cce46e661"), looks := false }, kinds := [], alts := [], laidByText := true, laidKinds := [.data], laidTests := true, laidLooks := .later }
def HeapMarksCardSaid : Prop := Claim7.holds Tryz.pinned (.plain (OpenSpec.ofChange heapMarksSpec)) heapMarksCard

/-- THE TIED CARD OF 'besomlaw07.HeapSweeps'. -/
def heapSweepsCard : Claim7 := { stood := { row := heapSweepsRow, standIns := [], harness := (true, "48a7815fd3bb7278fcb6a17cc19037403fc2f62072a5afd30b0d400cce46e661"), looks := false }, kinds := [], alts := [], laidByText := true, laidKinds := [.data], laidTests := true, laidLooks := .later }
def HeapSweepsCardSaid : Prop := Claim7.holds Tryz.pinned (.plain (OpenSpec.ofChange heapSweepsSpec)) heapSweepsCard

/-- THE TIED CARD OF 'besomtop.TopKept'. -/
def topKeptCard : Claim7 := { stood := { row := topKeptRow, standIns := [], harness := (true, "48a7815fd3bb7278fcb6a17cc19037403fc2f62072a5afd30b0d400cce46e661"), looks := false }, kinds := [], alts := [], laidByText := true, laidKinds := [.data], laidTests := true, laidLooks := .later }
def TopKeptCardSaid : Prop := Claim7.holds Tryz.pinned (.plain (OpenSpec.ofChange topKeptSpec)) topKeptCard

/-- THE TIED CARD OF 'besomlaw23.ScavDoes'. -/
def scavDoesCard : Claim7 := { stood := { row := scavDoesRow, standIns := [], harness := (true, "48a7815fd3bb7278fcb6a17cc19037403fc2f62072a5afd30b0d400cce46e661"), looks := false }, kinds := [], alts := [], laidByText := true, laidKinds := [.data], laidTests := true, laidLooks := .later }
def ScavDoesCardSaid : Prop := Claim7.holds Tryz.pinned (.plain (OpenSpec.ofChange scavDoesSpec)) scavDoesCard

/-- THE TIED CARD OF 'besomlaw23.ScavAsks'. -/
def scavAsksCard : Claim7 := { stood := { row := scavAsksRow, standIns := [], harness := (true, "48a7815fd3bb7278fcb6a17cc19037403fc2f62072a5afd30b0d400cce46e661"), looks := false }, kinds := [], alts := [], laidByText := true, laidKinds := [.data], laidTests := true, laidLooks := .later }
def ScavAsksCardSaid : Prop := Claim7.holds Tryz.pinned (.plain (OpenSpec.ofChange scavAsksSpec)) scavAsksCard

/-- THE TIED CARD OF 'besomlaw23.ScavSame'. -/
def scavSameCard : Claim7 := { stood := { row := scavSameRow, standIns := [], harness := (true, "48a7815fd3bb7278fcb6a17cc19037403fc2f62072a5afd30b0d400cce46e661"), looks := false }, kinds := [], alts := [], laidByText := true, laidKinds := [.data], laidTests := true, laidLooks := .later }
def ScavSameCardSaid : Prop := Claim7.holds Tryz.pinned (.plain (OpenSpec.ofChange scavSameSpec)) scavSameCard

/-- THE TIED CARD OF 'besomlaw23.ScavCounted'. -/
def scavCountedCard : Claim7 := { stood := { row := scavCountedRow, standIns := [], harness := (true, "48a7815fd3bb7278fcb6a17cc19037403fc2f62072a5afd30b0d400cce46e661"), looks := false }, kinds := [], alts := [], laidByText := true, laidKinds := [.data], laidTests := true, laidLooks := .later }
def ScavCountedCardSaid : Prop := Claim7.holds Tryz.pinned (.plain (OpenSpec.ofChange scavCountedSpec)) scavCountedCard

/-- THE TIED CARD OF 'besomlaw23.ScavKeeps'. -/
def scavKeepsCard : Claim7 := { stood := { row := scavKeepsRow, standIns := [], harness := (true, "48a7815fd3bb7278fcb6a17cc19037403fc2f62072a5afd30b0d400cce46e661"), looks := false }, kinds := [], alts := [], laidByText := true, laidKinds := [.data], laidTests := true, laidLooks := .later }
def ScavKeepsCardSaid : Prop := Claim7.holds Tryz.pinned (.plain (OpenSpec.ofChange scavKeepsSpec)) scavKeepsCard

/-- THE TIED CARD OF 'besomlaw23.ScavRuns'. -/
def scavRunsCard : Claim7 := { stood := { row := scavRunsRow, standIns := [], harness := (true, "48a7815fd3bb7278fcb6a17cc19037403fc2f62072a5afd30b0d400cce46e661"), looks := false }, kinds := [], alts := [], laidByText := true, laidKinds := [.data], laidTests := true, laidLooks := .later }
def ScavRunsCardSaid : Prop := Claim7.holds Tryz.pinned (.plain (OpenSpec.ofChange scavRunsSpec)) scavRunsCard

/-- THE SECOND FORM's CARD OF 'besomlaw07.HeapMakes'. -/
def heapMakesUptoCard : Claim7 := { stood := { row := heapMakesUptoRow, standIns := [], harness := (true, "48a7815fd3bb7278fcb6a17cc19037403fc2f62072a5afd30b0d400cce46e661"), looks := false }, kinds := [], alts := [], laidByText := true, laidKinds := [.data], laidTests := true, laidLooks := .later }
def HeapMakesUptoCardSaid : Prop := Claim7.holds Tryz.pinned (.plain (OpenSpec.upto heapMakesSpec)) heapMakesUptoCard

/-- THE SECOND FORM's CARD OF 'besomlaw07.HeapFields'. -/
def heapFieldsUptoCard : Claim7 := { stood := { row := heapFieldsUptoRow, standIns := [], harness := (true, "48a7815fd3bb7278fcb6a17cc19037403fc2f62072a5afd30b0d400cce46e661"), looks := false }, kinds := [], alts := [], laidByText := true, laidKinds := [.data], laidTests := true, laidLooks := .later }
def HeapFieldsUptoCardSaid : Prop := Claim7.holds Tryz.pinned (.plain (OpenSpec.upto heapFieldsSpec)) heapFieldsUptoCard

/-- THE SECOND FORM's CARD OF 'besomlaw07.HeapMarks'. -/
def heapMarksUptoCard : Claim7 := { stood := { row := heapMarksUptoRow, standIns := [], harness := (true, "48a7815fd3bb7278fcb6a17cc19037403fc2f62072a5afd30b0d400cce46e661"), looks := false }, kinds := [], alts := [], laidByText := true, laidKinds := [.data], laidTests := true, laidLooks := .later }
def HeapMarksUptoCardSaid : Prop := Claim7.holds Tryz.pinned (.plain (OpenSpec.upto heapMarksSpec)) heapMarksUptoCard

/-- THE SECOND FORM's CARD OF 'besomlaw07.HeapSweeps'. -/
def heapSweepsUptoCard : Claim7 := { stood := { row := heapSweepsUptoRow, standIns := [], harness := (true, "48a7815fd3bb7278fcb6a17cc19037403fc2f62072a5afd30b0d400cce46e661"), looks := false }, kinds := [], alts := [], laidByText := true, laidKinds := [.data], laidTests := true, laidLooks := .later }
def HeapSweepsUptoCardSaid : Prop := Claim7.holds Tryz.pinned (.plain (OpenSpec.upto heapSweepsSpec)) heapSweepsUptoCard

/-- THE SECOND FORM's CARD OF 'besomtop.TopKept'. -/
def topKeptUptoCard : Claim7 := { stood := { row := topKeptUptoRow, standIns := [], harness := (true, "48a7815fd3bb7278fcb6a17cc19037403fc2f62072a5afd30b0d400cce46e661"), looks := false }, kinds := [], alts := [], laidByText := true, laidKinds := [.data], laidTests := true, laidLooks := .later }
def TopKeptUptoCardSaid : Prop := Claim7.holds Tryz.pinned (.plain (OpenSpec.upto topKeptSpec)) topKeptUptoCard

/-- THE SECOND FORM's CARD OF 'besomlaw23.ScavDoes'. -/
def scavDoesUptoCard : Claim7 := { stood := { row := scavDoesUptoRow, standIns := [], harness := (true, "48a7815fd3bb7278fcb6a17cc19037403fc2f62072a5afd30b0d400cce46e661"), looks := false }, kinds := [], alts := [], laidByText := true, laidKinds := [.data], laidTests := true, laidLooks := .later }
def ScavDoesUptoCardSaid : Prop := Claim7.holds Tryz.pinned (.plain (OpenSpec.upto scavDoesSpec)) scavDoesUptoCard

/-- THE SECOND FORM's CARD OF 'besomlaw23.ScavAsks'. -/
def scavAsksUptoCard : Claim7 := { stood := { row := scavAsksUptoRow, standIns := [], harness := (true, "48a7815fd3bb7278fcb6a17cc19037403fc2f62072a5afd30b0d400cce46e661"), looks := false }, kinds := [], alts := [], laidByText := true, laidKinds := [.data], laidTests := true, laidLooks := .later }
def ScavAsksUptoCardSaid : Prop := Claim7.holds Tryz.pinned (.plain (OpenSpec.upto scavAsksSpec)) scavAsksUptoCard

/-- THE SECOND FORM's CARD OF 'besomlaw23.ScavSame'. -/
def scavSameUptoCard : Claim7 := { stood := { row := scavSameUptoRow, standIns := [], harness := (true, "48a7815fd3bb7278fcb6a17cc19037403fc2f62072a5afd30b0d400cce46e661"), looks := false }, kinds := [], alts := [], laidByText := true, laidKinds := [.data], laidTests := true, laidLooks := .later }
def ScavSameUptoCardSaid : Prop := Claim7.holds Tryz.pinned (.plain (OpenSpec.upto scavSameSpec)) scavSameUptoCard

/-- THE SECOND FORM's CARD OF 'besomlaw23.ScavCounted'. -/
def scavCountedUptoCard : Claim7 := { stood := { row := scavCountedUptoRow, standIns := [], harness := (true, "48a7815fd3bb7278fcb6a17cc19037403fc2f62072a5afd30b0d400cce46e661"), looks := false }, kinds := [], alts := [], laidByText := true, laidKinds := [.data], laidTests := true, laidLooks := .later }
def ScavCountedUptoCardSaid : Prop := Claim7.holds Tryz.pinned (.plain (OpenSpec.upto scavCountedSpec)) scavCountedUptoCard

/-- THE SECOND FORM's CARD OF 'besomlaw23.ScavKeeps'. -/
def scavKeepsUptoCard : Claim7 := { stood := { row := scavKeepsUptoRow, standIns := [], harness := (true, "48a7815fd3bb7278fcb6a17cc19037403fc2f62072a5afd30b0d400cce46e661"), looks := false }, kinds := [], alts := [], laidByText := true, laidKinds := [.data], laidTests := true, laidLooks := .later }
def ScavKeepsUptoCardSaid : Prop := Claim7.holds Tryz.pinned (.plain (OpenSpec.upto scavKeepsSpec)) scavKeepsUptoCard

/-- THE SECOND FORM's CARD OF 'besomlaw23.ScavRuns'. -/
def scavRunsUptoCard : Claim7 := { stood := { row := scavRunsUptoRow, standIns := [], harness := (true, "48a7815fd3bb7278fcb6a17cc19037403fc2f62072a5afd30b0d400cce46e661"), looks := false }, kinds := [], alts := [], laidByText := true, laidKinds := [.data], laidTests := true, laidLooks := .later }
def ScavRunsUptoCardSaid : Prop := Claim7.holds Tryz.pinned (.plain (OpenSpec.upto scavRunsSpec)) scavRunsUptoCard
end Rows
end Go.Proofs.YtafpkaifaccehaaGreatDoor
