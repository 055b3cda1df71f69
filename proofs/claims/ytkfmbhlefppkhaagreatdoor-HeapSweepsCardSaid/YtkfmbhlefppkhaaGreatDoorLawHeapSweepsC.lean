/- HeapSweeps answers true: whatever a heap is, it is turned and cleaned as the document's own answers say; the heap that was handed in stays.
   Conditions: the table besom/class.sizes reads as the program's own initialiser lays it, which the card ties to the program's text (plain data; look 11); otherwise none: every input that can be read. -/
import Derived.Test.YtkfmbhlefppkhaaGreatDoorLawHeapSweepsBC
import Derived.Test.YtkfmbhlefppkhaaGreatDoorRows
import Derived.Test.YtkfmbhlefppkhaaGreatDoorTie
import Derived.Test.YtkfmbhlefppkhaaGreatDoorCards
import Derived.SevenTiedAt
namespace Go.Proofs.YtkfmbhlefppkhaaGreatDoor.heapSweepsDone
open Go.ChangeShapes Go.WideShapes Go.ChangeAt Go.RowKit Go.Joins
set_option linter.unusedVariables false
set_option linter.unusedSimpArgs false

theorem proved : Rows.HeapSweepsCardSaid :=
  Claim7.holds_tied_plain_at .later [] [.data] true Rows.heapSweepsCard.stood.harness false
    over (fun _ h => by cases h) (by kernel_rfl) (fun _ h => by cases h) heapSweeps_row_tie rfl ⟨rfl, rfl⟩ (by kernel_rfl) rfl
    (fun f fn hf hfn => by
      obtain rfl : f = 6 := Option.some.inj ((show Tryz.prog.funcNamed "besom/besomlaw07.HeapSweeps" = some 6 by kernel_rfl).symm.trans hf) |>.symm
      obtain rfl : fn = Tryz.f6 := (Option.some.inj (Tryz.func6.symm.trans hfn)).symm
      exact ⟨by kernel_rfl, fun j t ht => by
        rw [Tryz.params6] at ht
        have hm : t ∈ [31, 3] := by simpa using Array.mem_of_getElem? ht
        have hall : ([31, 3].all fun u => !Tryz.prog.wantsStandIn u) = true := by kernel_rfl
        exact (show Tryz.prog.wantsStandIn t = false by simpa using List.all_eq_true.1 hall t hm)⟩)
    (by kernel_rfl)
#print axioms proved
end Go.Proofs.YtkfmbhlefppkhaaGreatDoor.heapSweepsDone
