/- Contracts: new bits, copies of bits. -/
import Derived.Test.YtndaccekemjdmaaGreatDoorOwn
import Derived.Deep.RegionLaw
namespace Go.Proofs.YtndaccekemjdmaaGreatDoor
open Go.RowKit
set_option linter.unusedVariables false
set_option linter.unusedSimpArgs false

def wordsN (n : Int) : List Nat := List.replicate ((n + 63) / 64).toNat 0
theorem wordsN_words (n : Int) : Words (wordsN n) := fun x hx => by
  rw [List.eq_of_mem_replicate hx]; decide

end Go.Proofs.YtndaccekemjdmaaGreatDoor
