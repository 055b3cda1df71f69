/-
  DERIVED. GIVEN WITH THE SEED: THE CARDS: each row of YtloemeinpknamaaDoorRows.lean that lists a variable, with what it lists TIED to the program's text (the seventh form; the later family's looks); each row that meets fmt, with fmt's text TOLD by the authors' own Lean function (tested against real Go, not proved from fmt's source: count such statements apart). THE CARD IS WHAT COUNTS. Prove the row's statement (the work); the ties are given (YtloemeinpknamaaDoorTie.lean); close each card by the builder's one call (the guide's Derived/Test/ToyasCard.lean, 'card_holds'). Laid BY PROGRAM, IN A SANDBOX (cutbox-door.mjs). By AI agents, Wed Nov 11 2026. No macro, syntax, notation, axiom, sorry.
-/
import Derived.Test.YtloemeinpknamaaDoorRows
import GoSem.ClaimSeven
namespace Go.Proofs.YtloemeinpknamaaDoor
namespace Rows

/-- THE TIED CARD OF 'besomlaw10.EphemPuts'. -/
def ephemPutsCard : Claim7 := { stood := { row := ephemPutsRow, standIns := [], harness := (true, "1d43788d25cf0de4e956b315f6c74b8c8ed83d8006ef57484460dc47d9d483c3"), looks := false }, kinds := [], alts := [], laidByText := true, laidKinds := [.data, .data], laidTests := true, laidLooks := .later }
def EphemPutsCardSaid : Prop := Claim7.holds Tryd.pinned (.plain (OpenSpec.ofChange ephemPutsSpec)) ephemPutsCard

/-- THE TIED CARD OF 'besomlaw10.EphemAsks'. -/
def ephemAsksCard : Claim7 := { stood := { row := ephemAsksRow, standIns := [], harness := (true, "1d43788d25cf0de4e956b315f6c74b8c8ed83d8006ef57484460dc47d9d483c3"), looks := false }, kinds := [], alts := [], laidByText := true, laidKinds := [.data, .data], laidTests := true, laidLooks := .later }
def EphemAsksCardSaid : Prop := Claim7.holds Tryd.pinned (.plain (OpenSpec.ofChange ephemAsksSpec)) ephemAsksCard

/-- THE TIED CARD OF 'besomlaw10.EphemMap'. -/
def ephemMapCard : Claim7 := { stood := { row := ephemMapRow, standIns := [], harness := (true, "1d43788d25cf0de4e956b315f6c74b8c8ed83d8006ef57484460dc47d9d483c3"), looks := false }, kinds := [], alts := [], laidByText := true, laidKinds := [.data, .data], laidTests := true, laidLooks := .later }
def EphemMapCardSaid : Prop := Claim7.holds Tryd.pinned (.plain (OpenSpec.ofChange ephemMapSpec)) ephemMapCard

/-- THE TIED CARD OF 'besomlaw10.EphemFull'. -/
def ephemFullCard : Claim7 := { stood := { row := ephemFullRow, standIns := [], harness := (true, "1d43788d25cf0de4e956b315f6c74b8c8ed83d8006ef57484460dc47d9d483c3"), looks := false }, kinds := [], alts := [], laidByText := true, laidKinds := [.data, .data], laidTests := true, laidLooks := .later }
def EphemFullCardSaid : Prop := Claim7.holds Tryd.pinned (.plain (OpenSpec.ofChange ephemFullSpec)) ephemFullCard

/-- THE TIED CARD OF 'besomlaw10.EphemAll'. -/
def ephemAllCard : Claim7 := { stood := { row := ephemAllRow, standIns := [], harness := (true, "1d43788d25cf0de4e956b315f6c74b8c8ed83d8006ef57484460dc47d9d483c3"), looks := false }, kinds := [], alts := [], laidByText := true, laidKinds := [.data, .data], laidTests := true, laidLooks := .later }
def EphemAllCardSaid : Prop := Claim7.holds Tryd.pinned (.plain (OpenSpec.ofChange ephemAllSpec)) ephemAllCard

/-- THE TIED CARD OF 'besomlaw10.EphemOwn'. -/
def ephemOwnCard : Claim7 := { stood := { row := ephemOwnRow, standIns := [], harness := (true, "1d43788d25cf0de4e956b315f6c74b8c8ed83d8006ef57484460dc47d9d483c3"), looks := false }, kinds := [], alts := [], laidByText := true, laidKinds := [.data, .data], laidTests := true, laidLooks := .later }
def EphemOwnCardSaid : Prop := Claim7.holds Tryd.pinned (.plain (OpenSpec.ofChange ephemOwnSpec)) ephemOwnCard

/-- THE TIED CARD OF 'besomlaw10.EphemBack'. -/
def ephemBackCard : Claim7 := { stood := { row := ephemBackRow, standIns := [], harness := (true, "1d43788d25cf0de4e956b315f6c74b8c8ed83d8006ef57484460dc47d9d483c3"), looks := false }, kinds := [], alts := [], laidByText := true, laidKinds := [.data, .data], laidTests := true, laidLooks := .later }
def EphemBackCardSaid : Prop := Claim7.holds Tryd.pinned (.plain (OpenSpec.ofChange ephemBackSpec)) ephemBackCard

/-- THE SECOND FORM's CARD OF 'besomlaw10.EphemPuts'. -/
def ephemPutsUptoCard : Claim7 := { stood := { row := ephemPutsUptoRow, standIns := [], harness := (true, "1d43788d25cf0de4e956b315f6c74b8c8ed83d8006ef57484460dc47d9d483c3"), looks := false }, kinds := [], alts := [], laidByText := true, laidKinds := [.data, .data], laidTests := true, laidLooks := .later }
def EphemPutsUptoCardSaid : Prop := Claim7.holds Tryd.pinned (.plain (OpenSpec.upto ephemPutsSpec)) ephemPutsUptoCard

/-- THE SECOND FORM's CARD OF 'besomlaw10.EphemAsks'. -/
def ephemAsksUptoCard : Claim7 := { stood := { row := ephemAsksUptoRow, standIns := [], harness := (true, "1d43788d25cf0de4e956b315f6c74b8c8ed83d8006ef57484460dc47d9d483c3"), looks := false }, kinds := [], alts := [], laidByText := true, laidKinds := [.data, .data], laidTests := true, laidLooks := .later }
def EphemAsksUptoCardSaid : Prop := Claim7.holds Tryd.pinned (.plain (OpenSpec.upto ephemAsksSpec)) ephemAsksUptoCard

/-- THE SECOND FORM's CARD OF 'besomlaw10.EphemMap'. -/
def ephemMapUptoCard : Claim7 := { stood := { row := ephemMapUptoRow, standIns := [], harness := (true, "1d43788d25cf0de4e956b315f6c74b8c8ed83d8006ef57484460dc47d9d483c3"), looks := false }, kinds := [], alts := [], laidByText := true, laidKinds := [.data, .data], laidTests := true, laidLooks := .later }
def EphemMapUptoCardSaid : Prop := Claim7.holds Tryd.pinned (.plain (OpenSpec.upto ephemMapSpec)) ephemMapUptoCard

/-- THE SECOND FORM's CARD OF 'besomlaw10.EphemFull'. -/
def ephemFullUptoCard : Claim7 := { stood := { row := ephemFullUptoRow, standIns := [], harness := (true, "1d43788d25cf0de4e956b315f6c74b8c8ed83d8006ef57484460dc47d9d483c3"), looks := false }, kinds := [], alts := [], laidByText := true, laidKinds := [.data, .data], laidTests := true, laidLooks := .later }
def EphemFullUptoCardSaid : Prop := Claim7.holds Tryd.pinned (.plain (OpenSpec.upto ephemFullSpec)) ephemFullUptoCard

/-- THE SECOND FORM's CARD OF 'besomlaw10.EphemAll'. -/
def ephemAllUptoCard : Claim7 := { stood := { row := ephemAllUptoRow, standIns := [], harness := (true, "1d43788d25cf0de4e956b315f6c74b8c8ed83d8006ef57484460dc47d9d483c3"), looks := false }, kinds := [], alts := [], laidByText := true, laidKinds := [.data, .data], laidTests := true, laidLooks := .later }
def EphemAllUptoCardSaid : Prop := Claim7.holds Tryd.pinned (.plain (OpenSpec.upto ephemAllSpec)) ephemAllUptoCard

/-- THE SECOND FORM's CARD OF 'besomlaw10.EphemOwn'. -/
def ephemOwnUptoCard : Claim7 := { stood := { row := ephemOwnUptoRow, standIns := [], harness := (true, "1d43788d25cf0de4e956b315f6c74b8c8ed83d8006ef57484460dc47d9d483c3"), looks := false }, kinds := [], alts := [], laidByText := true, laidKinds := [.data, .data], laidTests := true, laidLooks := .later }
def EphemOwnUptoCardSaid : Prop := Claim7.holds Tryd.pinned (.plain (OpenSpec.upto ephemOwnSpec)) ephemOwnUptoCard

/-- THE SECOND FORM's CARD OF 'besomlaw10.EphemBack'. -/
def ephemBackUptoCard : Claim7 := { stood := { row := ephemBackUptoRow, standIns := [], harness := (true, "1d43788d25cf0de4e956b315f6c74b8c8ed83d8006ef57484460dc47d9d483c3"), looks := false }, kinds := [], alts := [], laidByText := true, laidKinds := [.data, .data], laidTests := true, laidLooks := .later }
def EphemBackUptoCardSaid : Prop := Claim7.holds Tryd.pinned (.plain (OpenSpec.upto ephemBackSpec)) ephemBackUptoCard
end Rows
end Go.Proofs.YtloemeinpknamaaDoor
