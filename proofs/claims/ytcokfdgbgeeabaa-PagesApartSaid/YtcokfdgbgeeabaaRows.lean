/-
  No cell of these rows narrows 'for every input' (looked for: loops, veiled, ifaces, maps, wideKeys, modest, calm, conditions, laid).
  DERIVED. THE GIVEN ROWS OF THIS SEAT. 7 by the template 'for every input the law returns true; each argument reads behind the call as it read before'; 0 by the template 'total and deterministic' (their statements: YtcokfdgbgeeabaaTotals.lean).
  GIVEN WITH THE SEED: the statements are not yours to turn. If you find one false, say at which input.
  Laid BY PROGRAM, IN A SANDBOX (cutbox-rows.mjs): the forced cells as the released guide's own fill.sh prints them over the translation f9f6891147d17dd0… (all of the seat's roots in one cut). By AI agents, Wed Nov 11 2026. No macro, syntax, notation, axiom, sorry.
-/
import Derived.Test.YtcokfdgbgeeabaaChecked
import GoSem.Claim
import GoSem.ClaimJoined
import GoSem.ClaimMapViews
import Derived.JoinedTies
import Derived.KernelRfl
namespace Go.Proofs.Ytcokfdgbgeeabaa
/- THE CELL 'sum', in the pinned program and in every row, IS THE sha256 OF THE DUMP (.gsa) THAT YtcokfdgbgeeabaaProg.lean LOADS. Nothing in Lean hashes anything: it is a label: what it is worth is what the hold of that sum in a sandbox is worth. -/
noncomputable def Try.pinned : Pinned := { name := "ytcokfdgbgeeabaa", sum := "f9f6891147d17dd056d99fb494bd079f1dac9ffddde0e1d5a60a84d1720e17a4", checked := Try.checked }
namespace Rows
def none {H : Type} : Left H := { results := [], args := [] }

/-- 'besomlaw03.PagesTake': WHATEVER THE INPUT: true; the input reads as it did. -/
def pagesTakeSpec : ChangeSpec := { name := "pagesTake", fn := fun _ => fun
  | [d1, d2, d3] => { results := [.lit (.bool true)], args := [d1, d2, d3] }
  | _ => none }
def pagesTakeRow : OpenClaim := { program := "ytcokfdgbgeeabaa", sum := "f9f6891147d17dd056d99fb494bd079f1dac9ffddde0e1d5a60a84d1720e17a4", func := "besom/besomlaw03.PagesTake", spec := "pagesTake", apart := false }
def PagesTakeSaid : Prop := pagesTakeRow.holds Try.pinned (OpenSpec.ofChange pagesTakeSpec)

/-- ITS FALSE NEIGHBOUR: 'it returns false'. Refute it at one input. -/
def pagesTakeWrong : ChangeSpec := { name := "pagesTake", fn := fun _ => fun
  | [d1, d2, d3] => { results := [.lit (.bool false)], args := [d1, d2, d3] }
  | _ => none }
def PagesTakeWrongFalsely : Prop := pagesTakeRow.holds Try.pinned (OpenSpec.ofChange pagesTakeWrong)

/-- 'besomlaw03.PagesAsk': WHATEVER THE INPUT: true; the input reads as it did. -/
def pagesAskSpec : ChangeSpec := { name := "pagesAsk", fn := fun _ => fun
  | [d1, d2] => { results := [.lit (.bool true)], args := [d1, d2] }
  | _ => none }
def pagesAskRow : OpenClaim := { program := "ytcokfdgbgeeabaa", sum := "f9f6891147d17dd056d99fb494bd079f1dac9ffddde0e1d5a60a84d1720e17a4", func := "besom/besomlaw03.PagesAsk", spec := "pagesAsk", apart := false }
def PagesAskSaid : Prop := pagesAskRow.holds Try.pinned (OpenSpec.ofChange pagesAskSpec)

/-- ITS FALSE NEIGHBOUR: 'it returns false'. Refute it at one input. -/
def pagesAskWrong : ChangeSpec := { name := "pagesAsk", fn := fun _ => fun
  | [d1, d2] => { results := [.lit (.bool false)], args := [d1, d2] }
  | _ => none }
def PagesAskWrongFalsely : Prop := pagesAskRow.holds Try.pinned (OpenSpec.ofChange pagesAskWrong)

/-- 'besomlaw03.PagesBack': WHATEVER THE INPUT: true; the input reads as it did. -/
def pagesBackSpec : ChangeSpec := { name := "pagesBack", fn := fun _ => fun
  | [d1, d2] => { results := [.lit (.bool true)], args := [d1, d2] }
  | _ => none }
def pagesBackRow : OpenClaim := { program := "ytcokfdgbgeeabaa", sum := "f9f6891147d17dd056d99fb494bd079f1dac9ffddde0e1d5a60a84d1720e17a4", func := "besom/besomlaw03.PagesBack", spec := "pagesBack", apart := false }
def PagesBackSaid : Prop := pagesBackRow.holds Try.pinned (OpenSpec.ofChange pagesBackSpec)

/-- ITS FALSE NEIGHBOUR: 'it returns false'. Refute it at one input. -/
def pagesBackWrong : ChangeSpec := { name := "pagesBack", fn := fun _ => fun
  | [d1, d2] => { results := [.lit (.bool false)], args := [d1, d2] }
  | _ => none }
def PagesBackWrongFalsely : Prop := pagesBackRow.holds Try.pinned (OpenSpec.ofChange pagesBackWrong)

/-- 'besomlaw03.PagesApart': WHATEVER THE INPUT: true; the input reads as it did. -/
def pagesApartSpec : ChangeSpec := { name := "pagesApart", fn := fun _ => fun
  | [d1, d2] => { results := [.lit (.bool true)], args := [d1, d2] }
  | _ => none }
def pagesApartRow : OpenClaim := { program := "ytcokfdgbgeeabaa", sum := "f9f6891147d17dd056d99fb494bd079f1dac9ffddde0e1d5a60a84d1720e17a4", func := "besom/besomlaw03.PagesApart", spec := "pagesApart", apart := false }
def PagesApartSaid : Prop := pagesApartRow.holds Try.pinned (OpenSpec.ofChange pagesApartSpec)

/-- ITS FALSE NEIGHBOUR: 'it returns false'. Refute it at one input. -/
def pagesApartWrong : ChangeSpec := { name := "pagesApart", fn := fun _ => fun
  | [d1, d2] => { results := [.lit (.bool false)], args := [d1, d2] }
  | _ => none }
def PagesApartWrongFalsely : Prop := pagesApartRow.holds Try.pinned (OpenSpec.ofChange pagesApartWrong)

/-- 'besomlaw03.PagesFull': WHATEVER THE INPUT: true; the input reads as it did. -/
def pagesFullSpec : ChangeSpec := { name := "pagesFull", fn := fun _ => fun
  | [d1, d2] => { results := [.lit (.bool true)], args := [d1, d2] }
  | _ => none }
def pagesFullRow : OpenClaim := { program := "ytcokfdgbgeeabaa", sum := "f9f6891147d17dd056d99fb494bd079f1dac9ffddde0e1d5a60a84d1720e17a4", func := "besom/besomlaw03.PagesFull", spec := "pagesFull", apart := false }
def PagesFullSaid : Prop := pagesFullRow.holds Try.pinned (OpenSpec.ofChange pagesFullSpec)

/-- ITS FALSE NEIGHBOUR: 'it returns false'. Refute it at one input. -/
def pagesFullWrong : ChangeSpec := { name := "pagesFull", fn := fun _ => fun
  | [d1, d2] => { results := [.lit (.bool false)], args := [d1, d2] }
  | _ => none }
def PagesFullWrongFalsely : Prop := pagesFullRow.holds Try.pinned (OpenSpec.ofChange pagesFullWrong)

/-- 'besomlaw03.PagesFirst': WHATEVER THE INPUT: true; the input reads as it did. -/
def pagesFirstSpec : ChangeSpec := { name := "pagesFirst", fn := fun _ => fun
  | [d1, d2, d3] => { results := [.lit (.bool true)], args := [d1, d2, d3] }
  | _ => none }
def pagesFirstRow : OpenClaim := { program := "ytcokfdgbgeeabaa", sum := "f9f6891147d17dd056d99fb494bd079f1dac9ffddde0e1d5a60a84d1720e17a4", func := "besom/besomlaw03.PagesFirst", spec := "pagesFirst", apart := false }
def PagesFirstSaid : Prop := pagesFirstRow.holds Try.pinned (OpenSpec.ofChange pagesFirstSpec)

/-- ITS FALSE NEIGHBOUR: 'it returns false'. Refute it at one input. -/
def pagesFirstWrong : ChangeSpec := { name := "pagesFirst", fn := fun _ => fun
  | [d1, d2, d3] => { results := [.lit (.bool false)], args := [d1, d2, d3] }
  | _ => none }
def PagesFirstWrongFalsely : Prop := pagesFirstRow.holds Try.pinned (OpenSpec.ofChange pagesFirstWrong)

/-- 'besomlaw03.PagesMore': WHATEVER THE INPUT: true; the input reads as it did. -/
def pagesMoreSpec : ChangeSpec := { name := "pagesMore", fn := fun _ => fun
  | [d1, d2, d3, d4] => { results := [.lit (.bool true)], args := [d1, d2, d3, d4] }
  | _ => none }
def pagesMoreRow : OpenClaim := { program := "ytcokfdgbgeeabaa", sum := "f9f6891147d17dd056d99fb494bd079f1dac9ffddde0e1d5a60a84d1720e17a4", func := "besom/besomlaw03.PagesMore", spec := "pagesMore", apart := false }
def PagesMoreSaid : Prop := pagesMoreRow.holds Try.pinned (OpenSpec.ofChange pagesMoreSpec)

/-- ITS FALSE NEIGHBOUR: 'it returns false'. Refute it at one input. -/
def pagesMoreWrong : ChangeSpec := { name := "pagesMore", fn := fun _ => fun
  | [d1, d2, d3, d4] => { results := [.lit (.bool false)], args := [d1, d2, d3, d4] }
  | _ => none }
def PagesMoreWrongFalsely : Prop := pagesMoreRow.holds Try.pinned (OpenSpec.ofChange pagesMoreWrong)

/- THE SECOND FORM. 'bulk': how many values and letters a reading holds, each counted each time it is reached (what is shared counts as often as it is met; a slice's spare places count too). A statement '..UptoSaid' is the law's where the arguments, and the package variables that the reading takes, are together of bulk at most 1048576: NARROWER than '..Said'. Prove '..Said' where nothing that the law and all that it calls make is longer than what came in: it says more and counts as full. Else prove '..UptoSaid'. A law counts once. -/
mutual
def uptoBulk {H : Type} : DataW H → Nat
  | .lit (.string bytes) => bytes.length + 1
  | .lit _ => 1
  | .nil => 1
  | .ptr d => uptoBulk d + 1
  | .slice elems spare => uptoBulkAll elems + uptoBulkAll spare + 1
  | .agg parts => uptoBulkAll parts + 1
  | .iface _ d => uptoBulk d + 1
  | .map entries => uptoBulkEntries entries + 1
  | .held _ => 1
def uptoBulkAll {H : Type} : List (DataW H) → Nat
  | [] => 0
  | d :: r => uptoBulk d + uptoBulkAll r
def uptoBulkEntries {H : Type} : List (Lit × DataW H) → Nat
  | [] => 0
  | x :: r => uptoBulkEntry x + uptoBulkEntries r
def uptoBulkEntry {H : Type} : Lit × DataW H → Nat
  | (.string bytes, d) => bytes.length + uptoBulk d + 1
  | (_, d) => uptoBulk d + 1
 end
def uptoSmall : (H : Type) → List (DataW H) → Bool := fun _ ds => decide (uptoBulkAll ds ≤ 1048576)
def OpenSpec.upto (s : _root_.Go.ChangeSpec) : _root_.Go.OpenSpec := { _root_.Go.OpenSpec.ofChange s with cond := some uptoSmall }

/-- 'besomlaw03.PagesTake', WHERE WHAT IT READS IS OF BULK AT MOST 1048576: true; the input reads as it did. -/
def pagesTakeUptoRow : OpenClaim := { program := "ytcokfdgbgeeabaa", sum := "f9f6891147d17dd056d99fb494bd079f1dac9ffddde0e1d5a60a84d1720e17a4", func := "besom/besomlaw03.PagesTake", spec := "pagesTake", apart := false, narrowed := true }
def PagesTakeUptoSaid : Prop := pagesTakeUptoRow.holds Try.pinned (OpenSpec.upto pagesTakeSpec)

/-- 'besomlaw03.PagesAsk', WHERE WHAT IT READS IS OF BULK AT MOST 1048576: true; the input reads as it did. -/
def pagesAskUptoRow : OpenClaim := { program := "ytcokfdgbgeeabaa", sum := "f9f6891147d17dd056d99fb494bd079f1dac9ffddde0e1d5a60a84d1720e17a4", func := "besom/besomlaw03.PagesAsk", spec := "pagesAsk", apart := false, narrowed := true }
def PagesAskUptoSaid : Prop := pagesAskUptoRow.holds Try.pinned (OpenSpec.upto pagesAskSpec)

/-- 'besomlaw03.PagesBack', WHERE WHAT IT READS IS OF BULK AT MOST 1048576: true; the input reads as it did. -/
def pagesBackUptoRow : OpenClaim := { program := "ytcokfdgbgeeabaa", sum := "f9f6891147d17dd056d99fb494bd079f1dac9ffddde0e1d5a60a84d1720e17a4", func := "besom/besomlaw03.PagesBack", spec := "pagesBack", apart := false, narrowed := true }
def PagesBackUptoSaid : Prop := pagesBackUptoRow.holds Try.pinned (OpenSpec.upto pagesBackSpec)

/-- 'besomlaw03.PagesApart', WHERE WHAT IT READS IS OF BULK AT MOST 1048576: true; the input reads as it did. -/
def pagesApartUptoRow : OpenClaim := { program := "ytcokfdgbgeeabaa", sum := "f9f6891147d17dd056d99fb494bd079f1dac9ffddde0e1d5a60a84d1720e17a4", func := "besom/besomlaw03.PagesApart", spec := "pagesApart", apart := false, narrowed := true }
def PagesApartUptoSaid : Prop := pagesApartUptoRow.holds Try.pinned (OpenSpec.upto pagesApartSpec)

/-- 'besomlaw03.PagesFull', WHERE WHAT IT READS IS OF BULK AT MOST 1048576: true; the input reads as it did. -/
def pagesFullUptoRow : OpenClaim := { program := "ytcokfdgbgeeabaa", sum := "f9f6891147d17dd056d99fb494bd079f1dac9ffddde0e1d5a60a84d1720e17a4", func := "besom/besomlaw03.PagesFull", spec := "pagesFull", apart := false, narrowed := true }
def PagesFullUptoSaid : Prop := pagesFullUptoRow.holds Try.pinned (OpenSpec.upto pagesFullSpec)

/-- 'besomlaw03.PagesFirst', WHERE WHAT IT READS IS OF BULK AT MOST 1048576: true; the input reads as it did. -/
def pagesFirstUptoRow : OpenClaim := { program := "ytcokfdgbgeeabaa", sum := "f9f6891147d17dd056d99fb494bd079f1dac9ffddde0e1d5a60a84d1720e17a4", func := "besom/besomlaw03.PagesFirst", spec := "pagesFirst", apart := false, narrowed := true }
def PagesFirstUptoSaid : Prop := pagesFirstUptoRow.holds Try.pinned (OpenSpec.upto pagesFirstSpec)

/-- 'besomlaw03.PagesMore', WHERE WHAT IT READS IS OF BULK AT MOST 1048576: true; the input reads as it did. -/
def pagesMoreUptoRow : OpenClaim := { program := "ytcokfdgbgeeabaa", sum := "f9f6891147d17dd056d99fb494bd079f1dac9ffddde0e1d5a60a84d1720e17a4", func := "besom/besomlaw03.PagesMore", spec := "pagesMore", apart := false, narrowed := true }
def PagesMoreUptoSaid : Prop := pagesMoreUptoRow.holds Try.pinned (OpenSpec.upto pagesMoreSpec)

end Rows
end Go.Proofs.Ytcokfdgbgeeabaa
