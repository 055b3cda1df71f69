/-
  No cell of these rows narrows 'for every input' (looked for: loops, veiled, ifaces, maps, wideKeys, modest, calm, conditions, laid).
  DERIVED. THE GIVEN ROWS OF THIS SEAT. 5 by the template 'for every input the law returns true; each argument reads behind the call as it read before'; 0 by the template 'total and deterministic' (their statements: YtkfcnjdjcnfmfaaTotals.lean).
  GIVEN WITH THE SEED: the statements are not yours to turn. If you find one false, say at which input.
  Laid BY PROGRAM, IN A SANDBOX (cutbox-rows.mjs): the forced cells as the released guide's own fill.sh prints them over the translation 1271137454c7a7d1… (all of the seat's roots in one cut). By AI agents, Wed Nov 11 2026. No macro, syntax, notation, axiom, sorry.
-/
import Derived.Test.YtkfcnjdjcnfmfaaChecked
import GoSem.Claim
import GoSem.ClaimJoined
import GoSem.ClaimMapViews
import Derived.JoinedTies
import Derived.KernelRfl
namespace Go.Proofs.Ytkfcnjdjcnfmfaa
/- THE CELL 'sum', in the pinned program and in every row, IS THE sha256 OF THE DUMP (.gsa) THAT YtkfcnjdjcnfmfaaProg.lean LOADS. Nothing in Lean hashes anything: it is a label: what it is worth is what the hold of that sum in a sandbox is worth. -/
noncomputable def Try.pinned : Pinned := { name := "ytkfcnjdjcnfmfaa", sum := "1271137454c7a7d1254e91c9ea58515c2706110f630811000270de3164b98abb", checked := Try.checked }
namespace Rows
def none {H : Type} : Left H := { results := [], args := [] }

/-- 'besomlaw09.WeakDoes': WHATEVER THE INPUT: true; the input reads as it did. -/
def weakDoesSpec : ChangeSpec := { name := "weakDoes", fn := fun _ => fun
  | [d1, d2, d3, d4] => { results := [.lit (.bool true)], args := [d1, d2, d3, d4] }
  | _ => none }
def weakDoesRow : OpenClaim := { program := "ytkfcnjdjcnfmfaa", sum := "1271137454c7a7d1254e91c9ea58515c2706110f630811000270de3164b98abb", func := "besom/besomlaw09.WeakDoes", spec := "weakDoes", apart := false }
def WeakDoesSaid : Prop := weakDoesRow.holds Try.pinned (OpenSpec.ofChange weakDoesSpec)

/-- ITS FALSE NEIGHBOUR: 'it returns false'. Refute it at one input. -/
def weakDoesWrong : ChangeSpec := { name := "weakDoes", fn := fun _ => fun
  | [d1, d2, d3, d4] => { results := [.lit (.bool false)], args := [d1, d2, d3, d4] }
  | _ => none }
def WeakDoesWrongFalsely : Prop := weakDoesRow.holds Try.pinned (OpenSpec.ofChange weakDoesWrong)

/-- 'besomlaw09.WeakForever': WHATEVER THE INPUT: true; the input reads as it did. -/
def weakForeverSpec : ChangeSpec := { name := "weakForever", fn := fun _ => fun
  | [d1, d2, d3] => { results := [.lit (.bool true)], args := [d1, d2, d3] }
  | _ => none }
def weakForeverRow : OpenClaim := { program := "ytkfcnjdjcnfmfaa", sum := "1271137454c7a7d1254e91c9ea58515c2706110f630811000270de3164b98abb", func := "besom/besomlaw09.WeakForever", spec := "weakForever", apart := false }
def WeakForeverSaid : Prop := weakForeverRow.holds Try.pinned (OpenSpec.ofChange weakForeverSpec)

/-- ITS FALSE NEIGHBOUR: 'it returns false'. Refute it at one input. -/
def weakForeverWrong : ChangeSpec := { name := "weakForever", fn := fun _ => fun
  | [d1, d2, d3] => { results := [.lit (.bool false)], args := [d1, d2, d3] }
  | _ => none }
def WeakForeverWrongFalsely : Prop := weakForeverRow.holds Try.pinned (OpenSpec.ofChange weakForeverWrong)

/-- 'besomlaw09.WeakOne': WHATEVER THE INPUT: true; the input reads as it did. -/
def weakOneSpec : ChangeSpec := { name := "weakOne", fn := fun _ => fun
  | [d1, d2] => { results := [.lit (.bool true)], args := [d1, d2] }
  | _ => none }
def weakOneRow : OpenClaim := { program := "ytkfcnjdjcnfmfaa", sum := "1271137454c7a7d1254e91c9ea58515c2706110f630811000270de3164b98abb", func := "besom/besomlaw09.WeakOne", spec := "weakOne", apart := false }
def WeakOneSaid : Prop := weakOneRow.holds Try.pinned (OpenSpec.ofChange weakOneSpec)

/-- ITS FALSE NEIGHBOUR: 'it returns false'. Refute it at one input. -/
def weakOneWrong : ChangeSpec := { name := "weakOne", fn := fun _ => fun
  | [d1, d2] => { results := [.lit (.bool false)], args := [d1, d2] }
  | _ => none }
def WeakOneWrongFalsely : Prop := weakOneRow.holds Try.pinned (OpenSpec.ofChange weakOneWrong)

/-- 'besomlaw09.WeakClears': WHATEVER THE INPUT: true; the input reads as it did. -/
def weakClearsSpec : ChangeSpec := { name := "weakClears", fn := fun _ => fun
  | [d1, d2, d3] => { results := [.lit (.bool true)], args := [d1, d2, d3] }
  | _ => none }
def weakClearsRow : OpenClaim := { program := "ytkfcnjdjcnfmfaa", sum := "1271137454c7a7d1254e91c9ea58515c2706110f630811000270de3164b98abb", func := "besom/besomlaw09.WeakClears", spec := "weakClears", apart := false }
def WeakClearsSaid : Prop := weakClearsRow.holds Try.pinned (OpenSpec.ofChange weakClearsSpec)

/-- ITS FALSE NEIGHBOUR: 'it returns false'. Refute it at one input. -/
def weakClearsWrong : ChangeSpec := { name := "weakClears", fn := fun _ => fun
  | [d1, d2, d3] => { results := [.lit (.bool false)], args := [d1, d2, d3] }
  | _ => none }
def WeakClearsWrongFalsely : Prop := weakClearsRow.holds Try.pinned (OpenSpec.ofChange weakClearsWrong)

/-- 'besomlaw09.WeakOwn': WHATEVER THE INPUT: true; the input reads as it did. -/
def weakOwnSpec : ChangeSpec := { name := "weakOwn", fn := fun _ => fun
  | [d1, d2] => { results := [.lit (.bool true)], args := [d1, d2] }
  | _ => none }
def weakOwnRow : OpenClaim := { program := "ytkfcnjdjcnfmfaa", sum := "1271137454c7a7d1254e91c9ea58515c2706110f630811000270de3164b98abb", func := "besom/besomlaw09.WeakOwn", spec := "weakOwn", apart := false }
def WeakOwnSaid : Prop := weakOwnRow.holds Try.pinned (OpenSpec.ofChange weakOwnSpec)

/-- ITS FALSE NEIGHBOUR: 'it returns false'. Refute it at one input. -/
def weakOwnWrong : ChangeSpec := { name := "weakOwn", fn := fun _ => fun
  | [d1, d2] => { results := [.lit (.bool false)], args := [d1, d2] }
  | _ => none }
def WeakOwnWrongFalsely : Prop := weakOwnRow.holds Try.pinned (OpenSpec.ofChange weakOwnWrong)

/- THE SECOND FORM. 'bulk': how many values and letters a reading holds, each counted each time it is reached (what is shared counts as often as it is met; a slice's spare places count too). A statement '..UptoSaid' is the law's where the arguments, and the package variables that the reading takes, are together of bulk at most 1048576: NARROWER than '..Said'. Prove '..Said' where nothing that the law and all that it calls make is longer than what came in: it says more and counts as full. Else prove '..UptoSaid'. A law counts once. -/
mutual
def uptoBulk {H : Type} : DataW H → Nat
  | .lit (.string bytes) => bytes.length + 1
  | .lit _ => 1
  | .nil => 1
  | .ptr d => uptoBulk d + 1
  | .slice elems spare => uptoBulkAll elems + uptoBulkAll spare + 1
  | .agg parts => uptoBulkAll parts + 1
  | .iface _ d => uptoBulk d + 1
  | .map entries => uptoBulkEntries entries + 1
  | .held _ => 1
def uptoBulkAll {H : Type} : List (DataW H) → Nat
  | [] => 0
  | d :: r => uptoBulk d + uptoBulkAll r
def uptoBulkEntries {H : Type} : List (Lit × DataW H) → Nat
  | [] => 0
  | x :: r => uptoBulkEntry x + uptoBulkEntries r
def uptoBulkEntry {H : Type} : Lit × DataW H → Nat
  | (.string bytes, d) => bytes.length + uptoBulk d + 1
  | (_, d) => uptoBulk d + 1
 end
def uptoSmall : (H : Type) → List (DataW H) → Bool := fun _ ds => decide (uptoBulkAll ds ≤ 1048576)
def OpenSpec.upto (s : _root_.Go.ChangeSpec) : _root_.Go.OpenSpec := { _root_.Go.OpenSpec.ofChange s with cond := some uptoSmall }

/-- 'besomlaw09.WeakDoes', WHERE WHAT IT READS IS OF BULK AT MOST 1048576: true; the input reads as it did. -/
def weakDoesUptoRow : OpenClaim := { program := "ytkfcnjdjcnfmfaa", sum := "1271137454c7a7d1254e91c9ea58515c2706110f630811000270de3164b98abb", func := "besom/besomlaw09.WeakDoes", spec := "weakDoes", apart := false, narrowed := true }
def WeakDoesUptoSaid : Prop := weakDoesUptoRow.holds Try.pinned (OpenSpec.upto weakDoesSpec)

/-- 'besomlaw09.WeakForever', WHERE WHAT IT READS IS OF BULK AT MOST 1048576: true; the input reads as it did. -/
def weakForeverUptoRow : OpenClaim := { program := "ytkfcnjdjcnfmfaa", sum := "1271137454c7a7d1254e91c9ea58515c2706110f630811000270de3164b98abb", func := "besom/besomlaw09.WeakForever", spec := "weakForever", apart := false, narrowed := true }
def WeakForeverUptoSaid : Prop := weakForeverUptoRow.holds Try.pinned (OpenSpec.upto weakForeverSpec)

/-- 'besomlaw09.WeakOne', WHERE WHAT IT READS IS OF BULK AT MOST 1048576: true; the input reads as it did. -/
def weakOneUptoRow : OpenClaim := { program := "ytkfcnjdjcnfmfaa", sum := "1271137454c7a7d1254e91c9ea58515c2706110f630811000270de3164b98abb", func := "besom/besomlaw09.WeakOne", spec := "weakOne", apart := false, narrowed := true }
def WeakOneUptoSaid : Prop := weakOneUptoRow.holds Try.pinned (OpenSpec.upto weakOneSpec)

/-- 'besomlaw09.WeakClears', WHERE WHAT IT READS IS OF BULK AT MOST 1048576: true; the input reads as it did. -/
def weakClearsUptoRow : OpenClaim := { program := "ytkfcnjdjcnfmfaa", sum := "1271137454c7a7d1254e91c9ea58515c2706110f630811000270de3164b98abb", func := "besom/besomlaw09.WeakClears", spec := "weakClears", apart := false, narrowed := true }
def WeakClearsUptoSaid : Prop := weakClearsUptoRow.holds Try.pinned (OpenSpec.upto weakClearsSpec)

/-- 'besomlaw09.WeakOwn', WHERE WHAT IT READS IS OF BULK AT MOST 1048576: true; the input reads as it did. -/
def weakOwnUptoRow : OpenClaim := { program := "ytkfcnjdjcnfmfaa", sum := "1271137454c7a7d1254e91c9ea58515c2706110f630811000270de3164b98abb", func := "besom/besomlaw09.WeakOwn", spec := "weakOwn", apart := false, narrowed := true }
def WeakOwnUptoSaid : Prop := weakOwnUptoRow.holds Try.pinned (OpenSpec.upto weakOwnSpec)

end Rows
end Go.Proofs.Ytkfcnjdjcnfmfaa
