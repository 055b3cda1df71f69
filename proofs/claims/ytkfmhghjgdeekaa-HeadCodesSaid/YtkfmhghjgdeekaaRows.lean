/-
  No cell of these rows narrows 'for every input' (looked for: loops, veiled, ifaces, maps, wideKeys, modest, calm, conditions, laid).
  DERIVED. THE GIVEN ROWS OF THIS SEAT. 6 by the template 'for every input the law returns true; each argument reads behind the call as it read before'; 0 by the template 'total and deterministic' (their statements: YtkfmhghjgdeekaaTotals.lean).
  GIVEN WITH THE SEED: the statements are not yours to turn. If you find one false, say at which input.
  Laid BY PROGRAM, IN A SANDBOX (cutbox-rows.mjs): the forced cells as the released guide's own fill.sh prints them over the translation f5a9a0c277a68b78… (all of the seat's roots in one cut). By AI agents, Wed Nov 11 2026. No macro, syntax, notation, axiom, sorry.
-/
import Derived.Test.YtkfmhghjgdeekaaChecked
import GoSem.Claim
import GoSem.ClaimJoined
import GoSem.ClaimMapViews
import Derived.JoinedTies
import Derived.KernelRfl
namespace Go.Proofs.Ytkfmhghjgdeekaa
/- THE CELL 'sum', in the pinned program and in every row, IS THE sha256 OF THE DUMP (.gsa) THAT YtkfmhghjgdeekaaProg.lean LOADS. Nothing in Lean hashes anything: it is a label: what it is worth is what the hold of that sum in a sandbox is worth. -/
noncomputable def Try.pinned : Pinned := { name := "ytkfmhghjgdeekaa", sum := "f5a9a0c277a68b78b25856dcf06388e067c44a4d3c5de71c87ffa573925a33c0", checked := Try.checked }
namespace Rows
def none {H : Type} : Left H := { results := [], args := [] }

/-- 'besomlaw06.HeadCodes': WHATEVER THE INPUT: true; the input reads as it did. -/
def headCodesSpec : ChangeSpec := { name := "headCodes", fn := fun _ => fun
  | [d1, d2] => { results := [.lit (.bool true)], args := [d1, d2] }
  | _ => none }
def headCodesRow : OpenClaim := { program := "ytkfmhghjgdeekaa", sum := "f5a9a0c277a68b78b25856dcf06388e067c44a4d3c5de71c87ffa573925a33c0", func := "besom/besomlaw06.HeadCodes", spec := "headCodes", apart := false }
def HeadCodesSaid : Prop := headCodesRow.holds Try.pinned (OpenSpec.ofChange headCodesSpec)

/-- ITS FALSE NEIGHBOUR: 'it returns false'. Refute it at one input. -/
def headCodesWrong : ChangeSpec := { name := "headCodes", fn := fun _ => fun
  | [d1, d2] => { results := [.lit (.bool false)], args := [d1, d2] }
  | _ => none }
def HeadCodesWrongFalsely : Prop := headCodesRow.holds Try.pinned (OpenSpec.ofChange headCodesWrong)

/-- 'besomlaw06.HeadFields': WHATEVER THE INPUT: true; the input reads as it did. -/
def headFieldsSpec : ChangeSpec := { name := "headFields", fn := fun _ => fun
  | [d1, d2, d3] => { results := [.lit (.bool true)], args := [d1, d2, d3] }
  | _ => none }
def headFieldsRow : OpenClaim := { program := "ytkfmhghjgdeekaa", sum := "f5a9a0c277a68b78b25856dcf06388e067c44a4d3c5de71c87ffa573925a33c0", func := "besom/besomlaw06.HeadFields", spec := "headFields", apart := false }
def HeadFieldsSaid : Prop := headFieldsRow.holds Try.pinned (OpenSpec.ofChange headFieldsSpec)

/-- ITS FALSE NEIGHBOUR: 'it returns false'. Refute it at one input. -/
def headFieldsWrong : ChangeSpec := { name := "headFields", fn := fun _ => fun
  | [d1, d2, d3] => { results := [.lit (.bool false)], args := [d1, d2, d3] }
  | _ => none }
def HeadFieldsWrongFalsely : Prop := headFieldsRow.holds Try.pinned (OpenSpec.ofChange headFieldsWrong)

/-- 'besomlaw06.HeadBack': WHATEVER THE INPUT: true; the input reads as it did. -/
def headBackSpec : ChangeSpec := { name := "headBack", fn := fun _ => fun
  | [d1, d2, d3] => { results := [.lit (.bool true)], args := [d1, d2, d3] }
  | _ => none }
def headBackRow : OpenClaim := { program := "ytkfmhghjgdeekaa", sum := "f5a9a0c277a68b78b25856dcf06388e067c44a4d3c5de71c87ffa573925a33c0", func := "besom/besomlaw06.HeadBack", spec := "headBack", apart := false }
def HeadBackSaid : Prop := headBackRow.holds Try.pinned (OpenSpec.ofChange headBackSpec)

/-- ITS FALSE NEIGHBOUR: 'it returns false'. Refute it at one input. -/
def headBackWrong : ChangeSpec := { name := "headBack", fn := fun _ => fun
  | [d1, d2, d3] => { results := [.lit (.bool false)], args := [d1, d2, d3] }
  | _ => none }
def HeadBackWrongFalsely : Prop := headBackRow.holds Try.pinned (OpenSpec.ofChange headBackWrong)

/-- 'besomlaw06.HeadNexts': WHATEVER THE INPUT: true; the input reads as it did. -/
def headNextsSpec : ChangeSpec := { name := "headNexts", fn := fun _ => fun
  | [d] => { results := [.lit (.bool true)], args := [d] }
  | _ => none }
def headNextsRow : OpenClaim := { program := "ytkfmhghjgdeekaa", sum := "f5a9a0c277a68b78b25856dcf06388e067c44a4d3c5de71c87ffa573925a33c0", func := "besom/besomlaw06.HeadNexts", spec := "headNexts", apart := false }
def HeadNextsSaid : Prop := headNextsRow.holds Try.pinned (OpenSpec.ofChange headNextsSpec)

/-- ITS FALSE NEIGHBOUR: 'it returns false'. Refute it at one input. -/
def headNextsWrong : ChangeSpec := { name := "headNexts", fn := fun _ => fun
  | [d] => { results := [.lit (.bool false)], args := [d] }
  | _ => none }
def HeadNextsWrongFalsely : Prop := headNextsRow.holds Try.pinned (OpenSpec.ofChange headNextsWrong)

/-- 'besomlaw06.HeadEach': WHATEVER THE INPUT: true; the input reads as it did. -/
def headEachSpec : ChangeSpec := { name := "headEach", fn := fun _ => fun
  | [d1, d2] => { results := [.lit (.bool true)], args := [d1, d2] }
  | _ => none }
def headEachRow : OpenClaim := { program := "ytkfmhghjgdeekaa", sum := "f5a9a0c277a68b78b25856dcf06388e067c44a4d3c5de71c87ffa573925a33c0", func := "besom/besomlaw06.HeadEach", spec := "headEach", apart := false }
def HeadEachSaid : Prop := headEachRow.holds Try.pinned (OpenSpec.ofChange headEachSpec)

/-- ITS FALSE NEIGHBOUR: 'it returns false'. Refute it at one input. -/
def headEachWrong : ChangeSpec := { name := "headEach", fn := fun _ => fun
  | [d1, d2] => { results := [.lit (.bool false)], args := [d1, d2] }
  | _ => none }
def HeadEachWrongFalsely : Prop := headEachRow.holds Try.pinned (OpenSpec.ofChange headEachWrong)

/-- 'besomlaw06.HeadPlain': WHATEVER THE INPUT: true; the input reads as it did. -/
def headPlainSpec : ChangeSpec := { name := "headPlain", fn := fun _ => fun
  | [d1, d2] => { results := [.lit (.bool true)], args := [d1, d2] }
  | _ => none }
def headPlainRow : OpenClaim := { program := "ytkfmhghjgdeekaa", sum := "f5a9a0c277a68b78b25856dcf06388e067c44a4d3c5de71c87ffa573925a33c0", func := "besom/besomlaw06.HeadPlain", spec := "headPlain", apart := false }
def HeadPlainSaid : Prop := headPlainRow.holds Try.pinned (OpenSpec.ofChange headPlainSpec)

/-- ITS FALSE NEIGHBOUR: 'it returns false'. Refute it at one input. -/
def headPlainWrong : ChangeSpec := { name := "headPlain", fn := fun _ => fun
  | [d1, d2] => { results := [.lit (.bool false)], args := [d1, d2] }
  | _ => none }
def HeadPlainWrongFalsely : Prop := headPlainRow.holds Try.pinned (OpenSpec.ofChange headPlainWrong)

/- THE SECOND FORM. 'bulk': how many values and letters a reading holds, each counted each time it is reached (what is shared counts as often as it is met; a slice's spare places count too). A statement '..UptoSaid' is the law's where the arguments, and the package variables that the reading takes, are together of bulk at most 1048576: NARROWER than '..Said'. Prove '..Said' where nothing that the law and all that it calls make is longer than what came in: it says more and counts as full. Else prove '..UptoSaid'. A law counts once. -/
mutual
def uptoBulk {H : Type} : DataW H → Nat
  | .lit (.string bytes) => bytes.length + 1
  | .lit _ => 1
  | .nil => 1
  | .ptr d => uptoBulk d + 1
  | .slice elems spare => uptoBulkAll elems + uptoBulkAll spare + 1
  | .agg parts => uptoBulkAll parts + 1
  | .iface _ d => uptoBulk d + 1
  | .map entries => uptoBulkEntries entries + 1
  | .held _ => 1
def uptoBulkAll {H : Type} : List (DataW H) → Nat
  | [] => 0
  | d :: r => uptoBulk d + uptoBulkAll r
def uptoBulkEntries {H : Type} : List (Lit × DataW H) → Nat
  | [] => 0
  | x :: r => uptoBulkEntry x + uptoBulkEntries r
def uptoBulkEntry {H : Type} : Lit × DataW H → Nat
  | (.string bytes, d) => bytes.length + uptoBulk d + 1
  | (_, d) => uptoBulk d + 1
 end
def uptoSmall : (H : Type) → List (DataW H) → Bool := fun _ ds => decide (uptoBulkAll ds ≤ 1048576)
def OpenSpec.upto (s : _root_.Go.ChangeSpec) : _root_.Go.OpenSpec := { _root_.Go.OpenSpec.ofChange s with cond := some uptoSmall }

/-- 'besomlaw06.HeadCodes', WHERE WHAT IT READS IS OF BULK AT MOST 1048576: true; the input reads as it did. -/
def headCodesUptoRow : OpenClaim := { program := "ytkfmhghjgdeekaa", sum := "f5a9a0c277a68b78b25856dcf06388e067c44a4d3c5de71c87ffa573925a33c0", func := "besom/besomlaw06.HeadCodes", spec := "headCodes", apart := false, narrowed := true }
def HeadCodesUptoSaid : Prop := headCodesUptoRow.holds Try.pinned (OpenSpec.upto headCodesSpec)

/-- 'besomlaw06.HeadFields', WHERE WHAT IT READS IS OF BULK AT MOST 1048576: true; the input reads as it did. -/
def headFieldsUptoRow : OpenClaim := { program := "ytkfmhghjgdeekaa", sum := "f5a9a0c277a68b78b25856dcf06388e067c44a4d3c5de71c87ffa573925a33c0", func := "besom/besomlaw06.HeadFields", spec := "headFields", apart := false, narrowed := true }
def HeadFieldsUptoSaid : Prop := headFieldsUptoRow.holds Try.pinned (OpenSpec.upto headFieldsSpec)

/-- 'besomlaw06.HeadBack', WHERE WHAT IT READS IS OF BULK AT MOST 1048576: true; the input reads as it did. -/
def headBackUptoRow : OpenClaim := { program := "ytkfmhghjgdeekaa", sum := "f5a9a0c277a68b78b25856dcf06388e067c44a4d3c5de71c87ffa573925a33c0", func := "besom/besomlaw06.HeadBack", spec := "headBack", apart := false, narrowed := true }
def HeadBackUptoSaid : Prop := headBackUptoRow.holds Try.pinned (OpenSpec.upto headBackSpec)

/-- 'besomlaw06.HeadNexts', WHERE WHAT IT READS IS OF BULK AT MOST 1048576: true; the input reads as it did. -/
def headNextsUptoRow : OpenClaim := { program := "ytkfmhghjgdeekaa", sum := "f5a9a0c277a68b78b25856dcf06388e067c44a4d3c5de71c87ffa573925a33c0", func := "besom/besomlaw06.HeadNexts", spec := "headNexts", apart := false, narrowed := true }
def HeadNextsUptoSaid : Prop := headNextsUptoRow.holds Try.pinned (OpenSpec.upto headNextsSpec)

/-- 'besomlaw06.HeadEach', WHERE WHAT IT READS IS OF BULK AT MOST 1048576: true; the input reads as it did. -/
def headEachUptoRow : OpenClaim := { program := "ytkfmhghjgdeekaa", sum := "f5a9a0c277a68b78b25856dcf06388e067c44a4d3c5de71c87ffa573925a33c0", func := "besom/besomlaw06.HeadEach", spec := "headEach", apart := false, narrowed := true }
def HeadEachUptoSaid : Prop := headEachUptoRow.holds Try.pinned (OpenSpec.upto headEachSpec)

/-- 'besomlaw06.HeadPlain', WHERE WHAT IT READS IS OF BULK AT MOST 1048576: true; the input reads as it did. -/
def headPlainUptoRow : OpenClaim := { program := "ytkfmhghjgdeekaa", sum := "f5a9a0c277a68b78b25856dcf06388e067c44a4d3c5de71c87ffa573925a33c0", func := "besom/besomlaw06.HeadPlain", spec := "headPlain", apart := false, narrowed := true }
def HeadPlainUptoSaid : Prop := headPlainUptoRow.holds Try.pinned (OpenSpec.upto headPlainSpec)

end Rows
end Go.Proofs.Ytkfmhghjgdeekaa
