/-
  NARROWER THAN 'FOR EVERY INPUT', by the rows' own cells (each row's printed sentence says how): ClassDoes: laid · ClassFits: laid · ClassWaste: laid · ClassOrder: laid · TopHeld: laid.
  DERIVED. THE GIVEN ROWS OF THIS SEAT. 5 by the template 'for every input the law returns true; each argument reads behind the call as it read before'; 0 by the template 'total and deterministic' (their statements: YtcokfdgbgeeabaaDoorTotals.lean).
  GIVEN WITH THE SEED: the statements are not yours to turn. If you find one false, say at which input.
  Laid BY PROGRAM, IN A SANDBOX (cutbox-rows.mjs): the forced cells as the released guide's own fill.sh prints them over the translation 8c92eee98646c3cf… (all of the seat's roots in one cut). By AI agents, Wed Nov 11 2026. No macro, syntax, notation, axiom, sorry.
-/
import Derived.Test.YtcokfdgbgeeabaaDoorChecked
import GoSem.Claim
import GoSem.ClaimJoined
import GoSem.ClaimMapViews
import Derived.JoinedTies
import Derived.KernelRfl
namespace Go.Proofs.YtcokfdgbgeeabaaDoor
/- THE CELL 'sum', in the pinned program and in every row, IS THE sha256 OF THE DUMP (.gsa) THAT YtcokfdgbgeeabaaDoorProg.lean LOADS. Nothing in Lean hashes anything: it is a label: what it is worth is what the hold of that sum in a sandbox is worth. -/
noncomputable def Tryd.pinned : Pinned := { name := "ytcokfdgbgeeabaadoor", sum := "8c92eee98646c3cf5e6a8935f5a391106b2aac0f68645de362f3fe0260603d4b", checked := Tryd.checked }
namespace Rows
def none {H : Type} : Left H := { results := [], args := [] }

/- WHAT THE LISTED PACKAGE-LEVEL VARIABLES READ AS WHEN THE CALL BEGINS. Each datum BY PROGRAM (the guide's laid-datum.mjs) off the statement by which the dump's own 'gosem.cut.vars' lays the variable. In a bare row this is a premise. The card (YtcokfdgbgeeabaaDoorCards.lean) ties it to the program's text. -/
def laid_besom_class_sizes {H : Type} : DataW H := .agg [.lit (.int .i64 2), .lit (.int .i64 4), .lit (.int .i64 8), .lit (.int .i64 16)]

/-- 'besomlaw04.ClassDoes': WHATEVER THE INPUT: true; the input reads as it did. -/
def classDoesSpec : ChangeSpec := { name := "classDoes", fn := fun _ => fun
  | [d1, d2, d3] => { results := [.lit (.bool true)], args := [d1, d2, d3] }
  | _ => none }
def classDoesRow : OpenClaim := { program := "ytcokfdgbgeeabaadoor", sum := "8c92eee98646c3cf5e6a8935f5a391106b2aac0f68645de362f3fe0260603d4b", func := "besom/besomlaw04.ClassDoes", spec := "classDoes", named := ["besom/class.sizes"], apart := false, laid := [("besom/class.sizes", laid_besom_class_sizes)] }
def ClassDoesSaid : Prop := classDoesRow.holds Tryd.pinned (OpenSpec.ofChange classDoesSpec)

/-- ITS FALSE NEIGHBOUR: 'it returns false'. Refute it at one input. -/
def classDoesWrong : ChangeSpec := { name := "classDoes", fn := fun _ => fun
  | [d1, d2, d3] => { results := [.lit (.bool false)], args := [d1, d2, d3] }
  | _ => none }
def ClassDoesWrongFalsely : Prop := classDoesRow.holds Tryd.pinned (OpenSpec.ofChange classDoesWrong)

/-- 'besomlaw04.ClassFits': WHATEVER THE INPUT: true; the input reads as it did. -/
def classFitsSpec : ChangeSpec := { name := "classFits", fn := fun _ => fun
  | [d] => { results := [.lit (.bool true)], args := [d] }
  | _ => none }
def classFitsRow : OpenClaim := { program := "ytcokfdgbgeeabaadoor", sum := "8c92eee98646c3cf5e6a8935f5a391106b2aac0f68645de362f3fe0260603d4b", func := "besom/besomlaw04.ClassFits", spec := "classFits", named := ["besom/class.sizes"], apart := false, laid := [("besom/class.sizes", laid_besom_class_sizes)] }
def ClassFitsSaid : Prop := classFitsRow.holds Tryd.pinned (OpenSpec.ofChange classFitsSpec)

/-- ITS FALSE NEIGHBOUR: 'it returns false'. Refute it at one input. -/
def classFitsWrong : ChangeSpec := { name := "classFits", fn := fun _ => fun
  | [d] => { results := [.lit (.bool false)], args := [d] }
  | _ => none }
def ClassFitsWrongFalsely : Prop := classFitsRow.holds Tryd.pinned (OpenSpec.ofChange classFitsWrong)

/-- 'besomlaw04.ClassWaste': WHATEVER THE INPUT: true; the input reads as it did. -/
def classWasteSpec : ChangeSpec := { name := "classWaste", fn := fun _ => fun
  | [d1, d2] => { results := [.lit (.bool true)], args := [d1, d2] }
  | _ => none }
def classWasteRow : OpenClaim := { program := "ytcokfdgbgeeabaadoor", sum := "8c92eee98646c3cf5e6a8935f5a391106b2aac0f68645de362f3fe0260603d4b", func := "besom/besomlaw04.ClassWaste", spec := "classWaste", named := ["besom/class.sizes"], apart := false, laid := [("besom/class.sizes", laid_besom_class_sizes)] }
def ClassWasteSaid : Prop := classWasteRow.holds Tryd.pinned (OpenSpec.ofChange classWasteSpec)

/-- ITS FALSE NEIGHBOUR: 'it returns false'. Refute it at one input. -/
def classWasteWrong : ChangeSpec := { name := "classWaste", fn := fun _ => fun
  | [d1, d2] => { results := [.lit (.bool false)], args := [d1, d2] }
  | _ => none }
def ClassWasteWrongFalsely : Prop := classWasteRow.holds Tryd.pinned (OpenSpec.ofChange classWasteWrong)

/-- 'besomlaw04.ClassOrder': WHATEVER THE INPUT: true; the input reads as it did. -/
def classOrderSpec : ChangeSpec := { name := "classOrder", fn := fun _ => fun
  | [d1, d2] => { results := [.lit (.bool true)], args := [d1, d2] }
  | _ => none }
def classOrderRow : OpenClaim := { program := "ytcokfdgbgeeabaadoor", sum := "8c92eee98646c3cf5e6a8935f5a391106b2aac0f68645de362f3fe0260603d4b", func := "besom/besomlaw04.ClassOrder", spec := "classOrder", named := ["besom/class.sizes"], apart := false, laid := [("besom/class.sizes", laid_besom_class_sizes)] }
def ClassOrderSaid : Prop := classOrderRow.holds Tryd.pinned (OpenSpec.ofChange classOrderSpec)

/-- ITS FALSE NEIGHBOUR: 'it returns false'. Refute it at one input. -/
def classOrderWrong : ChangeSpec := { name := "classOrder", fn := fun _ => fun
  | [d1, d2] => { results := [.lit (.bool false)], args := [d1, d2] }
  | _ => none }
def ClassOrderWrongFalsely : Prop := classOrderRow.holds Tryd.pinned (OpenSpec.ofChange classOrderWrong)

/-- 'besomtop.TopHeld': WHATEVER THE INPUT: true; the input reads as it did. -/
def topHeldSpec : ChangeSpec := { name := "topHeld", fn := fun _ => fun
  | [d1, d2, d3] => { results := [.lit (.bool true)], args := [d1, d2, d3] }
  | _ => none }
def topHeldRow : OpenClaim := { program := "ytcokfdgbgeeabaadoor", sum := "8c92eee98646c3cf5e6a8935f5a391106b2aac0f68645de362f3fe0260603d4b", func := "besom/besomtop.TopHeld", spec := "topHeld", named := ["besom/class.sizes"], apart := false, laid := [("besom/class.sizes", laid_besom_class_sizes)] }
def TopHeldSaid : Prop := topHeldRow.holds Tryd.pinned (OpenSpec.ofChange topHeldSpec)

/-- ITS FALSE NEIGHBOUR: 'it returns false'. Refute it at one input. -/
def topHeldWrong : ChangeSpec := { name := "topHeld", fn := fun _ => fun
  | [d1, d2, d3] => { results := [.lit (.bool false)], args := [d1, d2, d3] }
  | _ => none }
def TopHeldWrongFalsely : Prop := topHeldRow.holds Tryd.pinned (OpenSpec.ofChange topHeldWrong)

/- THE SECOND FORM. 'bulk': how many values and letters a reading holds, each counted each time it is reached (what is shared counts as often as it is met; a slice's spare places count too). A statement '..UptoSaid' is the law's where the arguments, and the package variables that the reading takes, are together of bulk at most 1048576: NARROWER than '..Said'. Prove '..Said' where nothing that the law and all that it calls make is longer than what came in: it says more and counts as full. Else prove '..UptoSaid'. A law counts once. -/
mutual
def uptoBulk {H : Type} : DataW H → Nat
  | .lit (.string bytes) => bytes.length + 1
  | .lit _ => 1
  | .nil => 1
  | .ptr d => uptoBulk d + 1
  | .slice elems spare => uptoBulkAll elems + uptoBulkAll spare + 1
  | .agg parts => uptoBulkAll parts + 1
  | .iface _ d => uptoBulk d + 1
  | .map entries => uptoBulkEntries entries + 1
  | .held _ => 1
def uptoBulkAll {H : Type} : List (DataW H) → Nat
  | [] => 0
  | d :: r => uptoBulk d + uptoBulkAll r
def uptoBulkEntries {H : Type} : List (Lit × DataW H) → Nat
  | [] => 0
  | x :: r => uptoBulkEntry x + uptoBulkEntries r
def uptoBulkEntry {H : Type} : Lit × DataW H → Nat
  | (.string bytes, d) => bytes.length + uptoBulk d + 1
  | (_, d) => uptoBulk d + 1
 end
def uptoSmall : (H : Type) → List (DataW H) → Bool := fun _ ds => decide (uptoBulkAll ds ≤ 1048576)
def OpenSpec.upto (s : _root_.Go.ChangeSpec) : _root_.Go.OpenSpec := { _root_.Go.OpenSpec.ofChange s with cond := some uptoSmall }

/-- 'besomlaw04.ClassDoes', WHERE WHAT IT READS IS OF BULK AT MOST 1048576: true; the input reads as it did. -/
def classDoesUptoRow : OpenClaim := { program := "ytcokfdgbgeeabaadoor", sum := "8c92eee98646c3cf5e6a8935f5a391106b2aac0f68645de362f3fe0260603d4b", func := "besom/besomlaw04.ClassDoes", spec := "classDoes", named := ["besom/class.sizes"], apart := false, laid := [("besom/class.sizes", laid_besom_class_sizes)], narrowed := true }
def ClassDoesUptoSaid : Prop := classDoesUptoRow.holds Tryd.pinned (OpenSpec.upto classDoesSpec)

/-- 'besomlaw04.ClassFits', WHERE WHAT IT READS IS OF BULK AT MOST 1048576: true; the input reads as it did. -/
def classFitsUptoRow : OpenClaim := { program := "ytcokfdgbgeeabaadoor", sum := "8c92eee98646c3cf5e6a8935f5a391106b2aac0f68645de362f3fe0260603d4b", func := "besom/besomlaw04.ClassFits", spec := "classFits", named := ["besom/class.sizes"], apart := false, laid := [("besom/class.sizes", laid_besom_class_sizes)], narrowed := true }
def ClassFitsUptoSaid : Prop := classFitsUptoRow.holds Tryd.pinned (OpenSpec.upto classFitsSpec)

/-- 'besomlaw04.ClassWaste', WHERE WHAT IT READS IS OF BULK AT MOST 1048576: true; the input reads as it did. -/
def classWasteUptoRow : OpenClaim := { program := "ytcokfdgbgeeabaadoor", sum := "8c92eee98646c3cf5e6a8935f5a391106b2aac0f68645de362f3fe0260603d4b", func := "besom/besomlaw04.ClassWaste", spec := "classWaste", named := ["besom/class.sizes"], apart := false, laid := [("besom/class.sizes", laid_besom_class_sizes)], narrowed := true }
def ClassWasteUptoSaid : Prop := classWasteUptoRow.holds Tryd.pinned (OpenSpec.upto classWasteSpec)

/-- 'besomlaw04.ClassOrder', WHERE WHAT IT READS IS OF BULK AT MOST 1048576: true; the input reads as it did. -/
def classOrderUptoRow : OpenClaim := { program := "ytcokfdgbgeeabaadoor", sum := "8c92eee98646c3cf5e6a8935f5a391106b2aac0f68645de362f3fe0260603d4b", func := "besom/besomlaw04.ClassOrder", spec := "classOrder", named := ["besom/class.sizes"], apart := false, laid := [("besom/class.sizes", laid_besom_class_sizes)], narrowed := true }
def ClassOrderUptoSaid : Prop := classOrderUptoRow.holds Tryd.pinned (OpenSpec.upto classOrderSpec)

/-- 'besomtop.TopHeld', WHERE WHAT IT READS IS OF BULK AT MOST 1048576: true; the input reads as it did. -/
def topHeldUptoRow : OpenClaim := { program := "ytcokfdgbgeeabaadoor", sum := "8c92eee98646c3cf5e6a8935f5a391106b2aac0f68645de362f3fe0260603d4b", func := "besom/besomtop.TopHeld", spec := "topHeld", named := ["besom/class.sizes"], apart := false, laid := [("besom/class.sizes", laid_besom_class_sizes)], narrowed := true }
def TopHeldUptoSaid : Prop := topHeldUptoRow.holds Tryd.pinned (OpenSpec.upto topHeldSpec)

end Rows
end Go.Proofs.YtcokfdgbgeeabaaDoor
