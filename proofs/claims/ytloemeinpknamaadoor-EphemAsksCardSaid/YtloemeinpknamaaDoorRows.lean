/-
  NARROWER THAN 'FOR EVERY INPUT', by the rows' own cells (each row's printed sentence says how): EphemPuts: laid · EphemAsks: laid · EphemMap: laid · EphemFull: laid · EphemAll: laid · EphemOwn: laid · EphemBack: laid.
  DERIVED. THE GIVEN ROWS OF THIS SEAT. 7 by the template 'for every input the law returns true; each argument reads behind the call as it read before'; 0 by the template 'total and deterministic' (their statements: YtloemeinpknamaaDoorTotals.lean).
  GIVEN WITH THE SEED: the statements are not yours to turn. If you find one false, say at which input.
  Laid BY PROGRAM, IN A SANDBOX (cutbox-rows.mjs): the forced cells as the released guide's own fill.sh prints them over the translation f92bcef925f689a6… (all of the seat's roots in one cut). By AI agents, Wed Nov 11 2026. No macro, syntax, notation, axiom, sorry.
-/
import Derived.Test.YtloemeinpknamaaDoorChecked
import GoSem.Claim
import GoSem.ClaimJoined
import GoSem.ClaimMapViews
import Derived.JoinedTies
import Derived.KernelRfl
namespace Go.Proofs.YtloemeinpknamaaDoor
/- THE CELL 'sum', in the pinned program and in every row, IS THE sha256 OF THE DUMP (.gsa) THAT YtloemeinpknamaaDoorProg.lean LOADS. Nothing in Lean hashes anything: it is a label: what it is worth is what the hold of that sum in a sandbox is worth. -/
noncomputable def Tryd.pinned : Pinned := { name := "ytloemeinpknamaadoor", sum := "f92bcef925f689a66a598d8d1f0bcc5e19fc928e5d83c2795cf9c783b8dcbca2", checked := Tryd.checked }
namespace Rows
def none {H : Type} : Left H := { results := [], args := [] }

/- WHAT THE LISTED PACKAGE-LEVEL VARIABLES READ AS WHEN THE CALL BEGINS. Each datum BY PROGRAM (the guide's laid-datum.mjs) off the statement by which the dump's own 'gosem.cut.vars' lays the variable. In a bare row this is a premise. The card (YtloemeinpknamaaDoorCards.lean) ties it to the program's text. -/
def laid_math_bits_deBruijn32tab {H : Type} : DataW H := .agg [.lit (.int .u8 0), .lit (.int .u8 1), .lit (.int .u8 28), .lit (.int .u8 2), .lit (.int .u8 29), .lit (.int .u8 14), .lit (.int .u8 24), .lit (.int .u8 3), .lit (.int .u8 30), .lit (.int .u8 22), .lit (.int .u8 20), .lit (.int .u8 15), .lit (.int .u8 25), .lit (.int .u8 17), .lit (.int .u8 4), .lit (.int .u8 8), .lit (.int .u8 31), .lit (.int .u8 27), .lit (.int .u8 13), .lit (.int .u8 23), .lit (.int .u8 21), .lit (.int .u8 19), .lit (.int .u8 16), .lit (.int .u8 7), .lit (.int .u8 26), .lit (.int .u8 12), .lit (.int .u8 18), .lit (.int .u8 6), .lit (.int .u8 11), .lit (.int .u8 5), .lit (.int .u8 10), .lit (.int .u8 9)]
def laid_math_bits_deBruijn64tab {H : Type} : DataW H := .agg [.lit (.int .u8 0), .lit (.int .u8 1), .lit (.int .u8 56), .lit (.int .u8 2), .lit (.int .u8 57), .lit (.int .u8 49), .lit (.int .u8 28), .lit (.int .u8 3), .lit (.int .u8 61), .lit (.int .u8 58), .lit (.int .u8 42), .lit (.int .u8 50), .lit (.int .u8 38), .lit (.int .u8 29), .lit (.int .u8 17), .lit (.int .u8 4), .lit (.int .u8 62), .lit (.int .u8 47), .lit (.int .u8 59), .lit (.int .u8 36), .lit (.int .u8 45), .lit (.int .u8 43), .lit (.int .u8 51), .lit (.int .u8 22), .lit (.int .u8 53), .lit (.int .u8 39), .lit (.int .u8 33), .lit (.int .u8 30), .lit (.int .u8 24), .lit (.int .u8 18), .lit (.int .u8 12), .lit (.int .u8 5), .lit (.int .u8 63), .lit (.int .u8 55), .lit (.int .u8 48), .lit (.int .u8 27), .lit (.int .u8 60), .lit (.int .u8 41), .lit (.int .u8 37), .lit (.int .u8 16), .lit (.int .u8 46), .lit (.int .u8 35), .lit (.int .u8 44), .lit (.int .u8 21), .lit (.int .u8 52), .lit (.int .u8 32), .lit (.int .u8 23), .lit (.int .u8 11), .lit (.int .u8 54), .lit (.int .u8 26), .lit (.int .u8 40), .lit (.int .u8 15), .lit (.int .u8 34), .lit (.int .u8 20), .lit (.int .u8 31), .lit (.int .u8 10), .lit (.int .u8 25), .lit (.int .u8 14), .lit (.int .u8 19), .lit (.int .u8 9), .lit (.int .u8 13), .lit (.int .u8 8), .lit (.int .u8 7), .lit (.int .u8 6)]

/-- 'besomlaw10.EphemPuts': WHATEVER THE INPUT: true; the input reads as it did. -/
def ephemPutsSpec : ChangeSpec := { name := "ephemPuts", fn := fun _ => fun
  | [d1, d2, d3, d4] => { results := [.lit (.bool true)], args := [d1, d2, d3, d4] }
  | _ => none }
def ephemPutsRow : OpenClaim := { program := "ytloemeinpknamaadoor", sum := "f92bcef925f689a66a598d8d1f0bcc5e19fc928e5d83c2795cf9c783b8dcbca2", func := "besom/besomlaw10.EphemPuts", spec := "ephemPuts", unfollowed := true, recurses := true, named := ["math/bits.deBruijn32tab", "math/bits.deBruijn64tab"], apart := false, laid := [("math/bits.deBruijn32tab", laid_math_bits_deBruijn32tab), ("math/bits.deBruijn64tab", laid_math_bits_deBruijn64tab)] }
def EphemPutsSaid : Prop := ephemPutsRow.holds Tryd.pinned (OpenSpec.ofChange ephemPutsSpec)

/-- ITS FALSE NEIGHBOUR: 'it returns false'. Refute it at one input. -/
def ephemPutsWrong : ChangeSpec := { name := "ephemPuts", fn := fun _ => fun
  | [d1, d2, d3, d4] => { results := [.lit (.bool false)], args := [d1, d2, d3, d4] }
  | _ => none }
def EphemPutsWrongFalsely : Prop := ephemPutsRow.holds Tryd.pinned (OpenSpec.ofChange ephemPutsWrong)

/-- 'besomlaw10.EphemAsks': WHATEVER THE INPUT: true; the input reads as it did. -/
def ephemAsksSpec : ChangeSpec := { name := "ephemAsks", fn := fun _ => fun
  | [d1, d2, d3] => { results := [.lit (.bool true)], args := [d1, d2, d3] }
  | _ => none }
def ephemAsksRow : OpenClaim := { program := "ytloemeinpknamaadoor", sum := "f92bcef925f689a66a598d8d1f0bcc5e19fc928e5d83c2795cf9c783b8dcbca2", func := "besom/besomlaw10.EphemAsks", spec := "ephemAsks", unfollowed := true, recurses := true, named := ["math/bits.deBruijn32tab", "math/bits.deBruijn64tab"], apart := false, laid := [("math/bits.deBruijn32tab", laid_math_bits_deBruijn32tab), ("math/bits.deBruijn64tab", laid_math_bits_deBruijn64tab)] }
def EphemAsksSaid : Prop := ephemAsksRow.holds Tryd.pinned (OpenSpec.ofChange ephemAsksSpec)

/-- ITS FALSE NEIGHBOUR: 'it returns false'. Refute it at one input. -/
def ephemAsksWrong : ChangeSpec := { name := "ephemAsks", fn := fun _ => fun
  | [d1, d2, d3] => { results := [.lit (.bool false)], args := [d1, d2, d3] }
  | _ => none }
def EphemAsksWrongFalsely : Prop := ephemAsksRow.holds Tryd.pinned (OpenSpec.ofChange ephemAsksWrong)

/-- 'besomlaw10.EphemMap': WHATEVER THE INPUT: true; the input reads as it did. -/
def ephemMapSpec : ChangeSpec := { name := "ephemMap", fn := fun _ => fun
  | [d1, d2] => { results := [.lit (.bool true)], args := [d1, d2] }
  | _ => none }
def ephemMapRow : OpenClaim := { program := "ytloemeinpknamaadoor", sum := "f92bcef925f689a66a598d8d1f0bcc5e19fc928e5d83c2795cf9c783b8dcbca2", func := "besom/besomlaw10.EphemMap", spec := "ephemMap", unfollowed := true, recurses := true, named := ["math/bits.deBruijn32tab", "math/bits.deBruijn64tab"], apart := false, laid := [("math/bits.deBruijn32tab", laid_math_bits_deBruijn32tab), ("math/bits.deBruijn64tab", laid_math_bits_deBruijn64tab)] }
def EphemMapSaid : Prop := ephemMapRow.holds Tryd.pinned (OpenSpec.ofChange ephemMapSpec)

/-- ITS FALSE NEIGHBOUR: 'it returns false'. Refute it at one input. -/
def ephemMapWrong : ChangeSpec := { name := "ephemMap", fn := fun _ => fun
  | [d1, d2] => { results := [.lit (.bool false)], args := [d1, d2] }
  | _ => none }
def EphemMapWrongFalsely : Prop := ephemMapRow.holds Tryd.pinned (OpenSpec.ofChange ephemMapWrong)

/-- 'besomlaw10.EphemFull': WHATEVER THE INPUT: true; the input reads as it did. -/
def ephemFullSpec : ChangeSpec := { name := "ephemFull", fn := fun _ => fun
  | [d1, d2] => { results := [.lit (.bool true)], args := [d1, d2] }
  | _ => none }
def ephemFullRow : OpenClaim := { program := "ytloemeinpknamaadoor", sum := "f92bcef925f689a66a598d8d1f0bcc5e19fc928e5d83c2795cf9c783b8dcbca2", func := "besom/besomlaw10.EphemFull", spec := "ephemFull", unfollowed := true, recurses := true, named := ["math/bits.deBruijn32tab", "math/bits.deBruijn64tab"], apart := false, laid := [("math/bits.deBruijn32tab", laid_math_bits_deBruijn32tab), ("math/bits.deBruijn64tab", laid_math_bits_deBruijn64tab)] }
def EphemFullSaid : Prop := ephemFullRow.holds Tryd.pinned (OpenSpec.ofChange ephemFullSpec)

/-- ITS FALSE NEIGHBOUR: 'it returns false'. Refute it at one input. -/
def ephemFullWrong : ChangeSpec := { name := "ephemFull", fn := fun _ => fun
  | [d1, d2] => { results := [.lit (.bool false)], args := [d1, d2] }
  | _ => none }
def EphemFullWrongFalsely : Prop := ephemFullRow.holds Tryd.pinned (OpenSpec.ofChange ephemFullWrong)

/-- 'besomlaw10.EphemAll': WHATEVER THE INPUT: true; the input reads as it did. -/
def ephemAllSpec : ChangeSpec := { name := "ephemAll", fn := fun _ => fun
  | [d1, d2] => { results := [.lit (.bool true)], args := [d1, d2] }
  | _ => none }
def ephemAllRow : OpenClaim := { program := "ytloemeinpknamaadoor", sum := "f92bcef925f689a66a598d8d1f0bcc5e19fc928e5d83c2795cf9c783b8dcbca2", func := "besom/besomlaw10.EphemAll", spec := "ephemAll", unfollowed := true, recurses := true, named := ["math/bits.deBruijn32tab", "math/bits.deBruijn64tab"], apart := false, laid := [("math/bits.deBruijn32tab", laid_math_bits_deBruijn32tab), ("math/bits.deBruijn64tab", laid_math_bits_deBruijn64tab)] }
def EphemAllSaid : Prop := ephemAllRow.holds Tryd.pinned (OpenSpec.ofChange ephemAllSpec)

/-- ITS FALSE NEIGHBOUR: 'it returns false'. Refute it at one input. -/
def ephemAllWrong : ChangeSpec := { name := "ephemAll", fn := fun _ => fun
  | [d1, d2] => { results := [.lit (.bool false)], args := [d1, d2] }
  | _ => none }
def EphemAllWrongFalsely : Prop := ephemAllRow.holds Tryd.pinned (OpenSpec.ofChange ephemAllWrong)

/-- 'besomlaw10.EphemOwn': WHATEVER THE INPUT: true; the input reads as it did. -/
def ephemOwnSpec : ChangeSpec := { name := "ephemOwn", fn := fun _ => fun
  | [d1, d2] => { results := [.lit (.bool true)], args := [d1, d2] }
  | _ => none }
def ephemOwnRow : OpenClaim := { program := "ytloemeinpknamaadoor", sum := "f92bcef925f689a66a598d8d1f0bcc5e19fc928e5d83c2795cf9c783b8dcbca2", func := "besom/besomlaw10.EphemOwn", spec := "ephemOwn", unfollowed := true, recurses := true, named := ["math/bits.deBruijn32tab", "math/bits.deBruijn64tab"], apart := false, laid := [("math/bits.deBruijn32tab", laid_math_bits_deBruijn32tab), ("math/bits.deBruijn64tab", laid_math_bits_deBruijn64tab)] }
def EphemOwnSaid : Prop := ephemOwnRow.holds Tryd.pinned (OpenSpec.ofChange ephemOwnSpec)

/-- ITS FALSE NEIGHBOUR: 'it returns false'. Refute it at one input. -/
def ephemOwnWrong : ChangeSpec := { name := "ephemOwn", fn := fun _ => fun
  | [d1, d2] => { results := [.lit (.bool false)], args := [d1, d2] }
  | _ => none }
def EphemOwnWrongFalsely : Prop := ephemOwnRow.holds Tryd.pinned (OpenSpec.ofChange ephemOwnWrong)

/-- 'besomlaw10.EphemBack': WHATEVER THE INPUT: true; the input reads as it did. -/
def ephemBackSpec : ChangeSpec := { name := "ephemBack", fn := fun _ => fun
  | [d1, d2, d3, d4] => { results := [.lit (.bool true)], args := [d1, d2, d3, d4] }
  | _ => none }
def ephemBackRow : OpenClaim := { program := "ytloemeinpknamaadoor", sum := "f92bcef925f689a66a598d8d1f0bcc5e19fc928e5d83c2795cf9c783b8dcbca2", func := "besom/besomlaw10.EphemBack", spec := "ephemBack", unfollowed := true, recurses := true, named := ["math/bits.deBruijn32tab", "math/bits.deBruijn64tab"], apart := false, laid := [("math/bits.deBruijn32tab", laid_math_bits_deBruijn32tab), ("math/bits.deBruijn64tab", laid_math_bits_deBruijn64tab)] }
def EphemBackSaid : Prop := ephemBackRow.holds Tryd.pinned (OpenSpec.ofChange ephemBackSpec)

/-- ITS FALSE NEIGHBOUR: 'it returns false'. Refute it at one input. -/
def ephemBackWrong : ChangeSpec := { name := "ephemBack", fn := fun _ => fun
  | [d1, d2, d3, d4] => { results := [.lit (.bool false)], args := [d1, d2, d3, d4] }
  | _ => none }
def EphemBackWrongFalsely : Prop := ephemBackRow.holds Tryd.pinned (OpenSpec.ofChange ephemBackWrong)

/- THE SECOND FORM. 'bulk': how many values and letters a reading holds, each counted each time it is reached (what is shared counts as often as it is met; a slice's spare places count too). A statement '..UptoSaid' is the law's where the arguments, and the package variables that the reading takes, are together of bulk at most 1048576: NARROWER than '..Said'. Prove '..Said' where nothing that the law and all that it calls make is longer than what came in: it says more and counts as full. Else prove '..UptoSaid'. A law counts once. -/
mutual
def uptoBulk {H : Type} : DataW H → Nat
  | .lit (.string bytes) => bytes.length + 1
  | .lit _ => 1
  | .nil => 1
  | .ptr d => uptoBulk d + 1
  | .slice elems spare => uptoBulkAll elems + uptoBulkAll spare + 1
  | .agg parts => uptoBulkAll parts + 1
  | .iface _ d => uptoBulk d + 1
  | .map entries => uptoBulkEntries entries + 1
  | .held _ => 1
def uptoBulkAll {H : Type} : List (DataW H) → Nat
  | [] => 0
  | d :: r => uptoBulk d + uptoBulkAll r
def uptoBulkEntries {H : Type} : List (Lit × DataW H) → Nat
  | [] => 0
  | x :: r => uptoBulkEntry x + uptoBulkEntries r
def uptoBulkEntry {H : Type} : Lit × DataW H → Nat
  | (.string bytes, d) => bytes.length + uptoBulk d + 1
  | (_, d) => uptoBulk d + 1
 end
def uptoSmall : (H : Type) → List (DataW H) → Bool := fun _ ds => decide (uptoBulkAll ds ≤ 1048576)
def OpenSpec.upto (s : _root_.Go.ChangeSpec) : _root_.Go.OpenSpec := { _root_.Go.OpenSpec.ofChange s with cond := some uptoSmall }

/-- 'besomlaw10.EphemPuts', WHERE WHAT IT READS IS OF BULK AT MOST 1048576: true; the input reads as it did. -/
def ephemPutsUptoRow : OpenClaim := { program := "ytloemeinpknamaadoor", sum := "f92bcef925f689a66a598d8d1f0bcc5e19fc928e5d83c2795cf9c783b8dcbca2", func := "besom/besomlaw10.EphemPuts", spec := "ephemPuts", unfollowed := true, recurses := true, named := ["math/bits.deBruijn32tab", "math/bits.deBruijn64tab"], apart := false, laid := [("math/bits.deBruijn32tab", laid_math_bits_deBruijn32tab), ("math/bits.deBruijn64tab", laid_math_bits_deBruijn64tab)], narrowed := true }
def EphemPutsUptoSaid : Prop := ephemPutsUptoRow.holds Tryd.pinned (OpenSpec.upto ephemPutsSpec)

/-- 'besomlaw10.EphemAsks', WHERE WHAT IT READS IS OF BULK AT MOST 1048576: true; the input reads as it did. -/
def ephemAsksUptoRow : OpenClaim := { program := "ytloemeinpknamaadoor", sum := "f92bcef925f689a66a598d8d1f0bcc5e19fc928e5d83c2795cf9c783b8dcbca2", func := "besom/besomlaw10.EphemAsks", spec := "ephemAsks", unfollowed := true, recurses := true, named := ["math/bits.deBruijn32tab", "math/bits.deBruijn64tab"], apart := false, laid := [("math/bits.deBruijn32tab", laid_math_bits_deBruijn32tab), ("math/bits.deBruijn64tab", laid_math_bits_deBruijn64tab)], narrowed := true }
def EphemAsksUptoSaid : Prop := ephemAsksUptoRow.holds Tryd.pinned (OpenSpec.upto ephemAsksSpec)

/-- 'besomlaw10.EphemMap', WHERE WHAT IT READS IS OF BULK AT MOST 1048576: true; the input reads as it did. -/
def ephemMapUptoRow : OpenClaim := { program := "ytloemeinpknamaadoor", sum := "f92bcef925f689a66a598d8d1f0bcc5e19fc928e5d83c2795cf9c783b8dcbca2", func := "besom/besomlaw10.EphemMap", spec := "ephemMap", unfollowed := true, recurses := true, named := ["math/bits.deBruijn32tab", "math/bits.deBruijn64tab"], apart := false, laid := [("math/bits.deBruijn32tab", laid_math_bits_deBruijn32tab), ("math/bits.deBruijn64tab", laid_math_bits_deBruijn64tab)], narrowed := true }
def EphemMapUptoSaid : Prop := ephemMapUptoRow.holds Tryd.pinned (OpenSpec.upto ephemMapSpec)

/-- 'besomlaw10.EphemFull', WHERE WHAT IT READS IS OF BULK AT MOST 1048576: true; the input reads as it did. -/
def ephemFullUptoRow : OpenClaim := { program := "ytloemeinpknamaadoor", sum := "f92bcef925f689a66a598d8d1f0bcc5e19fc928e5d83c2795cf9c783b8dcbca2", func := "besom/besomlaw10.EphemFull", spec := "ephemFull", unfollowed := true, recurses := true, named := ["math/bits.deBruijn32tab", "math/bits.deBruijn64tab"], apart := false, laid := [("math/bits.deBruijn32tab", laid_math_bits_deBruijn32tab), ("math/bits.deBruijn64tab", laid_math_bits_deBruijn64tab)], narrowed := true }
def EphemFullUptoSaid : Prop := ephemFullUptoRow.holds Tryd.pinned (OpenSpec.upto ephemFullSpec)

/-- 'besomlaw10.EphemAll', WHERE WHAT IT READS IS OF BULK AT MOST 1048576: true; the input reads as it did. -/
def ephemAllUptoRow : OpenClaim := { program := "ytloemeinpknamaadoor", sum := "f92bcef925f689a66a598d8d1f0bcc5e19fc928e5d83c2795cf9c783b8dcbca2", func := "besom/besomlaw10.EphemAll", spec := "ephemAll", unfollowed := true, recurses := true, named := ["math/bits.deBruijn32tab", "math/bits.deBruijn64tab"], apart := false, laid := [("math/bits.deBruijn32tab", laid_math_bits_deBruijn32tab), ("math/bits.deBruijn64tab", laid_math_bits_deBruijn64tab)], narrowed := true }
def EphemAllUptoSaid : Prop := ephemAllUptoRow.holds Tryd.pinned (OpenSpec.upto ephemAllSpec)

/-- 'besomlaw10.EphemOwn', WHERE WHAT IT READS IS OF BULK AT MOST 1048576: true; the input reads as it did. -/
def ephemOwnUptoRow : OpenClaim := { program := "ytloemeinpknamaadoor", sum := "f92bcef925f689a66a598d8d1f0bcc5e19fc928e5d83c2795cf9c783b8dcbca2", func := "besom/besomlaw10.EphemOwn", spec := "ephemOwn", unfollowed := true, recurses := true, named := ["math/bits.deBruijn32tab", "math/bits.deBruijn64tab"], apart := false, laid := [("math/bits.deBruijn32tab", laid_math_bits_deBruijn32tab), ("math/bits.deBruijn64tab", laid_math_bits_deBruijn64tab)], narrowed := true }
def EphemOwnUptoSaid : Prop := ephemOwnUptoRow.holds Tryd.pinned (OpenSpec.upto ephemOwnSpec)

/-- 'besomlaw10.EphemBack', WHERE WHAT IT READS IS OF BULK AT MOST 1048576: true; the input reads as it did. -/
def ephemBackUptoRow : OpenClaim := { program := "ytloemeinpknamaadoor", sum := "f92bcef925f689a66a598d8d1f0bcc5e19fc928e5d83c2795cf9c783b8dcbca2", func := "besom/besomlaw10.EphemBack", spec := "ephemBack", unfollowed := true, recurses := true, named := ["math/bits.deBruijn32tab", "math/bits.deBruijn64tab"], apart := false, laid := [("math/bits.deBruijn32tab", laid_math_bits_deBruijn32tab), ("math/bits.deBruijn64tab", laid_math_bits_deBruijn64tab)], narrowed := true }
def EphemBackUptoSaid : Prop := ephemBackUptoRow.holds Tryd.pinned (OpenSpec.upto ephemBackSpec)

end Rows
end Go.Proofs.YtloemeinpknamaaDoor
