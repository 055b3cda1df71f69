/-
  NARROWER THAN 'FOR EVERY INPUT', by the rows' own cells (each row's printed sentence says how): HeapMakes: laid · HeapFields: laid · HeapMarks: laid · HeapSweeps: laid · TopKept: laid · ScavDoes: laid · ScavAsks: laid · ScavSame: laid · ScavCounted: laid · ScavKeeps: laid · ScavRuns: laid.
  DERIVED. THE GIVEN ROWS OF THIS SEAT. 11 by the template 'for every input the law returns true; each argument reads behind the call as it read before'; 0 by the template 'total and deterministic' (their statements: YtafpkaifaccehaaGreatDoorTotals.lean).
  GIVEN WITH THE SEED: the statements are not yours to turn. If you find one false, say at which input.
  Laid BY PROGRAM, IN A SANDBOX (cutbox-rows.mjs): the forced cells as the released guide's own fill.sh prints them over the translation c761f697f8687fed… (all of the seat's roots in one cut). By AI agents, Wed Nov 11 2026. No macro, syntax, notation, axiom, sorry.
-/
import Derived.Test.YtafpkaifaccehaaGreatDoorChecked
import GoSem.Claim
import GoSem.ClaimJoined
import GoSem.ClaimMapViews
import Derived.JoinedTies
import Derived.KernelRfl
namespace Go.Proofs.YtafpkaifaccehaaGreatDoor
/- THE CELL 'sum', in the pinned program and in every row, IS THE sha256 OF THE DUMP (.gsa) THAT YtafpkaifaccehaaGreatDoorProg.lean LOADS. Nothing in Lean hashes anything: it is a label: what it is worth is what the hold of that sum in a sandbox is worth. -/
noncomputable def Tryz.pinned : Pinned := { name := "ytafpkaifaccehaagreatdoor", sum := "c761f697f8687fed81a15a24f9a5f875bbc4859a8171ea806dea9a218333a99f", checked := Tryz.checked }
namespace Rows
def none {H : Type} : Left H := { results := [], args := [] }

/- WHAT THE LISTED PACKAGE-LEVEL VARIABLES READ AS WHEN THE CALL BEGINS. Each datum BY PROGRAM (the guide's laid-datum.mjs) off the statement by which the dump's own 'gosem.cut.vars' lays the variable. In a bare row this is a premise. The card (YtafpkaifaccehaaGreatDoorCards.lean) ties it to the program's text. -/
def laid_besom_class_sizes {H : Type} : DataW H := .agg [.lit (.int .i64 2), .lit (.int .i64 4), .lit (.int .i64 8), .lit (.int .i64 16)]

/-- 'besomlaw07.HeapMakes': WHATEVER THE INPUT: true; the input reads as it did. -/
def heapMakesSpec : ChangeSpec := { name := "heapMakes", fn := fun _ => fun
  | [d1, d2, d3, d4] => { results := [.lit (.bool true)], args := [d1, d2, d3, d4] }
  | _ => none }
def heapMakesRow : OpenClaim := { program := "ytafpkaifaccehaagreatdoor", sum := "c761f697f8687fed81a15a24f9a5f875bbc4859a8171ea806dea9a218333a99f", func := "besom/besomlaw07.HeapMakes", spec := "heapMakes", inPlace := ["sync/atomic.LoadUint32", "(*internal/sync.Mutex).Lock", "internal/race.Disable", "sync/atomic.CompareAndSwapInt32", "internal/race.Enable", "internal/race.Acquire", "(*internal/sync.Mutex).lockSlow", "internal/sync.runtime_canSpin", "internal/sync.runtime_doSpin", "internal/sync.throw", "internal/sync.runtime_nanotime", "internal/sync.runtime_SemacquireMutex", "sync/atomic.AddInt32", "(*internal/sync.Mutex).Unlock", "internal/race.ReleaseMerge", "(*internal/sync.Mutex).unlockSlow", "internal/sync.fatal", "internal/sync.runtime_Semrelease", "sync/atomic.StoreUint32"], unfollowed := true, recurses := true, named := ["besom/class.sizes"], apart := false, laid := [("besom/class.sizes", laid_besom_class_sizes)] }
def HeapMakesSaid : Prop := heapMakesRow.holds Tryz.pinned (OpenSpec.ofChange heapMakesSpec)

/-- ITS FALSE NEIGHBOUR: 'it returns false'. Refute it at one input. -/
def heapMakesWrong : ChangeSpec := { name := "heapMakes", fn := fun _ => fun
  | [d1, d2, d3, d4] => { results := [.lit (.bool false)], args := [d1, d2, d3, d4] }
  | _ => none }
def HeapMakesWrongFalsely : Prop := heapMakesRow.holds Tryz.pinned (OpenSpec.ofChange heapMakesWrong)

/-- 'besomlaw07.HeapFields': WHATEVER THE INPUT: true; the input reads as it did. -/
def heapFieldsSpec : ChangeSpec := { name := "heapFields", fn := fun _ => fun
  | [d1, d2, d3, d4, d5] => { results := [.lit (.bool true)], args := [d1, d2, d3, d4, d5] }
  | _ => none }
def heapFieldsRow : OpenClaim := { program := "ytafpkaifaccehaagreatdoor", sum := "c761f697f8687fed81a15a24f9a5f875bbc4859a8171ea806dea9a218333a99f", func := "besom/besomlaw07.HeapFields", spec := "heapFields", inPlace := ["sync/atomic.LoadUint32", "(*internal/sync.Mutex).Lock", "internal/race.Disable", "sync/atomic.CompareAndSwapInt32", "internal/race.Enable", "internal/race.Acquire", "(*internal/sync.Mutex).lockSlow", "internal/sync.runtime_canSpin", "internal/sync.runtime_doSpin", "internal/sync.throw", "internal/sync.runtime_nanotime", "internal/sync.runtime_SemacquireMutex", "sync/atomic.AddInt32", "(*internal/sync.Mutex).Unlock", "internal/race.ReleaseMerge", "(*internal/sync.Mutex).unlockSlow", "internal/sync.fatal", "internal/sync.runtime_Semrelease", "sync/atomic.StoreUint32"], unfollowed := true, recurses := true, named := ["besom/class.sizes"], apart := false, laid := [("besom/class.sizes", laid_besom_class_sizes)] }
def HeapFieldsSaid : Prop := heapFieldsRow.holds Tryz.pinned (OpenSpec.ofChange heapFieldsSpec)

/-- ITS FALSE NEIGHBOUR: 'it returns false'. Refute it at one input. -/
def heapFieldsWrong : ChangeSpec := { name := "heapFields", fn := fun _ => fun
  | [d1, d2, d3, d4, d5] => { results := [.lit (.bool false)], args := [d1, d2, d3, d4, d5] }
  | _ => none }
def HeapFieldsWrongFalsely : Prop := heapFieldsRow.holds Tryz.pinned (OpenSpec.ofChange heapFieldsWrong)

/-- 'besomlaw07.HeapMarks': WHATEVER THE INPUT: true; the input reads as it did. -/
def heapMarksSpec : ChangeSpec := { name := "heapMarks", fn := fun _ => fun
  | [d1, d2] => { results := [.lit (.bool true)], args := [d1, d2] }
  | _ => none }
def heapMarksRow : OpenClaim := { program := "ytafpkaifaccehaagreatdoor", sum := "c761f697f8687fed81a15a24f9a5f875bbc4859a8171ea806dea9a218333a99f", func := "besom/besomlaw07.HeapMarks", spec := "heapMarks", inPlace := ["sync/atomic.LoadUint32", "(*internal/sync.Mutex).Lock", "internal/race.Disable", "sync/atomic.CompareAndSwapInt32", "internal/race.Enable", "internal/race.Acquire", "(*internal/sync.Mutex).lockSlow", "internal/sync.runtime_canSpin", "internal/sync.runtime_doSpin", "internal/sync.throw", "internal/sync.runtime_nanotime", "internal/sync.runtime_SemacquireMutex", "sync/atomic.AddInt32", "(*internal/sync.Mutex).Unlock", "internal/race.ReleaseMerge", "(*internal/sync.Mutex).unlockSlow", "internal/sync.fatal", "internal/sync.runtime_Semrelease", "sync/atomic.StoreUint32"], unfollowed := true, recurses := true, named := ["besom/class.sizes"], apart := false, laid := [("besom/class.sizes", laid_besom_class_sizes)] }
def HeapMarksSaid : Prop := heapMarksRow.holds Tryz.pinned (OpenSpec.ofChange heapMarksSpec)

/-- ITS FALSE NEIGHBOUR: 'it returns false'. Refute it at one input. -/
def heapMarksWrong : ChangeSpec := { name := "heapMarks", fn := fun _ => fun
  | [d1, d2] => { results := [.lit (.bool false)], args := [d1, d2] }
  | _ => none }
def HeapMarksWrongFalsely : Prop := heapMarksRow.holds Tryz.pinned (OpenSpec.ofChange heapMarksWrong)

/-- 'besomlaw07.HeapSweeps': WHATEVER THE INPUT: true; the input reads as it did. -/
def heapSweepsSpec : ChangeSpec := { name := "heapSweeps", fn := fun _ => fun
  | [d1, d2] => { results := [.lit (.bool true)], args := [d1, d2] }
  | _ => none }
def heapSweepsRow : OpenClaim := { program := "ytafpkaifaccehaagreatdoor", sum := "c761f697f8687fed81a15a24f9a5f875bbc4859a8171ea806dea9a218333a99f", func := "besom/besomlaw07.HeapSweeps", spec := "heapSweeps", inPlace := ["sync/atomic.LoadUint32", "(*internal/sync.Mutex).Lock", "internal/race.Disable", "sync/atomic.CompareAndSwapInt32", "internal/race.Enable", "internal/race.Acquire", "(*internal/sync.Mutex).lockSlow", "internal/sync.runtime_canSpin", "internal/sync.runtime_doSpin", "internal/sync.throw", "internal/sync.runtime_nanotime", "internal/sync.runtime_SemacquireMutex", "sync/atomic.AddInt32", "(*internal/sync.Mutex).Unlock", "internal/race.ReleaseMerge", "(*internal/sync.Mutex).unlockSlow", "internal/sync.fatal", "internal/sync.runtime_Semrelease", "sync/atomic.StoreUint32"], unfollowed := true, recurses := true, named := ["besom/class.sizes"], apart := false, laid := [("besom/class.sizes", laid_besom_class_sizes)] }
def HeapSweepsSaid : Prop := heapSweepsRow.holds Tryz.pinned (OpenSpec.ofChange heapSweepsSpec)

/-- ITS FALSE NEIGHBOUR: 'it returns false'. Refute it at one input. -/
def heapSweepsWrong : ChangeSpec := { name := "heapSweeps", fn := fun _ => fun
  | [d1, d2] => { results := [.lit (.bool false)], args := [d1, d2] }
  | _ => none }
def HeapSweepsWrongFalsely : Prop := heapSweepsRow.holds Tryz.pinned (OpenSpec.ofChange heapSweepsWrong)

/-- 'besomtop.TopKept': WHATEVER THE INPUT: true; the input reads as it did. -/
def topKeptSpec : ChangeSpec := { name := "topKept", fn := fun _ => fun
  | [d1, d2] => { results := [.lit (.bool true)], args := [d1, d2] }
  | _ => none }
def topKeptRow : OpenClaim := { program := "ytafpkaifaccehaagreatdoor", sum := "c761f697f8687fed81a15a24f9a5f875bbc4859a8171ea806dea9a218333a99f", func := "besom/besomtop.TopKept", spec := "topKept", inPlace := ["sync/atomic.LoadUint32", "(*internal/sync.Mutex).Lock", "internal/race.Disable", "sync/atomic.CompareAndSwapInt32", "internal/race.Enable", "internal/race.Acquire", "(*internal/sync.Mutex).lockSlow", "internal/sync.runtime_canSpin", "internal/sync.runtime_doSpin", "internal/sync.throw", "internal/sync.runtime_nanotime", "internal/sync.runtime_SemacquireMutex", "sync/atomic.AddInt32", "(*internal/sync.Mutex).Unlock", "internal/race.ReleaseMerge", "(*internal/sync.Mutex).unlockSlow", "internal/sync.fatal", "internal/sync.runtime_Semrelease", "sync/atomic.StoreUint32", "slices.overlaps[besom/api.Special]"], unfollowed := true, recurses := true, named := ["besom/class.sizes"], apart := false, laid := [("besom/class.sizes", laid_besom_class_sizes)] }
def TopKeptSaid : Prop := topKeptRow.holds Tryz.pinned (OpenSpec.ofChange topKeptSpec)

/-- ITS FALSE NEIGHBOUR: 'it returns false'. Refute it at one input. -/
def topKeptWrong : ChangeSpec := { name := "topKept", fn := fun _ => fun
  | [d1, d2] => { results := [.lit (.bool false)], args := [d1, d2] }
  | _ => none }
def TopKeptWrongFalsely : Prop := topKeptRow.holds Tryz.pinned (OpenSpec.ofChange topKeptWrong)

/-- 'besomlaw23.ScavDoes': WHATEVER THE INPUT: true; the input reads as it did. -/
def scavDoesSpec : ChangeSpec := { name := "scavDoes", fn := fun _ => fun
  | [d1, d2, d3, d4, d5] => { results := [.lit (.bool true)], args := [d1, d2, d3, d4, d5] }
  | _ => none }
def scavDoesRow : OpenClaim := { program := "ytafpkaifaccehaagreatdoor", sum := "c761f697f8687fed81a15a24f9a5f875bbc4859a8171ea806dea9a218333a99f", func := "besom/besomlaw23.ScavDoes", spec := "scavDoes", inPlace := ["sync/atomic.LoadUint32", "(*internal/sync.Mutex).Lock", "internal/race.Disable", "sync/atomic.CompareAndSwapInt32", "internal/race.Enable", "internal/race.Acquire", "(*internal/sync.Mutex).lockSlow", "internal/sync.runtime_canSpin", "internal/sync.runtime_doSpin", "internal/sync.throw", "internal/sync.runtime_nanotime", "internal/sync.runtime_SemacquireMutex", "sync/atomic.AddInt32", "(*internal/sync.Mutex).Unlock", "internal/race.ReleaseMerge", "(*internal/sync.Mutex).unlockSlow", "internal/sync.fatal", "internal/sync.runtime_Semrelease", "sync/atomic.StoreUint32"], unfollowed := true, recurses := true, named := ["besom/class.sizes"], apart := false, laid := [("besom/class.sizes", laid_besom_class_sizes)] }
def ScavDoesSaid : Prop := scavDoesRow.holds Tryz.pinned (OpenSpec.ofChange scavDoesSpec)

/-- ITS FALSE NEIGHBOUR: 'it returns false'. Refute it at one input. -/
def scavDoesWrong : ChangeSpec := { name := "scavDoes", fn := fun _ => fun
  | [d1, d2, d3, d4, d5] => { results := [.lit (.bool false)], args := [d1, d2, d3, d4, d5] }
  | _ => none }
def ScavDoesWrongFalsely : Prop := scavDoesRow.holds Tryz.pinned (OpenSpec.ofChange scavDoesWrong)

/-- 'besomlaw23.ScavAsks': WHATEVER THE INPUT: true; the input reads as it did. -/
def scavAsksSpec : ChangeSpec := { name := "scavAsks", fn := fun _ => fun
  | [d1, d2] => { results := [.lit (.bool true)], args := [d1, d2] }
  | _ => none }
def scavAsksRow : OpenClaim := { program := "ytafpkaifaccehaagreatdoor", sum := "c761f697f8687fed81a15a24f9a5f875bbc4859a8171ea806dea9a218333a99f", func := "besom/besomlaw23.ScavAsks", spec := "scavAsks", inPlace := ["sync/atomic.LoadUint32", "(*internal/sync.Mutex).Lock", "internal/race.Disable", "sync/atomic.CompareAndSwapInt32", "internal/race.Enable", "internal/race.Acquire", "(*internal/sync.Mutex).lockSlow", "internal/sync.runtime_canSpin", "internal/sync.runtime_doSpin", "internal/sync.throw", "internal/sync.runtime_nanotime", "internal/sync.runtime_SemacquireMutex", "sync/atomic.AddInt32", "(*internal/sync.Mutex).Unlock", "internal/race.ReleaseMerge", "(*internal/sync.Mutex).unlockSlow", "internal/sync.fatal", "internal/sync.runtime_Semrelease", "sync/atomic.StoreUint32"], unfollowed := true, recurses := true, named := ["besom/class.sizes"], apart := false, laid := [("besom/class.sizes", laid_besom_class_sizes)] }
def ScavAsksSaid : Prop := scavAsksRow.holds Tryz.pinned (OpenSpec.ofChange scavAsksSpec)

/-- ITS FALSE NEIGHBOUR: 'it returns false'. Refute it at one input. -/
def scavAsksWrong : ChangeSpec := { name := "scavAsks", fn := fun _ => fun
  | [d1, d2] => { results := [.lit (.bool false)], args := [d1, d2] }
  | _ => none }
def ScavAsksWrongFalsely : Prop := scavAsksRow.holds Tryz.pinned (OpenSpec.ofChange scavAsksWrong)

/-- 'besomlaw23.ScavSame': WHATEVER THE INPUT: true; the input reads as it did. -/
def scavSameSpec : ChangeSpec := { name := "scavSame", fn := fun _ => fun
  | [d1, d2, d3, d4] => { results := [.lit (.bool true)], args := [d1, d2, d3, d4] }
  | _ => none }
def scavSameRow : OpenClaim := { program := "ytafpkaifaccehaagreatdoor", sum := "c761f697f8687fed81a15a24f9a5f875bbc4859a8171ea806dea9a218333a99f", func := "besom/besomlaw23.ScavSame", spec := "scavSame", inPlace := ["sync/atomic.LoadUint32", "(*internal/sync.Mutex).Lock", "internal/race.Disable", "sync/atomic.CompareAndSwapInt32", "internal/race.Enable", "internal/race.Acquire", "(*internal/sync.Mutex).lockSlow", "internal/sync.runtime_canSpin", "internal/sync.runtime_doSpin", "internal/sync.throw", "internal/sync.runtime_nanotime", "internal/sync.runtime_SemacquireMutex", "sync/atomic.AddInt32", "(*internal/sync.Mutex).Unlock", "internal/race.ReleaseMerge", "(*internal/sync.Mutex).unlockSlow", "internal/sync.fatal", "internal/sync.runtime_Semrelease", "sync/atomic.StoreUint32"], unfollowed := true, recurses := true, named := ["besom/class.sizes"], apart := false, laid := [("besom/class.sizes", laid_besom_class_sizes)] }
def ScavSameSaid : Prop := scavSameRow.holds Tryz.pinned (OpenSpec.ofChange scavSameSpec)

/-- ITS FALSE NEIGHBOUR: 'it returns false'. Refute it at one input. -/
def scavSameWrong : ChangeSpec := { name := "scavSame", fn := fun _ => fun
  | [d1, d2, d3, d4] => { results := [.lit (.bool false)], args := [d1, d2, d3, d4] }
  | _ => none }
def ScavSameWrongFalsely : Prop := scavSameRow.holds Tryz.pinned (OpenSpec.ofChange scavSameWrong)

/-- 'besomlaw23.ScavCounted': WHATEVER THE INPUT: true; the input reads as it did. -/
def scavCountedSpec : ChangeSpec := { name := "scavCounted", fn := fun _ => fun
  | [d1, d2, d3] => { results := [.lit (.bool true)], args := [d1, d2, d3] }
  | _ => none }
def scavCountedRow : OpenClaim := { program := "ytafpkaifaccehaagreatdoor", sum := "c761f697f8687fed81a15a24f9a5f875bbc4859a8171ea806dea9a218333a99f", func := "besom/besomlaw23.ScavCounted", spec := "scavCounted", inPlace := ["sync/atomic.LoadUint32", "(*internal/sync.Mutex).Lock", "internal/race.Disable", "sync/atomic.CompareAndSwapInt32", "internal/race.Enable", "internal/race.Acquire", "(*internal/sync.Mutex).lockSlow", "internal/sync.runtime_canSpin", "internal/sync.runtime_doSpin", "internal/sync.throw", "internal/sync.runtime_nanotime", "internal/sync.runtime_SemacquireMutex", "sync/atomic.AddInt32", "(*internal/sync.Mutex).Unlock", "internal/race.ReleaseMerge", "(*internal/sync.Mutex).unlockSlow", "internal/sync.fatal", "internal/sync.runtime_Semrelease", "sync/atomic.StoreUint32"], unfollowed := true, recurses := true, named := ["besom/class.sizes"], apart := false, laid := [("besom/class.sizes", laid_besom_class_sizes)] }
def ScavCountedSaid : Prop := scavCountedRow.holds Tryz.pinned (OpenSpec.ofChange scavCountedSpec)

/-- ITS FALSE NEIGHBOUR: 'it returns false'. Refute it at one input. -/
def scavCountedWrong : ChangeSpec := { name := "scavCounted", fn := fun _ => fun
  | [d1, d2, d3] => { results := [.lit (.bool false)], args := [d1, d2, d3] }
  | _ => none }
def ScavCountedWrongFalsely : Prop := scavCountedRow.holds Tryz.pinned (OpenSpec.ofChange scavCountedWrong)

/-- 'besomlaw23.ScavKeeps': WHATEVER THE INPUT: true; the input reads as it did. -/
def scavKeepsSpec : ChangeSpec := { name := "scavKeeps", fn := fun _ => fun
  | [d1, d2] => { results := [.lit (.bool true)], args := [d1, d2] }
  | _ => none }
def scavKeepsRow : OpenClaim := { program := "ytafpkaifaccehaagreatdoor", sum := "c761f697f8687fed81a15a24f9a5f875bbc4859a8171ea806dea9a218333a99f", func := "besom/besomlaw23.ScavKeeps", spec := "scavKeeps", inPlace := ["sync/atomic.LoadUint32", "(*internal/sync.Mutex).Lock", "internal/race.Disable", "sync/atomic.CompareAndSwapInt32", "internal/race.Enable", "internal/race.Acquire", "(*internal/sync.Mutex).lockSlow", "internal/sync.runtime_canSpin", "internal/sync.runtime_doSpin", "internal/sync.throw", "internal/sync.runtime_nanotime", "internal/sync.runtime_SemacquireMutex", "sync/atomic.AddInt32", "(*internal/sync.Mutex).Unlock", "internal/race.ReleaseMerge", "(*internal/sync.Mutex).unlockSlow", "internal/sync.fatal", "internal/sync.runtime_Semrelease", "sync/atomic.StoreUint32"], unfollowed := true, recurses := true, named := ["besom/class.sizes"], apart := false, laid := [("besom/class.sizes", laid_besom_class_sizes)] }
def ScavKeepsSaid : Prop := scavKeepsRow.holds Tryz.pinned (OpenSpec.ofChange scavKeepsSpec)

/-- ITS FALSE NEIGHBOUR: 'it returns false'. Refute it at one input. -/
def scavKeepsWrong : ChangeSpec := { name := "scavKeeps", fn := fun _ => fun
  | [d1, d2] => { results := [.lit (.bool false)], args := [d1, d2] }
  | _ => none }
def ScavKeepsWrongFalsely : Prop := scavKeepsRow.holds Tryz.pinned (OpenSpec.ofChange scavKeepsWrong)

/-- 'besomlaw23.ScavRuns': WHATEVER THE INPUT: true; the input reads as it did. -/
def scavRunsSpec : ChangeSpec := { name := "scavRuns", fn := fun _ => fun
  | [d] => { results := [.lit (.bool true)], args := [d] }
  | _ => none }
def scavRunsRow : OpenClaim := { program := "ytafpkaifaccehaagreatdoor", sum := "c761f697f8687fed81a15a24f9a5f875bbc4859a8171ea806dea9a218333a99f", func := "besom/besomlaw23.ScavRuns", spec := "scavRuns", inPlace := ["sync/atomic.LoadUint32", "(*internal/sync.Mutex).Lock", "internal/race.Disable", "sync/atomic.CompareAndSwapInt32", "internal/race.Enable", "internal/race.Acquire", "(*internal/sync.Mutex).lockSlow", "internal/sync.runtime_canSpin", "internal/sync.runtime_doSpin", "internal/sync.throw", "internal/sync.runtime_nanotime", "internal/sync.runtime_SemacquireMutex", "sync/atomic.AddInt32", "(*internal/sync.Mutex).Unlock", "internal/race.ReleaseMerge", "(*internal/sync.Mutex).unlockSlow", "internal/sync.fatal", "internal/sync.runtime_Semrelease", "sync/atomic.StoreUint32"], unfollowed := true, recurses := true, named := ["besom/class.sizes"], apart := false, laid := [("besom/class.sizes", laid_besom_class_sizes)] }
def ScavRunsSaid : Prop := scavRunsRow.holds Tryz.pinned (OpenSpec.ofChange scavRunsSpec)

/-- ITS FALSE NEIGHBOUR: 'it returns false'. Refute it at one input. -/
def scavRunsWrong : ChangeSpec := { name := "scavRuns", fn := fun _ => fun
  | [d] => { results := [.lit (.bool false)], args := [d] }
  | _ => none }
def ScavRunsWrongFalsely : Prop := scavRunsRow.holds Tryz.pinned (OpenSpec.ofChange scavRunsWrong)

/- THE SECOND FORM. 'bulk': how many values and letters a reading holds, each counted each time it is reached (what is shared counts as often as it is met; a slice's spare places count too). A statement '..UptoSaid' is the law's where the arguments, and the package variables that the reading takes, are together of bulk at most 1048576: NARROWER than '..Said'. Prove '..Said' where nothing that the law and all that it calls make is longer than what came in: it says more and counts as full. Else prove '..UptoSaid'. A law counts once. -/
mutual
def uptoBulk {H : Type} : DataW H → Nat
  | .lit (.string bytes) => bytes.length + 1
  | .lit _ => 1
  | .nil => 1
  | .ptr d => uptoBulk d + 1
  | .slice elems spare => uptoBulkAll elems + uptoBulkAll spare + 1
  | .agg parts => uptoBulkAll parts + 1
  | .iface _ d => uptoBulk d + 1
  | .map entries => uptoBulkEntries entries + 1
  | .held _ => 1
def uptoBulkAll {H : Type} : List (DataW H) → Nat
  | [] => 0
  | d :: r => uptoBulk d + uptoBulkAll r
def uptoBulkEntries {H : Type} : List (Lit × DataW H) → Nat
  | [] => 0
  | x :: r => uptoBulkEntry x + uptoBulkEntries r
def uptoBulkEntry {H : Type} : Lit × DataW H → Nat
  | (.string bytes, d) => bytes.length + uptoBulk d + 1
  | (_, d) => uptoBulk d + 1
 end
def uptoSmall : (H : Type) → List (DataW H) → Bool := fun _ ds => decide (uptoBulkAll ds ≤ 1048576)
def OpenSpec.upto (s : _root_.Go.ChangeSpec) : _root_.Go.OpenSpec := { _root_.Go.OpenSpec.ofChange s with cond := some uptoSmall }

/-- 'besomlaw07.HeapMakes', WHERE WHAT IT READS IS OF BULK AT MOST 1048576: true; the input reads as it did. -/
def heapMakesUptoRow : OpenClaim := { program := "ytafpkaifaccehaagreatdoor", sum := "c761f697f8687fed81a15a24f9a5f875bbc4859a8171ea806dea9a218333a99f", func := "besom/besomlaw07.HeapMakes", spec := "heapMakes", inPlace := ["sync/atomic.LoadUint32", "(*internal/sync.Mutex).Lock", "internal/race.Disable", "sync/atomic.CompareAndSwapInt32", "internal/race.Enable", "internal/race.Acquire", "(*internal/sync.Mutex).lockSlow", "internal/sync.runtime_canSpin", "internal/sync.runtime_doSpin", "internal/sync.throw", "internal/sync.runtime_nanotime", "internal/sync.runtime_SemacquireMutex", "sync/atomic.AddInt32", "(*internal/sync.Mutex).Unlock", "internal/race.ReleaseMerge", "(*internal/sync.Mutex).unlockSlow", "internal/sync.fatal", "internal/sync.runtime_Semrelease", "sync/atomic.StoreUint32"], unfollowed := true, recurses := true, named := ["besom/class.sizes"], apart := false, laid := [("besom/class.sizes", laid_besom_class_sizes)], narrowed := true }
def HeapMakesUptoSaid : Prop := heapMakesUptoRow.holds Tryz.pinned (OpenSpec.upto heapMakesSpec)

/-- 'besomlaw07.HeapFields', WHERE WHAT IT READS IS OF BULK AT MOST 1048576: true; the input reads as it did. -/
def heapFieldsUptoRow : OpenClaim := { program := "ytafpkaifaccehaagreatdoor", sum := "c761f697f8687fed81a15a24f9a5f875bbc4859a8171ea806dea9a218333a99f", func := "besom/besomlaw07.HeapFields", spec := "heapFields", inPlace := ["sync/atomic.LoadUint32", "(*internal/sync.Mutex).Lock", "internal/race.Disable", "sync/atomic.CompareAndSwapInt32", "internal/race.Enable", "internal/race.Acquire", "(*internal/sync.Mutex).lockSlow", "internal/sync.runtime_canSpin", "internal/sync.runtime_doSpin", "internal/sync.throw", "internal/sync.runtime_nanotime", "internal/sync.runtime_SemacquireMutex", "sync/atomic.AddInt32", "(*internal/sync.Mutex).Unlock", "internal/race.ReleaseMerge", "(*internal/sync.Mutex).unlockSlow", "internal/sync.fatal", "internal/sync.runtime_Semrelease", "sync/atomic.StoreUint32"], unfollowed := true, recurses := true, named := ["besom/class.sizes"], apart := false, laid := [("besom/class.sizes", laid_besom_class_sizes)], narrowed := true }
def HeapFieldsUptoSaid : Prop := heapFieldsUptoRow.holds Tryz.pinned (OpenSpec.upto heapFieldsSpec)

/-- 'besomlaw07.HeapMarks', WHERE WHAT IT READS IS OF BULK AT MOST 1048576: true; the input reads as it did. -/
def heapMarksUptoRow : OpenClaim := { program := "ytafpkaifaccehaagreatdoor", sum := "c761f697f8687fed81a15a24f9a5f875bbc4859a8171ea806dea9a218333a99f", func := "besom/besomlaw07.HeapMarks", spec := "heapMarks", inPlace := ["sync/atomic.LoadUint32", "(*internal/sync.Mutex).Lock", "internal/race.Disable", "sync/atomic.CompareAndSwapInt32", "internal/race.Enable", "internal/race.Acquire", "(*internal/sync.Mutex).lockSlow", "internal/sync.runtime_canSpin", "internal/sync.runtime_doSpin", "internal/sync.throw", "internal/sync.runtime_nanotime", "internal/sync.runtime_SemacquireMutex", "sync/atomic.AddInt32", "(*internal/sync.Mutex).Unlock", "internal/race.ReleaseMerge", "(*internal/sync.Mutex).unlockSlow", "internal/sync.fatal", "internal/sync.runtime_Semrelease", "sync/atomic.StoreUint32"], unfollowed := true, recurses := true, named := ["besom/class.sizes"], apart := false, laid := [("besom/class.sizes", laid_besom_class_sizes)], narrowed := true }
def HeapMarksUptoSaid : Prop := heapMarksUptoRow.holds Tryz.pinned (OpenSpec.upto heapMarksSpec)

/-- 'besomlaw07.HeapSweeps', WHERE WHAT IT READS IS OF BULK AT MOST 1048576: true; the input reads as it did. -/
def heapSweepsUptoRow : OpenClaim := { program := "ytafpkaifaccehaagreatdoor", sum := "c761f697f8687fed81a15a24f9a5f875bbc4859a8171ea806dea9a218333a99f", func := "besom/besomlaw07.HeapSweeps", spec := "heapSweeps", inPlace := ["sync/atomic.LoadUint32", "(*internal/sync.Mutex).Lock", "internal/race.Disable", "sync/atomic.CompareAndSwapInt32", "internal/race.Enable", "internal/race.Acquire", "(*internal/sync.Mutex).lockSlow", "internal/sync.runtime_canSpin", "internal/sync.runtime_doSpin", "internal/sync.throw", "internal/sync.runtime_nanotime", "internal/sync.runtime_SemacquireMutex", "sync/atomic.AddInt32", "(*internal/sync.Mutex).Unlock", "internal/race.ReleaseMerge", "(*internal/sync.Mutex).unlockSlow", "internal/sync.fatal", "internal/sync.runtime_Semrelease", "sync/atomic.StoreUint32"], unfollowed := true, recurses := true, named := ["besom/class.sizes"], apart := false, laid := [("besom/class.sizes", laid_besom_class_sizes)], narrowed := true }
def HeapSweepsUptoSaid : Prop := heapSweepsUptoRow.holds Tryz.pinned (OpenSpec.upto heapSweepsSpec)

/-- 'besomtop.TopKept', WHERE WHAT IT READS IS OF BULK AT MOST 1048576: true; the input reads as it did. -/
def topKeptUptoRow : OpenClaim := { program := "ytafpkaifaccehaagreatdoor", sum := "c761f697f8687fed81a15a24f9a5f875bbc4859a8171ea806dea9a218333a99f", func := "besom/besomtop.TopKept", spec := "topKept", inPlace := ["sync/atomic.LoadUint32", "(*internal/sync.Mutex).Lock", "internal/race.Disable", "sync/atomic.CompareAndSwapInt32", "internal/race.Enable", "internal/race.Acquire", "(*internal/sync.Mutex).lockSlow", "internal/sync.runtime_canSpin", "internal/sync.runtime_doSpin", "internal/sync.throw", "internal/sync.runtime_nanotime", "internal/sync.runtime_SemacquireMutex", "sync/atomic.AddInt32", "(*internal/sync.Mutex).Unlock", "internal/race.ReleaseMerge", "(*internal/sync.Mutex).unlockSlow", "internal/sync.fatal", "internal/sync.runtime_Semrelease", "sync/atomic.StoreUint32", "slices.overlaps[besom/api.Special]"], unfollowed := true, recurses := true, named := ["besom/class.sizes"], apart := false, laid := [("besom/class.sizes", laid_besom_class_sizes)], narrowed := true }
def TopKeptUptoSaid : Prop := topKeptUptoRow.holds Tryz.pinned (OpenSpec.upto topKeptSpec)

/-- 'besomlaw23.ScavDoes', WHERE WHAT IT READS IS OF BULK AT MOST 1048576: true; the input reads as it did. -/
def scavDoesUptoRow : OpenClaim := { program := "ytafpkaifaccehaagreatdoor", sum := "c761f697f8687fed81a15a24f9a5f875bbc4859a8171ea806dea9a218333a99f", func := "besom/besomlaw23.ScavDoes", spec := "scavDoes", inPlace := ["sync/atomic.LoadUint32", "(*internal/sync.Mutex).Lock", "internal/race.Disable", "sync/atomic.CompareAndSwapInt32", "internal/race.Enable", "internal/race.Acquire", "(*internal/sync.Mutex).lockSlow", "internal/sync.runtime_canSpin", "internal/sync.runtime_doSpin", "internal/sync.throw", "internal/sync.runtime_nanotime", "internal/sync.runtime_SemacquireMutex", "sync/atomic.AddInt32", "(*internal/sync.Mutex).Unlock", "internal/race.ReleaseMerge", "(*internal/sync.Mutex).unlockSlow", "internal/sync.fatal", "internal/sync.runtime_Semrelease", "sync/atomic.StoreUint32"], unfollowed := true, recurses := true, named := ["besom/class.sizes"], apart := false, laid := [("besom/class.sizes", laid_besom_class_sizes)], narrowed := true }
def ScavDoesUptoSaid : Prop := scavDoesUptoRow.holds Tryz.pinned (OpenSpec.upto scavDoesSpec)

/-- 'besomlaw23.ScavAsks', WHERE WHAT IT READS IS OF BULK AT MOST 1048576: true; the input reads as it did. -/
def scavAsksUptoRow : OpenClaim := { program := "ytafpkaifaccehaagreatdoor", sum := "c761f697f8687fed81a15a24f9a5f875bbc4859a8171ea806dea9a218333a99f", func := "besom/besomlaw23.ScavAsks", spec := "scavAsks", inPlace := ["sync/atomic.LoadUint32", "(*internal/sync.Mutex).Lock", "internal/race.Disable", "sync/atomic.CompareAndSwapInt32", "internal/race.Enable", "internal/race.Acquire", "(*internal/sync.Mutex).lockSlow", "internal/sync.runtime_canSpin", "internal/sync.runtime_doSpin", "internal/sync.throw", "internal/sync.runtime_nanotime", "internal/sync.runtime_SemacquireMutex", "sync/atomic.AddInt32", "(*internal/sync.Mutex).Unlock", "internal/race.ReleaseMerge", "(*internal/sync.Mutex).unlockSlow", "internal/sync.fatal", "internal/sync.runtime_Semrelease", "sync/atomic.StoreUint32"], unfollowed := true, recurses := true, named := ["besom/class.sizes"], apart := false, laid := [("besom/class.sizes", laid_besom_class_sizes)], narrowed := true }
def ScavAsksUptoSaid : Prop := scavAsksUptoRow.holds Tryz.pinned (OpenSpec.upto scavAsksSpec)

/-- 'besomlaw23.ScavSame', WHERE WHAT IT READS IS OF BULK AT MOST 1048576: true; the input reads as it did. -/
def scavSameUptoRow : OpenClaim := { program := "ytafpkaifaccehaagreatdoor", sum := "c761f697f8687fed81a15a24f9a5f875bbc4859a8171ea806dea9a218333a99f", func := "besom/besomlaw23.ScavSame", spec := "scavSame", inPlace := ["sync/atomic.LoadUint32", "(*internal/sync.Mutex).Lock", "internal/race.Disable", "sync/atomic.CompareAndSwapInt32", "internal/race.Enable", "internal/race.Acquire", "(*internal/sync.Mutex).lockSlow", "internal/sync.runtime_canSpin", "internal/sync.runtime_doSpin", "internal/sync.throw", "internal/sync.runtime_nanotime", "internal/sync.runtime_SemacquireMutex", "sync/atomic.AddInt32", "(*internal/sync.Mutex).Unlock", "internal/race.ReleaseMerge", "(*internal/sync.Mutex).unlockSlow", "internal/sync.fatal", "internal/sync.runtime_Semrelease", "sync/atomic.StoreUint32"], unfollowed := true, recurses := true, named := ["besom/class.sizes"], apart := false, laid := [("besom/class.sizes", laid_besom_class_sizes)], narrowed := true }
def ScavSameUptoSaid : Prop := scavSameUptoRow.holds Tryz.pinned (OpenSpec.upto scavSameSpec)

/-- 'besomlaw23.ScavCounted', WHERE WHAT IT READS IS OF BULK AT MOST 1048576: true; the input reads as it did. -/
def scavCountedUptoRow : OpenClaim := { program := "ytafpkaifaccehaagreatdoor", sum := "c761f697f8687fed81a15a24f9a5f875bbc4859a8171ea806dea9a218333a99f", func := "besom/besomlaw23.ScavCounted", spec := "scavCounted", inPlace := ["sync/atomic.LoadUint32", "(*internal/sync.Mutex).Lock", "internal/race.Disable", "sync/atomic.CompareAndSwapInt32", "internal/race.Enable", "internal/race.Acquire", "(*internal/sync.Mutex).lockSlow", "internal/sync.runtime_canSpin", "internal/sync.runtime_doSpin", "internal/sync.throw", "internal/sync.runtime_nanotime", "internal/sync.runtime_SemacquireMutex", "sync/atomic.AddInt32", "(*internal/sync.Mutex).Unlock", "internal/race.ReleaseMerge", "(*internal/sync.Mutex).unlockSlow", "internal/sync.fatal", "internal/sync.runtime_Semrelease", "sync/atomic.StoreUint32"], unfollowed := true, recurses := true, named := ["besom/class.sizes"], apart := false, laid := [("besom/class.sizes", laid_besom_class_sizes)], narrowed := true }
def ScavCountedUptoSaid : Prop := scavCountedUptoRow.holds Tryz.pinned (OpenSpec.upto scavCountedSpec)

/-- 'besomlaw23.ScavKeeps', WHERE WHAT IT READS IS OF BULK AT MOST 1048576: true; the input reads as it did. -/
def scavKeepsUptoRow : OpenClaim := { program := "ytafpkaifaccehaagreatdoor", sum := "c761f697f8687fed81a15a24f9a5f875bbc4859a8171ea806dea9a218333a99f", func := "besom/besomlaw23.ScavKeeps", spec := "scavKeeps", inPlace := ["sync/atomic.LoadUint32", "(*internal/sync.Mutex).Lock", "internal/race.Disable", "sync/atomic.CompareAndSwapInt32", "internal/race.Enable", "internal/race.Acquire", "(*internal/sync.Mutex).lockSlow", "internal/sync.runtime_canSpin", "internal/sync.runtime_doSpin", "internal/sync.throw", "internal/sync.runtime_nanotime", "internal/sync.runtime_SemacquireMutex", "sync/atomic.AddInt32", "(*internal/sync.Mutex).Unlock", "internal/race.ReleaseMerge", "(*internal/sync.Mutex).unlockSlow", "internal/sync.fatal", "internal/sync.runtime_Semrelease", "sync/atomic.StoreUint32"], unfollowed := true, recurses := true, named := ["besom/class.sizes"], apart := false, laid := [("besom/class.sizes", laid_besom_class_sizes)], narrowed := true }
def ScavKeepsUptoSaid : Prop := scavKeepsUptoRow.holds Tryz.pinned (OpenSpec.upto scavKeepsSpec)

/-- 'besomlaw23.ScavRuns', WHERE WHAT IT READS IS OF BULK AT MOST 1048576: true; the input reads as it did. -/
def scavRunsUptoRow : OpenClaim := { program := "ytafpkaifaccehaagreatdoor", sum := "c761f697f8687fed81a15a24f9a5f875bbc4859a8171ea806dea9a218333a99f", func := "besom/besomlaw23.ScavRuns", spec := "scavRuns", inPlace := ["sync/atomic.LoadUint32", "(*internal/sync.Mutex).Lock", "internal/race.Disable", "sync/atomic.CompareAndSwapInt32", "internal/race.Enable", "internal/race.Acquire", "(*internal/sync.Mutex).lockSlow", "internal/sync.runtime_canSpin", "internal/sync.runtime_doSpin", "internal/sync.throw", "internal/sync.runtime_nanotime", "internal/sync.runtime_SemacquireMutex", "sync/atomic.AddInt32", "(*internal/sync.Mutex).Unlock", "internal/race.ReleaseMerge", "(*internal/sync.Mutex).unlockSlow", "internal/sync.fatal", "internal/sync.runtime_Semrelease", "sync/atomic.StoreUint32"], unfollowed := true, recurses := true, named := ["besom/class.sizes"], apart := false, laid := [("besom/class.sizes", laid_besom_class_sizes)], narrowed := true }
def ScavRunsUptoSaid : Prop := scavRunsUptoRow.holds Tryz.pinned (OpenSpec.upto scavRunsSpec)

end Rows
end Go.Proofs.YtafpkaifaccehaaGreatDoor
