/- Plain facts of instructions and their text: no program is named here. -/
import Derived.Test.YtndaccekemjdmaaGreatDoorAs1
import Derived.Test.YtndaccekemjdmaaGreatDoorJ1
import Derived.Lib.ParseIntB
import Derived.Lib.Join
import Derived.Lib.SlicesCompact
namespace Go.Proofs.YtndaccekemjdmaaGreatDoor
open Go
set_option linter.unusedVariables false
set_option linter.unusedSimpArgs false

/-- an instruction: its kind; its operation's kind, registers, field, shape's number and mask, number; its registers; where it goes -/
structure In where
  kd : Int
  op : Int
  oa : Int
  ob : Int
  fd : Int
  n : Int
  m : Nat
  w : Nat
  a : Int
  b : Int
  to : Int
theorem In.ext_iff11 (x y : In) : x = y ↔ x.kd = y.kd ∧ x.op = y.op ∧ x.oa = y.oa ∧ x.ob = y.ob ∧ x.fd = y.fd ∧ x.n = y.n ∧ x.m = y.m ∧ x.w = y.w ∧ x.a = y.a ∧ x.b = y.b ∧ x.to = y.to := by
  constructor
  · rintro rfl; exact ⟨rfl, rfl, rfl, rfl, rfl, rfl, rfl, rfl, rfl, rfl, rfl⟩
  · obtain ⟨a1, a2, a3, a4, a5, a6, a7, a8, a9, a10, a11⟩ := x
    obtain ⟨b1, b2, b3, b4, b5, b6, b7, b8, b9, b10, b11⟩ := y
    rintro ⟨h1, h2, h3, h4, h5, h6, h7, h8, h9, h10, h11⟩
    simp only at h1 h2 h3 h4 h5 h6 h7 h8 h9 h10 h11
    subst h1 h2 h3 h4 h5 h6 h7 h8 h9 h10 h11
    rfl
instance : DecidableEq In := fun x y => decidable_of_iff _ (In.ext_iff11 x y).symm
def in0 : In := ⟨0, 0, 0, 0, 0, 0, 0, 0, 0, 0, 0⟩
instance : Inhabited In := ⟨in0⟩
/-- a line's form: its name, the kinds, what words it has: 1 2 registers of the operation, 3 field, 4 5 shape, 6 number, 7 8 registers, 9 a label -/
structure Fm where
  nm : List UInt8
  kd : Int
  op : Int
  os : List Nat
def fm0 : Fm := ⟨[], 0, 0, []⟩
instance : Inhabited Fm := ⟨fm0⟩
def fms : List Fm := [
  ⟨[110, 101, 119], 1, 1, [1, 4, 5]⟩,
  ⟨[108, 111, 97, 100], 1, 2, [1, 2, 3]⟩,
  ⟨[115, 116, 111, 114, 101], 1, 3, [1, 2, 3]⟩,
  ⟨[109, 111, 118, 101], 1, 4, [1, 2]⟩,
  ⟨[99, 111, 110, 115, 116], 1, 5, [1, 6]⟩,
  ⟨[110, 105, 108], 1, 6, [1]⟩,
  ⟨[119, 101, 97, 107], 1, 7, [1, 2]⟩,
  ⟨[117, 112], 1, 8, [1, 2]⟩,
  ⟨[112, 117, 116], 1, 9, [1, 2]⟩,
  ⟨[103, 101, 116], 1, 10, [1, 2]⟩,
  ⟨[100, 101, 108], 1, 11, [1]⟩,
  ⟨[102, 105, 110, 97, 108], 1, 12, [1, 6]⟩,
  ⟨[99, 108, 101, 97, 110], 1, 13, [1, 6]⟩,
  ⟨[103, 99], 1, 14, []⟩,
  ⟨[97, 100, 100], 2, 0, [7, 8]⟩,
  ⟨[115, 117, 98], 3, 0, [7, 8]⟩,
  ⟨[106, 117, 109, 112], 4, 0, [9]⟩,
  ⟨[122, 101, 114, 111], 5, 0, [7, 9]⟩,
  ⟨[115, 97, 109, 101], 6, 0, [7, 8, 9]⟩,
  ⟨[104, 97, 108, 116], 7, 0, []⟩]
def nthF (k : Nat) : Fm := fms.getD k fm0
def getO (o : Nat) (x : In) : Int :=
  match o with
  | 1 => x.oa
  | 2 => x.ob
  | 3 => x.fd
  | 4 => x.n
  | 5 => (x.m : Int)
  | 6 => (x.w : Int)
  | 7 => x.a
  | 8 => x.b
  | _ => x.to
def putO (o : Nat) (v : Int) (x : In) : In :=
  match o with
  | 1 => { x with oa := v }
  | 2 => { x with ob := v }
  | 3 => { x with fd := v }
  | 4 => { x with n := v }
  | 5 => { x with m := v.toNat }
  | 6 => { x with w := v.toNat }
  | 7 => { x with a := v }
  | 8 => { x with b := v }
  | 9 => { x with to := v }
  | _ => x
/-- the greatest number that a word may be, where there are c instructions -/
def mostO (o : Nat) (c : Int) : Int :=
  match o with
  | 3 => 47
  | 4 => 48
  | 5 => 18446744073709551615
  | 6 => 18446744073709551615
  | 9 => c
  | _ => 3
def isR (o : Nat) : Bool := o == 1 || o == 2 || o == 7 || o == 8
def bare (f : Fm) : In := { in0 with kd := f.kd, op := f.op }
def formOf (x : In) : Option Fm := fms.find? fun f => f.kd == x.kd && f.op == x.op
def fnamed (s : List UInt8) : Option Fm := fms.find? fun f => f.nm == s
def mkN (x : In) (os : List Nat) (z : In) : In := os.foldl (fun m o => putO o (getO o x) m) z
def mkI (f : Fm) (x : In) : In := mkN x f.os (bare f)
def inO (c : Int) (x : In) (o : Nat) : Prop := 0 ≤ getO o x ∧ getO o x ≤ mostO o c
/-- an instruction is right among c -/
def OkI (c : Int) (x : In) : Prop := ∃ f, formOf x = some f ∧ (∀ o ∈ f.os, inO c x o) ∧ mkI f x = x ∧ Sh x.n x.m
def OkP (l : List In) : Prop := l.length ≤ 256 ∧ ∀ x ∈ l, OkI l.length x
def jumpsI (x : In) : Bool := match formOf x with
  | none => false
  | some f => f.os.contains 9
/-- the words of a line -/
def wordO (x : In) (lb : List UInt8) (o : Nat) : List UInt8 := if o = 9 then lb else if isR o then 114 :: digs (getO o x).toNat else digs (getO o x).toNat
def lineW (f : Fm) (x : In) (lb : List UInt8) : List (List UInt8) := f.nm :: f.os.map (wordO x lb)
def lineI (x : In) (lb : List UInt8) : List UInt8 := Lib.join (lineW ((formOf x).getD fm0) x lb) [32]
/-- where the instructions go, in order -/
def tosL (l : List In) : List Int := (l.filter jumpsI).map fun x => x.to
def goalsL (l : List In) : List Int := Lib.compact ((tosL l).mergeSort fun x y => decide (x ≤ y))
def labG (g : List Int) (p : Int) : List UInt8 := if g.contains p then 76 :: digs (g.countP (· < p)) else []
def lblG (g : List Int) (p : Int) : List UInt8 := if g.contains p then 76 :: digs (g.countP (· < p)) ++ [58, 10] else []
def nthI (l : List In) (i : Nat) : In := l.getD i in0
def rowG (g : List Int) (l : List In) (i : Nat) : List UInt8 := lblG g i ++ (lineI (nthI l i) (labG g (nthI l i).to) ++ [10])
def printG (g : List Int) (l : List In) : List UInt8 := (List.range l.length).flatMap (rowG g l) ++ lblG g l.length
def printP (l : List In) : List UInt8 := printG (goalsL l) l
/-- reading -/
def labC (c : UInt8) : Bool := (decide (65 ≤ c.toNat) && decide (c.toNat ≤ 90)) || (decide (97 ≤ c.toNat) && decide (c.toNat ≤ 122)) || (decide (48 ≤ c.toNat) && decide (c.toNat ≤ 57))
def isLab (s : List UInt8) : Bool := decide (1 ≤ s.length) && decide (s.length ≤ 32) && s.all labC
def numE (s : List UInt8) : Option Nat :=
  match Lib.parseUintB 64 s with
  | .ok u => if digs u = s then some u else none
  | _ => none
def tellO (o : Nat) (s : List UInt8) (c : In × List UInt8) : Option (In × List UInt8) :=
  if o = 9 then (if isLab s then some (c.1, s) else none) else
  if isR o && !Lib.hasPrefix s [114] then none else
  match numE (if isR o then Lib.trimPrefix s [114] else s) with
  | none => none
  | some u => if (u : Int) ≤ mostO o 0 then some (putO o u c.1, c.2) else none
def tellL : List Nat → List (List UInt8) → In × List UInt8 → Option (In × List UInt8)
  | o :: os, s :: ss, c => match tellO o s c with
    | none => none
    | some c => tellL os ss c
  | _, _, c => some c
def parseW (ws : List (List UInt8)) : Option (In × List UInt8) :=
  match fnamed (ws.headD []) with
  | none => none
  | some f => if ws.length = f.os.length + 1 then
      match tellL f.os (ws.drop 1) (bare f, []) with
      | none => none
      | some c => if Sh c.1.n c.1.m then some c else none
    else none
def parseS (s : List UInt8) : Option (In × List UInt8) := parseW (Lib.split s [32])
abbrev Lbs := List (List UInt8 × Nat)
abbrev Cms := List (In × List UInt8 × Nat)
def isDef (s : List UInt8) : Bool := Lib.hasSuffix s [58] && isLab (Lib.trimSuffix s [58])
/-- the lines of a text, from one on: what is told so far -/
def readL : List (List UInt8) → Nat → Lbs → Cms → (Lbs × Cms) ⊕ (Nat × Int)
  | [], _, lb, cs => .inl (lb, cs)
  | s :: r, i, lb, cs =>
    if s = [] then readL r (i + 1) lb cs else
    if isDef s then (if (lb.lookup (Lib.trimSuffix s [58])).isSome then .inr (i + 1, 4) else readL r (i + 1) (lb ++ [(Lib.trimSuffix s [58], cs.length)]) cs) else
    match parseS s with
    | none => .inr (i + 1, 2)
    | some c => if 256 ≤ cs.length then .inr (i + 1, 6) else readL r (i + 1) lb (cs ++ [(c.1, c.2, i + 1)])
def progL (lb : Lbs) : Cms → List In → List In × Nat × Int
  | [], acc => (acc, 0, 0)
  | c :: cs, acc => if c.2.1 = [] then progL lb cs (acc ++ [c.1]) else
    match lb.lookup c.2.1 with
    | none => ([], c.2.2, 3)
    | some p => progL lb cs (acc ++ [{ c.1 with to := (p : Int) }])
def readP (t : List UInt8) : List In × Nat × Int :=
  if 65536 < t.length then ([], 0, 1) else
  match readL (Lib.split t [10]) 0 [] [] with
  | .inl (lb, cs) => progL lb cs []
  | .inr (i, e) => ([], i, e)
end Go.Proofs.YtndaccekemjdmaaGreatDoor
