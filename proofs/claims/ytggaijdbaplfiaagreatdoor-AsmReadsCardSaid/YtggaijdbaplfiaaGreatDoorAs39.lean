/- Plain facts: the labels and lines that the document asks for are the program's. -/
import Derived.Test.YtggaijdbaplfiaaGreatDoorAs38
namespace Go.Proofs.YtggaijdbaplfiaaGreatDoor
open Go
set_option linter.unusedVariables false
set_option linter.unusedSimpArgs false
def jumpsD (x : In) : Bool := (hasF (formD x.kd x.op)).contains 116
/-- someone goes on there -/
def isG (l : List In) (p : Int) : Bool := l.any fun x => jumpsD x && x.to == p
def cntG (l : List In) (k : Nat) : Nat := (List.range k).countP fun (i : Nat) => isG l (i : Int)
def lbD (l : List In) (p : Nat) : List UInt8 := if isG l (p : Int) then 76 :: digs (cntG l p) else []
theorem OkI.form {x : In} {c : Int} (h : OkI c x) : ∃ f, formOf x = some f ∧ f ∈ fms ∧ formD x.kd x.op = f := by
  obtain ⟨f, hf, _⟩ := h
  have hfm := List.mem_of_find?_eq_some hf
  have hp := List.find?_some hf
  simp only [Bool.and_eq_true, beq_iff_eq] at hp
  exact ⟨f, hf, hfm, by rw [← hp.1, ← hp.2]; exact fms_formD f hfm⟩
theorem jumpsD_eq {x : In} {c : Int} (h : OkI c x) : jumpsD x = jumpsI x := by
  obtain ⟨f, hf, hfm, hd⟩ := OkI.form h
  unfold jumpsD jumpsI
  rw [hd, hf]
  exact (fms_let f hfm).2.2.2.2.2.2.2.2
theorem isG_eq {l : List In} {c : Int} (h : ∀ x ∈ l, OkI c x) (p : Int) : isG l p = (goalsL l).contains p := by
  rw [Bool.eq_iff_iff, List.contains_iff_mem, goalsL_mem]
  unfold isG tosL
  simp only [List.any_eq_true, Bool.and_eq_true, beq_iff_eq, List.mem_map, List.mem_filter]
  constructor
  · rintro ⟨x, hx, h1, h2⟩
    exact ⟨x, ⟨hx, by rw [← jumpsD_eq (h x hx)]; exact h1⟩, h2⟩
  · rintro ⟨x, ⟨hx, h1⟩, h2⟩
    exact ⟨x, hx, by rw [jumpsD_eq (h x hx)]; exact h1, h2⟩
theorem countP_next (g : List Int) (hg : g.Pairwise (· < ·)) (k : Int) : g.countP (fun x => decide (x < k + 1)) = g.countP (fun x => decide (x < k)) + if g.contains k then 1 else 0 := by
  induction g with
  | nil => simp
  | cons x t ih =>
    rw [List.pairwise_cons] at hg
    have ih := ih hg.2
    have hx := hg.1
    rw [List.countP_cons, List.countP_cons, ih, List.contains_cons]
    rcases Int.lt_trichotomy x k with h | h | h
    · have e1 : decide (x < k + 1) = true := decide_eq_true (by omega)
      have e2 : decide (x < k) = true := decide_eq_true h
      have e3 : (k == x) = false := by simp; omega
      rw [e1, e2, e3, Bool.false_or]
      simp only [if_true]
      omega
    · subst h
      have e1 : decide (x < x + 1) = true := decide_eq_true (by omega)
      have e2 : decide (x < x) = false := decide_eq_false (by omega)
      have e3 : t.contains x = false := by
        cases hc : t.contains x with
        | false => rfl
        | true => exact absurd (hx x (List.contains_iff_mem.1 hc)) (by omega)
      rw [e1, e2, e3]
      simp
    · have e1 : decide (x < k + 1) = false := decide_eq_false (by omega)
      have e2 : decide (x < k) = false := decide_eq_false (by omega)
      have e3 : (k == x) = false := by simp; omega
      rw [e1, e2, e3]
      simp
theorem countP_cnt (g : List Int) (hg : g.Pairwise (· < ·)) (h0 : ∀ x ∈ g, 0 ≤ x) : ∀ k : Nat, g.countP (fun x => decide (x < (k : Int))) = (List.range k).countP fun (i : Nat) => g.contains (i : Int)
  | 0 => by
    rw [List.range_zero, List.countP_nil, List.countP_eq_zero]
    intro x hx
    have := h0 x hx
    simp
    omega
  | k + 1 => by
    rw [List.range_succ, List.countP_append, ← countP_cnt g hg h0 k, List.countP_singleton]
    have := countP_next g hg k
    rw [show ((k + 1 : Nat) : Int) = (k : Int) + 1 from rfl, this]
theorem lbD_eq {l : List In} (h : OkP l) (p : Nat) : lbD l p = labG (goalsL l) (p : Int) := by
  unfold lbD labG
  rw [isG_eq h.2]
  have hc : cntG l p = (goalsL l).countP (fun x => decide (x < (p : Int))) := by
    rw [countP_cnt _ (goalsL_lt l) ?_ p]
    · unfold cntG
      congr 1
      funext i
      exact isG_eq h.2 _
    · intro x hx
      rw [goalsL_mem] at hx
      simp only [tosL, List.mem_map, List.mem_filter] at hx
      obtain ⟨y, ⟨hy, _⟩, rfl⟩ := hx
      exact ((h.2 y hy).get (by omega) 9 (by omega) (by omega)).1
  rw [hc]
/-- a letter's words -/
def pieceD (x : In) (lb : List UInt8) (c : UInt8) : List UInt8 :=
  if c = 65 then 32 :: 114 :: digs x.a.toNat else if c = 66 then 32 :: 114 :: digs x.b.toNat else
  if c = 97 then 32 :: 114 :: digs x.oa.toNat else if c = 98 then 32 :: 114 :: digs x.ob.toNat else
  if c = 102 then 32 :: digs x.fd.toNat else if c = 115 then 32 :: digs x.n.toNat ++ 32 :: digs x.m else
  if c = 119 then 32 :: digs x.w else if c = 116 then 32 :: lb else []
def lineD (f : Fm) (x : In) (lb : List UInt8) : List UInt8 := f.nm ++ (hasF f).flatMap (pieceD x lb)
theorem lineD_eq (x : In) (lb : List UInt8) : ∀ f ∈ fms, lineD f x lb = Lib.join (lineW f x lb) [32] := by
  intro f hf
  unfold lineW
  rw [Lib.join_cons]
  simp only [fms, List.mem_cons, List.not_mem_nil, or_false] at hf
  rcases hf with rfl | rfl | rfl | rfl | rfl | rfl | rfl | rfl | rfl | rfl | rfl | rfl | rfl | rfl | rfl | rfl | rfl | rfl | rfl | rfl <;> simp [lineD, hasF, Lib.joinTail, pieceD, letO, wordO, isR, getO]
theorem lineD_I {x : In} {c : Int} (h : OkI c x) (lb : List UInt8) : lineD (formD x.kd x.op) x lb = lineI x lb := by
  obtain ⟨f, hf, hfm, hd⟩ := OkI.form h
  unfold lineI
  rw [hd, hf]
  exact lineD_eq x lb f hfm
def letters : List UInt8 := [65, 66, 97, 98, 102, 115, 119, 116]
theorem fms_letters : ∀ f ∈ fms, ∀ c ∈ hasF f, c ∈ letters := by decide
theorem hasD_letters (k o : Int) : ∀ c ∈ hasF (formD k o), c ∈ letters := by
  unfold formD
  cases h : fms.find? fun f => f.kd == k && (k != 1 || f.op == o) with
  | none => intro c hc; simp [hasF, fm0] at hc
  | some f => exact fms_letters f (List.mem_of_find?_eq_some h)
end Go.Proofs.YtggaijdbaplfiaaGreatDoor
