/- Plain facts of events: no program is named here. -/
import Derived.Lib.AtoiAll
import Derived.Lib.ItoaNum
import Derived.Lib.Split
import Derived.Lib.SplitLaws
namespace Go.Proofs.YtklbamkafldagaaDoor
open Go
set_option linter.unusedVariables false
set_option linter.unusedSimpArgs false

/-- an event: whether it is a thread's, whose, the task's kind, whose that is, how often -/
structure Ev where
  th : Bool
  who : Int
  k : Int
  tw : Int
  n : Int
theorem Ev.ext_iff5 (x y : Ev) : x = y ↔ x.th = y.th ∧ x.who = y.who ∧ x.k = y.k ∧ x.tw = y.tw ∧ x.n = y.n := by
  constructor
  · rintro rfl; exact ⟨rfl, rfl, rfl, rfl, rfl⟩
  · obtain ⟨a, b, c, d, e⟩ := x
    obtain ⟨a', b', c', d', e'⟩ := y
    rintro ⟨h1, h2, h3, h4, h5⟩
    simp only at h1 h2 h3 h4 h5
    subst h1 h2 h3 h4 h5
    rfl
instance : DecidableEq Ev := fun x y => decidable_of_iff _ (Ev.ext_iff5 x y).symm
def ev0 : Ev := ⟨false, 0, 0, 0, 0⟩
instance : Inhabited Ev := ⟨ev0⟩
/-- the event once -/
def one (e : Ev) : Ev := { e with n := 1 }
def tms (e : Ev) (n : Int) : Ev := { e with n := n }
def tk (k tw : Int) : Ev := ⟨false, 0, k, tw, 1⟩
def thr (i : Int) : Ev := ⟨true, i, 0, 0, 1⟩
/-- all right events that happen once, as the program lists them -/
def sgl : List Ev := [thr 0, tk 2 0, thr 1, tk 2 1, thr 2, tk 2 2, thr 3, tk 2 3, tk 3 0, tk 3 1, tk 3 2, tk 3 3, tk 1 0, tk 4 0, tk 5 0, tk 6 0]
def okE (e : Ev) : Bool := decide (1 ≤ e.n) && decide (e.n ≤ 4096) && sgl.contains (one e)
def OkL (l : List Ev) : Prop := l.length ≤ 4096 ∧ ∀ e ∈ l, okE e = true
theorem one_one (e : Ev) : one (one e) = one e := rfl
theorem one_tms (e : Ev) (n : Int) : one (tms e n) = one e := rfl
theorem tms_n (e : Ev) : tms e e.n = e := rfl
theorem alike_iff (x y : Ev) : one x = one y ↔ x.th = y.th ∧ x.who = y.who ∧ x.k = y.k ∧ x.tw = y.tw := by
  rw [Ev.ext_iff5]
  simp [one]
/-- folding: what is told so far, and one more -/
def fold1 (l : List Ev) (e : Ev) : List Ev :=
  match l.getLast? with
  | none => [e]
  | some x => if one x = one e then
      if x.n + e.n ≤ 4096 then l.dropLast ++ [tms x (x.n + e.n)] else l.dropLast ++ [tms x 4096, tms e (x.n + e.n - 4096)]
    else l ++ [e]
def foldL (l : List Ev) : List Ev := l.foldl fold1 []
def stepsL (l : List Ev) : Int := l.foldl (fun s e => s + e.n) 0
/-- the steps of those that are alike to one of some -/
def stepsO (l of : List Ev) : Int := l.foldl (fun s e => if of = [] ∨ one e ∈ of.map one then s + e.n else s) 0
def spreadL (l : List Ev) : List Ev := l.flatMap fun e => List.replicate e.n.toNat (one e)
theorem fold1_nil (e : Ev) : fold1 [] e = [e] := rfl
theorem fold1_snoc (a : List Ev) (x e : Ev) : fold1 (a ++ [x]) e = if one x = one e then (if x.n + e.n ≤ 4096 then a ++ [tms x (x.n + e.n)] else a ++ [tms x 4096, tms e (x.n + e.n - 4096)]) else a ++ [x, e] := by
  unfold fold1
  simp
theorem foldL_nil : foldL [] = [] := rfl
theorem foldL_snoc (l : List Ev) (e : Ev) : foldL (l ++ [e]) = fold1 (foldL l) e := by
  unfold foldL
  rw [List.foldl_append]
  rfl
theorem nil_or_snoc (l : List Ev) : l = [] ∨ ∃ a x, l = a ++ [x] := by
  rcases List.eq_nil_or_concat l with h | ⟨a, x, h⟩
  · exact .inl h
  · exact .inr ⟨a, x, by simpa using h⟩
theorem snoc_rec {p : List Ev → Prop} (h0 : p []) (h1 : ∀ a x, p a → p (a ++ [x])) : ∀ l, p l := by
  intro l
  generalize hn : l.length = n
  induction n generalizing l with
  | zero =>
    obtain rfl : l = [] := List.eq_nil_of_length_eq_zero hn
    exact h0
  | succ n ih =>
    rcases nil_or_snoc l with rfl | ⟨a, x, rfl⟩
    · simp at hn
    · exact h1 a x (ih a (by simpa using hn))
theorem okE_iff (e : Ev) : okE e = true ↔ 1 ≤ e.n ∧ e.n ≤ 4096 ∧ one e ∈ sgl := by
  unfold okE
  simp only [Bool.and_eq_true, decide_eq_true_eq, List.contains_iff_mem]
  constructor
  · rintro ⟨⟨h1, h2⟩, h3⟩; exact ⟨h1, h2, h3⟩
  · rintro ⟨h1, h2, h3⟩; exact ⟨⟨h1, h2⟩, h3⟩
theorem okE_tms {e : Ev} (h : okE e = true) (n : Int) (h1 : 1 ≤ n) (h2 : n ≤ 4096) : okE (tms e n) = true := by
  rw [okE_iff] at h ⊢
  exact ⟨h1, h2, h.2.2⟩
theorem okE_like {x e : Ev} (h : one x = one e) (hx : okE x = true) (h1 : 1 ≤ e.n) (h2 : e.n ≤ 4096) : okE e = true := by
  rw [okE_iff] at hx ⊢
  exact ⟨h1, h2, h ▸ hx.2.2⟩
def OkA (l : List Ev) : Prop := ∀ e ∈ l, okE e = true
theorem OkA.fold1 {l : List Ev} {e : Ev} (h : OkA l) (he : okE e = true) : OkA (fold1 l e) := by
  rcases nil_or_snoc l with rfl | ⟨a, x, rfl⟩
  · intro y hy
    rw [fold1_nil, List.mem_singleton] at hy
    subst hy; exact he
  · have hx := h x (by simp)
    obtain ⟨x1, x2, _⟩ := (okE_iff x).1 hx
    obtain ⟨e1, e2, _⟩ := (okE_iff e).1 he
    rw [fold1_snoc]
    intro y hy
    split at hy
    · rename_i hl
      split at hy
      · rename_i hs
        rw [List.mem_append, List.mem_singleton] at hy
        rcases hy with hy | rfl
        · exact h y (by simp [hy])
        · exact okE_tms hx _ (by omega) hs
      · rename_i hs
        simp only [List.mem_append, List.mem_cons, List.not_mem_nil, or_false] at hy
        rcases hy with hy | rfl | rfl
        · exact h y (by simp [hy])
        · exact okE_tms hx _ (by omega) (by omega)
        · exact okE_tms he _ (by omega) (by omega)
    · simp only [List.mem_append, List.mem_cons, List.not_mem_nil, or_false] at hy
      rcases hy with hy | rfl | rfl
      · exact h y (by simp [hy])
      · exact hx
      · exact he
theorem OkA.left {a b : List Ev} (h : OkA (a ++ b)) : OkA a := fun e he => h e (by simp [he])
theorem OkA.last {a : List Ev} {x : Ev} (h : OkA (a ++ [x])) : okE x = true := h x (by simp)
theorem okA_foldL : ∀ {l : List Ev}, OkA l → OkA (foldL l) := fun {l} => by
  refine snoc_rec (p := fun l => OkA l → OkA (foldL l)) (fun h => by rw [foldL_nil]; exact h) (fun a x ih h => ?_) l
  rw [foldL_snoc]
  exact (ih h.left).fold1 h.last
theorem length_fold1 (l : List Ev) (e : Ev) : (fold1 l e).length ≤ l.length + 1 := by
  rcases nil_or_snoc l with rfl | ⟨a, x, rfl⟩
  · simp [fold1_nil]
  · rw [fold1_snoc]
    split
    · split <;> simp
    · simp
theorem length_foldL (l : List Ev) : (foldL l).length ≤ l.length := by
  refine snoc_rec (p := fun l => (foldL l).length ≤ l.length) (by simp [foldL_nil]) (fun a x ih => ?_) l
  rw [foldL_snoc, List.length_append, List.length_singleton]
  exact Nat.le_trans (length_fold1 _ _) (by omega)
theorem okL_foldL {l : List Ev} (h : OkL l) : OkL (foldL l) := ⟨Nat.le_trans (length_foldL l) h.1, okA_foldL h.2⟩
/-- of two neighbours that are alike the first one is full -/
def Folded (l : List Ev) : Prop := ∀ a x y b, l = a ++ x :: y :: b → one x = one y → x.n = 4096
theorem Folded.left {l : List Ev} {z : Ev} (h : Folded (l ++ [z])) : Folded l := fun a x y b e => h a x y (b ++ [z]) (by rw [e]; simp)
theorem folded_snoc {a : List Ev} {x y : Ev} : Folded (a ++ [x, y]) ↔ Folded (a ++ [x]) ∧ (one x = one y → x.n = 4096) := by
  constructor
  · intro h
    refine ⟨?_, h a x y [] rfl⟩
    have : a ++ [x, y] = (a ++ [x]) ++ [y] := by simp
    rw [this] at h
    exact h.left
  · rintro ⟨h1, h2⟩ a' x' y' b e hl
    rcases nil_or_snoc b with rfl | ⟨b', z, rfl⟩
    · have e2 : a ++ [x, y] = (a' ++ [x']) ++ [y'] := by simpa using e
      have e3 : (a ++ [x]) ++ [y] = (a' ++ [x']) ++ [y'] := by simpa using e2
      obtain ⟨e4, e5⟩ := List.append_inj' e3 rfl
      obtain ⟨_, e6⟩ := List.append_inj' e4 rfl
      simp only [List.cons.injEq, and_true] at e5 e6
      subst e5 e6
      exact h2 hl
    · have e3 : (a ++ [x]) ++ [y] = (a' ++ x' :: y' :: b') ++ [z] := by simpa using e
      obtain ⟨e4, _⟩ := List.append_inj' e3 rfl
      exact h1 a' x' y' b' e4 hl
theorem folded_nil : Folded [] := fun a x y b e => by simp at e
theorem folded_one (x : Ev) : Folded [x] := fun a x' y b e => by
  cases a with
  | nil => simp at e
  | cons z a => simp at e
theorem folded_tms {a : List Ev} {x : Ev} (n : Int) (h : Folded (a ++ [x])) : Folded (a ++ [tms x n]) := by
  rcases nil_or_snoc a with rfl | ⟨b, z, rfl⟩
  · exact folded_one _
  · rw [List.append_assoc] at h ⊢
    have h := folded_snoc.1 h
    exact folded_snoc.2 ⟨h.1, fun e => h.2 (by rwa [one_tms] at e)⟩
theorem Folded.fold1 {l : List Ev} {e : Ev} (h : Folded l) : Folded (fold1 l e) := by
  rcases nil_or_snoc l with rfl | ⟨a, x, rfl⟩
  · rw [fold1_nil]; exact folded_one _
  · rw [fold1_snoc]
    split
    · split
      · exact folded_tms _ h
      · exact folded_snoc.2 ⟨folded_tms _ h, fun _ => rfl⟩
    · rename_i hl
      exact folded_snoc.2 ⟨h, fun e => absurd e hl⟩
theorem folded_foldL (l : List Ev) : Folded (foldL l) := by
  refine snoc_rec (p := fun l => Folded (foldL l)) folded_nil (fun a x ih => ?_) l
  rw [foldL_snoc]
  exact ih.fold1
theorem fold1_folded {a : List Ev} {e : Ev} (h : Folded (a ++ [e])) (he : 1 ≤ e.n) : fold1 a e = a ++ [e] := by
  rcases nil_or_snoc a with rfl | ⟨b, x, rfl⟩
  · rfl
  · rw [List.append_assoc] at h ⊢
    have h2 := (folded_snoc.1 h).2
    rw [fold1_snoc]
    split
    · rename_i hl
      have h4 := h2 hl
      rw [if_neg (by omega), h4, show (4096 : Int) + e.n - 4096 = e.n by omega, tms_n, ← h4, tms_n]
      rfl
    · rfl
theorem foldL_folded : ∀ {l : List Ev}, Folded l → OkA l → foldL l = l := fun {l} => by
  refine snoc_rec (p := fun l => Folded l → OkA l → foldL l = l) (fun _ _ => rfl) (fun a x ih h ho => ?_) l
  rw [foldL_snoc, ih h.left ho.left]
  exact fold1_folded h ((okE_iff x).1 ho.last).1
/-- folded twice it is as folded once -/
theorem foldL_twice {l : List Ev} (h : OkA l) : foldL (foldL l) = foldL l := foldL_folded (folded_foldL l) (okA_foldL h)
theorem stepsL_snoc (l : List Ev) (e : Ev) : stepsL (l ++ [e]) = stepsL l + e.n := by
  unfold stepsL
  rw [List.foldl_append]
  rfl
theorem stepsL_nil : stepsL [] = 0 := rfl
theorem stepsL_fold1 (l : List Ev) (e : Ev) : stepsL (fold1 l e) = stepsL l + e.n := by
  rcases nil_or_snoc l with rfl | ⟨a, x, rfl⟩
  · rw [fold1_nil, ← List.nil_append [e], stepsL_snoc]
  · rw [fold1_snoc, stepsL_snoc]
    split
    · split
      · rw [stepsL_snoc]
        show _ + (x.n + e.n) = _
        omega
      · rw [show a ++ [tms x 4096, tms e (x.n + e.n - 4096)] = (a ++ [tms x 4096]) ++ [tms e (x.n + e.n - 4096)] by simp, stepsL_snoc, stepsL_snoc]
        show _ + (4096 : Int) + (x.n + e.n - 4096) = _
        omega
    · rw [show a ++ [x, e] = (a ++ [x]) ++ [e] by simp, stepsL_snoc, stepsL_snoc]
theorem stepsL_foldL (l : List Ev) : stepsL (foldL l) = stepsL l := by
  refine snoc_rec (p := fun l => stepsL (foldL l) = stepsL l) rfl (fun a x ih => ?_) l
  rw [foldL_snoc, stepsL_fold1, stepsL_snoc, ih]
/-- whether an event is asked for -/
def askd (of : List Ev) (e : Ev) : Bool := decide (of = [] ∨ one e ∈ of.map one)
theorem askd_like (of : List Ev) {x e : Ev} (h : one x = one e) : askd of x = askd of e := by unfold askd; rw [h]
theorem stepsO_snoc (l of : List Ev) (e : Ev) : stepsO (l ++ [e]) of = if askd of e then stepsO l of + e.n else stepsO l of := by
  unfold stepsO askd
  rw [List.foldl_append]
  simp
theorem stepsO_nil (of : List Ev) : stepsO [] of = 0 := rfl
theorem stepsO_all (l : List Ev) : stepsO l [] = stepsL l := by
  refine snoc_rec (p := fun l => stepsO l [] = stepsL l) rfl (fun a x ih => ?_) l
  rw [stepsO_snoc, stepsL_snoc, ih]
  simp [askd]
theorem stepsO_fold1 (l of : List Ev) (e : Ev) : stepsO (fold1 l e) of = if askd of e then stepsO l of + e.n else stepsO l of := by
  rcases nil_or_snoc l with rfl | ⟨a, x, rfl⟩
  · rw [fold1_nil, ← List.nil_append [e], stepsO_snoc]
  · rw [fold1_snoc, stepsO_snoc]
    split
    · rename_i hl
      have hx := askd_like of hl
      have h1 : askd of (tms x (x.n + e.n)) = askd of e := askd_like of (by rw [one_tms]; exact hl)
      have h2 : askd of (tms x 4096) = askd of e := askd_like of (by rw [one_tms]; exact hl)
      have h3 : askd of (tms e (x.n + e.n - 4096)) = askd of e := askd_like of (one_tms _ _)
      split
      · rw [stepsO_snoc, h1, hx]
        split
        · show _ + (x.n + e.n) = _
          omega
        · rfl
      · rw [show a ++ [tms x 4096, tms e (x.n + e.n - 4096)] = (a ++ [tms x 4096]) ++ [tms e (x.n + e.n - 4096)] by simp, stepsO_snoc, stepsO_snoc, h2, h3, hx]
        split
        · show _ + (4096 : Int) + (x.n + e.n - 4096) = _
          omega
        · rfl
    · rw [show a ++ [x, e] = (a ++ [x]) ++ [e] by simp, stepsO_snoc, stepsO_snoc]
theorem stepsO_foldL (l of : List Ev) : stepsO (foldL l) of = stepsO l of := by
  refine snoc_rec (p := fun l => stepsO (foldL l) of = stepsO l of) rfl (fun a x ih => ?_) l
  rw [foldL_snoc, stepsO_fold1, stepsO_snoc, ih]
/-- of right events there are no more steps than 4096 times as many -/
theorem stepsL_le {l : List Ev} (h : OkA l) : 0 ≤ stepsL l ∧ stepsL l ≤ 4096 * l.length := by
  revert h
  refine snoc_rec (p := fun l => OkA l → 0 ≤ stepsL l ∧ stepsL l ≤ 4096 * l.length) (fun _ => by simp [stepsL_nil]) (fun a x ih h => ?_) l
  have h1 := ih h.left
  obtain ⟨x1, x2, _⟩ := (okE_iff x).1 h.last
  rw [stepsL_snoc, List.length_append, List.length_singleton]
  omega
theorem stepsO_le {l : List Ev} (of : List Ev) (h : OkA l) : 0 ≤ stepsO l of ∧ stepsO l of ≤ 4096 * l.length := by
  revert h
  refine snoc_rec (p := fun l => OkA l → 0 ≤ stepsO l of ∧ stepsO l of ≤ 4096 * l.length) (fun _ => by simp [stepsO_nil]) (fun a x ih h => ?_) l
  have h1 := ih h.left
  obtain ⟨x1, x2, _⟩ := (okE_iff x).1 h.last
  rw [stepsO_snoc, List.length_append, List.length_singleton]
  split <;> omega
/-- the same event some times, folded -/
theorem foldl_rep {e : Ev} (out : List Ev) (ho : OkA out) : ∀ m : Nat, 1 ≤ m → m ≤ 4096 → (List.replicate m (one e)).foldl fold1 out = fold1 out (tms e m)
  | 0, h, _ => by omega
  | 1, _, _ => rfl
  | m + 2, _, h => by
    rw [List.replicate_succ', List.foldl_append, foldl_rep out ho (m + 1) (by omega) (by omega)]
    show fold1 (fold1 out (tms e ((m + 1 : Nat) : Int))) (one e) = _
    have em : ((m + 2 : Nat) : Int) = ((m + 1 : Nat) : Int) + 1 := by omega
    rw [em]
    have hm : ((m + 1 : Nat) : Int) + 1 ≤ 4096 := by omega
    generalize ((m + 1 : Nat) : Int) = M at hm
    have hM : (tms e M).n = M := rfl
    have hM1 : (tms e (M + 1)).n = M + 1 := rfl
    have hO : (one e).n = 1 := rfl
    rcases nil_or_snoc out with rfl | ⟨a, x, rfl⟩
    · rw [fold1_nil, fold1_nil, ← List.nil_append [tms e M], fold1_snoc, if_pos (show one (tms e M) = one (one e) from rfl), hM, hO, if_pos hm]
      rfl
    · obtain ⟨x1, x2, _⟩ := (okE_iff x).1 ho.last
      by_cases hl : one x = one e
      · rw [fold1_snoc a x (tms e M), if_pos (show one x = one (tms e M) from hl), fold1_snoc a x (tms e (M + 1)), if_pos (show one x = one (tms e (M + 1)) from hl), hM, hM1]
        by_cases h1 : x.n + M ≤ 4096
        · have hN : (tms x (x.n + M)).n = x.n + M := rfl
          rw [if_pos h1, fold1_snoc, if_pos (show one (tms x (x.n + M)) = one (one e) from hl), hN, hO]
          by_cases h2 : x.n + M + 1 ≤ 4096
          · rw [if_pos h2, if_pos (by omega)]
            show a ++ [tms x (x.n + M + 1)] = _
            rw [show x.n + M + 1 = x.n + (M + 1) by omega]
          · rw [if_neg h2, if_neg (by omega), show x.n + M + 1 - 4096 = x.n + (M + 1) - 4096 by omega]
            rfl
        · have hN : (tms e (x.n + M - 4096)).n = x.n + M - 4096 := rfl
          have e9 : a ++ [tms x 4096, tms (tms e M) (x.n + M - 4096)] = (a ++ [tms x 4096]) ++ [tms e (x.n + M - 4096)] := by
            rw [List.append_assoc]; rfl
          rw [if_neg h1, if_neg (by omega), e9, fold1_snoc, if_pos (show one (tms e (x.n + M - 4096)) = one (one e) from rfl), hN, hO, if_pos (by omega), show x.n + M - 4096 + 1 = x.n + (M + 1) - 4096 by omega, List.append_assoc]
          rfl
      · have e9 : a ++ [x, tms e M] = (a ++ [x]) ++ [tms e M] := by rw [List.append_assoc]; rfl
        rw [fold1_snoc a x (tms e M), if_neg (show ¬ one x = one (tms e M) from hl), fold1_snoc a x (tms e (M + 1)), if_neg (show ¬ one x = one (tms e (M + 1)) from hl), e9, fold1_snoc, if_pos (show one (tms e M) = one (one e) from rfl), hM, hO, if_pos hm, List.append_assoc]
        rfl
theorem spreadL_snoc (l : List Ev) (e : Ev) : spreadL (l ++ [e]) = spreadL l ++ List.replicate e.n.toNat (one e) := by
  unfold spreadL
  rw [List.flatMap_append]
  simp
/-- spread and folded it is as folded -/
theorem foldL_spread {l : List Ev} (h : OkA l) : foldL (spreadL l) = foldL l := by
  revert h
  refine snoc_rec (p := fun l => OkA l → foldL (spreadL l) = foldL l) (fun _ => rfl) (fun a x ih h => ?_) l
  obtain ⟨x1, x2, _⟩ := (okE_iff x).1 h.last
  rw [spreadL_snoc, foldL_snoc, ← ih h.left]
  have hb : OkA (foldL (spreadL a)) := by rw [ih h.left]; exact okA_foldL h.left
  have := foldl_rep (e := x) (foldL (spreadL a)) hb x.n.toNat (by omega) (by omega)
  unfold foldL at this ⊢
  rw [List.foldl_append, this, show ((x.n.toNat : Nat) : Int) = x.n by omega, tms_n]
theorem length_spread {l : List Ev} (h : OkA l) : ((spreadL l).length : Int) = stepsL l := by
  revert h
  refine snoc_rec (p := fun l => OkA l → ((spreadL l).length : Int) = stepsL l) (fun _ => rfl) (fun a x ih h => ?_) l
  obtain ⟨x1, x2, _⟩ := (okE_iff x).1 h.last
  rw [spreadL_snoc, stepsL_snoc, List.length_append, List.length_replicate, ← ih h.left]
  omega
theorem okA_spread {l : List Ev} (h : OkA l) : OkA (spreadL l) := by
  revert h
  refine snoc_rec (p := fun l => OkA l → OkA (spreadL l)) (fun h => h) (fun a x ih h => ?_) l
  rw [spreadL_snoc]
  intro y hy
  rw [List.mem_append] at hy
  rcases hy with hy | hy
  · exact ih h.left y hy
  · obtain ⟨_, rfl⟩ := List.mem_replicate.1 hy
    exact okE_tms h.last 1 (by omega) (by omega)
end Go.Proofs.YtklbamkafldagaaDoor
