/- Plain facts of events' text: no program is named here. -/
import Derived.Test.YtklbamkafldagaaDoorSe0
import Derived.Lib.CutLaws
namespace Go.Proofs.YtklbamkafldagaaDoor
open Go
set_option linter.unusedVariables false
set_option linter.unusedSimpArgs false

def digF : Nat → Nat → List UInt8
  | 0, _ => []
  | f + 1, u => if u < 10 then [UInt8.ofNat (48 + u)] else digF f (u / 10) ++ [UInt8.ofNat (48 + u % 10)]
/-- the digits of a number -/
def digs (u : Nat) : List UInt8 := digF 20 u
theorem digF_eq : ∀ (f u : Nat), 1 ≤ f → u < 10 ^ f → Lib.decDigits u = digF f u
  | 0, u, h, _ => by omega
  | f + 1, u, _, h => by
    rw [Lib.decDigits, digF]
    by_cases hu : u < 10
    · rw [dif_pos hu, if_pos hu]
    · rw [dif_neg hu, if_neg hu]
      rw [Nat.pow_succ] at h
      have hf : 1 ≤ f := by
        rcases Nat.eq_zero_or_pos f with rfl | h1
        · simp at h; omega
        · exact h1
      rw [digF_eq f (u / 10) hf (by omega)]
theorem digs_eq (u : Nat) (h : u < 18446744073709551616) : Lib.decDigits u = digs u := digF_eq 20 u (by omega) (Nat.lt_trans h (by decide))
theorem itoa_eq (n : Int) (h0 : 0 ≤ n) (h : n < 18446744073709551616) : Lib.itoa n = digs n.toNat := by
  unfold Lib.itoa
  rw [if_neg (by omega), digs_eq _ (by omega)]
theorem digF_range : ∀ (f u : Nat) (c : UInt8), c ∈ digF f u → 48 ≤ c.toNat ∧ c.toNat ≤ 57
  | 0, u, c, h => by simp [digF] at h
  | f + 1, u, c, h => by
    rw [digF] at h
    split at h
    · rename_i hu
      rw [List.mem_singleton] at h
      subst h
      simp
      omega
    · rw [List.mem_append, List.mem_singleton] at h
      rcases h with h | rfl
      · exact digF_range f _ c h
      · simp
        omega
theorem digF_len : ∀ (f u : Nat), (digF f u).length ≤ f
  | 0, u => by simp [digF]
  | f + 1, u => by
    rw [digF]
    split
    · simp
    · have := digF_len f (u / 10)
      simp
      omega
def star : List UInt8 := [32, 42, 32]
/-- an event's name -/
def nmE (e : Ev) : List UInt8 :=
  if e.th then 116 :: digs e.who.toNat else
  if e.k = 1 then [115, 116, 97, 114, 116] else
  if e.k = 2 then [115, 99, 97, 110, 32] ++ digs e.tw.toNat else
  if e.k = 3 then [119, 111, 114, 107, 32] ++ digs e.tw.toNat else
  if e.k = 4 then [102, 105, 110, 105, 115, 104] else
  if e.k = 5 then [115, 119, 101, 101, 112] else [114, 117, 110]
def lineE (e : Ev) : List UInt8 := if e.n = 1 then nmE e else nmE e ++ star ++ digs e.n.toNat
def look (s : List UInt8) : Option Ev := sgl.reverse.find? fun e => nmE e == s
def timesE (d : List UInt8) : Option Int :=
  match Lib.atoiAll d with
  | .ok n => if 1 < n ∧ n ≤ 4096 ∧ digs n.toNat = d then some n else none
  | _ => none
def read1 (s : List UInt8) : Option Ev :=
  match look (Lib.cut s star).1 with
  | none => none
  | some e => if (Lib.cut s star).2.2 then (timesE (Lib.cut s star).2.1).map (tms e) else some e
def readL : List (List UInt8) → Nat → List Ev → List Ev × Nat × Int
  | [], _, acc => (acc, 0, 0)
  | s :: r, i, acc =>
    if s = [] then readL r (i + 1) acc else
    match read1 s with
    | none => ([], i + 1, 2)
    | some e => if 4096 ≤ acc.length then ([], i + 1, 6) else readL r (i + 1) (acc ++ [e])
def readT (t : List UInt8) : List Ev × Nat × Int := if 65536 < t.length then ([], 0, 1) else readL (Lib.split t [10]) 0 []
def printL (l : List Ev) : List UInt8 := l.flatMap fun e => lineE e ++ [10]
theorem nmE_one (e : Ev) : nmE (one e) = nmE e := rfl
theorem nmE_tms (e : Ev) (n : Int) : nmE (tms e n) = nmE e := rfl
theorem sgl_plain : ∀ e ∈ sgl, (10 : UInt8) ∉ nmE e ∧ (42 : UInt8) ∉ nmE e ∧ nmE e ≠ [] ∧ look (nmE e) = some e ∧ (nmE e).length ≤ 6 := by decide +kernel
theorem times_digs2 : ∀ a : Fin 65, ∀ b : Fin 64, 2 ≤ a.val * 64 + b.val → a.val * 64 + b.val ≤ 4096 → timesE (digs (a.val * 64 + b.val)) = some ((a.val * 64 + b.val : Nat) : Int) := by decide +kernel
theorem times_digs (n : Nat) (h1 : 2 ≤ n) (h2 : n ≤ 4096) : timesE (digs n) = some (n : Int) := by
  have := times_digs2 ⟨n / 64, by omega⟩ ⟨n % 64, by omega⟩
  simp only at this
  rw [show n / 64 * 64 + n % 64 = n by omega] at this
  exact this h1 h2
theorem okE_name {e : Ev} (h : okE e = true) : (10 : UInt8) ∉ nmE e ∧ (42 : UInt8) ∉ nmE e ∧ nmE e ≠ [] ∧ look (nmE e) = some (one e) ∧ (nmE e).length ≤ 6 := by
  have := sgl_plain (one e) ((okE_iff e).1 h).2.2
  rwa [nmE_one] at this
theorem okE_line {e : Ev} (h : okE e = true) : (10 : UInt8) ∉ lineE e ∧ lineE e ≠ [] ∧ (lineE e).length ≤ 29 := by
  obtain ⟨h1, h2, h3, _, h5⟩ := okE_name h
  unfold lineE
  split
  · exact ⟨h1, h3, by omega⟩
  · refine ⟨?_, by simp [h3], ?_⟩
    · intro hc
      simp only [List.mem_append] at hc
      rcases hc with (hc | hc) | hc
      · exact h1 hc
      · revert hc; decide
      · have := (digF_range _ _ _ hc).1
        revert this; decide
    · have := digF_len 20 e.n.toNat
      simp only [List.length_append, star, List.length_cons, List.length_nil]
      unfold digs
      omega
theorem occ_one (s : List UInt8) (c : UInt8) (i : Nat) : Lib.occAt s [c] i = decide (s[i]? = some c) := by
  unfold Lib.occAt
  rw [Bool.eq_iff_iff]
  rw [decide_eq_true_eq, List.getElem?_eq_some_iff]
  cases hd : s.drop i with
  | nil =>
    have : s.length ≤ i := by simpa using hd
    simp
    omega
  | cons x t =>
    have hl : i < s.length := by
      have := congrArg List.length hd
      simp at this
      omega
    have hx : s[i] = x := by
      have := congrArg (fun l => l[0]?) hd
      simpa [hl] using this
    simp [hl, hx]
    exact ⟨Eq.symm, Eq.symm⟩
theorem index_one_hit (a r : List UInt8) (c : UInt8) (h : c ∉ a) : Lib.index (a ++ c :: r) [c] = (a.length : Int) := by
  refine Lib.index_first (by simp) ?_ ?_
  · rw [occ_one]; simp
  · intro j hj
    rw [occ_one, decide_eq_false_iff_not, List.getElem?_append_left hj, List.getElem?_eq_getElem hj]
    intro e
    injection e with e
    exact h (e ▸ List.getElem_mem hj)
theorem index_one_miss (a : List UInt8) (c : UInt8) (h : c ∉ a) : Lib.index a [c] = -1 := by
  refine Lib.index_none fun j hj => ?_
  rw [occ_one, decide_eq_false_iff_not]
  intro e
  exact h (List.mem_of_getElem? e)
theorem split_miss (a : List UInt8) (c : UInt8) (h : c ∉ a) : Lib.split a [c] = [a] := by
  unfold Lib.split
  rw [Lib.count_miss (index_one_miss a c h)]
  rfl
theorem split_hit (a r : List UInt8) (c : UInt8) (h : c ∉ a) : Lib.split (a ++ c :: r) [c] = a :: Lib.split r [c] := by
  have hi := index_one_hit a r c h
  unfold Lib.split
  rw [Lib.count_hit (by simp) hi, Nat.add_comm, Lib.splitK, if_neg (by rw [hi, beq_iff_eq]; omega), hi]
  simp [List.take_left', List.drop_left']
theorem star_occ (s : List UInt8) (i : Nat) (h : Lib.occAt s star i = true) : s[i + 1]? = some 42 := by
  unfold Lib.occAt at h
  obtain ⟨t, ht⟩ := List.isPrefixOf_iff_prefix.1 h
  have := congrArg (fun l => l[1]?) ht
  simpa [star] using this.symm
theorem cut_miss (a : List UInt8) (h : (42 : UInt8) ∉ a) : Lib.cut a star = (a, [], false) := by
  have hi : Lib.index a star = -1 := Lib.index_none fun j hj => by
    rw [Bool.eq_false_iff]
    intro ho
    exact h (List.mem_of_getElem? (star_occ a j ho))
  unfold Lib.cut
  rw [hi, if_neg (by omega)]
theorem cut_hit (a d : List UInt8) (h : (42 : UInt8) ∉ a) : Lib.cut (a ++ star ++ d) star = (a, d, true) := by
  have hi : Lib.index (a ++ star ++ d) star = (a.length : Int) := Lib.index_first (by simp) (by
    unfold Lib.occAt
    rw [List.append_assoc, List.drop_left', List.isPrefixOf_iff_prefix]
    · exact List.prefix_append _ _
    · rfl) (fun j hj => by
    rw [Bool.eq_false_iff]
    intro ho
    have h1 := star_occ _ j ho
    by_cases hj1 : j + 1 < a.length
    · rw [List.append_assoc, List.getElem?_append_left hj1] at h1
      exact h (List.mem_of_getElem? h1)
    · have e : j + 1 = a.length := by omega
      rw [List.append_assoc, List.getElem?_append_right (by omega), e, Nat.sub_self] at h1
      simp [star] at h1)
  unfold Lib.cut
  rw [hi, if_pos (by omega)]
  simp [star]
/-- an event's line is read as it -/
theorem read1_line {e : Ev} (h : okE e = true) : read1 (lineE e) = some e := by
  obtain ⟨h1, h2, h3, h4, _⟩ := okE_name h
  obtain ⟨e1, e2, _⟩ := (okE_iff e).1 h
  by_cases hn : e.n = 1
  · have hl : lineE e = nmE e := by unfold lineE; rw [if_pos hn]
    have : one e = e := by rw [← tms_n e, hn]; rfl
    rw [hl]
    unfold read1
    rw [cut_miss _ h2]
    simp only [h4]
    simp [this]
  · have hl : lineE e = nmE e ++ star ++ digs e.n.toNat := by unfold lineE; rw [if_neg hn]
    have ht := times_digs e.n.toNat (by omega) (by omega)
    rw [hl]
    unfold read1
    rw [cut_hit _ _ h2]
    simp only [h4]
    rw [ht, show ((e.n.toNat : Nat) : Int) = e.n by omega]
    rfl
theorem split_print (l : List Ev) (h : OkA l) : Lib.split (printL l) [10] = l.map lineE ++ [[]] := by
  induction l with
  | nil => rfl
  | cons e l ih =>
    have he := h e (by simp)
    have hp : printL (e :: l) = lineE e ++ 10 :: printL l := by simp [printL]
    rw [hp, split_hit _ _ _ (okE_line he).1, ih (fun x hx => h x (by simp [hx]))]
    rfl
theorem readL_lines (l : List Ev) : ∀ (i : Nat) (acc : List Ev), OkA l → acc.length + l.length ≤ 4096 → readL (l.map lineE ++ [[]]) i acc = (acc ++ l, 0, 0) := by
  induction l with
  | nil =>
    intro i acc _ _
    simp [readL]
  | cons e l ih =>
    intro i acc h hl
    have he := h e (by simp)
    simp only [List.length_cons] at hl
    rw [List.map_cons, List.cons_append, readL, if_neg (okE_line he).2.1, read1_line he]
    simp only
    rw [if_neg (by omega), ih _ _ (fun x hx => h x (by simp [hx])) (by simp; omega)]
    simp
/-- events' text is read as them -/
theorem readT_print {l : List Ev} (h : OkL l) (hp : (printL l).length ≤ 65536) : readT (printL l) = (l, 0, 0) := by
  unfold readT
  rw [if_neg (by omega), split_print l h.2, readL_lines l 0 [] h.2 (by simpa using h.1)]
  simp
theorem look_sgl {s : List UInt8} {e : Ev} (h : look s = some e) : e ∈ sgl ∧ nmE e = s := by
  unfold look at h
  have h1 := List.find?_some h
  exact ⟨List.mem_reverse.1 (List.mem_of_find?_eq_some h), by simpa using h1⟩
theorem sgl_ok : ∀ e ∈ sgl, okE e = true ∧ e.n = 1 := by decide +kernel
theorem timesE_in {d : List UInt8} {n : Int} (h : timesE d = some n) : 1 < n ∧ n ≤ 4096 ∧ digs n.toNat = d := by
  unfold timesE at h
  split at h
  · split at h
    · rename_i hc
      injection h with h
      subst h
      exact hc
    · cases h
  · cases h
theorem read1_ok {s : List UInt8} {e : Ev} (h : read1 s = some e) : okE e = true := by
  unfold read1 at h
  split at h
  · cases h
  · rename_i x hx
    have hs := sgl_ok x (look_sgl hx).1
    split at h
    · rw [Option.map_eq_some_iff] at h
      obtain ⟨n, hn, rfl⟩ := h
      obtain ⟨n1, n2, _⟩ := timesE_in hn
      exact okE_tms hs.1 n (by omega) n2
    · injection h with h
      subst h
      exact hs.1
theorem readL_ok : ∀ (r : List (List UInt8)) (i : Nat) (acc : List Ev), OkL acc → (∃ m, readL r i acc = (m, 0, 0) ∧ OkL m) ∨ (∃ k, readL r i acc = ([], k + 1, 2)) ∨ (∃ k, readL r i acc = ([], k + 1, 6))
  | [], i, acc, h => .inl ⟨acc, rfl, h⟩
  | s :: r, i, acc, h => by
    rw [readL]
    split
    · exact readL_ok r (i + 1) acc h
    · cases h1 : read1 s with
      | none => exact .inr (.inl ⟨i, rfl⟩)
      | some e =>
        simp only
        split
        · exact .inr (.inr ⟨i, rfl⟩)
        · rename_i hl
          refine readL_ok r (i + 1) _ ⟨by simp; omega, fun x hx => ?_⟩
          rw [List.mem_append, List.mem_singleton] at hx
          rcases hx with hx | rfl
          · exact h.2 x hx
          · exact read1_ok h1
theorem readT_ok (t : List UInt8) : (∃ m, readT t = (m, 0, 0) ∧ OkL m) ∨ (∃ k, readT t = ([], k + 1, 2)) ∨ (∃ k, readT t = ([], k + 1, 6)) ∨ readT t = ([], 0, 1) := by
  unfold readT
  split
  · exact .inr (.inr (.inr rfl))
  · rcases readL_ok (Lib.split t [10]) 0 [] ⟨by simp, fun x hx => by simp at hx⟩ with h | h | h
    · exact .inl h
    · exact .inr (.inl h)
    · exact .inr (.inr (.inl h))
end Go.Proofs.YtklbamkafldagaaDoor
