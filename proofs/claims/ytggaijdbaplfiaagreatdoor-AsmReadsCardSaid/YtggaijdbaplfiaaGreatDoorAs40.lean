/- Plain facts: what the document reads is what the program reads. -/
import Derived.Test.YtggaijdbaplfiaaGreatDoorAs39
import Derived.Test.YtggaijdbaplfiaaGreatDoorAs37
namespace Go.Proofs.YtggaijdbaplfiaaGreatDoor
open Go
set_option linter.unusedVariables false
set_option linter.unusedSimpArgs false
/-- words between one byte, cur being begun -/
def wordsD (c : UInt8) : List UInt8 → List UInt8 → List (List UInt8)
  | cur, [] => [cur]
  | cur, x :: r => if x = c then cur :: wordsD c [] r else wordsD c (cur ++ [x]) r
theorem wordsD_split (c : UInt8) : ∀ (s cur : List UInt8), c ∉ cur → wordsD c cur s = Lib.split (cur ++ s) [c]
  | [], cur, h => by rw [wordsD, List.append_nil, split_miss cur c h]
  | x :: r, cur, h => by
    rw [wordsD]
    by_cases e : x = c
    · rw [if_pos e, wordsD_split c r [] (by simp), List.nil_append, e, split_hit cur r c h]
    · rw [if_neg e, wordsD_split c r (cur ++ [x]) (by simp [h]; exact fun h => e h.symm), List.append_assoc]
      rfl
theorem wordsD_at (c : UInt8) (cur s : List UInt8) (k : Nat) (hk : k < s.length) : wordsD c cur (s.drop k) = if s[k] = c then cur :: wordsD c [] (s.drop (k + 1)) else wordsD c (cur ++ [s[k]]) (s.drop (k + 1)) := by
  rw [List.drop_eq_getElem_cons hk, wordsD]
theorem wordsD_end (c : UInt8) (cur s : List UInt8) : wordsD c cur (s.drop s.length) = [cur] := by rw [List.drop_length]; rfl
/-- a word's letter where a line is read -/
def letW (o : Nat) : UInt8 := match o with
  | 1 => 97
  | 2 => 98
  | 3 => 102
  | 4 => 110
  | 5 => 109
  | 6 => 119
  | 7 => 65
  | 8 => 66
  | _ => 116
theorem letW_nine {o : Nat} (h1 : 1 ≤ o) (h9 : o ≤ 9) : letW o = 116 ↔ o = 9 := by
  rcases tl_nine o h1 h9 with rfl | rfl | rfl | rfl | rfl | rfl | rfl | rfl | rfl <;> decide
/-- an instruction has a word -/
def fillO (o : Nat) (s : List UInt8) (x : In) : Option In :=
  if isR o && !Lib.hasPrefix s [114] then none else
  match numE (if isR o then Lib.trimPrefix s [114] else s) with
  | none => none
  | some u => if (u : Int) ≤ mostO o 0 then some (putO o u x) else none
theorem tellO_fill {o : Nat} (h : o ≠ 9) (s : List UInt8) (c : In × List UInt8) : tellO o s c = (fillO o s c.1).map fun y => (y, c.2) := by
  unfold tellO fillO
  rw [if_neg h]
  split
  · rfl
  · cases numE (if isR o then Lib.trimPrefix s [114] else s) with
    | none => rfl
    | some u =>
      dsimp only
      split <;> rfl
theorem isR_iff {o : Nat} : isR o = true ↔ o = 1 ∨ o = 2 ∨ o = 7 ∨ o = 8 := by
  unfold isR
  simp [or_assoc]
/-- the number of a register's word -/
def regN (s : List UInt8) : Option Nat := match s with
  | [a, b] => if a = 114 then (match numE [b] with | some u => if u < 4 then some u else none | none => none) else none
  | _ => none
theorem digs_len {u : Nat} (h : u < 10) : (digs u).length = 1 := by
  unfold digs
  rw [digF, if_pos h]
  rfl
theorem fill_reg {o : Nat} (h : isR o = true) (s : List UInt8) (x : In) : fillO o s x = (regN s).map fun u => putO o u x := by
  have hm : mostO o 0 = 3 := by
    rcases isR_iff.1 h with rfl | rfl | rfl | rfl <;> rfl
  unfold fillO
  rw [h, hm]
  simp only [if_true, Bool.true_and]
  match s with
  | [] => simp [regN, Lib.hasPrefix]
  | [a] =>
    simp only [regN, Option.map_none]
    by_cases ha : a = 114
    · subst ha
      have : numE (Lib.trimPrefix [114] [114]) = none := by decide +kernel
      rw [this]
      simp
    · have e1 : Lib.hasPrefix [a] [114] = false := by have ha' : ¬ ((114 : UInt8) = a) := fun e => ha e.symm; simp [Lib.hasPrefix, List.isPrefixOf, ha']
      rw [e1]
      rfl
  | [a, b] =>
    simp only [regN]
    by_cases ha : a = 114
    · subst ha
      have e1 : Lib.hasPrefix [114, b] [114] = true := by simp [Lib.hasPrefix]
      have e2 : Lib.trimPrefix [114, b] [114] = [b] := by simp [Lib.trimPrefix, Lib.hasPrefix]
      rw [e1, e2]
      simp only [Bool.not_true, Bool.false_eq_true, if_false, if_true]
      cases numE [b] with
      | none => rfl
      | some u =>
        dsimp only
        by_cases hu : u < 4
        · rw [if_pos (by omega), if_pos hu]; rfl
        · rw [if_neg (by omega), if_neg hu]; rfl
    · have e1 : Lib.hasPrefix [a, b] [114] = false := by have ha' : ¬ ((114 : UInt8) = a) := fun e => ha e.symm; simp [Lib.hasPrefix, List.isPrefixOf, ha']
      rw [e1, if_neg ha]
      rfl
  | a :: b :: c :: r =>
    simp only [regN, Option.map_none]
    by_cases ha : a = 114
    · subst ha
      have e1 : Lib.hasPrefix (114 :: b :: c :: r) [114] = true := by simp [Lib.hasPrefix]
      have e2 : Lib.trimPrefix (114 :: b :: c :: r) [114] = b :: c :: r := by simp [Lib.trimPrefix, Lib.hasPrefix]
      rw [e1, e2]
      simp only [Bool.not_true, Bool.false_eq_true, if_false]
      cases hn : numE (b :: c :: r) with
      | none => rfl
      | some u =>
        have hu : ¬ ((u : Int) ≤ 3) := fun hu => by
          obtain ⟨h1, _⟩ := numE_some hn
          have := digs_len (u := u) (by omega)
          rw [h1] at this
          simp at this
        show (if (u : Int) ≤ 3 then some (putO o u x) else none) = none
        rw [if_neg hu]
    · have e1 : Lib.hasPrefix (a :: b :: c :: r) [114] = false := by have ha' : ¬ ((114 : UInt8) = a) := fun e => ha e.symm; simp [Lib.hasPrefix, List.isPrefixOf, ha']
      rw [e1]
      rfl
theorem fill_num {o : Nat} (h : isR o = false) (s : List UInt8) (x : In) : fillO o s x = match numE s with
    | none => none
    | some u => if (u : Int) ≤ mostO o 0 then some (putO o u x) else none := by
  unfold fillO
  rw [h]
  rfl
/-- where a line goes on does not come from its words -/
theorem tellL_to : ∀ (os : List Nat) (ss : List (List UInt8)) (c d : In × List UInt8), (∀ o ∈ os, 1 ≤ o ∧ o ≤ 9) → tellL os ss c = some d → d.1.to = c.1.to
  | [], ss, c, d, _, h => by
    simp only [tellL] at h
    injection h with h
    rw [h]
  | o :: os, [], c, d, _, h => by
    simp only [tellL] at h
    injection h with h
    rw [h]
  | o :: os, s :: ss, c, d, hw, h => by
    obtain ⟨o1, o9⟩ := hw o (by simp)
    rw [tellL] at h
    split at h
    · cases h
    · rename_i c' hc'
      rw [tellL_to os ss c' d (fun q hq => hw q (by simp [hq])) h]
      rcases tellO_spec hc' with ⟨_, q1, _⟩ | ⟨e, _, u, _, q3⟩
      · rw [q1]
      · rw [q3]
        exact tl_ne 9 o (by omega) (by omega) o1 o9 (fun h => e h.symm) _ _
theorem tellL_next {os : List Nat} {ss : List (List UInt8)} {c : In × List UInt8} {k : Nat} (hk : k < os.length) (hk2 : k < ss.length) : tellL (os.drop k) (ss.drop k) c = match tellO os[k] ss[k] c with
    | none => none
    | some c => tellL (os.drop (k + 1)) (ss.drop (k + 1)) c := by
  rw [List.drop_eq_getElem_cons hk, List.drop_eq_getElem_cons hk2, tellL]
  cases tellO os[k] ss[k] c <;> rfl
theorem tell_right {f : Fm} (hf : f ∈ fms) {ss : List (List UInt8)} {d : In × List UInt8} (hl : ss.length = f.os.length) (h : tellL f.os ss (bare f, []) = some d) : InR d.1 ∧ 0 ≤ d.1.op ∧ d.1.op < 256 ∧ (OkI 256 d.1 ↔ Sh d.1.n d.1.m) := by
  have hw := (fms_wf f hf).2
  obtain ⟨k1, k2, k3, k4, k5, k6⟩ := tellL_spec _ _ _ _ hw hl h
  have h9 := tellL_to _ _ _ _ hw h
  have hz : d.1.to = 0 := h9
  have ht : Tel f d.1 := ⟨k1, k2, fun o h1 h2 hn => (k3 o h1 h2 hn).trans (bare_get f o h1 h2)⟩
  have hr : ∀ o, 1 ≤ o → o ≤ 9 → 0 ≤ getO o d.1 ∧ getO o d.1 ≤ mostO o 256 := by
    intro o h1 h2
    by_cases e : o = 9
    · subst e
      show 0 ≤ d.1.to ∧ d.1.to ≤ 256
      rw [hz]
      omega
    · by_cases hm : o ∈ f.os
      · obtain ⟨a, b⟩ := k4 o hm e
        exact ⟨a, by rw [most_c o 256 0 e]; exact b⟩
      · rw [ht.out o h1 h2 hm]
        exact ⟨Int.le_refl _, by rcases tl_nine o h1 h2 with rfl | rfl | rfl | rfl | rfl | rfl | rfl | rfl | rfl <;> decide⟩
  have r1 := hr 1 (by omega) (by omega)
  have r2 := hr 2 (by omega) (by omega)
  have r3 := hr 3 (by omega) (by omega)
  have r4 := hr 4 (by omega) (by omega)
  have r5 := hr 5 (by omega) (by omega)
  have r6 := hr 6 (by omega) (by omega)
  have r7 := hr 7 (by omega) (by omega)
  have r8 := hr 8 (by omega) (by omega)
  have r9 := hr 9 (by omega) (by omega)
  simp only [getO, mostO] at r1 r2 r3 r4 r5 r6 r7 r8 r9
  have hop : d.1.op = f.op := k2
  have hfo : 0 ≤ f.op ∧ f.op < 256 := (show ∀ f ∈ fms, 0 ≤ f.op ∧ f.op < 256 by decide) f hf
  refine ⟨⟨?_, ?_, ?_, ?_, by omega, by omega, ?_, ?_, ?_⟩, by omega, by omega, ?_⟩
  all_goals first | (constructor <;> omega) | skip
  constructor
  · rintro ⟨_, _, _, _, h⟩
    exact h
  · intro hsh
    refine ⟨f, ht.form hf, fun o ho => ?_, ht.mkx hf, hsh⟩
    obtain ⟨o1, o9⟩ := hw o ho
    exact hr o o1 o9
/-- a line's words that a form is read by -/
theorem fms_nm_inj : ∀ f ∈ fms, ∀ g ∈ fms, f.nm = g.nm → f = g := by
  intro f hf g hg
  have h : ∀ i, i < 20 → ∀ j, j < 20 → (nthF i).nm = (nthF j).nm → i = j := by decide
  obtain ⟨i, hi, rfl⟩ := List.getElem_of_mem hf
  obtain ⟨j, hj, rfl⟩ := List.getElem_of_mem hg
  intro e
  have ei : nthF i = fms[i] := by unfold nthF; rw [List.getD_eq_getElem?_getD, List.getElem?_eq_getElem hi]; rfl
  have ej : nthF j = fms[j] := by unfold nthF; rw [List.getD_eq_getElem?_getD, List.getElem?_eq_getElem hj]; rfl
  have := h i hi j hj (by rw [ei, ej]; exact e)
  subst this
  rfl
theorem fnamed_at {s : List UInt8} {k : Nat} (hk : k < fms.length) (h : fms[k].nm = s) : fnamed s = some fms[k] := by
  unfold fnamed
  cases hf : fms.find? (fun f => f.nm == s) with
  | none =>
    rw [List.find?_eq_none] at hf
    exact absurd (by simpa using h) (hf fms[k] (List.getElem_mem hk))
  | some g =>
    have h1 := List.mem_of_find?_eq_some hf
    have h2 := List.find?_some hf
    simp only [beq_iff_eq] at h2
    rw [fms_nm_inj g h1 fms[k] (List.getElem_mem hk) (by rw [h2, h])]
theorem fnamed_none {s : List UInt8} (h : ∀ k (hk : k < fms.length), fms[k].nm ≠ s) : fnamed s = none := by
  unfold fnamed
  rw [List.find?_eq_none]
  intro f hf
  obtain ⟨i, hi, rfl⟩ := List.getElem_of_mem hf
  simpa using h i hi
/-- where a label is -/
theorem look_app (a b : Lbs) (s : List UInt8) : (a ++ b).lookup s = (a.lookup s).or (b.lookup s) := by
  induction a with
  | nil => rfl
  | cons e a ih =>
    obtain ⟨k, v⟩ := e
    simp only [List.cons_append, List.lookup_cons]
    split
    · rfl
    · exact ih
theorem look_at {lb : Lbs} {s : List UInt8} {k : Nat} (hk : k < lb.length) (hn : (lb.take k).lookup s = none) (h : lb[k].1 = s) : lb.lookup s = some lb[k].2 := by
  have e : lb = lb.take k ++ lb[k] :: lb.drop (k + 1) := by rw [← List.drop_eq_getElem_cons hk, List.take_append_drop]
  have e2 : lb.lookup s = ((lb.take k).lookup s).or ((lb[k] :: lb.drop (k + 1)).lookup s) := by
    conv => lhs; rw [e]
    exact look_app _ _ _
  rw [e2, hn, Option.none_or]
  generalize hq : lb[k] = q at *
  obtain ⟨a, b⟩ := q
  simp only at h
  subst h
  simp [List.lookup_cons]
theorem look_next {lb : Lbs} {s : List UInt8} {k : Nat} (hk : k < lb.length) (hn : (lb.take k).lookup s = none) (h : lb[k].1 ≠ s) : (lb.take (k + 1)).lookup s = none := by
  rw [List.take_add_one, List.getElem?_eq_getElem hk, look_app, hn, Option.none_or]
  generalize hq : lb[k] = q at *
  obtain ⟨a, b⟩ := q
  simp only at h
  have e : (s == a) = false := by simpa using fun e => h e.symm
  simp [List.lookup_cons, e]
end Go.Proofs.YtggaijdbaplfiaaGreatDoor
