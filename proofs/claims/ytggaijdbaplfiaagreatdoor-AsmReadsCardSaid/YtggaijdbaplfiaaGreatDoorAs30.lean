/- Plain facts: a text that is read is right; the walk of AsmAgain. -/
import Derived.Test.YtggaijdbaplfiaaGreatDoorAsBk
namespace Go.Proofs.YtggaijdbaplfiaaGreatDoor
open Go
set_option linter.unusedVariables false
set_option linter.unusedSimpArgs false
theorem fms_form : ∀ f ∈ fms, fms.find? (fun g => g.kd == f.kd && g.op == f.op) = some f := by
  intro f hf
  simp only [fms, List.mem_cons, List.not_mem_nil, or_false] at hf
  rcases hf with rfl | rfl | rfl | rfl | rfl | rfl | rfl | rfl | rfl | rfl | rfl | rfl | rfl | rfl | rfl | rfl | rfl | rfl | rfl | rfl <;> rfl
theorem tl_nine (o : Nat) (h1 : 1 ≤ o) (h9 : o ≤ 9) : o = 1 ∨ o = 2 ∨ o = 3 ∨ o = 4 ∨ o = 5 ∨ o = 6 ∨ o = 7 ∨ o = 8 ∨ o = 9 := by omega
theorem tl_kd (p : Nat) (v : Int) (x : In) : (putO p v x).kd = x.kd ∧ (putO p v x).op = x.op := by
  unfold putO
  split <;> exact ⟨rfl, rfl⟩
theorem tl_same (o : Nat) (h1 : 1 ≤ o) (h9 : o ≤ 9) (v : Int) (hv : 0 ≤ v) (x : In) : getO o (putO o v x) = v := by
  rcases tl_nine o h1 h9 with rfl | rfl | rfl | rfl | rfl | rfl | rfl | rfl | rfl <;> first | rfl | exact Int.toNat_of_nonneg hv
theorem tl_self (o : Nat) (h1 : 1 ≤ o) (h9 : o ≤ 9) (x z : In) : getO o (putO o (getO o x) z) = getO o x := by
  rcases tl_nine o h1 h9 with rfl | rfl | rfl | rfl | rfl | rfl | rfl | rfl | rfl <;> first | rfl | exact Int.toNat_of_nonneg (Int.natCast_nonneg _)
theorem tl_ne (o p : Nat) (h1 : 1 ≤ o) (h9 : o ≤ 9) (p1 : 1 ≤ p) (p9 : p ≤ 9) (hne : o ≠ p) (v : Int) (x : In) : getO o (putO p v x) = getO o x := by
  rcases tl_nine o h1 h9 with rfl | rfl | rfl | rfl | rfl | rfl | rfl | rfl | rfl <;>
    rcases tl_nine p p1 p9 with rfl | rfl | rfl | rfl | rfl | rfl | rfl | rfl | rfl <;> first | rfl | exact absurd rfl hne
theorem tl_ext (x y : In) (hk : x.kd = y.kd) (ho : x.op = y.op) (h : ∀ o, 1 ≤ o → o ≤ 9 → getO o x = getO o y) : x = y := by
  rw [In.ext_iff11]
  refine ⟨hk, ho, h 1 (by omega) (by omega), h 2 (by omega) (by omega), h 3 (by omega) (by omega), h 4 (by omega) (by omega), ?_, ?_, h 7 (by omega) (by omega), h 8 (by omega) (by omega), h 9 (by omega) (by omega)⟩
  · have : (x.m : Int) = (y.m : Int) := h 5 (by omega) (by omega)
    omega
  · have : (x.w : Int) = (y.w : Int) := h 6 (by omega) (by omega)
    omega
theorem mkN_kd (x : In) : ∀ (os : List Nat) (z : In), (mkN x os z).kd = z.kd ∧ (mkN x os z).op = z.op
  | [], z => ⟨rfl, rfl⟩
  | p :: os, z => by
    have e : mkN x (p :: os) z = mkN x os (putO p (getO p x) z) := rfl
    rw [e]
    exact ⟨(mkN_kd x os _).1.trans (tl_kd _ _ _).1, (mkN_kd x os _).2.trans (tl_kd _ _ _).2⟩
theorem mkN_get (x : In) : ∀ (os : List Nat) (z : In), (∀ o ∈ os, 1 ≤ o ∧ o ≤ 9) → ∀ o, 1 ≤ o → o ≤ 9 → getO o (mkN x os z) = if o ∈ os then getO o x else getO o z
  | [], z, _, o, _, _ => by simp [mkN]
  | p :: os, z, hw, o, h1, h9 => by
    have e : mkN x (p :: os) z = mkN x os (putO p (getO p x) z) := rfl
    obtain ⟨p1, p9⟩ := hw p (by simp)
    rw [e, mkN_get x os _ (fun q hq => hw q (by simp [hq])) o h1 h9]
    by_cases hm : o ∈ os
    · rw [if_pos hm, if_pos (by simp [hm])]
    · rw [if_neg hm]
      by_cases hp : o = p
      · subst hp
        rw [if_pos (by simp), tl_self o h1 h9]
      · rw [if_neg (by simp [hp, hm]), tl_ne o p h1 h9 p1 p9 hp]
theorem bare_get (f : Fm) (o : Nat) (h1 : 1 ≤ o) (h9 : o ≤ 9) : getO o (bare f) = 0 := by
  rcases tl_nine o h1 h9 with rfl | rfl | rfl | rfl | rfl | rfl | rfl | rfl | rfl <;> rfl
/-- x is of the form f: what f doesn't name is as at the start -/
structure Tel (f : Fm) (x : In) : Prop where
  kd : x.kd = f.kd
  op : x.op = f.op
  out : ∀ o, 1 ≤ o → o ≤ 9 → o ∉ f.os → getO o x = 0
theorem Tel.form {f : Fm} {x : In} (hf : f ∈ fms) (h : Tel f x) : formOf x = some f := by
  unfold formOf
  rw [h.kd, h.op]
  exact fms_form f hf
theorem Tel.mkx {f : Fm} {x : In} (hf : f ∈ fms) (h : Tel f x) : mkI f x = x := by
  have hw := (fms_wf f hf).2
  unfold mkI
  apply tl_ext
  · rw [(mkN_kd x f.os _).1, h.kd]; rfl
  · rw [(mkN_kd x f.os _).2, h.op]; rfl
  · intro o h1 h9
    rw [mkN_get x f.os (bare f) hw o h1 h9]
    split
    · rfl
    · rename_i hn
      rw [h.out o h1 h9 hn, bare_get f o h1 h9]
theorem Tel.put9 {f : Fm} {x : In} (h9 : 9 ∈ f.os) (h : Tel f x) (p : Int) : Tel f (putO 9 p x) :=
  ⟨h.kd, h.op, fun o h1 h2 hn => by
    rw [tl_ne o 9 h1 h2 (by omega) (by omega) (fun e => hn (by rw [e]; exact h9))]
    exact h.out o h1 h2 hn⟩
theorem most_c (o : Nat) (c d : Int) (h : o ≠ 9) : mostO o c = mostO o d := by
  unfold mostO
  split <;> first | rfl | exact absurd rfl h
theorem tellO_spec {o : Nat} {s : List UInt8} {c d : In × List UInt8} (h : tellO o s c = some d) : (o = 9 ∧ d.1 = c.1 ∧ isLab d.2 = true) ∨ (o ≠ 9 ∧ d.2 = c.2 ∧ ∃ u : Nat, (u : Int) ≤ mostO o 0 ∧ d.1 = putO o u c.1) := by
  unfold tellO at h
  split at h
  · rename_i e
    split at h
    · rename_i hl
      injection h with h
      subst h
      exact .inl ⟨e, rfl, hl⟩
    · cases h
  · rename_i e
    split at h
    · cases h
    · split at h
      · cases h
      · rename_i u hu
        split at h
        · rename_i hle
          injection h with h
          subst h
          exact .inr ⟨e, rfl, u, hle, rfl⟩
        · cases h
theorem tellL_spec : ∀ (os : List Nat) (ss : List (List UInt8)) (c d : In × List UInt8), (∀ o ∈ os, 1 ≤ o ∧ o ≤ 9) → ss.length = os.length → tellL os ss c = some d →
    d.1.kd = c.1.kd ∧ d.1.op = c.1.op ∧ (∀ o, 1 ≤ o → o ≤ 9 → o ∉ os → getO o d.1 = getO o c.1) ∧ (∀ o ∈ os, o ≠ 9 → 0 ≤ getO o d.1 ∧ getO o d.1 ≤ mostO o 0) ∧ (9 ∈ os → isLab d.2 = true) ∧ (9 ∉ os → d.2 = c.2)
  | [], ss, c, d, _, _, h => by
    simp only [tellL] at h
    injection h with h
    subst h
    exact ⟨rfl, rfl, fun _ _ _ _ => rfl, fun o ho => by simp at ho, fun ho => by simp at ho, fun _ => rfl⟩
  | o :: os, [], c, d, _, hn, _ => by simp at hn
  | o :: os, s :: ss, c, d, hw, hn, h => by
    obtain ⟨o1, o9⟩ := hw o (by simp)
    rw [tellL] at h
    split at h
    · cases h
    · rename_i c' hc'
      obtain ⟨k1, k2, k3, k4, k5, k6⟩ := tellL_spec os ss c' d (fun q hq => hw q (by simp [hq])) (by simpa using hn) h
      rcases tellO_spec hc' with ⟨e, q1, q2⟩ | ⟨e, q1, u, q2, q3⟩
      · subst e
        rw [q1] at k1 k2 k3
        refine ⟨k1, k2, fun q p1 p9 hq => k3 q p1 p9 (fun hm => hq (by simp [hm])), fun q hq hq9 => ?_, fun _ => ?_, fun hm => absurd (by simp) hm⟩
        · rw [List.mem_cons] at hq
          rcases hq with rfl | hq
          · exact absurd rfl hq9
          · exact k4 q hq hq9
        · by_cases hm : 9 ∈ os
          · exact k5 hm
          · rw [k6 hm]; exact q2
      · rw [q3] at k1 k2 k3
        refine ⟨k1.trans (tl_kd _ _ _).1, k2.trans (tl_kd _ _ _).2, fun q p1 p9 hq => ?_, fun q hq hq9 => ?_, fun hm => ?_, fun hm => ?_⟩
        · rw [List.mem_cons, not_or] at hq
          rw [k3 q p1 p9 hq.2, tl_ne q o p1 p9 o1 o9 hq.1]
        · by_cases hm : q ∈ os
          · exact k4 q hm hq9
          · rw [List.mem_cons] at hq
            rcases hq with rfl | hq
            · rw [k3 q o1 o9 hm, tl_same q o1 o9 _ (by omega)]
              exact ⟨by omega, q2⟩
            · exact absurd hq hm
        · rw [List.mem_cons] at hm
          rcases hm with hm | hm
          · exact absurd hm.symm e
          · exact k5 hm
        · rw [List.mem_cons, not_or] at hm
          rw [k6 hm.2, q1]
/-- what a line tells: an instruction but for where it goes, a label if it goes -/
def Gd (x : In) (gl : List UInt8) : Prop := ∃ f, f ∈ fms ∧ Tel f x ∧ (∀ o ∈ f.os, o ≠ 9 → 0 ≤ getO o x ∧ getO o x ≤ mostO o 0) ∧ Sh x.n x.m ∧ (9 ∈ f.os → gl ≠ []) ∧ (9 ∉ f.os → gl = [])
theorem parseS_gd {s : List UInt8} {c : In × List UInt8} (h : parseS s = some c) : Gd c.1 c.2 := by
  unfold parseS parseW at h
  split at h
  · cases h
  · rename_i f hf
    have hfm : f ∈ fms := List.mem_of_find?_eq_some hf
    split at h
    · rename_i hlen
      split at h
      · cases h
      · rename_i d hd
        split at h
        · rename_i hsh
          injection h with h
          subst h
          obtain ⟨k1, k2, k3, k4, k5, k6⟩ := tellL_spec _ _ _ _ (fms_wf f hfm).2 (by rw [List.length_drop]; omega) hd
          exact ⟨f, hfm, ⟨k1, k2, fun o h1 h9 hn => (k3 o h1 h9 hn).trans (bare_get f o h1 h9)⟩, k4, hsh, fun h9 => lab_ne (k5 h9), fun h9 => k6 h9⟩
        · cases h
    · cases h
theorem Gd.stay {x : In} (h : Gd x []) (N : Int) : OkI N x := by
  obtain ⟨f, hf, ht, hr, hsh, g1, g2⟩ := h
  refine ⟨f, ht.form hf, fun o ho => ?_, ht.mkx hf, hsh⟩
  have e : o ≠ 9 := fun e => g1 (by rw [← e]; exact ho) rfl
  obtain ⟨a, b⟩ := hr o ho e
  exact ⟨a, by rw [most_c o N 0 e]; exact b⟩
theorem Gd.go {x : In} {gl : List UInt8} (h : Gd x gl) (hg : gl ≠ []) (N p : Nat) (hp : p ≤ N) : OkI N (putO 9 (p : Int) x) := by
  obtain ⟨f, hf, ht, hr, hsh, g1, g2⟩ := h
  have h9 : 9 ∈ f.os := by
    by_cases h9 : 9 ∈ f.os
    · exact h9
    · exact absurd (g2 h9) hg
  have ht2 := ht.put9 h9 (p : Int)
  have hw := (fms_wf f hf).2
  refine ⟨f, ht2.form hf, fun o ho => ?_, ht2.mkx hf, hsh⟩
  obtain ⟨o1, o9⟩ := hw o ho
  by_cases e : o = 9
  · subst e
    have h1 : getO 9 (putO 9 (p : Int) x) = (p : Int) := rfl
    have h2 : mostO 9 (N : Int) = (N : Int) := rfl
    unfold inO
    rw [h1, h2]
    omega
  · obtain ⟨a, b⟩ := hr o ho e
    unfold inO
    rw [tl_ne o 9 o1 o9 (by omega) (by omega) e, most_c o N 0 e]
    exact ⟨a, b⟩
theorem readL_inl : ∀ (ls : List (List UInt8)) (i : Nat) (lb : Lbs) (cs : Cms) (lb' : Lbs) (cs' : Cms), readL ls i lb cs = .inl (lb', cs') → cs.length ≤ 256 → (∀ e ∈ lb, e.2 ≤ cs.length) → (∀ c ∈ cs, Gd c.1 c.2.1 ∧ 1 ≤ c.2.2) → cs'.length ≤ 256 ∧ (∀ e ∈ lb', e.2 ≤ cs'.length) ∧ (∀ c ∈ cs', Gd c.1 c.2.1 ∧ 1 ≤ c.2.2)
  | [], i, lb, cs, lb', cs', h, h1, h2, h3 => by
    simp only [readL] at h
    injection h with h
    injection h with ha hb
    subst ha hb
    exact ⟨h1, h2, h3⟩
  | s :: r, i, lb, cs, lb', cs', h, h1, h2, h3 => by
    rw [readL] at h
    split at h
    · exact readL_inl r _ _ _ _ _ h h1 h2 h3
    · split at h
      · split at h
        · cases h
        · refine readL_inl r _ _ _ _ _ h h1 (fun e he => ?_) h3
          rw [List.mem_append, List.mem_singleton] at he
          rcases he with he | rfl
          · exact h2 e he
          · exact Nat.le_refl _
      · split at h
        · cases h
        · rename_i c hc
          split at h
          · cases h
          · refine readL_inl r _ _ _ _ _ h (by simp; omega) (fun e he => ?_) (fun d hd => ?_)
            · have := h2 e he
              simp
              omega
            · rw [List.mem_append, List.mem_singleton] at hd
              rcases hd with hd | rfl
              · exact h3 d hd
              · exact ⟨parseS_gd hc, by simp⟩
theorem readL_inr : ∀ (ls : List (List UInt8)) (i : Nat) (lb : Lbs) (cs : Cms) (k : Nat) (e : Int), readL ls i lb cs = .inr (k, e) → 1 ≤ k ∧ (e = 2 ∨ e = 3 ∨ e = 4 ∨ e = 6)
  | [], i, lb, cs, k, e, h => by
    simp only [readL] at h
    cases h
  | s :: r, i, lb, cs, k, e, h => by
    rw [readL] at h
    split at h
    · exact readL_inr r _ _ _ _ _ h
    · split at h
      · split at h
        · injection h with h
          injection h with ha hb
          subst ha hb
          exact ⟨by omega, by omega⟩
        · exact readL_inr r _ _ _ _ _ h
      · split at h
        · injection h with h
          injection h with ha hb
          subst ha hb
          exact ⟨by omega, by omega⟩
        · split at h
          · injection h with h
            injection h with ha hb
            subst ha hb
            exact ⟨by omega, by omega⟩
          · exact readL_inr r _ _ _ _ _ h
theorem look_mem : ∀ (lb : Lbs) (g : List UInt8) (p : Nat), lb.lookup g = some p → ∃ e ∈ lb, e.2 = p
  | [], g, p, h => by simp at h
  | (a, b) :: lb, g, p, h => by
    rw [List.lookup_cons] at h
    split at h
    · injection h with h
      exact ⟨(a, b), by simp, h⟩
    · obtain ⟨e, he, hp⟩ := look_mem lb g p h
      exact ⟨e, by simp [he], hp⟩
theorem progL_spec (lb : Lbs) (N : Nat) (hlb : ∀ e ∈ lb, e.2 ≤ N) : ∀ (cs : Cms) (acc : List In), (∀ c ∈ cs, Gd c.1 c.2.1 ∧ 1 ≤ c.2.2) → (∀ x ∈ acc, OkI N x) → (∃ l, progL lb cs acc = (l, 0, 0) ∧ l.length = acc.length + cs.length ∧ ∀ x ∈ l, OkI N x) ∨ (∃ k, progL lb cs acc = ([], k, 3) ∧ 1 ≤ k)
  | [], acc, _, ha => .inl ⟨acc, by rw [progL], rfl, ha⟩
  | c :: cs, acc, hc, ha => by
    obtain ⟨hg, hk⟩ := hc c (by simp)
    have hc' : ∀ c ∈ cs, Gd c.1 c.2.1 ∧ 1 ≤ c.2.2 := fun d hd => hc d (by simp [hd])
    rw [progL]
    split
    · rename_i he
      rw [he] at hg
      rcases progL_spec lb N hlb cs (acc ++ [c.1]) hc' (fun x hx => by
        rw [List.mem_append, List.mem_singleton] at hx
        rcases hx with hx | rfl
        · exact ha x hx
        · exact hg.stay N) with ⟨l, h1, h2, h3⟩ | h
      · exact .inl ⟨l, h1, by rw [h2]; simp; omega, h3⟩
      · exact .inr h
    · rename_i he
      split
      · exact .inr ⟨_, rfl, hk⟩
      · rename_i p hp
        obtain ⟨e, hm, rfl⟩ := look_mem _ _ _ hp
        rcases progL_spec lb N hlb cs (acc ++ [putO 9 (e.2 : Int) c.1]) hc' (fun x hx => by
          rw [List.mem_append, List.mem_singleton] at hx
          rcases hx with hx | rfl
          · exact ha x hx
          · exact hg.go he N e.2 (hlb e hm)) with ⟨l, h1, h2, h3⟩ | h
        · exact .inl ⟨l, h1, by rw [h2]; simp; omega, h3⟩
        · exact .inr h
theorem readP_spec (t : List UInt8) : (∃ l, readP t = (l, 0, 0) ∧ OkP l) ∨ (∃ (k : Nat) (e : Int), readP t = ([], k, e) ∧ ((e = 1 ∧ k = 0) ∨ (1 ≤ k ∧ (e = 2 ∨ e = 3 ∨ e = 4 ∨ e = 6)))) := by
  unfold readP
  split
  · exact .inr ⟨0, 1, rfl, .inl ⟨rfl, rfl⟩⟩
  · split
    · rename_i lb cs h
      obtain ⟨h1, h2, h3⟩ := readL_inl _ _ _ _ _ _ h (by simp) (fun e he => by simp at he) (fun c hc => by simp at hc)
      rcases progL_spec lb cs.length h2 cs [] h3 (fun x hx => by simp at hx) with ⟨l, q1, q2, q3⟩ | ⟨k, q1, q2⟩
      · have hl : l.length = cs.length := by simpa using q2
        exact .inl ⟨l, q1, by omega, by rw [hl]; exact q3⟩
      · exact .inr ⟨k, 3, q1, .inr ⟨q2, by omega⟩⟩
    · rename_i k e h
      exact .inr ⟨k, e, rfl, .inr (readL_inr _ _ _ _ _ _ h)⟩
theorem OkI.get {x : In} {c : Int} (h : OkI c x) (hc : 0 ≤ c) (o : Nat) (h1 : 1 ≤ o) (h9 : o ≤ 9) : 0 ≤ getO o x ∧ getO o x ≤ mostO o c := by
  obtain ⟨f, hf, hall, hmk, _⟩ := h
  have hfm := List.mem_of_find?_eq_some hf
  by_cases ho : o ∈ f.os
  · exact hall o ho
  · have e : getO o x = 0 := by
      rw [← hmk]
      unfold mkI
      rw [mkN_get x f.os (bare f) (fms_wf f hfm).2 o h1 h9, if_neg ho, bare_get f o h1 h9]
    rw [e]
    refine ⟨Int.le_refl _, ?_⟩
    rcases tl_nine o h1 h9 with rfl | rfl | rfl | rfl | rfl | rfl | rfl | rfl | rfl <;> simp [mostO] <;> omega
theorem OkI.inr {x : In} {c : Int} (h : OkI c x) (hc : 0 ≤ c) (hc2 : c ≤ 256) : InR x := by
  have k1 := h.get hc 1 (by omega) (by omega)
  have k2 := h.get hc 2 (by omega) (by omega)
  have k3 := h.get hc 3 (by omega) (by omega)
  have k4 := h.get hc 4 (by omega) (by omega)
  have k5 := h.get hc 5 (by omega) (by omega)
  have k6 := h.get hc 6 (by omega) (by omega)
  have k7 := h.get hc 7 (by omega) (by omega)
  have k8 := h.get hc 8 (by omega) (by omega)
  have k9 := h.get hc 9 (by omega) (by omega)
  simp only [getO, mostO] at k1 k2 k3 k4 k5 k6 k7 k8 k9
  constructor <;> (try unfold I63) <;> omega
theorem OkP.inl {l : List In} (h : OkP l) : InL l := fun x hx => (h.2 x hx).inr (by omega) (by have := h.1; omega)
end Go.Proofs.YtggaijdbaplfiaaGreatDoor
namespace Go.Proofs.YtggaijdbaplfiaaGreatDoor
open Go.RowKit
set_option linter.unusedVariables false
set_option linter.unusedSimpArgs false
section
variable {w : World}
set_option maxRecDepth 100000 in
set_option maxHeartbeats 8000000 in
theorem asmAgain_walk (s : ByteArray) (hL : Lw w) :
    Calls Tryz.prog 6 #[.string s] w fun r w' => r = .returned (.bool true) ∧ Below w.heap.size w w' := by
  have HLV := Lib.hid fun (w : World) hL => lives_any (w := w) hL
  have HPA := Lib.hid fun (w : World) hL => aparse_any (w := w) s hL
  unfold ProgR at HPA
  rcases readP_spec s.data.toList with ⟨l, hrp, hok⟩ | ⟨k, e, hrp, hke⟩
  · have hl0 := hok.1
    have hl : l.length ≤ 17592186044416 := by omega
    have hx : InL l := hok.inl
    rw [hrp] at HPA
    have HRO := Lib.hid fun (W : World) (A : Option Addr) (cap B : Nat) (h : OwnsI W B (.slice A l.length cap) l) => PRow.of_owns h
    have HP1 : Hid (∀ W A cap, PRow W W.heap.size A l → Lw W → Calls Tryz.prog 12 #[.slice A l.length cap] W fun e w' => e = .returned (.tuple #[.string (bs (printP l)), .int .i64 0]) ∧ Below W.heap.size W w') := Lib.hid fun W A cap h1 h2 => (print_any (w := W) (A := A) (l := l) cap h1 hl hx h2).mono (by
      rintro e w' ⟨⟨_, h⟩ | ⟨h, _⟩, hb⟩
      · exact ⟨h, hb⟩
      · exact absurd hok h)
    have hsz := bs_size (printP l)
    by_cases hbig : 65536 < (printP l).length
    · have d1 : decide (65536 < ((bs (printP l)).size : Int)) = true := decide_eq_true (by omega)
      clear hok hsz hbig hx hrp
      generalize bs (printP l) = P at *
      go_enter Tryz.func6, Tryz.ntmps6
      go_wp2_with fail
      go_at_call 10
      refine (HLV.out _ (hL.later (by repeat (first | exact Below.refl _ _ | assumption | (refine below_drewN ?_ _) | (refine Below.drew ?_) | (refine Below.alloc ?_ (by first | omega | (simp; omega) | simp) _) | (refine Below.setCell ?_ (by first | omega | (simp; omega) | simp) _) | (refine below_trans ?_ (by assumption) (by first | omega | (simp; omega) | simp)))))).mono ?_
      rintro e w1 ⟨rfl, hb_w1⟩
      obtain ⟨hc_w1, hf_w1⟩ := bcell hb_w1; have hs_w1 := hb_w1.size; (try simp only [World.size_alloc, World.size_setCell, World.size_drew, World.heap_drewN] at hs_w1)
      go_wp2_with fail
      go_at_call 8
      refine (HPA.out _ (hL.later (by repeat (first | exact Below.refl _ _ | assumption | (refine below_drewN ?_ _) | (refine Below.drew ?_) | (refine Below.alloc ?_ (by first | omega | (simp; omega) | simp) _) | (refine Below.setCell ?_ (by first | omega | (simp; omega) | simp) _) | (refine below_trans ?_ (by assumption) (by first | omega | (simp; omega) | simp)))))).mono ?_
      rintro e w2 ⟨A, cap, rfl, oA, hb_w2⟩
      obtain ⟨hc_w2, hf_w2⟩ := bcell hb_w2; have hs_w2 := hb_w2.size; (try simp only [World.size_alloc, World.size_setCell, World.size_drew, World.heap_drewN] at hs_w2)
      have rA := Lib.hid (HRO.out _ _ _ _ oA)
      clear oA
      go_wp2_with fail
      go_at_call 12
      refine (HP1.out _ _ _ rA.out (hL.later (by repeat (first | exact Below.refl _ _ | assumption | (refine below_drewN ?_ _) | (refine Below.drew ?_) | (refine Below.alloc ?_ (by first | omega | (simp; omega) | simp) _) | (refine Below.setCell ?_ (by first | omega | (simp; omega) | simp) _) | (refine below_trans ?_ (by assumption) (by first | omega | (simp; omega) | simp)))))).mono ?_
      rintro e w3 ⟨rfl, hb_w3⟩
      obtain ⟨hc_w3, hf_w3⟩ := bcell hb_w3; have hs_w3 := hb_w3.size; (try simp only [World.size_alloc, World.size_setCell, World.size_drew, World.heap_drewN] at hs_w3)
      go_wp2
      go_ret
      exact ⟨rfl, (by repeat (first | exact Below.refl _ _ | assumption | (refine below_drewN ?_ _) | (refine Below.drew ?_) | (refine Below.alloc ?_ (by first | omega | (simp; omega) | simp) _) | (refine Below.setCell ?_ (by first | omega | (simp; omega) | simp) _) | (refine below_trans ?_ (by assumption) (by first | omega | (simp; omega) | simp))))⟩
    · have d1 : decide (65536 < ((bs (printP l)).size : Int)) = false := decide_eq_false (by omega)
      have hrq := readP_print hok (by omega)
      have HPB : Hid (∀ W, Lw W → Calls Tryz.prog 8 #[.string (bs (printP l))] W fun e w' => ∃ B c, e = .returned (.tuple #[.slice B l.length c, .int .i64 0, .int .i64 0]) ∧ OwnsI w' W.heap.size (.slice B l.length c) l ∧ Below W.heap.size W w') := Lib.hid fun W hL => by
        have h := aparse_any (w := W) (bs (printP l)) hL
        rw [bs_data, hrq] at h
        exact h
      have HCK := Lib.hid fun (w : World) (A : Option Addr) cap hr hL => check_any (w := w) (A := A) (l := l) cap hr hl hx hL 0 (.inl ⟨hok, rfl⟩)
      have HSM := Lib.hid fun (w : World) (A C : Option Addr) (cap cc : Nat) hr hq => xsame_any (w := w) (A := A) (C := C) (l := l) (m := l) cap cc hr hq hl hl true (by simp)
      clear hok hsz hbig hx hrp hrq
      generalize bs (printP l) = P at *
      go_enter Tryz.func6, Tryz.ntmps6
      go_wp2_with fail
      go_at_call 10
      refine (HLV.out _ (hL.later (by repeat (first | exact Below.refl _ _ | assumption | (refine below_drewN ?_ _) | (refine Below.drew ?_) | (refine Below.alloc ?_ (by first | omega | (simp; omega) | simp) _) | (refine Below.setCell ?_ (by first | omega | (simp; omega) | simp) _) | (refine below_trans ?_ (by assumption) (by first | omega | (simp; omega) | simp)))))).mono ?_
      rintro e w1 ⟨rfl, hb_w1⟩
      obtain ⟨hc_w1, hf_w1⟩ := bcell hb_w1; have hs_w1 := hb_w1.size; (try simp only [World.size_alloc, World.size_setCell, World.size_drew, World.heap_drewN] at hs_w1)
      go_wp2_with fail
      go_at_call 8
      refine (HPA.out _ (hL.later (by repeat (first | exact Below.refl _ _ | assumption | (refine below_drewN ?_ _) | (refine Below.drew ?_) | (refine Below.alloc ?_ (by first | omega | (simp; omega) | simp) _) | (refine Below.setCell ?_ (by first | omega | (simp; omega) | simp) _) | (refine below_trans ?_ (by assumption) (by first | omega | (simp; omega) | simp)))))).mono ?_
      rintro e w2 ⟨A, cap, rfl, oA, hb_w2⟩
      obtain ⟨hc_w2, hf_w2⟩ := bcell hb_w2; have hs_w2 := hb_w2.size; (try simp only [World.size_alloc, World.size_setCell, World.size_drew, World.heap_drewN] at hs_w2)
      have rA := Lib.hid (HRO.out _ _ _ _ oA)
      clear oA
      go_wp2_with fail
      go_at_call 12
      refine (HP1.out _ _ _ rA.out (hL.later (by repeat (first | exact Below.refl _ _ | assumption | (refine below_drewN ?_ _) | (refine Below.drew ?_) | (refine Below.alloc ?_ (by first | omega | (simp; omega) | simp) _) | (refine Below.setCell ?_ (by first | omega | (simp; omega) | simp) _) | (refine below_trans ?_ (by assumption) (by first | omega | (simp; omega) | simp)))))).mono ?_
      rintro e w3 ⟨rfl, hb_w3⟩
      obtain ⟨hc_w3, hf_w3⟩ := bcell hb_w3; have hs_w3 := hb_w3.size; (try simp only [World.size_alloc, World.size_setCell, World.size_drew, World.heap_drewN] at hs_w3)
      go_wp2_with fail
      go_at_call 8
      refine (HPB.out _ (hL.later (by repeat (first | exact Below.refl _ _ | assumption | (refine below_drewN ?_ _) | (refine Below.drew ?_) | (refine Below.alloc ?_ (by first | omega | (simp; omega) | simp) _) | (refine Below.setCell ?_ (by first | omega | (simp; omega) | simp) _) | (refine below_trans ?_ (by assumption) (by first | omega | (simp; omega) | simp)))))).mono ?_
      rintro e w4 ⟨C, cc, rfl, oC, hb_w4⟩
      obtain ⟨hc_w4, hf_w4⟩ := bcell hb_w4; have hs_w4 := hb_w4.size; (try simp only [World.size_alloc, World.size_setCell, World.size_drew, World.heap_drewN] at hs_w4)
      have rC := Lib.hid (HRO.out _ _ _ _ oC)
      clear oC
      go_wp2_with fail
      go_at_call 12
      refine (HP1.out _ _ _ rC.out (hL.later (by repeat (first | exact Below.refl _ _ | assumption | (refine below_drewN ?_ _) | (refine Below.drew ?_) | (refine Below.alloc ?_ (by first | omega | (simp; omega) | simp) _) | (refine Below.setCell ?_ (by first | omega | (simp; omega) | simp) _) | (refine below_trans ?_ (by assumption) (by first | omega | (simp; omega) | simp)))))).mono ?_
      rintro e w5 ⟨rfl, hb_w5⟩
      obtain ⟨hc_w5, hf_w5⟩ := bcell hb_w5; have hs_w5 := hb_w5.size; (try simp only [World.size_alloc, World.size_setCell, World.size_drew, World.heap_drewN] at hs_w5)
      go_wp2_with fail
      go_at_call 18
      refine (HCK.out _ _ _ (rA.out.later (by repeat (first | exact Below.refl _ _ | assumption | (refine below_drewN ?_ _) | (refine Below.drew ?_) | (refine Below.alloc ?_ (by first | omega | (simp; omega) | simp) _) | (refine Below.setCell ?_ (by first | omega | (simp; omega) | simp) _) | (refine below_trans ?_ (by assumption) (by first | omega | (simp; omega) | simp))))) (hL.later (by repeat (first | exact Below.refl _ _ | assumption | (refine below_drewN ?_ _) | (refine Below.drew ?_) | (refine Below.alloc ?_ (by first | omega | (simp; omega) | simp) _) | (refine Below.setCell ?_ (by first | omega | (simp; omega) | simp) _) | (refine below_trans ?_ (by assumption) (by first | omega | (simp; omega) | simp)))))).mono ?_
      rintro e w6 ⟨rfl, hb_w6⟩
      obtain ⟨hc_w6, hf_w6⟩ := bcell hb_w6; have hs_w6 := hb_w6.size; (try simp only [World.size_alloc, World.size_setCell, World.size_drew, World.heap_drewN] at hs_w6)
      go_wp2_with fail
      go_at_call 11
      refine (HSM.out _ _ _ _ _ (rA.out.later (by repeat (first | exact Below.refl _ _ | assumption | (refine below_drewN ?_ _) | (refine Below.drew ?_) | (refine Below.alloc ?_ (by first | omega | (simp; omega) | simp) _) | (refine Below.setCell ?_ (by first | omega | (simp; omega) | simp) _) | (refine below_trans ?_ (by assumption) (by first | omega | (simp; omega) | simp))))) (rC.out.later (by repeat (first | exact Below.refl _ _ | assumption | (refine below_drewN ?_ _) | (refine Below.drew ?_) | (refine Below.alloc ?_ (by first | omega | (simp; omega) | simp) _) | (refine Below.setCell ?_ (by first | omega | (simp; omega) | simp) _) | (refine below_trans ?_ (by assumption) (by first | omega | (simp; omega) | simp)))))).mono ?_
      rintro e w7 ⟨rfl, hb_w7⟩
      obtain ⟨hc_w7, hf_w7⟩ := bcell hb_w7; have hs_w7 := hb_w7.size; (try simp only [World.size_alloc, World.size_setCell, World.size_drew, World.heap_drewN] at hs_w7)
      go_wp2
      go_ret
      exact ⟨rfl, (by repeat (first | exact Below.refl _ _ | assumption | (refine below_drewN ?_ _) | (refine Below.drew ?_) | (refine Below.alloc ?_ (by first | omega | (simp; omega) | simp) _) | (refine Below.setCell ?_ (by first | omega | (simp; omega) | simp) _) | (refine below_trans ?_ (by assumption) (by first | omega | (simp; omega) | simp))))⟩
  · rw [hrp] at HPA
    rcases hke with ⟨rfl, rfl⟩ | ⟨hk, he⟩
    · clear hrp
      go_enter Tryz.func6, Tryz.ntmps6
      go_wp2_with fail
      go_at_call 10
      refine (HLV.out _ (hL.later (by repeat (first | exact Below.refl _ _ | assumption | (refine below_drewN ?_ _) | (refine Below.drew ?_) | (refine Below.alloc ?_ (by first | omega | (simp; omega) | simp) _) | (refine Below.setCell ?_ (by first | omega | (simp; omega) | simp) _) | (refine below_trans ?_ (by assumption) (by first | omega | (simp; omega) | simp)))))).mono ?_
      rintro e w1 ⟨rfl, hb_w1⟩
      obtain ⟨hc_w1, hf_w1⟩ := bcell hb_w1; have hs_w1 := hb_w1.size; (try simp only [World.size_alloc, World.size_setCell, World.size_drew, World.heap_drewN] at hs_w1)
      go_wp2_with fail
      go_at_call 8
      refine (HPA.out _ (hL.later (by repeat (first | exact Below.refl _ _ | assumption | (refine below_drewN ?_ _) | (refine Below.drew ?_) | (refine Below.alloc ?_ (by first | omega | (simp; omega) | simp) _) | (refine Below.setCell ?_ (by first | omega | (simp; omega) | simp) _) | (refine below_trans ?_ (by assumption) (by first | omega | (simp; omega) | simp)))))).mono ?_
      rintro e w2 ⟨A, cap, rfl, oA, hb_w2⟩
      obtain ⟨hc_w2, hf_w2⟩ := bcell hb_w2; have hs_w2 := hb_w2.size; (try simp only [World.size_alloc, World.size_setCell, World.size_drew, World.heap_drewN] at hs_w2)
      go_wp2
      go_ret
      exact ⟨rfl, (by repeat (first | exact Below.refl _ _ | assumption | (refine below_drewN ?_ _) | (refine Below.drew ?_) | (refine Below.alloc ?_ (by first | omega | (simp; omega) | simp) _) | (refine Below.setCell ?_ (by first | omega | (simp; omega) | simp) _) | (refine below_trans ?_ (by assumption) (by first | omega | (simp; omega) | simp))))⟩
    · have d1 : decide (0 < k) = true := decide_eq_true (by omega)
      clear hrp hk
      rcases he with rfl | rfl | rfl | rfl
      all_goals
        go_enter Tryz.func6, Tryz.ntmps6
        go_wp2_with fail
        go_at_call 10
        refine (HLV.out _ (hL.later (by repeat (first | exact Below.refl _ _ | assumption | (refine below_drewN ?_ _) | (refine Below.drew ?_) | (refine Below.alloc ?_ (by first | omega | (simp; omega) | simp) _) | (refine Below.setCell ?_ (by first | omega | (simp; omega) | simp) _) | (refine below_trans ?_ (by assumption) (by first | omega | (simp; omega) | simp)))))).mono ?_
        rintro e w1 ⟨rfl, hb_w1⟩
        obtain ⟨hc_w1, hf_w1⟩ := bcell hb_w1; have hs_w1 := hb_w1.size; (try simp only [World.size_alloc, World.size_setCell, World.size_drew, World.heap_drewN] at hs_w1)
        go_wp2_with fail
        go_at_call 8
        refine (HPA.out _ (hL.later (by repeat (first | exact Below.refl _ _ | assumption | (refine below_drewN ?_ _) | (refine Below.drew ?_) | (refine Below.alloc ?_ (by first | omega | (simp; omega) | simp) _) | (refine Below.setCell ?_ (by first | omega | (simp; omega) | simp) _) | (refine below_trans ?_ (by assumption) (by first | omega | (simp; omega) | simp)))))).mono ?_
        rintro e w2 ⟨A, cap, rfl, oA, hb_w2⟩
        obtain ⟨hc_w2, hf_w2⟩ := bcell hb_w2; have hs_w2 := hb_w2.size; (try simp only [World.size_alloc, World.size_setCell, World.size_drew, World.heap_drewN] at hs_w2)
        go_wp2
        go_ret
        exact ⟨rfl, (by repeat (first | exact Below.refl _ _ | assumption | (refine below_drewN ?_ _) | (refine Below.drew ?_) | (refine Below.alloc ?_ (by first | omega | (simp; omega) | simp) _) | (refine Below.setCell ?_ (by first | omega | (simp; omega) | simp) _) | (refine below_trans ?_ (by assumption) (by first | omega | (simp; omega) | simp))))⟩
end
end Go.Proofs.YtggaijdbaplfiaaGreatDoor
