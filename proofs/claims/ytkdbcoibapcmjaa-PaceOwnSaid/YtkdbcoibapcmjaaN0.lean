/- Pacers: plain facts. -/
import Derived.Test.YtkdbcoibapcmjaaW3
namespace Go.Proofs.Ytkdbcoibapcmjaa
open Go.RowKit
set_option linter.unusedVariables false
set_option linter.unusedSimpArgs false

/-- a pacer -/
structure Pc where
  pct : Int
  least : Nat
  live : Nat
  on : Bool
  est : Nat
  room : Nat
  credit : Nat
  done : Nat
  made : Nat
  ds : List Nat
def Pc.zero : Pc := ⟨0, 0, 0, false, 0, 0, 0, 0, 0, []⟩
/-- numbers that are at most the most -/
def AllM (l : List Nat) : Prop := ∀ d ∈ l, d ≤ 1099511627776
/-- a pacer that is right -/
structure OkP (p : Pc) : Prop where
  pct1 : 1 ≤ p.pct
  pct2 : p.pct ≤ 10000
  least1 : 1 ≤ p.least
  least2 : p.least ≤ 1099511627776
  live : p.live ≤ 1099511627776
  len1 : 1 ≤ p.ds.length
  len2 : p.ds.length ≤ 4
  est : p.est ≤ 1099511627776
  room : p.room ≤ 1099511627776
  credit : p.credit ≤ 1099511627776
  done : p.done ≤ 1099511627776
  made : p.made ≤ 1099511627776
  ds : AllM p.ds
  on1 : p.on = true → 1 ≤ p.est ∧ 1 ≤ p.room
  off : p.on = false → p.est = 0 ∧ p.room = 0 ∧ p.credit = 0 ∧ p.done = 0 ∧ p.made = 0 ∧ ∀ d ∈ p.ds, d = 0
/-- what came in: each number is one that can be held -/
structure FitP (p : Pc) : Prop where
  pct1 : -9223372036854775808 ≤ p.pct
  pct2 : p.pct ≤ 9223372036854775807
  least : p.least < W64
  live : p.live < W64
  est : p.est < W64
  room : p.room < W64
  credit : p.credit < W64
  done : p.done < W64
  made : p.made < W64
  ds : Words p.ds
theorem OkP.fit {p : Pc} (h : OkP p) : FitP p := by
  have := h.pct1; have := h.pct2; have := h.least2; have := h.live; have := h.est; have := h.room; have := h.credit; have := h.done; have := h.made
  unfold W64 at *
  exact ⟨by omega, by omega, by unfold W64; omega, by unfold W64; omega, by unfold W64; omega, by unfold W64; omega, by unfold W64; omega, by unfold W64; omega, by unfold W64; omega, fun x hx => by have := h.ds x hx; unfold W64; omega⟩
theorem FitP.zero : FitP Pc.zero := ⟨by simp [Pc.zero], by simp [Pc.zero], by simp [Pc.zero, W64], by simp [Pc.zero, W64], by simp [Pc.zero, W64], by simp [Pc.zero, W64], by simp [Pc.zero, W64], by simp [Pc.zero, W64], by simp [Pc.zero, W64], fun x hx => by simp [Pc.zero] at hx⟩
def goalP (p : Pc) : Nat := min (max (p.live + p.live * p.pct.toNat / 100) p.least) 1099511627776
def trigP (p : Pc) : Nat := p.live + (goalP p - p.live) * 7 / 10
theorem goalP_le (p : Pc) : goalP p ≤ 1099511627776 := Nat.min_le_right _ _
theorem goalP_live {p : Pc} (h : OkP p) : p.live ≤ goalP p := by
  have := h.live
  unfold goalP
  generalize p.live * p.pct.toNat / 100 = x
  omega
theorem goalP_least {p : Pc} (h : OkP p) : p.least ≤ goalP p := by
  have := h.least2
  unfold goalP
  omega
theorem goalP_pos {p : Pc} (h : OkP p) : 1 ≤ goalP p := Nat.le_trans h.least1 (goalP_least h)
theorem trigP_le {p : Pc} (h : OkP p) : trigP p ≤ goalP p := by
  have := goalP_live h
  unfold trigP
  omega
theorem trigP_live (p : Pc) : p.live ≤ trigP p := by unfold trigP; omega
/-- what is asked -/
def ChkP (p : Pc) (y : Int) : Prop := (OkP p ∧ y = 0) ∨ (¬ OkP p ∧ y = 2)
theorem ChkP.ex (p : Pc) : ∃ y, ChkP p y := by
  by_cases h : OkP p
  · exact ⟨_, .inl ⟨h, rfl⟩⟩
  · exact ⟨_, .inr ⟨h, rfl⟩⟩
def GoalE (p : Pc) (g t : Nat) (y : Int) : Prop := (OkP p ∧ g = goalP p ∧ t = trigP p ∧ y = 0) ∨ (¬ OkP p ∧ g = 0 ∧ t = 0 ∧ y = 2)
theorem GoalE.ex (p : Pc) : ∃ g t y, GoalE p g t y := by
  by_cases h : OkP p
  · exact ⟨_, _, _, .inl ⟨h, rfl, rfl, rfl⟩⟩
  · exact ⟨_, _, _, .inr ⟨h, rfl, rfl, rfl⟩⟩
def DueE (p : Pc) (heap : Nat) (b : Bool) (y : Int) : Prop := (OkP p ∧ b = (!p.on && decide (trigP p ≤ heap)) ∧ y = 0) ∨ (¬ OkP p ∧ b = false ∧ y = 2)
theorem DueE.ex (p : Pc) (heap : Nat) : ∃ b y, DueE p heap b y := by
  by_cases h : OkP p
  · exact ⟨_, _, .inl ⟨h, rfl, rfl⟩⟩
  · exact ⟨_, _, .inr ⟨h, rfl, rfl⟩⟩
/-- a new pacer for k mutators -/
def newP (pct : Int) (least k : Nat) : Pc := ⟨pct, least, 0, false, 0, 0, 0, 0, 0, List.replicate k 0⟩
theorem newP_ok {pct : Int} {least k : Nat} (h1 : 1 ≤ pct) (h2 : pct ≤ 10000) (h3 : 1 ≤ least) (h4 : least ≤ 1099511627776) (h5 : 1 ≤ k) (h6 : k ≤ 4) : OkP (newP pct least k) :=
  ⟨h1, h2, h3, h4, by simp [newP], by simp [newP]; exact h5, by simp [newP]; exact h6, by simp [newP], by simp [newP], by simp [newP], by simp [newP], by simp [newP], fun d hd => by simp [newP] at hd; omega, fun h => by simp [newP] at h,
    fun _ => ⟨rfl, rfl, rfl, rfl, rfl, fun d hd => by simp [newP] at hd; exact hd.2⟩⟩
def MakP (pct : Int) (least : Nat) (mu : Int) (q : Pc) (y : Int) : Prop :=
  (∃ k : Nat, mu = k ∧ 1 ≤ k ∧ k ≤ 4 ∧ OkP (newP pct least k) ∧ q = newP pct least k ∧ y = 0) ∨ (∃ k : Nat, mu = k ∧ 1 ≤ k ∧ k ≤ 4 ∧ ¬ OkP (newP pct least k) ∧ q = Pc.zero ∧ y = 1) ∨ ((mu < 1 ∨ 4 < mu) ∧ q = Pc.zero ∧ y = 1)
theorem MakP.ex (pct : Int) (least : Nat) (mu : Int) : ∃ q y, MakP pct least mu q y := by
  by_cases h : mu < 1 ∨ 4 < mu
  · exact ⟨_, _, .inr (.inr ⟨h, rfl, rfl⟩)⟩
  · by_cases h2 : OkP (newP pct least mu.toNat)
    · exact ⟨_, _, .inl ⟨mu.toNat, by omega, by omega, by omega, h2, rfl, rfl⟩⟩
    · exact ⟨_, _, .inr (.inl ⟨mu.toNat, by omega, by omega, by omega, h2, rfl, rfl⟩)⟩
/-- begun -/
def begP (p : Pc) (heap : Nat) : Pc := ⟨p.pct, p.least, p.live, true, max p.live 1, max (max (goalP p - min heap (goalP p)) (goalP p / 20)) 1, p.credit, p.done, p.made, p.ds⟩
theorem begP_ok {p : Pc} (h : OkP p) (hn : p.on = false) (heap : Nat) : OkP (begP p heap) := by
  have hg := goalP_le p
  have hl := h.live
  exact ⟨h.pct1, h.pct2, h.least1, h.least2, h.live, h.len1, h.len2, by simp only [begP]; omega, by simp only [begP]; omega, h.credit, h.done, h.made, h.ds, fun _ => by simp only [begP]; omega, fun e => by simp [begP] at e⟩
def BegE (p : Pc) (heap : Nat) (q : Pc) (y : Int) : Prop :=
  (¬ OkP p ∧ q = Pc.zero ∧ y = 2) ∨ (OkP p ∧ p.on = true ∧ q = p ∧ y = 5) ∨ (OkP p ∧ p.on = false ∧ 1099511627776 < heap ∧ q = p ∧ y = 1) ∨ (OkP p ∧ p.on = false ∧ heap ≤ 1099511627776 ∧ q = begP p heap ∧ y = 0)
theorem BegE.ex (p : Pc) (heap : Nat) : ∃ q y, BegE p heap q y := by
  by_cases h : OkP p
  · cases ho : p.on
    · by_cases hh : 1099511627776 < heap
      · exact ⟨_, _, .inr (.inr (.inl ⟨h, ho, hh, rfl, rfl⟩))⟩
      · exact ⟨_, _, .inr (.inr (.inr ⟨h, ho, by omega, rfl, rfl⟩))⟩
    · exact ⟨_, _, .inr (.inl ⟨h, ho, rfl, rfl⟩)⟩
  · exact ⟨_, _, .inl ⟨h, rfl, rfl⟩⟩
/-- ended -/
def endP (p : Pc) (live : Nat) : Pc := ⟨p.pct, p.least, live, false, 0, 0, 0, 0, 0, List.replicate p.ds.length 0⟩
theorem endP_ok {p : Pc} (h : OkP p) {live : Nat} (hl : live ≤ 1099511627776) : OkP (endP p live) :=
  ⟨h.pct1, h.pct2, h.least1, h.least2, hl, by simp only [endP, List.length_replicate]; exact h.len1, by simp only [endP, List.length_replicate]; exact h.len2, by simp [endP], by simp [endP], by simp [endP], by simp [endP], by simp [endP], fun d hd => by simp [endP] at hd; omega, fun e => by simp [endP] at e,
    fun _ => ⟨rfl, rfl, rfl, rfl, rfl, fun d hd => by simp [endP] at hd; exact hd.2⟩⟩
def EndE (p : Pc) (live : Nat) (q : Pc) (y : Int) : Prop :=
  (¬ OkP p ∧ q = Pc.zero ∧ y = 2) ∨ (OkP p ∧ p.on = false ∧ q = p ∧ y = 5) ∨ (OkP p ∧ p.on = true ∧ 1099511627776 < live ∧ q = p ∧ y = 1) ∨ (OkP p ∧ p.on = true ∧ live ≤ 1099511627776 ∧ q = endP p live ∧ y = 0)
theorem EndE.ex (p : Pc) (live : Nat) : ∃ q y, EndE p live q y := by
  by_cases h : OkP p
  · cases ho : p.on
    · exact ⟨_, _, .inr (.inl ⟨h, ho, rfl, rfl⟩)⟩
    · by_cases hh : 1099511627776 < live
      · exact ⟨_, _, .inr (.inr (.inl ⟨h, ho, hh, rfl, rfl⟩))⟩
      · exact ⟨_, _, .inr (.inr (.inr ⟨h, ho, by omega, rfl, rfl⟩))⟩
  · exact ⟨_, _, .inl ⟨h, rfl, rfl⟩⟩
/-- a sum, or the most -/
def cp (x : Nat) : Nat := min x 1099511627776
theorem cp_le (x : Nat) : cp x ≤ 1099511627776 := Nat.min_le_right _ _
/-- what words cost, rounded up -/
def owesP (p : Pc) (words : Nat) : Nat := (words * p.est + p.room - 1) / p.room
theorem owes_ref {p : Pc} {words : Nat} (h : 1 ≤ p.room) : owesP p words = words * p.est / p.room + (if 0 < words * p.est % p.room then 1 else 0) := by
  unfold owesP
  generalize words * p.est = x
  generalize p.room = r at h
  have e := Nat.div_add_mod x r
  have hm := Nat.mod_lt x (show 0 < r by omega)
  generalize x / r = d at *
  generalize x % r = m at *
  subst e
  split
  · rw [show r * d + m + r - 1 = (m - 1) + r * (d + 1) by rw [Nat.mul_add]; omega, Nat.add_mul_div_left _ _ (by omega), Nat.div_eq_of_lt (by omega)]
    omega
  · have : m = 0 := by omega
    subst this
    rw [show r * d + 0 + r - 1 = (r - 1) + r * d by omega, Nat.add_mul_div_left _ _ (by omega), Nat.div_eq_of_lt (by omega)]
    omega
/-- a mutator's debt, words made, ahead of being paid from the credit -/
def debtP (p : Pc) (k words : Nat) : Nat := cp (p.ds.getD k 0 + owesP p words)
def allP (p : Pc) (k words : Nat) : Pc := ⟨p.pct, p.least, p.live, p.on, p.est, p.room, p.credit - min (debtP p k words) p.credit, p.done, cp (p.made + words), p.ds.set k (debtP p k words - min (debtP p k words) p.credit)⟩
theorem allP_ok {p : Pc} (h : OkP p) (hn : p.on = true) (k words : Nat) : OkP (allP p k words) := by
  have h1 := h.on1 hn
  have hc := h.credit
  refine ⟨h.pct1, h.pct2, h.least1, h.least2, h.live, by simp only [allP, List.length_set]; exact h.len1, by simp only [allP, List.length_set]; exact h.len2, h.est, h.room, by simp only [allP]; omega, h.done, by simp only [allP]; exact cp_le _, fun d hd => ?_, fun _ => h1, fun e => by simp only [allP] at e; rw [hn] at e; cases e⟩
  simp only [allP] at hd
  rcases List.mem_or_eq_of_mem_set hd with hd | rfl
  · exact h.ds d hd
  · have := cp_le (p.ds.getD k 0 + owesP p words)
    unfold debtP
    omega
def AllE (p : Pc) (who : Int) (words : Nat) (q : Pc) (o : Nat) (y : Int) : Prop :=
  (¬ OkP p ∧ q = Pc.zero ∧ o = 0 ∧ y = 2) ∨ (OkP p ∧ (who < 0 ∨ p.ds.length ≤ who) ∧ q = p ∧ o = 0 ∧ y = 11) ∨ (OkP p ∧ 0 ≤ who ∧ who < p.ds.length ∧ 1048576 < words ∧ q = p ∧ o = 0 ∧ y = 1) ∨
  (OkP p ∧ 0 ≤ who ∧ who < p.ds.length ∧ words ≤ 1048576 ∧ p.on = false ∧ q = p ∧ o = 0 ∧ y = 0) ∨
  (∃ k : Nat, who = k ∧ k < p.ds.length ∧ OkP p ∧ words ≤ 1048576 ∧ p.on = true ∧ q = allP p k words ∧ o = debtP p k words - min (debtP p k words) p.credit ∧ y = 0)
theorem AllE.ex (p : Pc) (who : Int) (words : Nat) : ∃ q o y, AllE p who words q o y := by
  by_cases h : OkP p
  · by_cases hw : who < 0 ∨ p.ds.length ≤ who
    · exact ⟨_, _, _, .inr (.inl ⟨h, hw, rfl, rfl, rfl⟩)⟩
    · by_cases hh : 1048576 < words
      · exact ⟨_, _, _, .inr (.inr (.inl ⟨h, by omega, by omega, hh, rfl, rfl, rfl⟩))⟩
      · cases ho : p.on
        · exact ⟨_, _, _, .inr (.inr (.inr (.inl ⟨h, by omega, by omega, by omega, ho, rfl, rfl, rfl⟩)))⟩
        · exact ⟨_, _, _, .inr (.inr (.inr (.inr ⟨who.toNat, by omega, by omega, h, by omega, ho, rfl, rfl, rfl⟩)))⟩
  · exact ⟨_, _, _, .inl ⟨h, rfl, rfl, rfl⟩⟩
/-- n steps of nobody -/
def wrkN (p : Pc) (n : Nat) : Pc := ⟨p.pct, p.least, p.live, p.on, p.est, p.room, cp (p.credit + n), cp (p.done + n), p.made, p.ds⟩
/-- n steps of the k-th -/
def wrkK (p : Pc) (k n : Nat) : Pc := ⟨p.pct, p.least, p.live, p.on, p.est, p.room, cp (p.credit + (n - min n (p.ds.getD k 0))), cp (p.done + n), p.made, p.ds.set k (p.ds.getD k 0 - min n (p.ds.getD k 0))⟩
/-- steps of whoever it is -/
def wrk1 (who : Int) (p : Pc) (n : Nat) : Pc := if who = -1 then wrkN p n else wrkK p who.toNat n
def wrk (who : Int) (p : Pc) : List Nat → Pc
  | [] => p
  | n :: l => wrk who (wrk1 who p n) l
theorem wrk_snoc (who : Int) (p : Pc) (l : List Nat) (n : Nat) : wrk who p (l ++ [n]) = wrk1 who (wrk who p l) n := by
  induction l generalizing p with
  | nil => rfl
  | cons x l ih => exact ih _
theorem wrk_take {who : Int} {p : Pc} {l : List Nat} {k : Nat} (hk : k < l.length) : wrk who p (l.take (k + 1)) = wrk1 who (wrk who p (l.take k)) (l.getD k 0) := by
  rw [← wrk_snoc]
  congr 1
  rw [List.take_add_one, List.getD_eq_getElem?_getD, List.getElem?_eq_getElem hk]
  rfl
theorem wrk1_ok {p : Pc} (h : OkP p) (hn : p.on = true) (who : Int) (n : Nat) : OkP (wrk1 who p n) ∧ (wrk1 who p n).on = true ∧ (wrk1 who p n).ds.length = p.ds.length := by
  have h1 := h.on1 hn
  unfold wrk1
  split
  · exact ⟨⟨h.pct1, h.pct2, h.least1, h.least2, h.live, h.len1, h.len2, h.est, h.room, cp_le _, cp_le _, h.made, h.ds, fun _ => h1, fun e => by simp only [wrkN] at e; rw [hn] at e; cases e⟩, hn, rfl⟩
  · refine ⟨⟨h.pct1, h.pct2, h.least1, h.least2, h.live, by simp only [wrkK, List.length_set]; exact h.len1, by simp only [wrkK, List.length_set]; exact h.len2, h.est, h.room, cp_le _, cp_le _, h.made, fun d hd => ?_, fun _ => h1, fun e => by simp only [wrkK] at e; rw [hn] at e; cases e⟩, hn, by simp [wrkK]⟩
    simp only [wrkK] at hd
    rcases List.mem_or_eq_of_mem_set hd with hd | rfl
    · exact h.ds d hd
    · have : p.ds.getD who.toNat 0 ≤ 1099511627776 := by
        by_cases hk : who.toNat < p.ds.length
        · rw [List.getD_eq_getElem?_getD, List.getElem?_eq_getElem hk]; exact h.ds _ (List.getElem_mem hk)
        · rw [List.getD_eq_getElem?_getD, List.getElem?_eq_none (by omega)]; simp
      omega
theorem wrk_ok {p : Pc} (h : OkP p) (hn : p.on = true) (who : Int) (l : List Nat) : OkP (wrk who p l) ∧ (wrk who p l).on = true ∧ (wrk who p l).ds.length = p.ds.length := by
  induction l generalizing p with
  | nil => exact ⟨h, hn, rfl⟩
  | cons x l ih =>
    obtain ⟨a, b, c⟩ := wrk1_ok h hn who x
    obtain ⟨d, e, f⟩ := ih a b
    exact ⟨d, e, f.trans c⟩
/-- what stays of a pacer while steps are done -/
theorem wrk_same (who : Int) (p : Pc) (l : List Nat) : (wrk who p l).pct = p.pct ∧ (wrk who p l).least = p.least ∧ (wrk who p l).live = p.live ∧ (wrk who p l).on = p.on ∧ (wrk who p l).est = p.est ∧ (wrk who p l).room = p.room ∧ (wrk who p l).made = p.made := by
  induction l generalizing p with
  | nil => exact ⟨rfl, rfl, rfl, rfl, rfl, rfl, rfl⟩
  | cons x l ih =>
    obtain ⟨a, b, c, d, e, f, g⟩ := ih (wrk1 who p x)
    have : (wrk1 who p x).pct = p.pct ∧ (wrk1 who p x).least = p.least ∧ (wrk1 who p x).live = p.live ∧ (wrk1 who p x).on = p.on ∧ (wrk1 who p x).est = p.est ∧ (wrk1 who p x).room = p.room ∧ (wrk1 who p x).made = p.made := by
      unfold wrk1
      split <;> exact ⟨rfl, rfl, rfl, rfl, rfl, rfl, rfl⟩
    obtain ⟨a2, b2, c2, d2, e2, f2, g2⟩ := this
    exact ⟨a.trans a2, b.trans b2, c.trans c2, d.trans d2, e.trans e2, f.trans f2, g.trans g2⟩
def WrkE (p : Pc) (who : Int) (l : List Nat) (q : Pc) (y : Int) : Prop :=
  (¬ OkP p ∧ q = Pc.zero ∧ y = 2) ∨ (OkP p ∧ (who < -1 ∨ p.ds.length ≤ who) ∧ q = p ∧ y = 11) ∨ (OkP p ∧ -1 ≤ who ∧ who < p.ds.length ∧ p.on = false ∧ q = p ∧ y = 5) ∨
  (OkP p ∧ -1 ≤ who ∧ who < p.ds.length ∧ p.on = true ∧ ¬ AllM l ∧ q = p ∧ y = 1) ∨ (OkP p ∧ -1 ≤ who ∧ who < p.ds.length ∧ p.on = true ∧ AllM l ∧ q = wrk who p l ∧ y = 0)
theorem WrkE.ex (p : Pc) (who : Int) (l : List Nat) : ∃ q y, WrkE p who l q y := by
  by_cases h : OkP p
  · by_cases hw : who < -1 ∨ p.ds.length ≤ who
    · exact ⟨_, _, .inr (.inl ⟨h, hw, rfl, rfl⟩)⟩
    · cases ho : p.on
      · exact ⟨_, _, .inr (.inr (.inl ⟨h, by omega, by omega, ho, rfl, rfl⟩))⟩
      · by_cases hm : AllM l
        · exact ⟨_, _, .inr (.inr (.inr (.inr ⟨h, by omega, by omega, ho, hm, rfl, rfl⟩)))⟩
        · exact ⟨_, _, .inr (.inr (.inr (.inl ⟨h, by omega, by omega, ho, hm, rfl, rfl⟩)))⟩
  · exact ⟨_, _, .inl ⟨h, rfl, rfl⟩⟩
end Go.Proofs.Ytkdbcoibapcmjaa
