/- The state of TopHeld's loops when rows grow. -/
import Derived.Test.YthikpamjeckfcaaDoorH2
namespace Go.Proofs.YthikpamjeckfcaaDoor
open Go.RowKit
set_option linter.unusedVariables false
set_option linter.unusedSimpArgs false

/-- words at A, numbers at AF and AS -/
structure RSt (w : World) (B : Nat) (A : Option Addr) (us : List Nat) (AF : Option Addr) (capF : Nat) (AS : Option Addr) (capS : Nat) (fs ss : List Nat) : Prop where
  row : Row w w.heap.size A us
  f : Row2 w B AF capF fs
  s : Row2 w B AS capS ss
  sepFS : ∀ g, blk AF = some g → blk AS ≠ some g
  sepF : ∀ g, blk AF = some g → 0 < us.length → ∀ b o, A = some ⟨b, o, none⟩ → b ≠ g
  sepS : ∀ g, blk AS = some g → 0 < us.length → ∀ b o, A = some ⟨b, o, none⟩ → b ≠ g
  big : B ≤ w.heap.size
theorem RSt.later {w w' : World} {B capF capS : Nat} {A AF AS : Option Addr} {us fs ss : List Nat} (h : RSt w B A us AF capF AS capS fs ss) (hb : Below w.heap.size w w') : RSt w' B A us AF capF AS capS fs ss :=
  ⟨h.row.later hb, owns_later h.f hb, owns_later h.s hb, h.sepFS, h.sepF, h.sepS, Nat.le_trans h.big hb.size⟩
theorem row_grown {w w' : World} {A : Option Addr} {us : List Nat} (h : Row w w.heap.size A us) {row : Option Nat} (hg : w.grownBy w' row) (hne : 0 < us.length → ∀ b o, A = some ⟨b, o, none⟩ → row ≠ some b) : Row w' w'.heap.size A us :=
  ⟨h.words, fun hl => by
    obtain ⟨b, off, e, hb, hc⟩ := h.at_ hl
    exact ⟨b, off, e, Nat.lt_of_lt_of_le hb hg.size, fun i hi => (World.cell?_of_block (hg.block b hb (fun e2 => hne hl b off e e2.symm))).trans (hc i hi)⟩⟩
theorem two_grown {w w' : World} {g : Nat} {u0 u1 : Value} (h : Two w g u0 u1) {row : Option Nat} (hg : w.grownBy w' row) (hlt : g < w.heap.size) (hne : row ≠ some g) : Two w' g u0 u1 := by
  have hb := hg.block g hlt (fun e => hne e.symm)
  exact ⟨(World.cell?_of_block (a := ⟨g, 0, none⟩) hb).trans h.c0, (World.cell?_of_block (a := ⟨g, 1, none⟩) hb).trans h.c1, fun i => (World.frozen?_of_block (a := ⟨g, i, none⟩) hb).trans (h.fr i)⟩
theorem RSt.appF {w w' : World} {B capF capS g cap a : Nat} {A AF AS : Option Addr} {us fs ss : List Nat} (h : RSt w B A us AF capF AS capS fs ss)
    (ho : w'.ownsRow B 3 1 (.slice (some ⟨g, 0, none⟩) (fs.length + 1) cap) (fs.length + 1) (natv fs ++ [.int .i64 (a : Nat)])) (hg : w.grownBy w' (Value.slice AF fs.length capF).ownBlock) (hat : (Value.slice AF fs.length capF).ownBlock = some g ∨ g = w.heap.size) :
    RSt w' B A us (some ⟨g, 0, none⟩) cap AS capS (fs ++ [a]) ss := by
  rw [own_blk] at hg hat
  have hl : (fs ++ [a]).length = fs.length + 1 := by simp
  rw [natv_snoc] at ho
  refine ⟨row_grown h.row hg (fun h0 b o e e2 => h.sepF b e2 h0 b o e rfl), by unfold Row2; rw [hl]; exact ho, h.s.kept hg (fun g' e e2 => h.sepFS g' e2 e), fun g' e => ?_, fun g' e h0 b o eA => ?_, h.sepS, Nat.le_trans h.big hg.size⟩
  · have e : g = g' := by simpa [blk] using e
    subst e
    rcases hat with hat | hat
    · exact h.sepFS g hat
    · intro e2
      have := (h.s.blk_lt e2).2
      omega
  · have e : g = g' := by simpa [blk] using e
    subst e
    rcases hat with hat | hat
    · exact h.sepF g hat h0 b o eA
    · obtain ⟨b', o', e2, hb, _⟩ := h.row.at_ h0
      rw [eA] at e2
      injection e2 with e2
      injection e2 with e2
      omega
theorem RSt.appS {w w' : World} {B capF capS g cap a : Nat} {A AF AS : Option Addr} {us fs ss : List Nat} (h : RSt w B A us AF capF AS capS fs ss)
    (ho : w'.ownsRow B 3 1 (.slice (some ⟨g, 0, none⟩) (ss.length + 1) cap) (ss.length + 1) (natv ss ++ [.int .i64 (a : Nat)])) (hg : w.grownBy w' (Value.slice AS ss.length capS).ownBlock) (hat : (Value.slice AS ss.length capS).ownBlock = some g ∨ g = w.heap.size) :
    RSt w' B A us AF capF (some ⟨g, 0, none⟩) cap fs (ss ++ [a]) := by
  rw [own_blk] at hg hat
  have hl : (ss ++ [a]).length = ss.length + 1 := by simp
  rw [natv_snoc] at ho
  refine ⟨row_grown h.row hg (fun h0 b o e e2 => h.sepS b e2 h0 b o e rfl), h.f.kept hg (fun g' e e2 => h.sepFS g' e e2), by unfold Row2; rw [hl]; exact ho, fun g' e e2 => ?_, h.sepF, fun g' e h0 b o eA => ?_, Nat.le_trans h.big hg.size⟩
  · have e2 : g = g' := by simpa [blk] using e2
    subst e2
    rcases hat with hat | hat
    · exact h.sepFS g e hat
    · have := (h.f.blk_lt e).2
      omega
  · have e : g = g' := by simpa [blk] using e
    subst e
    rcases hat with hat | hat
    · exact h.sepS g hat h0 b o eA
    · obtain ⟨b', o', e2, hb, _⟩ := h.row.at_ h0
      rw [eA] at e2
      injection e2 with e2
      injection e2 with e2
      omega
theorem news_one (W : World) (v : Value) (b : Nat) (h : W.cell? ⟨b, 0, none⟩ = some v) : ∀ (j : Nat) (u : Value), [v][j]? = some u → W.cell? ((⟨b, 0, none⟩ : Addr).add j) = some u := by
  intro j u hj
  cases j with
  | zero => simp at hj; subst hj; rw [add_form]; exact h
  | succ j => simp at hj
theorem one_int (x : Int) : ∀ u ∈ [Value.int .i64 x], u.oneCell' = true := by
  intro u hu
  simp at hu
  subst hu
  rfl
theorem small_max {k : Nat} (h : k ≤ 4096) : k + 1 ≤ maxLen := by unfold maxLen; omega
theorem small_bytes {k : Nat} (h : k ≤ 4096) : (k + 1) * 8 ≤ 140737488355328 := by omega
theorem nb1 (w : World) (v : Value) (t : TypeId) : (w.alloc (.cells #[v] t)).cell? ⟨w.heap.size, 0, none⟩ = some v := by simp [go_sem]
theorem nb2 (w : World) (o : Obj) (v : Value) (t : TypeId) : ((w.alloc o).alloc (.cells #[v] t)).drew.cell? ⟨w.heap.size + 1, 0, none⟩ = some v :=
  (cell_of_row _ _ 0 _ _ (0, 0) (block2 w o (.cells #[v] t))).trans rfl
theorem nb2b (w : World) (o o' : Obj) (v : Value) (t : TypeId) : (((w.alloc o).alloc (.cells #[v] t)).alloc o').drew.cell? ⟨w.heap.size + 1, 0, none⟩ = some v :=
  (World.cell?_alloc_lt ((w.alloc o).alloc (.cells #[v] t)) o' ⟨w.heap.size + 1, 0, none⟩ (by simp)).trans (nb2 w o v t)
theorem nb3 (w : World) (o o' : Obj) (v : Value) (t : TypeId) : (((w.alloc o).alloc o').alloc (.cells #[v] t)).drew.cell? ⟨w.heap.size + 1 + 1, 0, none⟩ = some v :=
  (cell_of_row _ _ 0 _ _ (0, 0) (block3 w o o' (.cells #[v] t))).trans rfl
theorem grown_set (w : World) (g i : Nat) (u : Value) : w.grownBy (w.setCell ⟨g, i, none⟩ u) (some g) :=
  ⟨rfl, rfl, rfl, by simp, fun k hk hne => Below.heap_setCell _ _ _ _ (fun e => hne (by rw [e]))⟩
theorem RSt.set {w : World} {B capF capS g : Nat} {A AF AS : Option Addr} {us fs ss : List Nat} (h : RSt w B A us AF capF AS capS fs ss) (hg : g < B) (hA : 0 < us.length → ∀ b o, A = some ⟨b, o, none⟩ → g ≠ b) (i : Nat) (u : Value) :
    RSt (w.setCell ⟨g, i, none⟩ u) B A us AF capF AS capS fs ss :=
  ⟨row_grown h.row (grown_set w g i u) (fun h0 b o e e2 => hA h0 b o e (by injection e2)), h.f.kept (grown_set w g i u) (fun g' e e2 => by have := (h.f.blk_lt e).1; injection e2; omega), h.s.kept (grown_set w g i u) (fun g' e e2 => by have := (h.s.blk_lt e).1; injection e2; omega), h.sepFS, h.sepF, h.sepS, by simpa using h.big⟩
theorem RSt.held {w : World} {B capF capS pb n L cap : Nat} {A AF AS : Option Addr} {us fs ss : List Nat} {u0 u1 : Value} (h : RSt w B A us AF capF AS capS fs ss) (t : Two w pb u0 u1) (hg : pb < B) (hA : 0 < us.length → ∀ b o, A = some ⟨b, o, none⟩ → pb ≠ b) :
    HSt ((w.setCell ⟨pb, 0, none⟩ (.int .i64 (n : Nat))).setCell ⟨pb, 1, none⟩ (.slice A L cap)) B pb n L A cap us AF capF AS capS fs ss := by
  have h2 := (h.set hg hA 0 (.int .i64 (n : Nat))).set hg hA 1 (.slice A L cap)
  have s2 := set_two (.int .i64 (n : Nat)) (.slice A L cap) t.c0 t.c1
  exact ⟨⟨s2.1, s2.2, fun i => by rw [World.frozen?_setCell, World.frozen?_setCell]; exact t.fr i⟩, h2.row, h2.f, h2.s, h2.sepFS, h2.sepF, h2.sepS, h2.big, hg⟩
theorem free_len {n q fr L : Nat} {A : Option Addr} {us : List Nat} {w : World} (cap : Nat) (hL : us.length = L) (h : Right (n : Nat) us) (hq : countTo us n = q) (hf : fr + q = n) (hr : Row w w.heap.size A us) :
    Calls Tryd.prog 9 #[.agg #[.int .i64 (n : Nat), .slice A L cap]] w fun e w' => e = .returned (.tuple #[.int .i64 (fr : Nat), .int .i64 0]) ∧ Below w.heap.size w w' := by
  subst hL
  have := free_ok (n := (n : Nat)) cap hr h
  rw [show ((n : Nat) : Int).toNat = n by omega, hq, show ((n : Nat) : Int) - ((q : Nat) : Int) = ((fr : Nat) : Int) by omega] at this
  exact this
theorem longest_len {n L : Nat} {A : Option Addr} {us : List Nat} {w : World} (cap : Nat) (hL : us.length = L) (h : Right (n : Nat) us) (hb : best us n = n) (hr : Row w w.heap.size A us) :
    Calls Tryd.prog 11 #[.agg #[.int .i64 (n : Nat), .slice A L cap]] w fun e w' => e = .returned (.tuple #[.int .i64 (n : Nat), .int .i64 0]) ∧ Below w.heap.size w w' := by
  subst hL
  have := longest_ok (n := (n : Nat)) cap hr h
  rw [show ((n : Nat) : Int).toNat = n by omega, hb] at this
  exact this
theorem give_next {n L f s : Nat} {us : List Nat} (hL : us.length = L) (h : Right (n : Nat) us) (h1 : 1 ≤ s) (h2 : f + s ≤ n) (hi : ∀ j : Nat, f ≤ j → j < f + s → tb us j = true) :
    ∃ vs : List Nat, vs.length = L ∧ Right (n : Nat) vs ∧ (∀ j, tb vs j = if f ≤ j ∧ j < f + s then false else tb us j) ∧
      ∀ (w : World) (A : Option Addr) (cap : Nat), Row w w.heap.size A us → Calls Tryd.prog 10 #[.agg #[.int .i64 (n : Nat), .slice A L cap], .int .i64 (f : Nat), .int .i64 (s : Nat)] w fun e w' => ∃ A' cap', e = .returned (.tuple #[.agg #[.int .i64 (n : Nat), .slice A' L cap'], .int .i64 0]) ∧ Own w' w.heap.size A' vs ∧ Below w.heap.size w w' := by
  subst hL
  have hl := h.long
  refine ⟨fillW us f s false, length_fillW _ _ _ _, right_fillW h _ _ _ (by omega), fun j => tb_fillW _ _ _ _ _ (by omega), fun w A cap hr => ?_⟩
  have := give_ok (n := (n : Nat)) cap (f : Nat) (s : Nat) hr h (by omega) (by omega) (by omega) (fun j a b => hi j (by omega) (by omega))
  rw [show ((f : Nat) : Int).toNat = f by omega, show ((s : Nat) : Int).toNat = s by omega] at this
  refine this.mono ?_
  rintro e w' ⟨A', cap', he, ho, hb⟩
  rw [length_fillW] at he
  exact ⟨A', cap', he, ho, hb⟩
/-- the state in which a run has been given back, and the rows are about to be cut: pages at pb, the new ones at qb -/
structure CSt (w w0 : World) (B pb qb n L : Nat) (A : Option Addr) (cap : Nat) (us : List Nat) (gF cF gS cS : Nat) (gs ts : List Nat) : Prop where
  p : ∃ u v, Two w pb u v
  q : Two w qb (.int .i64 (n : Nat)) (.slice A L cap)
  row : Row w w.heap.size A us
  f : Row2 w B (some ⟨gF, 0, none⟩) cF gs
  s : Row2 w B (some ⟨gS, 0, none⟩) cS ts
  low : pb < B
  big : B ≤ w.heap.size
  qlt : qb < w.heap.size
  apq : pb ≠ qb
  apA : 0 < us.length → ∀ b o, A = some ⟨b, o, none⟩ → pb ≠ b
  bel : Below w0.heap.size w0 w
end Go.Proofs.YthikpamjeckfcaaDoor
