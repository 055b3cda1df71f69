/- Queues in memory. -/
import Derived.Test.YtlaladhnidcoiaaG0
import Derived.Maps.OwnSet
namespace Go.Proofs.Ytlaladhnidcoiaa
open Go.RowKit
set_option linter.unusedVariables false
set_option linter.unusedSimpArgs false

/-- a queue of a call's own, from block B on -/
structure QOwn (w : World) (B : Nat) (A : Option Addr) (q : List Nat) : Prop where
  words : Words q
  at_ : 0 < q.length → ∃ g off, A = some ⟨g, off, none⟩ ∧ B ≤ g ∧ g < w.heap.size ∧ ∀ i, i < q.length → w.cell? ⟨g, off + i, none⟩ = some (.int .u64 (q.getD i 0 : Nat)) ∧ w.frozen? ⟨g, off + i, none⟩ = false
theorem QOwn.row {w : World} {B : Nat} {A : Option Addr} {q : List Nat} (h : QOwn w B A q) : Row w w.heap.size A q :=
  ⟨h.words, fun hl => by
    obtain ⟨g, off, e, _, hg, hc⟩ := h.at_ hl
    exact ⟨g, off, e, hg, fun i hi => (hc i hi).1⟩⟩
theorem QOwn.nil (w : World) (B : Nat) (A : Option Addr) : QOwn w B A [] := ⟨fun x hx => by simp at hx, fun h => by simp at h⟩
theorem QOwn.later {w w' : World} {B : Nat} {A : Option Addr} {q : List Nat} (h : QOwn w B A q) (hb : Below w.heap.size w w') : QOwn w' B A q :=
  ⟨h.words, fun hl => by
    obtain ⟨g, off, e, h1, hg, hc⟩ := h.at_ hl
    exact ⟨g, off, e, h1, Nat.lt_of_lt_of_le hg hb.size, fun i hi => ⟨((bcell hb).1 _ _ hg).trans (hc i hi).1, ((bcell hb).2 _ _ hg).trans (hc i hi).2⟩⟩⟩
theorem QOwn.mono {w : World} {B B' : Nat} {A : Option Addr} {q : List Nat} (h : QOwn w B A q) (hB : B' ≤ B) : QOwn w B' A q :=
  ⟨h.words, fun hl => by
    obtain ⟨g, off, e, h1, hg, hc⟩ := h.at_ hl
    exact ⟨g, off, e, by omega, hg, hc⟩⟩
/-- a store into a block in which the queue is not -/
theorem QOwn.set {w : World} {B : Nat} {A : Option Addr} {q : List Nat} (h : QOwn w B A q) {p : Addr} (hp : ∀ o, A ≠ some ⟨p.block, o, none⟩) (u : Value) : QOwn (w.setCell p u) B A q :=
  ⟨h.words, fun hl => by
    obtain ⟨g, off, e, h1, hg, hc⟩ := h.at_ hl
    refine ⟨g, off, e, h1, by simpa using hg, fun i hi => ⟨?_, ?_⟩⟩
    · rw [World.cell?_setCell_other]
      · exact (hc i hi).1
      · rintro rfl
        exact hp _ e
    · rw [World.frozen?_setCell]
      exact (hc i hi).2⟩
theorem QOwn.of_owns {w : World} {B n cap : Nat} {A : Option Addr} {q : List Nat} (h : OwnsN w B A n cap q) : QOwn w B A q :=
  ⟨h.words, fun hl => by
    obtain ⟨g, e, h1, hg, hc⟩ := h.own.at_ hl
    exact ⟨g, 0, e, h1, hg, fun i hi => by rw [Nat.zero_add]; exact hc i hi⟩⟩
theorem getD_drop1 (q : List Nat) (i : Nat) : (q.drop 1).getD i 0 = q.getD (i + 1) 0 := by
  rw [List.getD_eq_getElem?_getD, List.getElem?_drop, List.getD_eq_getElem?_getD, Nat.add_comm]
theorem QOwn.take {w : World} {B : Nat} {A : Option Addr} {q : List Nat} (h : QOwn w B A q) (k : Nat) : QOwn w B A (q.take k) :=
  ⟨fun x hx => h.words x (List.mem_of_mem_take hx), fun hl => by
    rw [List.length_take] at hl
    obtain ⟨g, off, e, h1, hg, hc⟩ := h.at_ (by omega)
    refine ⟨g, off, e, h1, hg, fun i hi => ?_⟩
    rw [List.length_take] at hi
    rw [getD_take _ _ _ (by omega)]
    exact hc i (by omega)⟩
theorem QOwn.drop1 {w : World} {B g off : Nat} {q : List Nat} (h : QOwn w B (some ⟨g, off, none⟩) q) : QOwn w B (some ⟨g, off + 1, none⟩) (q.drop 1) :=
  ⟨fun x hx => h.words x (List.mem_of_mem_drop hx), fun hl => by
    rw [List.length_drop] at hl
    obtain ⟨g', off', e, h1, hg, hc⟩ := h.at_ (by omega)
    injection e with e
    injection e with e1 e2
    subst e1 e2
    refine ⟨g, off + 1, rfl, h1, hg, fun i hi => ?_⟩
    rw [List.length_drop] at hi
    rw [getD_drop1, show off + 1 + i = off + (i + 1) by omega]
    exact hc (i + 1) (by omega)⟩
/-- how many there may be: no machine has room for more -/
structure QLim (qs : List (List Nat)) : Prop where
  many : qs.length ≤ 5864062014805
  each : ∀ i, (nq qs i).length ≤ 17592186044416
/-- the slice at A holds slices that hold the queues -/
structure GRow (w : World) (A : Option Addr) (qs : List (List Nat)) : Prop where
  lim : QLim qs
  at_ : 0 < qs.length → ∃ b off, A = some ⟨b, off, none⟩ ∧ b < w.heap.size ∧ ∀ i, i < qs.length → ∃ Ai ci, w.cell? ⟨b, off + i, none⟩ = some (.slice Ai (nq qs i).length ci) ∧ Row w w.heap.size Ai (nq qs i) ∧ (nq qs i).length ≤ ci ∧ (Ai = none → ci = 0)
theorem GRow.later {w w' : World} {A : Option Addr} {qs : List (List Nat)} (h : GRow w A qs) (hb : Below w.heap.size w w') : GRow w' A qs :=
  ⟨h.lim, fun hl => by
    obtain ⟨b, off, e, hg, hc⟩ := h.at_ hl
    refine ⟨b, off, e, Nat.lt_of_lt_of_le hg hb.size, fun i hi => ?_⟩
    obtain ⟨Ai, ci, h1, h2, h3⟩ := hc i hi
    exact ⟨Ai, ci, ((bcell hb).1 _ _ hg).trans h1, h2.later hb, h3⟩⟩
/-- queues of a call's own -/
structure GOwn (w : World) (B : Nat) (A : Option Addr) (qs : List (List Nat)) : Prop where
  lim : QLim qs
  at_ : 0 < qs.length → ∃ g, A = some ⟨g, 0, none⟩ ∧ B ≤ g ∧ g < w.heap.size ∧ ∀ i, i < qs.length → ∃ Ai ci, w.cell? ⟨g, i, none⟩ = some (.slice Ai (nq qs i).length ci) ∧ QOwn w B Ai (nq qs i) ∧ (∀ o, Ai ≠ some ⟨g, o, none⟩) ∧ (nq qs i).length ≤ ci ∧ (Ai = none → ci = 0)
theorem GOwn.row {w : World} {B : Nat} {A : Option Addr} {qs : List (List Nat)} (h : GOwn w B A qs) : GRow w A qs :=
  ⟨h.lim, fun hl => by
    obtain ⟨g, e, _, hg, hc⟩ := h.at_ hl
    refine ⟨g, 0, e, hg, fun i hi => ?_⟩
    obtain ⟨Ai, ci, h1, h2, _, h3⟩ := hc i hi
    exact ⟨Ai, ci, by rw [Nat.zero_add]; exact h1, h2.row, h3⟩⟩
theorem GOwn.later {w w' : World} {B : Nat} {A : Option Addr} {qs : List (List Nat)} (h : GOwn w B A qs) (hb : Below w.heap.size w w') : GOwn w' B A qs :=
  ⟨h.lim, fun hl => by
    obtain ⟨g, e, hB, hg, hc⟩ := h.at_ hl
    refine ⟨g, e, hB, Nat.lt_of_lt_of_le hg hb.size, fun i hi => ?_⟩
    obtain ⟨Ai, ci, h1, h2, h3⟩ := hc i hi
    exact ⟨Ai, ci, ((bcell hb).1 _ _ hg).trans h1, h2.later hb, h3⟩⟩
theorem GOwn.mono {w : World} {B B' : Nat} {A : Option Addr} {qs : List (List Nat)} (h : GOwn w B A qs) (hB : B' ≤ B) : GOwn w B' A qs :=
  ⟨h.lim, fun hl => by
    obtain ⟨g, e, hB2, hg, hc⟩ := h.at_ hl
    refine ⟨g, e, by omega, hg, fun i hi => ?_⟩
    obtain ⟨Ai, ci, h1, h2, h3⟩ := hc i hi
    exact ⟨Ai, ci, h1, h2.mono hB, h3⟩⟩
theorem qlim_nil : QLim [] := ⟨by simp, fun i => by rw [nq_out _ _ (by simp)]; simp⟩
theorem GOwn.nil (w : World) (B : Nat) (A : Option Addr) : GOwn w B A [] := ⟨qlim_nil, fun h => by simp at h⟩
/-- a store ahead of block B -/
theorem GOwn.far {w : World} {B : Nat} {A : Option Addr} {qs : List (List Nat)} (h : GOwn w B A qs) {p : Addr} (hp : p.block < B) (u : Value) : GOwn (w.setCell p u) B A qs :=
  ⟨h.lim, fun hl => by
    obtain ⟨g, e, hB, hg, hc⟩ := h.at_ hl
    refine ⟨g, e, hB, by simpa using hg, fun i hi => ?_⟩
    obtain ⟨Ai, ci, h1, h2, h3⟩ := hc i hi
    refine ⟨Ai, ci, by rw [World.cell?_setCell_other _ _ _ _ (by rintro rfl; exact Nat.lt_irrefl _ (Nat.lt_of_lt_of_le hp hB))]; exact h1, ?_, h3⟩
    by_cases h0 : 0 < (nq qs i).length
    · refine h2.set (fun o eo => ?_) u
      obtain ⟨g2, off2, e2, hB2, _⟩ := h2.at_ h0
      rw [e2] at eo
      injection eo with eo
      injection eo with eo
      omega
    · have : nq qs i = [] := List.eq_nil_of_length_eq_zero (by omega)
      rw [this]
      exact QOwn.nil _ _ _⟩
/-- a queue, and where it lies -/
structure Qv where
  A : Option Addr
  c : Nat
  q : List Nat
def qval (v : Qv) : Value := .slice v.A v.q.length v.c
def qflat (vs : List Qv) : List Value := vs.map qval
def qsOf (vs : List Qv) : List (List Nat) := vs.map Qv.q
theorem qflat_len (vs : List Qv) : (qflat vs).length = vs.length := by simp [qflat]
theorem qflat_at (vs : List Qv) (i : Nat) (h : i < vs.length) : (qflat vs)[i]? = some (qval vs[i]) := by simp [qflat, h]
theorem qflat_one (vs : List Qv) : ∀ v ∈ qflat vs, v.oneCell' = true := by
  intro v hv
  simp only [qflat, List.mem_map] at hv
  obtain ⟨x, _, rfl⟩ := hv
  rfl
theorem qsOf_len (vs : List Qv) : (qsOf vs).length = vs.length := by simp [qsOf]
theorem qsOf_at (vs : List Qv) (i : Nat) (h : i < vs.length) : nq (qsOf vs) i = vs[i].q := by
  rw [nq_get _ _ (by rw [qsOf_len]; exact h)]
  simp [qsOf]
theorem info_q : (Try.prog.info? 25).map (fun i => (i.zero, i.size, i.bytes)) = some (some (.slice none 0 0), 1, 24) := by kernel_rfl
/-- rows that lie apart -/
def Apart (vs : List Qv) : Prop := ∀ i j (hi : i < vs.length) (hj : j < vs.length), i ≠ j → ∀ g, vs[i].A = some ⟨g, 0, none⟩ → vs[j].A ≠ some ⟨g, 0, none⟩
/-- copies of queues: each may grow -/
structure GTwin (w : World) (B : Nat) (A : Option Addr) (cap : Nat) (vs : List Qv) : Prop where
  hd : w.ownsRow B 25 1 (.slice A vs.length cap) vs.length (qflat vs)
  rows : ∀ i (hi : i < vs.length), OwnsN w B vs[i].A vs[i].q.length vs[i].c vs[i].q
  off : ∀ i (hi : i < vs.length) g, A = some ⟨g, 0, none⟩ → vs[i].A ≠ some ⟨g, 0, none⟩
  apart : Apart vs
theorem OwnsN.zero {w : World} {B n cap g o : Nat} {s : Option Nat} {t : List Nat} (h : OwnsN w B (some ⟨g, o, none⟩) n cap t) : o = 0 := by
  obtain ⟨_, ⟨h1, h2⟩ | ⟨g', cap', cur, e, _⟩⟩ := h.row_
  · injection h1 with h1; cases h1
  · injection e with e1
    injection e1 with e1
    injection e1
theorem OwnsN.adr {w : World} {B n cap : Nat} {A : Option Addr} {t : List Nat} (h : OwnsN w B A n cap t) : A = none ∨ ∃ g, A = some ⟨g, 0, none⟩ ∧ B ≤ g ∧ g < w.heap.size := by
  obtain ⟨_, ⟨h1, h2⟩ | ⟨g', cap', cur, e, hB, hg, _⟩⟩ := id h.row_
  · injection h1 with h1; exact .inl h1
  · injection e with e1
    exact .inr ⟨g', e1, hB, heap_lt hg⟩
theorem GTwin.cell {w : World} {B cap g : Nat} {vs : List Qv} (h : GTwin w B (some ⟨g, 0, none⟩) cap vs) (i : Nat) (hi : i < vs.length) : w.cell? ⟨g, i, none⟩ = some (.slice vs[i].A vs[i].q.length vs[i].c) := by
  rw [h.hd.cellAt i (by omega), qflat_at vs i hi]
  rfl
theorem GTwin.adr {w : World} {B cap : Nat} {A : Option Addr} {vs : List Qv} (h : GTwin w B A cap vs) (hl : 0 < vs.length) : ∃ g, A = some ⟨g, 0, none⟩ ∧ B ≤ g ∧ g < w.heap.size := by
  obtain ⟨_, ⟨h1, h2⟩ | ⟨g', cap', cur, e, hB, hg, _⟩⟩ := id h.hd
  · omega
  · injection e with e1
    exact ⟨g', e1, hB, heap_lt hg⟩
theorem GTwin.own {w : World} {B cap : Nat} {A : Option Addr} {vs : List Qv} (h : GTwin w B A cap vs) (hl : QLim (qsOf vs)) : GOwn w B A (qsOf vs) :=
  ⟨hl, fun h0 => by
    rw [qsOf_len] at h0
    obtain ⟨g, rfl, hB, hg⟩ := h.adr h0
    refine ⟨g, rfl, hB, hg, fun i hi => ?_⟩
    rw [qsOf_len] at hi
    have hr := h.rows i hi
    refine ⟨vs[i].A, vs[i].c, by rw [qsOf_at vs i hi]; exact h.cell i hi, by rw [qsOf_at vs i hi]; exact QOwn.of_owns hr, fun o e => ?_, by rw [qsOf_at vs i hi]; exact hr.cap_, hr.nil_⟩
    rcases hr.adr with h1 | ⟨g', h1, _⟩
    · rw [h1] at e; cases e
    · rw [h1] at e
      injection e with e
      injection e with e1 e2
      subst e1
      exact h.off i hi g' rfl h1⟩
theorem GTwin.later {w w' : World} {B cap : Nat} {A : Option Addr} {vs : List Qv} (h : GTwin w B A cap vs) (hb : Below w.heap.size w w') : GTwin w' B A cap vs :=
  ⟨owns_laterN h.hd hb, fun i hi => (h.rows i hi).later hb, h.off, h.apart⟩
theorem GTwin.mono {w : World} {B B' cap : Nat} {A : Option Addr} {vs : List Qv} (h : GTwin w B A cap vs) (hB : B' ≤ B) : GTwin w B' A cap vs :=
  ⟨owns_monoN h.hd hB, fun i hi => (h.rows i hi).mono hB, h.off, h.apart⟩
theorem GTwin.nil (w : World) (B : Nat) : GTwin w B none 0 [] := ⟨World.ownsRow_nil _ _ _ _, fun i hi => by simp at hi, fun i hi => by simp at hi, fun i j hi => by simp at hi⟩
/-- a box of one cell that may be written -/
structure Bx (w : World) (b : Nat) (v : Value) : Prop where
  c : w.cell? ⟨b, 0, none⟩ = some v
  f : w.frozen? ⟨b, 0, none⟩ = false
theorem Bx.lt {w : World} {b : Nat} {v : Value} (h : Bx w b v) : b < w.heap.size := World.block_lt_of_cell? w _ h.c
theorem Bx.later {w w' : World} {b : Nat} {v : Value} (h : Bx w b v) (hb : Below w.heap.size w w') : Bx w' b v := ⟨((bcell hb).1 _ _ h.lt).trans h.c, ((bcell hb).2 _ _ h.lt).trans h.f⟩
theorem Bx.alloc {w : World} {b : Nat} {v : Value} (h : Bx w b v) (o : Obj) : Bx (w.alloc o) b v := h.later ((Below.refl _ _).alloc (Nat.le_refl _) _)
theorem Bx.new (w : World) (v : Value) (t : TypeId) : Bx (w.alloc (.cells #[v] t)) w.heap.size v := ⟨by simp, by simp⟩
theorem Bx.set {w : World} {b : Nat} {v : Value} (h : Bx w b v) (u : Value) : Bx (w.setCell ⟨b, 0, none⟩ u) b u := ⟨World.cell?_setCell_same _ _ _ h.c, by rw [World.frozen?_setCell]; exact h.f⟩
theorem Bx.far {w : World} {b : Nat} {v : Value} (h : Bx w b v) {p : Addr} (hp : p.block ≠ b) (u : Value) : Bx (w.setCell p u) b v := ⟨(World.cell?_setCell_other _ _ _ _ (by rintro rfl; exact hp rfl)).trans h.c, by rw [World.frozen?_setCell]; exact h.f⟩
theorem Bx.grown {w w' : World} {b g : Nat} {v : Value} (h : Bx w b v) (hg : w.grownBy w' (some g)) (hp : b ≠ g) : Bx w' b v :=
  ⟨(World.cell?_of_block (hg.block b h.lt (fun e => by injection e with e; exact hp e))).trans h.c, (World.frozen?_of_block (hg.block b h.lt (fun e => by injection e with e; exact hp e))).trans h.f⟩
/-- queues as a value -/
def gv (A : Option Addr) (n cap : Nat) : Value := .agg #[.slice A n cap]
theorem res_g1 {fn : Func} {p : Tmp} (h : fn.results = #[.cell p 24]) {tmps : Array Value} {w : World} {g : Nat} {v0 : Value} (hp : tmps.getD p undef = .pointer (some ⟨g, 0, none⟩))
    (h0 : w.cell? ⟨g, 0, none⟩ = some v0) : (results fn tmps).run Try.prog w = .ok (.agg #[v0]) w := by
  have hp2 : tmps[p]?.getD undef = .pointer (some ⟨g, 0, none⟩) := by rw [← hp]; simp
  simp only [results, h]
  simp [go_sem, Result.andThen, h0, asAddr, hp2]
theorem res_g2 {fn : Func} {p u : Tmp} (h : fn.results = #[.cell p 24, .tmp u]) {tmps : Array Value} {w : World} {g : Nat} {v0 : Value} (hp : tmps.getD p undef = .pointer (some ⟨g, 0, none⟩))
    (h0 : w.cell? ⟨g, 0, none⟩ = some v0) : (results fn tmps).run Try.prog w = .ok (.tuple #[.agg #[v0], tmps.getD u undef]) w := by
  rw [results_cell_tmp h, hp]
  simp [go_sem, Result.andThen, h0, asAddr]
theorem res_g4 {fn : Func} {p u x y : Tmp} (h : fn.results = #[.cell p 24, .tmp u, .tmp x, .tmp y]) {tmps : Array Value} {w : World} {g : Nat} {v0 : Value} (hp : tmps.getD p undef = .pointer (some ⟨g, 0, none⟩))
    (h0 : w.cell? ⟨g, 0, none⟩ = some v0) : (results fn tmps).run Try.prog w = .ok (.tuple #[.agg #[v0], tmps.getD u undef, tmps.getD x undef, tmps.getD y undef]) w := by
  have hp2 : tmps[p]?.getD undef = .pointer (some ⟨g, 0, none⟩) := by rw [← hp]; simp
  simp only [results, h]
  simp [go_sem, Result.andThen, h0, asAddr, hp2]
end Go.Proofs.Ytlaladhnidcoiaa
