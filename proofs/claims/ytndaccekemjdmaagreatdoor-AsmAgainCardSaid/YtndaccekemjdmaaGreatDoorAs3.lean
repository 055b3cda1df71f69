/- What the start laid; forms in memory; contracts of package asm: formOf, named. -/
import Derived.Test.YtndaccekemjdmaaGreatDoorAs2
import Derived.Lib.AppendIntMem
import Derived.Lib.LaidTab
import Derived.Deep.MidRow
namespace Go.Proofs.YtndaccekemjdmaaGreatDoor
open Go.RowKit
set_option linter.unusedVariables false
set_option linter.unusedSimpArgs false

def bs (l : List UInt8) : ByteArray := ⟨l.toArray⟩
theorem bs_data (l : List UInt8) : (bs l).data.toList = l := by simp [bs]
theorem bs_append (a b : List UInt8) : bs a ++ bs b = bs (a ++ b) := by
  apply ByteArray.ext
  simp [bs]
theorem bs_size (l : List UInt8) : (bs l).size = l.length := by simp [bs, ByteArray.size]
theorem bs_of (s : ByteArray) : bs s.data.toList = s := by
  apply ByteArray.ext
  simp [bs]
theorem fz_later {w w' : World} {g : Nat} (h : ∀ o, w.frozen? ⟨g, o, none⟩ = false) (hb : Below w.heap.size w w') (hg : g < w.heap.size) : ∀ o, w'.frozen? ⟨g, o, none⟩ = false := fun o => (hb.frozen (p := ⟨g, o, none⟩) hg).trans (h o)
theorem fz_new (w : World) (cs : Array Value) (t : TypeId) : ∀ o, (w.alloc (.cells cs t)).frozen? ⟨w.heap.size, o, none⟩ = false := fun o => by simp [go_sem]
theorem fz_old {w : World} {g : Nat} (h : ∀ o, w.frozen? ⟨g, o, none⟩ = false) (hg : g < w.heap.size) (cs : Array Value) (t : TypeId) : ∀ o, (w.alloc (.cells cs t)).frozen? ⟨g, o, none⟩ = false := fz_later h (Below.alloc (Below.refl _ _) (Nat.le_refl _) _) hg
def opn (f : Fm) (i : Nat) : Int := ((f.os.getD i 0 : Nat) : Int)
def fmv (f : Fm) : Value := .agg #[.string (bs f.nm), .int .u8 f.kd, .int .u8 f.op, .int .i64 (opn f 0), .int .i64 (opn f 1), .int .i64 (opn f 2)]
def fmc (f : Fm) : List Value := [.string (bs f.nm), .int .u8 f.kd, .int .u8 f.op, .int .i64 (opn f 0), .int .i64 (opn f 1), .int .i64 (opn f 2)]
def fmCells : List Value := fms.flatMap fmc
/-- a form that lies in block g -/
structure Fm6 (w : World) (g : Nat) (f : Fm) : Prop where
  c0 : w.cell? ⟨g, 0, none⟩ = some (.string (bs f.nm))
  c1 : w.cell? ⟨g, 1, none⟩ = some (.int .u8 f.kd)
  c2 : w.cell? ⟨g, 2, none⟩ = some (.int .u8 f.op)
  c3 : w.cell? ⟨g, 3, none⟩ = some (.int .i64 (opn f 0))
  c4 : w.cell? ⟨g, 4, none⟩ = some (.int .i64 (opn f 1))
  c5 : w.cell? ⟨g, 5, none⟩ = some (.int .i64 (opn f 2))
theorem Fm6.lt {w : World} {g : Nat} {f : Fm} (h : Fm6 w g f) : g < w.heap.size := World.block_lt_of_cell? w _ h.c0
theorem Fm6.later {w w' : World} {g : Nat} {f : Fm} (h : Fm6 w g f) (hb : Below w.heap.size w w') : Fm6 w' g f :=
  have hk : ∀ o, w'.cell? ⟨g, o, none⟩ = w.cell? ⟨g, o, none⟩ := fun o => (bcell hb).1 _ _ h.lt
  ⟨(hk _).trans h.c0, (hk _).trans h.c1, (hk _).trans h.c2, (hk _).trans h.c3, (hk _).trans h.c4, (hk _).trans h.c5⟩
theorem Fm6.new (w : World) (f : Fm) (t : TypeId) : Fm6 (w.alloc (.cells #[.string (bs f.nm), .int .u8 f.kd, .int .u8 f.op, .int .i64 (opn f 0), .int .i64 (opn f 1), .int .i64 (opn f 2)] t)) w.heap.size f := by
  constructor <;> simp [go_sem]
/-- the table of tens, the two errors of strconv, a number that the library keeps, and the forms, as the start laid them -/
structure Lw (w : World) : Prop where
  tab : Lib.TabIs Tryz.prog w "internal/strconv.uint64pow10" .u64 Lib.pow10Tab
  mx : ∃ m, w.cell? ⟨1, 0, none⟩ = some (.int .i64 m)
  syn : ∃ te pe, w.cell? ⟨7, 0, none⟩ = some (.iface te pe)
  rng : ∃ te pe, w.cell? ⟨8, 0, none⟩ = some (.iface te pe)
  fm : ∀ j v, fmCells[j]? = some v → w.cell? ⟨0, j, none⟩ = some v
theorem tab_later {n : String} {k : IntKind} {zs : List Int} {w w' : World} (hg : (Tryz.prog.globalNamed n).isSome = true) (h : Lib.TabIs Tryz.prog w n k zs) (hb : Below w.heap.size w w') : Lib.TabIs Tryz.prog w' n k zs := by
  obtain ⟨g, hg⟩ := Option.isSome_iff_exists.1 hg
  have hv : w.var? Tryz.prog n = some (zs.map fun z => Value.int k z).toArray := h
  show w'.var? Tryz.prog n = _
  rw [← hv]
  simp only [World.var?, hg] at hv ⊢
  rcases Nat.lt_or_ge g w.heap.size with hlt | hge
  · simp [hb.block g hlt]
  · simp [Array.getElem?_eq_none hge] at hv
theorem cell_later {w w' : World} {p : Addr} {v : Value} (h : w.cell? p = some v) (hp : p.spot = none) (hb : Below w.heap.size w w') : w'.cell? p = some v := by
  obtain ⟨b, o, s⟩ := p
  simp only at hp
  subst hp
  exact (hb.cell (p := ⟨b, o, none⟩) (World.block_lt_of_cell? w _ h)).trans h
theorem Lw.later {w w' : World} (h : Lw w) (hb : Below w.heap.size w w') : Lw w' := by
  obtain ⟨h1, ⟨m, h2⟩, ⟨t3, p3, h3⟩, ⟨t4, p4, h4⟩, h5⟩ := h
  exact ⟨tab_later (by kernel_rfl) h1 hb, ⟨m, cell_later h2 rfl hb⟩, ⟨t3, p3, cell_later h3 rfl hb⟩, ⟨t4, p4, cell_later h4 rfl hb⟩, fun j v hj => cell_later (h5 j v hj) rfl hb⟩
/-- the forms, read as a whole -/
theorem fm_range {w : World} (h : Lw w) : w.rangeAt 0 0 fmCells := fun j v hv => by rw [Nat.zero_add]; exact h.fm j v hv
theorem fm_size : (Tryz.prog.info? 126).map (·.size) = some fmCells.length := by kernel_rfl
def FV : Value := .agg fmCells.toArray
theorem fm_at0 (w : World) : (Instr.index 126 FV (.int .i64 0)).run Tryz.prog w = .ok (fmv (nthF 0)) w := by kernel_rfl
theorem fm_at1 (w : World) : (Instr.index 126 FV (.int .i64 1)).run Tryz.prog w = .ok (fmv (nthF 1)) w := by kernel_rfl
theorem fm_at2 (w : World) : (Instr.index 126 FV (.int .i64 2)).run Tryz.prog w = .ok (fmv (nthF 2)) w := by kernel_rfl
theorem fm_at3 (w : World) : (Instr.index 126 FV (.int .i64 3)).run Tryz.prog w = .ok (fmv (nthF 3)) w := by kernel_rfl
theorem fm_at4 (w : World) : (Instr.index 126 FV (.int .i64 4)).run Tryz.prog w = .ok (fmv (nthF 4)) w := by kernel_rfl
theorem fm_at5 (w : World) : (Instr.index 126 FV (.int .i64 5)).run Tryz.prog w = .ok (fmv (nthF 5)) w := by kernel_rfl
theorem fm_at6 (w : World) : (Instr.index 126 FV (.int .i64 6)).run Tryz.prog w = .ok (fmv (nthF 6)) w := by kernel_rfl
theorem fm_at7 (w : World) : (Instr.index 126 FV (.int .i64 7)).run Tryz.prog w = .ok (fmv (nthF 7)) w := by kernel_rfl
theorem fm_at8 (w : World) : (Instr.index 126 FV (.int .i64 8)).run Tryz.prog w = .ok (fmv (nthF 8)) w := by kernel_rfl
theorem fm_at9 (w : World) : (Instr.index 126 FV (.int .i64 9)).run Tryz.prog w = .ok (fmv (nthF 9)) w := by kernel_rfl
theorem fm_at10 (w : World) : (Instr.index 126 FV (.int .i64 10)).run Tryz.prog w = .ok (fmv (nthF 10)) w := by kernel_rfl
theorem fm_at11 (w : World) : (Instr.index 126 FV (.int .i64 11)).run Tryz.prog w = .ok (fmv (nthF 11)) w := by kernel_rfl
theorem fm_at12 (w : World) : (Instr.index 126 FV (.int .i64 12)).run Tryz.prog w = .ok (fmv (nthF 12)) w := by kernel_rfl
theorem fm_at13 (w : World) : (Instr.index 126 FV (.int .i64 13)).run Tryz.prog w = .ok (fmv (nthF 13)) w := by kernel_rfl
theorem fm_at14 (w : World) : (Instr.index 126 FV (.int .i64 14)).run Tryz.prog w = .ok (fmv (nthF 14)) w := by kernel_rfl
theorem fm_at15 (w : World) : (Instr.index 126 FV (.int .i64 15)).run Tryz.prog w = .ok (fmv (nthF 15)) w := by kernel_rfl
theorem fm_at16 (w : World) : (Instr.index 126 FV (.int .i64 16)).run Tryz.prog w = .ok (fmv (nthF 16)) w := by kernel_rfl
theorem fm_at17 (w : World) : (Instr.index 126 FV (.int .i64 17)).run Tryz.prog w = .ok (fmv (nthF 17)) w := by kernel_rfl
theorem fm_at18 (w : World) : (Instr.index 126 FV (.int .i64 18)).run Tryz.prog w = .ok (fmv (nthF 18)) w := by kernel_rfl
theorem fm_at19 (w : World) : (Instr.index 126 FV (.int .i64 19)).run Tryz.prog w = .ok (fmv (nthF 19)) w := by kernel_rfl
theorem fm_at (w : World) (k : Nat) (hk : k < 20) : (Instr.index 126 FV (.int .i64 (k : Nat))).run Tryz.prog w = .ok (fmv (nthF k)) w := by
  have h : k = 0 ∨ k = 1 ∨ k = 2 ∨ k = 3 ∨ k = 4 ∨ k = 5 ∨ k = 6 ∨ k = 7 ∨ k = 8 ∨ k = 9 ∨ k = 10 ∨ k = 11 ∨ k = 12 ∨ k = 13 ∨ k = 14 ∨ k = 15 ∨ k = 16 ∨ k = 17 ∨ k = 18 ∨ k = 19 := by omega
  rcases h with rfl | rfl | rfl | rfl | rfl | rfl | rfl | rfl | rfl | rfl | rfl | rfl | rfl | rfl | rfl | rfl | rfl | rfl | rfl | rfl
  · exact fm_at0 w
  · exact fm_at1 w
  · exact fm_at2 w
  · exact fm_at3 w
  · exact fm_at4 w
  · exact fm_at5 w
  · exact fm_at6 w
  · exact fm_at7 w
  · exact fm_at8 w
  · exact fm_at9 w
  · exact fm_at10 w
  · exact fm_at11 w
  · exact fm_at12 w
  · exact fm_at13 w
  · exact fm_at14 w
  · exact fm_at15 w
  · exact fm_at16 w
  · exact fm_at17 w
  · exact fm_at18 w
  · exact fm_at19 w
theorem fms_drop (k : Nat) (h : k < 20) : fms.drop k = nthF k :: fms.drop (k + 1) := by
  have h20 : fms.length = 20 := rfl
  unfold nthF
  rw [List.getD_eq_getElem?_getD, List.getElem?_eq_getElem (by omega), List.drop_eq_getElem_cons (by omega)]
  rfl
theorem fms_end : fms.drop 20 = [] := rfl
theorem res_fm2 {fn : Func} {p u : Tmp} (h : fn.results = #[.cell p 99, .tmp u]) {tmps : Array Value} {w : World} {g : Nat} {f : Fm} (hp : tmps.getD p undef = .pointer (some ⟨g, 0, none⟩)) (c : Fm6 w g f) : (results fn tmps).run Tryz.prog w = .ok (.tuple #[fmv f, tmps.getD u undef]) w := by
  obtain ⟨h0, h1, h2, h3, h4, h5⟩ := c
  rw [results_cell_tmp h, hp]
  simp [go_sem, Result.andThen, h0, h1, h2, h3, h4, h5, asAddr, fmv]
theorem Fm6.set6 {W : World} {g : Nat} {f0 : Fm} (f : Fm) (h : Fm6 W g f0) : Fm6 ((((((W.setCell ⟨g, 0, none⟩ (.string (bs f.nm))).setCell ⟨g, 1, none⟩ (.int .u8 f.kd)).setCell ⟨g, 2, none⟩ (.int .u8 f.op)).setCell ⟨g, 3, none⟩ (.int .i64 (opn f 0))).setCell ⟨g, 4, none⟩ (.int .i64 (opn f 1))).setCell ⟨g, 5, none⟩ (.int .i64 (opn f 2))) g f := by
  obtain ⟨h0, h1, h2, h3, h4, h5⟩ := h
  constructor <;> simp [go_sem, h0, h1, h2, h3, h4, h5]
theorem below_set6 {B g : Nat} {W0 W : World} (f : Fm) (hb : Below B W0 W) (hg : B ≤ g) : Below B W0 ((((((W.setCell ⟨g, 0, none⟩ (.string (bs f.nm))).setCell ⟨g, 1, none⟩ (.int .u8 f.kd)).setCell ⟨g, 2, none⟩ (.int .u8 f.op)).setCell ⟨g, 3, none⟩ (.int .i64 (opn f 0))).setCell ⟨g, 4, none⟩ (.int .i64 (opn f 1))).setCell ⟨g, 5, none⟩ (.int .i64 (opn f 2))) := by
  iterate 6 (refine Below.setCell ?_ hg _)
  exact hb
theorem In11.set11 {W : World} {g : Nat} {s0 : In} (s : In) (h : In11 W g 0 s0) : In11 (((((((((((W.setCell ⟨g, 0, none⟩ (.int .u8 s.kd)).setCell ⟨g, 1, none⟩ (.int .u8 s.op)).setCell ⟨g, 2, none⟩ (.int .i64 s.oa)).setCell ⟨g, 3, none⟩ (.int .i64 s.ob)).setCell ⟨g, 4, none⟩ (.int .i64 s.fd)).setCell ⟨g, 5, none⟩ (.int .i64 s.n)).setCell ⟨g, 6, none⟩ (.int .u64 s.m)).setCell ⟨g, 7, none⟩ (.int .u64 s.w)).setCell ⟨g, 8, none⟩ (.int .i64 s.a)).setCell ⟨g, 9, none⟩ (.int .i64 s.b)).setCell ⟨g, 10, none⟩ (.int .i64 s.to)) g 0 s := by
  obtain ⟨h0, h1, h2, h3, h4, h5, h6, h7, h8, h9, h10⟩ := h
  simp only [Nat.zero_add] at h0 h1 h2 h3 h4 h5 h6 h7 h8 h9 h10
  constructor <;> simp [go_sem, h0, h1, h2, h3, h4, h5, h6, h7, h8, h9, h10]
theorem below_set11 {B g : Nat} {W0 W : World} (s : In) (hb : Below B W0 W) (hg : B ≤ g) : Below B W0 (((((((((((W.setCell ⟨g, 0, none⟩ (.int .u8 s.kd)).setCell ⟨g, 1, none⟩ (.int .u8 s.op)).setCell ⟨g, 2, none⟩ (.int .i64 s.oa)).setCell ⟨g, 3, none⟩ (.int .i64 s.ob)).setCell ⟨g, 4, none⟩ (.int .i64 s.fd)).setCell ⟨g, 5, none⟩ (.int .i64 s.n)).setCell ⟨g, 6, none⟩ (.int .u64 s.m)).setCell ⟨g, 7, none⟩ (.int .u64 s.w)).setCell ⟨g, 8, none⟩ (.int .i64 s.a)).setCell ⟨g, 9, none⟩ (.int .i64 s.b)).setCell ⟨g, 10, none⟩ (.int .i64 s.to)) := by
  iterate 11 (refine Below.setCell ?_ hg _)
  exact hb
theorem res_in1 {fn : Func} {p : Tmp} (h : fn.results = #[.cell p 37]) {tmps : Array Value} {w : World} {g : Nat} {s : In} (hp : tmps.getD p undef = .pointer (some ⟨g, 0, none⟩)) (c : In11 w g 0 s) : (results fn tmps).run Tryz.prog w = .ok (inv s) w := by
  obtain ⟨h0, h1, h2, h3, h4, h5, h6, h7, h8, h9, h10⟩ := c
  simp only [Nat.zero_add] at h0 h1 h2 h3 h4 h5 h6 h7 h8 h9 h10
  have hr : (results fn tmps).run Tryz.prog w = ((asAddr (tmps.getD p undef)).run Tryz.prog w).andThen fun a w₁ => (loadVar 37 a).run Tryz.prog w₁ := by
    simp only [results, h]
    simp [Sem.run_bind, Result.andThen]
  rw [hr, hp]
  simp [go_sem, Result.andThen, h0, h1, h2, h3, h4, h5, h6, h7, h8, h9, h10, asAddr, inv]
theorem Fm6.zero6 {W : World} {g : Nat} {f0 : Fm} (h : Fm6 W g f0) : Fm6 ((((((W.setCell ⟨g, 0, none⟩ (.string ⟨#[]⟩)).setCell ⟨g, 1, none⟩ (.int .u8 0)).setCell ⟨g, 2, none⟩ (.int .u8 0)).setCell ⟨g, 3, none⟩ (.int .i64 0)).setCell ⟨g, 4, none⟩ (.int .i64 0)).setCell ⟨g, 5, none⟩ (.int .i64 0)) g fm0 := by
  obtain ⟨h0, h1, h2, h3, h4, h5⟩ := h
  constructor <;> simp [go_sem, h0, h1, h2, h3, h4, h5, fm0, opn, bs]
theorem below_zero6 {B g : Nat} {W0 W : World} (hb : Below B W0 W) (hg : B ≤ g) : Below B W0 ((((((W.setCell ⟨g, 0, none⟩ (.string ⟨#[]⟩)).setCell ⟨g, 1, none⟩ (.int .u8 0)).setCell ⟨g, 2, none⟩ (.int .u8 0)).setCell ⟨g, 3, none⟩ (.int .i64 0)).setCell ⟨g, 4, none⟩ (.int .i64 0)).setCell ⟨g, 5, none⟩ (.int .i64 0)) := by
  iterate 6 (refine Below.setCell ?_ hg _)
  exact hb
end Go.Proofs.YtndaccekemjdmaaGreatDoor
