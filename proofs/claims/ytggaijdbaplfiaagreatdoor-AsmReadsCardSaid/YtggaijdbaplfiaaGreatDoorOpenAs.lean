/- What an argument of a law reads as: programs, instructions, kinds, a text; what the start laid. -/
import Derived.Test.YtggaijdbaplfiaaGreatDoorAs10
import Derived.Test.YtggaijdbaplfiaaGreatDoorRows
import Derived.ProofKit
import Derived.OpenShut
import Derived.ShutString
import Derived.ChangeOld
import Derived.SizedLaws
import Derived.HandedShaped
import Derived.Lib.SmallJoins
import Derived.Deep.Slices
import Derived.Stop.LaidErr
import Derived.Lib.LaidTab
import Derived.Shelf.Vars
import Derived.PinnedBridge
import Derived.Lay
import Derived.LaidOnce
import Derived.SevenTiedAt
namespace Go.Proofs.YtggaijdbaplfiaaGreatDoor
open Go.ChangeShapes Go.WideShapes Go.ChangeAt Go.RowKit Go.Joins
set_option linter.unusedVariables false
set_option linter.unusedSimpArgs false
set_option maxRecDepth 100000

theorem own : ownKnob Tryz.prog.godebug = none := by kernel_rfl
theorem laidOut : laidOutB Tryz.prog = true := by kernel_rfl
theorem cells_in : Tryz.prog.cellsOf 37 = 11 := by kernel_rfl
theorem cells_op : Tryz.prog.cellsOf 35 = 7 := by kernel_rfl
theorem cells_sh : Tryz.prog.cellsOf 33 = 2 := by kernel_rfl
theorem bytes_in : Tryz.prog.bytesOf 37 = 88 := by kernel_rfl
theorem bytes_kd : Tryz.prog.bytesOf 29 = 1 := by kernel_rfl
theorem cells_kd : Tryz.prog.cellsOf 29 = 1 := by kernel_rfl
theorem b_i64 {n : Int} (h : (Lit.int .i64 n).wf = true) : I63 n := by
  simp [Lit.wf, IntKind.min, IntKind.max, IntKind.signed, IntKind.bits] at h
  unfold I63
  omega
theorem b_u64 {n : Int} (h : (Lit.int .u64 n).wf = true) : 0 ≤ n ∧ n < 18446744073709551616 := by
  simp [Lit.wf, IntKind.min, IntKind.max, IntKind.signed, IntKind.bits] at h
  omega
theorem b_u8 {n : Int} (h : (Lit.int .u8 n).wf = true) : 0 ≤ n ∧ n < 256 := by
  simp [Lit.wf, IntKind.min, IntKind.max, IntKind.signed, IntKind.bits] at h
  omega
/-- an instruction that came in -/
structure InW (x : In) : Prop where
  r : InR x
  o0 : 0 ≤ x.op
  o1 : x.op < 256
theorem list11 {α : Type} {l : List α} (h : l.length = 11) : ∃ a b c d e f g i j k m, l = [a, b, c, d, e, f, g, i, j, k, m] := by
  match l, h with
  | [a, b, c, d, e, f, g, i, j, k, m], _ => exact ⟨a, b, c, d, e, f, g, i, j, k, m, rfl⟩
theorem list6 {α : Type} {l : List α} (h : l.length = 6) : ∃ a b c d e f, l = [a, b, c, d, e, f] := by
  match l, h with
  | [a, b, c, d, e, f], _ => exact ⟨a, b, c, d, e, f, rfl⟩
theorem list5 {α : Type} {l : List α} (h : l.length = 5) : ∃ a b c d e, l = [a, b, c, d, e] := by
  match l, h with
  | [a, b, c, d, e], _ => exact ⟨a, b, c, d, e, rfl⟩
theorem list4 {α : Type} {l : List α} (h : l.length = 4) : ∃ a b c d, l = [a, b, c, d] := by
  match l, h with
  | [a, b, c, d], _ => exact ⟨a, b, c, d, rfl⟩
theorem list2 {α : Type} {l : List α} (h : l.length = 2) : ∃ a b, l = [a, b] := by
  match l, h with
  | [a, b], _ => exact ⟨a, b, rfl⟩
section
variable {H : Type} {enc : TypeId × Value → H} {W : World}
theorem open_shape {fuel : Nat} {v0 v1 : Value} {x : DataW H × List MemPlace} (h : DataW.trod enc Tryz.prog W 0 (fun _ => true) true fuel 33 [v0, v1] = some x) : ∃ (n : Int) (m : Nat), v0 = .int .i64 n ∧ v1 = .int .u64 m ∧ I63 n ∧ m < 18446744073709551616 := by
  obtain ⟨xs, fu, _, _, hlen, hxl, hf⟩ := DataW.trod_struct Tryz.underlying33 h
  obtain ⟨y0, y1, rfl⟩ := list2 hxl
  have gn := hf 0 _ rfl
  have gm := hf 1 _ rfl
  obtain ⟨n, en, _, wn⟩ := DataW.trod_int Tryz.underlying3 (show DataW.trod enc Tryz.prog W 0 (fun _ => true) true fu 3 [v0] = some y0 from gn)
  injection en with en
  obtain ⟨m, em, _, wm⟩ := DataW.trod_int Tryz.underlying31 (show DataW.trod enc Tryz.prog W 0 (fun _ => true) true fu 31 [v1] = some y1 from gm)
  injection em with em
  have hb := b_u64 wm
  exact ⟨n, m.toNat, en, by rw [em, Int.toNat_of_nonneg hb.1], b_i64 wn, by omega⟩
theorem open_op {fuel : Nat} {v0 v1 v2 v3 v4 v5 v6 : Value} {x : DataW H × List MemPlace} (h : DataW.trod enc Tryz.prog W 0 (fun _ => true) true fuel 35 [v0, v1, v2, v3, v4, v5, v6] = some x) : ∃ (op oa ob fd n : Int) (m w : Nat), v0 = .int .u8 op ∧ v1 = .int .i64 oa ∧ v2 = .int .i64 ob ∧ v3 = .int .i64 fd ∧ v4 = .int .i64 n ∧ v5 = .int .u64 m ∧ v6 = .int .u64 w ∧ I63 oa ∧ I63 ob ∧ I63 fd ∧ I63 n ∧ m < 18446744073709551616 ∧ w < 18446744073709551616 ∧ 0 ≤ op ∧ op < 256 := by
  obtain ⟨xs, fu, _, _, hlen, hxl, hf⟩ := DataW.trod_struct Tryz.underlying35 h
  obtain ⟨y0, y1, y2, y3, y4, y5, rfl⟩ := list6 hxl
  have gop := hf 0 _ rfl
  have goa := hf 1 _ rfl
  have gob := hf 2 _ rfl
  have gfd := hf 3 _ rfl
  have gs := hf 4 _ rfl
  have gwd := hf 5 _ rfl
  obtain ⟨op, eop, _, wop⟩ := DataW.trod_int Tryz.underlying30 (show DataW.trod enc Tryz.prog W 0 (fun _ => true) true fu 30 [v0] = some y0 from gop)
  injection eop with eop
  obtain ⟨oa, eoa, _, woa⟩ := DataW.trod_int Tryz.underlying3 (show DataW.trod enc Tryz.prog W 0 (fun _ => true) true fu 3 [v1] = some y1 from goa)
  injection eoa with eoa
  obtain ⟨ob, eob, _, wob⟩ := DataW.trod_int Tryz.underlying3 (show DataW.trod enc Tryz.prog W 0 (fun _ => true) true fu 3 [v2] = some y2 from gob)
  injection eob with eob
  obtain ⟨fd, efd, _, wfd⟩ := DataW.trod_int Tryz.underlying3 (show DataW.trod enc Tryz.prog W 0 (fun _ => true) true fu 3 [v3] = some y3 from gfd)
  injection efd with efd
  obtain ⟨n, m, rfl, rfl, hn, hm⟩ := open_shape (show DataW.trod enc Tryz.prog W 0 (fun _ => true) true fu 33 [v4, v5] = some y4 from gs)
  obtain ⟨wd, ewd, _, wwd⟩ := DataW.trod_int Tryz.underlying31 (show DataW.trod enc Tryz.prog W 0 (fun _ => true) true fu 31 [v6] = some y5 from gwd)
  injection ewd with ewd
  have hb := b_u64 wwd
  exact ⟨op, oa, ob, fd, n, m, wd.toNat, eop, eoa, eob, efd, rfl, rfl, by rw [ewd, Int.toNat_of_nonneg hb.1], b_i64 woa, b_i64 wob, b_i64 wfd, hn, hm, by omega, (b_u8 wop).1, (b_u8 wop).2⟩
theorem open_fields {fuel : Nat} {cs : List Value} {x : DataW H × List MemPlace} (h : DataW.trod enc Tryz.prog W 0 (fun _ => true) true fuel 37 cs = some x) : ∃ e : In, cs = inc e ∧ InW e := by
  obtain ⟨xs, fu, _, _, hlen, hxl, hf⟩ := DataW.trod_struct Tryz.underlying37 h
  rw [cells_in] at hlen
  obtain ⟨v0, v1, v2, v3, v4, v5, v6, v7, v8, v9, v10, rfl⟩ := list11 hlen
  obtain ⟨y0, y1, y2, y3, y4, rfl⟩ := list5 hxl
  have gkd := hf 0 _ rfl
  have go := hf 1 _ rfl
  have ga := hf 2 _ rfl
  have gb := hf 3 _ rfl
  have gtq := hf 4 _ rfl
  obtain ⟨kd, ekd, _, wkd⟩ := DataW.trod_int Tryz.underlying29 (show DataW.trod enc Tryz.prog W 0 (fun _ => true) true fu 29 [v0] = some y0 from gkd)
  injection ekd with ekd
  obtain ⟨op, oa, ob, fd, n, m, wd, rfl, rfl, rfl, rfl, rfl, rfl, rfl, h1, h2, h3, h4, h5, h6, h7, h8⟩ := open_op (show DataW.trod enc Tryz.prog W 0 (fun _ => true) true fu 35 [v1, v2, v3, v4, v5, v6, v7] = some y1 from go)
  obtain ⟨a, ea, _, wa⟩ := DataW.trod_int Tryz.underlying3 (show DataW.trod enc Tryz.prog W 0 (fun _ => true) true fu 3 [v8] = some y2 from ga)
  injection ea with ea
  obtain ⟨b, eb, _, wb⟩ := DataW.trod_int Tryz.underlying3 (show DataW.trod enc Tryz.prog W 0 (fun _ => true) true fu 3 [v9] = some y3 from gb)
  injection eb with eb
  obtain ⟨tq, etq, _, wtq⟩ := DataW.trod_int Tryz.underlying3 (show DataW.trod enc Tryz.prog W 0 (fun _ => true) true fu 3 [v10] = some y4 from gtq)
  injection etq with etq
  exact ⟨⟨kd, op, oa, ob, fd, n, m, wd, a, b, tq⟩, by rw [ekd, ea, eb, etq]; rfl, ⟨h1, h2, h3, h4, h5, h6, b_i64 wa, b_i64 wb, b_i64 wtq⟩, h7, h8⟩
theorem okWide_prog {r : Reach} {b0 : Nat} {v : Value} (hv : Value.okWide Tryz.prog W r b0 22 v) : v.cells.toList = [v] := by
  simp only [Value.okWide, Tryz.underlying22, Cell.okWide] at hv
  cases v <;> simp_all [Cell.ok, Value.cells]
/-- events that came in -/
theorem open_programW {r : Reach} {b0 : Nat} {v : Value} {d : DataW H} {p : List MemPlace} (hv : Value.okWide Tryz.prog W r b0 22 v) (h : DataW.Trod enc Tryz.prog W 0 (fun _ => true) true 22 v d p) (hw : ∀ x ∈ d.weights Tryz.prog 22, x ≤ reachBytes) :
    ∃ (A : Option Addr) (cap : Nat) (l : List In), v = .slice A l.length cap ∧ PRow W W.heap.size A l ∧ (∀ e ∈ l, InW e) ∧ l.length ≤ cap ∧ (A = none → cap = 0) ∧ l.length ≤ 17592186044416 := by
  obtain ⟨fuel, hf⟩ := h
  rw [okWide_prog hv] at hf
  rcases Go.Deep.open_slice Tryz.underlying22 hf with ⟨hcs, _⟩ | ⟨a, len, cap, m, n, D, Pl, hcs, _, hlc, hcm, hm, hx, hel⟩
  · injection hcs with hcs
    exact ⟨none, 0, [], hcs, PRow.nil _ _ _, fun _ h => by simp at h, Nat.le_refl _, fun _ => rfl, Nat.zero_le _⟩
  · injection hcs with hcs
    simp only [if_true] at hm
    have hm := hm.symm
    subst hm
    have each : ∀ i, i < cap → ∃ s : In, InW s ∧ ∀ j v, (inc s)[j]? = some v → W.cell? ((a.add (i * 11)).add j) = some v := fun i hi => by
      obtain ⟨cs', h1, h2⟩ := hel i hi
      obtain ⟨s, rfl, hs⟩ := open_fields h2
      rw [cells_in] at h1
      obtain ⟨_, _, hc⟩ := World.cells?_some h1
      refine ⟨s, hs, fun j v hj => ?_⟩
      have hj5 : j < 11 := by
        have := (List.getElem?_eq_some_iff.1 hj).1
        simpa [inc] using this
      rw [hc j hj5]
      exact hj
    obtain ⟨f, hfs⟩ : ∃ f : Nat → In, ∀ i, i < cap → InW (f i) ∧ ∀ j v, (inc (f i))[j]? = some v → W.cell? ((a.add (i * 11)).add j) = some v := Go.Deep.choose_lt each
    have hlen : ((List.range len).map f).length = len := by simp
    refine ⟨some a, cap, (List.range len).map f, by rw [hlen]; exact hcs, ⟨fun h0 => ?_⟩, ?_, by rw [hlen]; exact hlc, fun e => (by cases e), ?_⟩
    · rw [hlen] at h0
      obtain ⟨b, off, spot⟩ := a
      have hc0 := (hfs 0 (by omega)).2 0 _ rfl
      have hspot : spot = none := by simpa [Addr.add] using World.cell?_spot hc0
      subst hspot
      refine ⟨b, off, rfl, World.block_lt_of_cell? W _ (by simpa [add_form] using hc0), fun i hi => ?_⟩
      rw [hlen] at hi
      have e : nthI ((List.range len).map f) i = f i := by
        unfold nthI
        simp [List.getD_eq_getElem?_getD, hi]
      rw [e]
      have k0 := (hfs i (by omega)).2 0 _ rfl
      have k1 := (hfs i (by omega)).2 1 _ rfl
      have k2 := (hfs i (by omega)).2 2 _ rfl
      have k3 := (hfs i (by omega)).2 3 _ rfl
      have k4 := (hfs i (by omega)).2 4 _ rfl
      have k5 := (hfs i (by omega)).2 5 _ rfl
      have k6 := (hfs i (by omega)).2 6 _ rfl
      have k7 := (hfs i (by omega)).2 7 _ rfl
      have k8 := (hfs i (by omega)).2 8 _ rfl
      have k9 := (hfs i (by omega)).2 9 _ rfl
      have k10 := (hfs i (by omega)).2 10 _ rfl
      rw [add_form, add_form] at k0 k1 k2 k3 k4 k5 k6 k7 k8 k9 k10
      exact ⟨by simpa using k0, k1, k2, k3, k4, k5, k6, k7, k8, k9, k10⟩
    · intro e he
      simp only [List.mem_map, List.mem_range] at he
      obtain ⟨i, hi, rfl⟩ := he
      exact (hfs i (by omega)).1
    · rw [hlen]
      have := hw (((List.range len).map D).length * 88 + ((List.range (cap - len)).map fun j => D (len + j)).length * 88) (by
        rw [show d = _ from congrArg Prod.fst hx]
        simp [DataW.weights, Tryz.underlying22, bytes_in, Nat.add_mul])
      simp only [List.length_map, List.length_range, reachBytes] at this
      omega
theorem open_program {r : Reach} {b0 : Nat} {v : Value} {d : DataW H} {p : List MemPlace} (hv : Value.okWide Tryz.prog W r b0 22 v) (h : DataW.Trod enc Tryz.prog W 0 (fun _ => true) true 22 v d p) (hw : ∀ x ∈ d.weights Tryz.prog 22, x ≤ reachBytes) :
    ∃ (A : Option Addr) (cap : Nat) (l : List In), v = .slice A l.length cap ∧ PRow W W.heap.size A l ∧ (∀ e ∈ l, InR e) ∧ l.length ≤ cap ∧ (A = none → cap = 0) ∧ l.length ≤ 17592186044416 := by
  obtain ⟨A, cap, l, e, hr, hx, r⟩ := open_programW hv h hw
  exact ⟨A, cap, l, e, hr, fun e he => (hx e he).r, r⟩
theorem open_instrW {r : Reach} {b0 : Nat} {v : Value} {d : DataW H} {p : List MemPlace} (hv : Value.okWide Tryz.prog W r b0 37 v) (h : DataW.Trod enc Tryz.prog W 0 (fun _ => true) true 37 v d p) : ∃ e : In, v = inv e ∧ InW e := by
  obtain ⟨cs, rfl, hsz⟩ := okWide_struct Tryz.underlying37 hv
  obtain ⟨fuel, hf⟩ := h
  obtain ⟨e, he, hw⟩ := open_fields hf
  have he' : cs.toList = inc e := he
  refine ⟨e, ?_, hw⟩
  obtain ⟨l⟩ := cs
  simp only at he'
  subst he'
  rfl
theorem open_instr {r : Reach} {b0 : Nat} {v : Value} {d : DataW H} {p : List MemPlace} (hv : Value.okWide Tryz.prog W r b0 37 v) (h : DataW.Trod enc Tryz.prog W 0 (fun _ => true) true 37 v d p) : ∃ e : In, v = inv e ∧ InR e := by
  obtain ⟨e, he, hw⟩ := open_instrW hv h
  exact ⟨e, he, hw.r⟩
theorem open_kind {r : Reach} {b0 : Nat} {v : Value} {d : DataW H} {p : List MemPlace} (hv : Value.okWide Tryz.prog W r b0 29 v) (h : DataW.Trod enc Tryz.prog W 0 (fun _ => true) true 29 v d p) : ∃ k : Int, v = .int .u8 k := by
  have hc : v.cells.toList = [v] := by
    simp only [Value.okWide, Tryz.underlying29, Cell.okWide] at hv
    cases v <;> simp_all [Cell.ok, Value.cells]
  obtain ⟨fuel, hf⟩ := h
  rw [hc] at hf
  obtain ⟨k, e, _⟩ := DataW.trod_int Tryz.underlying29 hf
  injection e with e
  exact ⟨k, e⟩
theorem okWide_kinds {r : Reach} {b0 : Nat} {v : Value} (hv : Value.okWide Tryz.prog W r b0 38 v) : v.cells.toList = [v] := by
  simp only [Value.okWide, Tryz.underlying38, Cell.okWide] at hv
  cases v <;> simp_all [Cell.ok, Value.cells]
/-- kinds that came in -/
theorem open_kinds {r : Reach} {b0 : Nat} {v : Value} {d : DataW H} {p : List MemPlace} (hv : Value.okWide Tryz.prog W r b0 38 v) (h : DataW.Trod enc Tryz.prog W 0 (fun _ => true) true 38 v d p) (hw : ∀ x ∈ d.weights Tryz.prog 38, x ≤ reachBytes) :
    ∃ (A : Option Addr) (cap : Nat) (l : List Int), v = .slice A l.length cap ∧ KRow W W.heap.size A l ∧ l.length ≤ 140737488351232 := by
  obtain ⟨fuel, hf⟩ := h
  rw [okWide_kinds hv] at hf
  rcases Go.Deep.open_slice Tryz.underlying38 hf with ⟨hcs, _⟩ | ⟨a, len, cap, m, n, D, Pl, hcs, _, hlc, hcm, hm, hx, hel⟩
  · injection hcs with hcs
    exact ⟨none, 0, [], hcs, ⟨fun h => by simp at h⟩, Nat.zero_le _⟩
  · injection hcs with hcs
    simp only [if_true] at hm
    have hm := hm.symm
    subst hm
    have each : ∀ i, i < cap → ∃ k : Int, W.cell? (a.add i) = some (.int .u8 k) := fun i hi => by
      obtain ⟨cs', h1, h2⟩ := hel i hi
      obtain ⟨k, rfl, _⟩ := DataW.trod_int Tryz.underlying29 h2
      rw [cells_kd] at h1
      obtain ⟨_, _, hc⟩ := World.cells?_some h1
      have := hc 0 (by omega)
      rw [Nat.mul_one] at this
      exact ⟨k, by simpa [Addr.add] using this⟩
    obtain ⟨f, hfs⟩ : ∃ f : Nat → Int, ∀ i, i < cap → W.cell? (a.add i) = some (.int .u8 (f i)) := Go.Deep.choose_lt each
    have hlen : ((List.range len).map f).length = len := by simp
    refine ⟨some a, cap, (List.range len).map f, by rw [hlen]; exact hcs, ⟨fun h0 => ?_⟩, ?_⟩
    · rw [hlen] at h0
      obtain ⟨b, off, spot⟩ := a
      have hc0 := hfs 0 (by omega)
      have hspot : spot = none := by simpa [Addr.add] using World.cell?_spot hc0
      subst hspot
      refine ⟨b, off, rfl, World.block_lt_of_cell? W _ (by simpa [add_form] using hc0), fun i hi => ?_⟩
      rw [hlen] at hi
      have := hfs i (by omega)
      rw [add_form] at this
      rw [this]
      simp [List.getD_eq_getElem?_getD, hi]
    · rw [hlen]
      have := hw (((List.range len).map D).length + ((List.range (cap - len)).map fun j => D (len + j)).length) (by
        rw [show d = _ from congrArg Prod.fst hx]
        simp [DataW.weights, Tryz.underlying38, bytes_kd])
      simp only [List.length_map, List.length_range, reachBytes] at this
      omega
/-- a text that came in -/
theorem open_text {r : Reach} {b0 : Nat} {v : Value} {d : DataW H} {p : List MemPlace} (hv : Value.okWide Tryz.prog W r b0 9 v) (h : DataW.Trod enc Tryz.prog W 0 (fun _ => true) true 9 v d p) : ∃ s : ByteArray, v = .string s ∧ d = .lit (.string s.data.toList) ∧ p = [] ∧ s.size ≤ maxLen := by
  have hc : v.cells.toList = [v] := by
    simp only [Value.okWide, Tryz.underlying9, Cell.okWide] at hv
    cases v <;> simp_all [Cell.ok, Value.cells]
  obtain ⟨fuel, hf⟩ := h
  rw [hc] at hf
  obtain ⟨s, e, hx, hs⟩ := DataW.trod_string Tryz.underlying9 hf
  injection e with e
  simp only [Prod.mk.injEq] at hx
  exact ⟨s, e, hx.1, hx.2, hs⟩
end
end Go.Proofs.YtggaijdbaplfiaaGreatDoor
