/- What the start laid: from the rows' condition to what the walks ask. -/
import Derived.Test.YtggaijdbaplfiaaGreatDoorOpenAs
namespace Go.Proofs.YtggaijdbaplfiaaGreatDoor
open Go.ChangeShapes Go.WideShapes Go.ChangeAt Go.RowKit Go.Joins
set_option linter.unusedVariables false
set_option linter.unusedSimpArgs false
set_option maxRecDepth 100000
/-- how a form reads -/
def fmD (f : Fm) : DataW Unit := .agg [.lit (.string f.nm), .lit (.int .u8 f.kd), .lit (.int .u8 f.op), .agg [.lit (.int .i64 (opn f 0)), .lit (.int .i64 (opn f 1)), .lit (.int .i64 (opn f 2))]]
theorem forms_data : (Rows.laid_besom_asm_forms : DataW Unit) = .agg (fms.map fmD) := by kernel_rfl
theorem cells_fm : Tryz.prog.cellsOf 99 = 6 := by kernel_rfl
theorem cells_ops : Tryz.prog.cellsOf 97 = 3 := by kernel_rfl
theorem cells_opd : Tryz.prog.cellsOf 95 = 1 := by kernel_rfl
theorem cells_fms : Tryz.prog.cellsOf 126 = 120 := by kernel_rfl
section
variable {H : Type} {enc : TypeId × Value → Unit} {W : World} {base : Nat} {sp : Nat → Bool} {held : Bool}
theorem form_cells {fuel : Nat} {cs : List Value} {p : List MemPlace} (f : Fm) (h : DataW.trod enc Tryz.prog W base sp held fuel 99 cs = some (fmD f, p)) : cs = fmc f := by
  obtain ⟨xs, n, _, hx, hlen, hxl, hf⟩ := DataW.trod_struct Tryz.underlying99 h
  rw [cells_fm] at hlen
  obtain ⟨v0, v1, v2, v3, v4, v5, rfl⟩ := list6 hlen
  obtain ⟨y0, y1, y2, y3, rfl⟩ := list4 hxl
  have g0 := hf 0 _ rfl
  have g1 := hf 1 _ rfl
  have g2 := hf 2 _ rfl
  have g3 := hf 3 _ rfl
  have hd := congrArg Prod.fst hx
  simp only [fmD, List.map_cons, List.map_nil, DataW.agg.injEq, List.cons.injEq, and_true] at hd
  obtain ⟨e0, e1, e2, e3⟩ := hd
  obtain ⟨s, k0, q0, _⟩ := DataW.trod_string Tryz.underlying9 (show DataW.trod enc Tryz.prog W base sp held n 9 [v0] = some y0 from g0)
  obtain ⟨a, k1, q1, _⟩ := DataW.trod_int Tryz.underlying29 (show DataW.trod enc Tryz.prog W base sp held n 29 [v1] = some y1 from g1)
  obtain ⟨b, k2, q2, _⟩ := DataW.trod_int Tryz.underlying30 (show DataW.trod enc Tryz.prog W base sp held n 30 [v2] = some y2 from g2)
  have g4 : DataW.trod enc Tryz.prog W base sp held n 97 [v3, v4, v5] = some (Lib.tabData .i64 [opn f 0, opn f 1, opn f 2], y3.2) := by
    rw [show DataW.trod enc Tryz.prog W base sp held n 97 [v3, v4, v5] = some y3 from g3]
    congr 1
    exact Prod.ext e3.symm rfl
  have k3 := Lib.cells_of_tab Tryz.underlying97 Tryz.underlying95 cells_opd cells_ops g4
  rw [q0] at e0
  rw [q1] at e1
  rw [q2] at e2
  simp only [DataW.lit.injEq, Lit.string.injEq, Lit.int.injEq, true_and] at e0 e1 e2
  injection k0 with k0
  injection k1 with k1
  injection k2 with k2
  have hs : s = bs f.nm := by
    rw [e0]
    exact (bs_of s).symm
  simp only [List.map_cons, List.map_nil, List.cons.injEq, and_true] at k3
  rw [k0, k1, k2, k3.1, k3.2.1, k3.2.2, hs, ← e1, ← e2]
  rfl
theorem forms_cells {fuel : Nat} {cs : List Value} {p : List MemPlace} (h : DataW.trod enc Tryz.prog W base sp held fuel 126 cs = some (.agg (fms.map fmD), p)) : cs = fmCells := by
  cases fuel with
  | zero => simp [DataW.trod] at h
  | succ fuel =>
    simp only [DataW.trod, Tryz.underlying126, cells_fm, cells_fms] at h
    split at h
    · rename_i hl
      obtain ⟨xs, hm, hx⟩ := Option.map_eq_some_iff.1 h
      have hxs : xs.map (·.1) = fms.map fmD := by
        have := congrArg Prod.fst hx
        simpa using this
      have each : ∀ i, i < 20 → (cs.drop (i * 6)).take 6 = fmc (nthF i) := fun i hi => by
        obtain ⟨b, hb, hf⟩ := Lib.mapM_at hm i i (by simp [hi])
        have h2 : (xs.map (·.1))[i]? = some b.1 := by simp [hb]
        rw [hxs] at h2
        have h20 : fms.length = 20 := rfl
        rw [List.getElem?_map, List.getElem?_eq_getElem (by omega)] at h2
        simp only [Option.map_some, Option.some.injEq] at h2
        have hn : nthF i = fms[i]'(by omega) := by
          unfold nthF
          rw [List.getD_eq_getElem?_getD, List.getElem?_eq_getElem (by omega)]
          rfl
        rw [hn]
        refine form_cells (fuel := fuel) (p := b.2) _ (hf.trans ?_)
        rw [h2]
      have hl2 : cs.length = 120 := by
        first | exact hl | simpa using hl
      have cat : ∀ k, k ≤ 20 → cs.take (k * 6) = (fms.take k).flatMap fmc := by
        intro k
        induction k with
        | zero => intro _; simp
        | succ k ih =>
          intro hk
          have h20 : fms.length = 20 := rfl
          rw [show (k + 1) * 6 = k * 6 + 6 by omega, List.take_add, ih (by omega), each k (by omega), List.take_add_one, List.flatMap_append, List.getElem?_eq_getElem (by omega)]
          have hn : nthF k = fms[k]'(by omega) := by
            unfold nthF
            rw [List.getD_eq_getElem?_getD, List.getElem?_eq_getElem (by omega)]
            rfl
          rw [hn]
          simp
      have h9 := cat 20 (Nat.le_refl _)
      rw [List.take_of_length_le (by omega)] at h9
      exact h9
    · cases h
end
/-- what the rows list as laid -/
def laids : List (String × DataW Unit) := [("math/bits.deBruijn32tab", Rows.laid_math_bits_deBruijn32tab), ("math/bits.deBruijn64tab", Rows.laid_math_bits_deBruijn64tab), ("internal/strconv.uint64pow10", Rows.laid_internal_strconv_uint64pow10), ("unicode/utf8.acceptRanges", Rows.laid_unicode_utf8_acceptRanges), ("strconv.ErrRange", Rows.laid_strconv_ErrRange), ("strconv.ErrSyntax", Rows.laid_strconv_ErrSyntax), ("besom/asm.forms", Rows.laid_besom_asm_forms), ("unicode/utf8.first", Rows.laid_unicode_utf8_first)]
theorem laids_plain (w : World) : laidMetH Tryz.prog laids w = laidMet Tryz.prog laids w := MakeChecks.laidMetH_plain _ _ _ (by kernel_rfl)
theorem gER : Tryz.prog.globalNamed "strconv.ErrRange" = some 8 := by kernel_rfl
theorem gERType : (Tryz.prog.globals[8]?).map (·.type) = some 90 := by kernel_rfl
theorem gES : Tryz.prog.globalNamed "strconv.ErrSyntax" = some 7 := by kernel_rfl
theorem gESType : (Tryz.prog.globals[7]?).map (·.type) = some 90 := by kernel_rfl
theorem gFM : Tryz.prog.globalNamed "besom/asm.forms" = some 0 := by kernel_rfl
theorem gFMType : (Tryz.prog.globals[0]?).map (·.type) = some 126 := by kernel_rfl
theorem g10 : Tryz.prog.globalNamed "internal/strconv.uint64pow10" = some 2 := by kernel_rfl
theorem g10Type : (Tryz.prog.globals[2]?).map (·.type) = some 165 := by kernel_rfl
theorem starES : "*" ++ "errors.errorString" = "*errors.errorString" := by decide
theorem rowES (u : TypeId) (h : Tryz.prog.typeName? 3 u = some "*errors.errorString") : u = 194 :=
  typeName_ptr_named (nm := "errors.errorString") (by rw [starES]; kernel_rfl) (by kernel_rfl) (by decide) u (by rw [starES]; exact h)
theorem cells196 : Tryz.prog.cellsOf 196 = 1 := by kernel_rfl
theorem cells9 : Tryz.prog.cellsOf 9 = 1 := by kernel_rfl
theorem pow10_data : (Rows.laid_internal_strconv_uint64pow10 : DataW Unit) = Lib.tabData .u64 Lib.pow10Tab := by rfl
/-- what the start laid, out of the rows' condition and the world's shape -/
theorem lw_of {W : World} (h0 : laidMetH Tryz.prog laids W) (hsh : W.ShapedOpen Tryz.prog) : Lw W := by
  rw [laids_plain] at h0
  have h2 := h0.tail.tail
  have h4 := h2.tail.tail
  have h5 := h4.tail
  have h6 := h5.tail
  rw [forms_data] at h6
  rw [pow10_data] at h2
  obtain ⟨a4, s4, v4, _, _, _⟩ := laid_sentinel h4 gER gERType Tryz.underlying90 rowES Tryz.underlying194 Tryz.underlying196 rfl rfl Tryz.underlying9 cells196 cells9
  obtain ⟨a3, s3, v3, _, _, _⟩ := laid_sentinel h5 gES gESType Tryz.underlying90 rowES Tryz.underlying194 Tryz.underlying196 rfl rfl Tryz.underlying9 cells196 cells9
  refine ⟨?_, ?_, ⟨194, .pointer (some a3), ?_⟩, ⟨194, .pointer (some a4), ?_⟩, ?_⟩
  · exact Lib.tabIs_of_head (t := 165) (e := 31) (n := 20) g10 g10Type Tryz.underlying165 Tryz.underlying31 (by kernel_rfl) (by kernel_rfl) h2
  · exact Go.Proofs.cell_of_shapedOpen_int (zero := #[.int .i64 0]) (t := 3) hsh (of_decide_eq_true (by kernel_rfl)) (by kernel_rfl) rfl (by kernel_rfl) (by kernel_rfl) Tryz.underlying3
  · have := World.var?_cell gES v3 0
    simpa using this
  · have := World.var?_cell gER v4 0
    simpa using this
  · obtain ⟨ps, ⟨g0, t0, cs0, f0, p0, q0, hg0, ht0, hv0, hd0, _, _⟩, _⟩ := h6
    obtain rfl := Option.some.inj (gFM.symm.trans hg0)
    obtain rfl := Option.some.inj (gFMType.symm.trans ht0)
    have hc := forms_cells hd0
    intro j v hj
    have := World.var?_cell hg0 hv0 j
    rw [this, ← Array.getElem?_toList, hc]
    exact hj
theorem laids_met (os : Os) (args : Array Value) : laidMetH Tryz.prog laids ((World.laidAll Tryz.prog os laids).forCall (fun _ _ => 0) ⟨#[], args, []⟩).memory := by
  rw [laids_plain]
  exact laidMet_laidAll _ (by kernel_rfl) (by kernel_rfl)
section
variable {H : Type} {enc : TypeId × Value → H}
/-- the wrap with both: a condition of one's own, and the world's shape -/
theorem returns_shaped_and {a : Assume} {C : Checked} {os : Os} {f : FuncId} {fn : Func} {s : ChangeSpec} {conds : List PathCond} {apart fresh handsOn again : Bool} {X : World → Array Value → Prop}
    (hX : ∀ (w w' : World) (args : Array Value), w.heap = w'.heap → X w args → X w' args)
    (own : ownKnob C.prog.godebug = none) (started : os.Started) (noInit : C.prog.inits.idxOf? f = none) (hfn : C.prog.funcs[f]? = some fn)
    (witness : ∃ (w : World) (tape : Tape) (i : Input), w.os = os ∧ (w.forCall tape i).Shaped C.prog ∧ i.vars = [] ∧ Input.okWide C.prog (w.forCall tape i) .any w.heap.size f i ∧
      ((s.pre enc C.prog fn conds apart (w.forCall tape i).memory i.args ∧ X (w.forCall tape i).memory i.args) ∧ sizedMet enc C.prog fn (OpenSpec.ofChange s) apart (w.forCall tape i).memory i.args) ∧ a.holds C.prog (lone (Frame.enter C.prog f i.args .normal) [] (w.forCall tape i)))
    (contract : ∀ (W : World) (base : Nat) (args : Array Value) (ds gs : List (DataW H)) (before : List MemPlace),
      (∀ (j : Nat) t v, fn.params[j]? = some t → args[j]? = some v → Value.okWide C.prog W .any base t v) →
      DataW.Whole enc C.prog fn.params.toList s.vars apart W args.toList ds gs before →
      conds.all (PathCond.test C.prog ⟨fn.params.toList, ds, s.plain.varTypes C.prog, gs⟩) = true →
      (DataW.weightsEach C.prog (fn.params.toList ++ s.plain.varTypes C.prog) (ds ++ gs)).all (· ≤ reachBytes) = true → X W args → W.ShapedOpen C.prog →
      a.holds C.prog (lone (Frame.enter C.prog f args .normal) [] W) →
      Calls C.prog f args W fun e W' => ∃ v, e = .returned v ∧ s.post enc C.prog fn apart fresh handsOn again W args v W') :
    ReturnsInHanded a C os f .any (fun w args => (s.pre enc C.prog fn conds apart w args ∧ X w args) ∧ sizedMet enc C.prog fn (OpenSpec.ofChange s) apart w args) (s.post enc C.prog fn apart fresh handsOn again) := by
  refine returnsInHanded_of_calls own started noInit witness ?_
  intro w tape i _ hsh _ hok hpre hholds
  obtain ⟨_, _, _, fn', hfn', _, _, _, _, hval⟩ := hok
  have e : fn' = fn := Option.some.inj (hfn'.symm.trans hfn)
  subst e
  obtain ⟨⟨⟨ds, gs, before, hw, hc⟩, hx⟩, hz⟩ := hpre
  have hw' := DataW.Whole.of_heap (w' := w.forCall tape i) (by rfl) hw
  refine (contract (w.forCall tape i) w.heap.size i.args ds gs before hval hw' hc (hz.weights hw) (hX _ _ _ (by rfl) hx) hsh hholds).mono fun e W' ⟨v, he, hp⟩ => ?_
  subst he
  exact ChangeSpec.post_blind hp
end
end Go.Proofs.YtggaijdbaplfiaaGreatDoor
