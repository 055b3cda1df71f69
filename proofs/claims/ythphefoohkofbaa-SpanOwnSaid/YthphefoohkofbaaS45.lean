/- The walk of the law SpanOwn. -/
import Derived.Test.YthphefoohkofbaaS44
namespace Go.Proofs.Ythphefoohkofbaa
open Go.RowKit
set_option linter.unusedVariables false
set_option linter.unusedSimpArgs false

/-- n words at A can be written, in a block from B on, ahead of E -/
def WdCells (w : World) (B E : Nat) (A : Option Addr) (n : Nat) : Prop := ∀ i, i < n → ∃ g t, A = some ⟨g, 0, none⟩ ∧ B ≤ g ∧ g < E ∧ w.cell? ⟨g, i, none⟩ = some (.int .u64 t) ∧ w.frozen? ⟨g, i, none⟩ = false
theorem WdCells.of_own {w : World} {B : Nat} {A : Option Addr} {ws : List Nat} (h : Own w B A ws) : WdCells w B w.heap.size A ws.length := by
  intro i hi
  obtain ⟨g, e, h1, h2, hc⟩ := h.at_ (by omega)
  obtain ⟨c, f⟩ := hc i hi
  exact ⟨g, _, e, h1, h2, c, f⟩
theorem WdCells.keep {w w' : World} {B E n : Nat} {A : Option Addr} (h : WdCells w B E A n) (hk : ∀ g i t, w.cell? ⟨g, i, none⟩ = some (.int .u64 t) → ∃ t', w'.cell? ⟨g, i, none⟩ = some (.int .u64 t')) (hf : ∀ a, w.frozen? a = false → a.block < w.heap.size → w'.frozen? a = false) : WdCells w' B E A n := fun i hi => by
  obtain ⟨g, t, e, h1, h2, c, f⟩ := h i hi
  obtain ⟨t', c'⟩ := hk _ _ _ c
  exact ⟨g, t', e, h1, h2, c', hf _ f (World.block_lt_of_cell? w _ c)⟩
/-- n spans at A whose sizes and words can be written -/
def SpCells (w : World) (B E : Nat) (A : Option Addr) (n : Nat) : Prop := ∀ i, i < n → ∃ g z Aw m cw, A = some ⟨g, 0, none⟩ ∧ B ≤ g ∧ g < E ∧ w.cell? ⟨g, i * 8 + 2, none⟩ = some (.int .i64 z) ∧ w.frozen? ⟨g, i * 8 + 2, none⟩ = false ∧ w.cell? ⟨g, i * 8 + 4, none⟩ = some (.slice Aw m cw) ∧ m ≤ 17592186044416 ∧ WdCells w B E Aw m
theorem SpCells.of_owns {w : World} {B n cap : Nat} {A : Option Addr} {vs : List Sv} (h : OwnsS w B A n cap vs) (hl : ∀ v ∈ vs, v.d.aw.length ≤ 17592186044416) : SpCells w B w.heap.size A n := by
  intro i hi
  obtain ⟨_, ⟨h1, h2⟩ | ⟨g, cap', cur, e, hB, hg, _⟩⟩ := id h.row_
  · omega
  · injection e with e1 _ e3
    subst e1
    have hr := h.row_
    have hiv : i < vs.length := by rw [h.len]; exact hi
    have c8 := sp8_of_owns hr h.len i hi
    have c2 := c8.c2
    have c4 := c8.c4
    rw [Nat.zero_add] at c2 c4
    have hw := h.words vs[i] (List.getElem_mem hiv)
    exact ⟨g, _, _, _, _, rfl, hB, (hr.lt g rfl).2, c2, by simp [World.frozen?, hg], c4, hl _ (List.getElem_mem hiv), WdCells.of_own hw.1⟩
theorem SpCells.keep {w w' : World} {B E n : Nat} {A : Option Addr} (h : SpCells w B E A n) (hk : ∀ g i t, w.cell? ⟨g, i, none⟩ = some (.int .u64 t) → ∃ t', w'.cell? ⟨g, i, none⟩ = some (.int .u64 t')) (hk2 : ∀ g i t, w.cell? ⟨g, i, none⟩ = some (.int .i64 t) → ∃ t', w'.cell? ⟨g, i, none⟩ = some (.int .i64 t')) (hk3 : ∀ g i A m c, w.cell? ⟨g, i, none⟩ = some (.slice A m c) → w'.cell? ⟨g, i, none⟩ = some (.slice A m c)) (hf : ∀ a, w.frozen? a = false → a.block < w.heap.size → w'.frozen? a = false) : SpCells w' B E A n := fun i hi => by
  obtain ⟨g, z, Aw, m, cw, e, h1, h2, c2, f2, c4, hm, hw⟩ := h i hi
  obtain ⟨z', c2'⟩ := hk2 _ _ _ c2
  exact ⟨g, z', Aw, m, cw, e, h1, h2, c2', hf _ f2 (World.block_lt_of_cell? w _ c2), hk3 _ _ _ _ _ c4, hm, hw.keep hk hf⟩
theorem SpCells.later {w w' : World} {B E n : Nat} {A : Option Addr} (h : SpCells w B E A n) (hb : Below w.heap.size w w') : SpCells w' B E A n :=
  h.keep (fun g i t c => ⟨t, ((bcell hb).1 _ _ (World.block_lt_of_cell? w _ c)).trans c⟩) (fun g i t c => ⟨t, ((bcell hb).1 _ _ (World.block_lt_of_cell? w _ c)).trans c⟩) (fun g i A m c k => ((bcell hb).1 _ _ (World.block_lt_of_cell? w _ k)).trans k) (fun a f hlt => by rw [← f]; exact hb.frozen (p := a) hlt)
theorem WdCells.wide {w : World} {B B' E E' n : Nat} {A : Option Addr} (h : WdCells w B E A n) (hB : B' ≤ B) (hE : E ≤ E') : WdCells w B' E' A n := fun i hi => by
  obtain ⟨g, t, e, h1, h2, c, f⟩ := h i hi
  exact ⟨g, t, e, by omega, by omega, c, f⟩
theorem SpCells.wide {w : World} {B B' E E' n : Nat} {A : Option Addr} (h : SpCells w B E A n) (hB : B' ≤ B) (hE : E ≤ E') : SpCells w B' E' A n := fun i hi => by
  obtain ⟨g, z, Aw, m, cw, e, h1, h2, c2, f2, c4, hm, hw⟩ := h i hi
  exact ⟨g, z, Aw, m, cw, e, by omega, by omega, c2, f2, c4, hm, hw.wide hB hE⟩
/-- a store of a number where one stood leaves each cell of its kind -/
theorem set_kinds {w : World} {p : Addr} {K : IntKind} {z0 : Int} (hp : w.cell? p = some (.int K z0)) (u : Int) :
    (∀ K' g i t, w.cell? ⟨g, i, none⟩ = some (.int K' t) → ∃ t', (w.setCell p (.int K u)).cell? ⟨g, i, none⟩ = some (.int K' t')) ∧ (∀ g i A m c, w.cell? ⟨g, i, none⟩ = some (.slice A m c) → (w.setCell p (.int K u)).cell? ⟨g, i, none⟩ = some (.slice A m c)) := by
  refine ⟨fun K' g i t c => ?_, fun g i A m cc c => ?_⟩
  · by_cases e : p = ⟨g, i, none⟩
    · subst e
      rw [hp] at c
      injection c with c
      injection c with c1 c2
      subst c1
      exact ⟨u, World.cell?_setCell_same _ _ _ hp⟩
    · exact ⟨t, (World.cell?_setCell_other _ _ _ _ e).trans c⟩
  · by_cases e : p = ⟨g, i, none⟩
    · subst e
      rw [hp] at c
      injection c with c
      cases c
    · exact (World.cell?_setCell_other _ _ _ _ e).trans c
theorem WdCells.set {w : World} {B E n : Nat} {A : Option Addr} (h : WdCells w B E A n) {p : Addr} {K : IntKind} {z0 : Int} (hp : w.cell? p = some (.int K z0)) (u : Int) : WdCells (w.setCell p (.int K u)) B E A n :=
  h.keep ((set_kinds hp u).1 .u64) (fun a f _ => by rw [World.frozen?_setCell]; exact f)
theorem SpCells.set {w : World} {B E n : Nat} {A : Option Addr} (h : SpCells w B E A n) {p : Addr} {K : IntKind} {z0 : Int} (hp : w.cell? p = some (.int K z0)) (u : Int) : SpCells (w.setCell p (.int K u)) B E A n :=
  h.keep ((set_kinds hp u).1 .u64) ((set_kinds hp u).1 .i64) (set_kinds hp u).2 (fun a f _ => by rw [World.frozen?_setCell]; exact f)
/-- two slices of spans stand in block G -/
def SRows2 (w : World) (B G : Nat) : Prop := ∀ k, k < 2 → ∃ A n cap, w.cell? ⟨G, k, none⟩ = some (.slice A n cap) ∧ n ≤ 17592186044416 ∧ SpCells w B G A n
theorem SRows2.set {w : World} {B G : Nat} (h : SRows2 w B G) {p : Addr} {K : IntKind} {z0 : Int} (hp : w.cell? p = some (.int K z0)) (u : Int) : SRows2 (w.setCell p (.int K u)) B G := fun k hk => by
  obtain ⟨A, n, cap, c, hn, ht⟩ := h k hk
  exact ⟨A, n, cap, (set_kinds hp u).2 _ _ _ _ _ c, hn, ht.set hp u⟩
theorem SRows2.new {w : World} {B : Nat} {A0 A1 : Option Addr} {n0 n1 c0 c1 : Nat} (t : TypeId) (h0 : SpCells w B w.heap.size A0 n0) (h1 : SpCells w B w.heap.size A1 n1) (l0 : n0 ≤ 17592186044416) (l1 : n1 ≤ 17592186044416) :
    SRows2 (w.alloc (.cells #[.slice A0 n0 c0, .slice A1 n1 c1] t)) B w.heap.size := fun k hk => by
  have hb : Below w.heap.size w (w.alloc (.cells #[.slice A0 n0 c0, .slice A1 n1 c1] t)) := (Below.refl _ _).alloc (Nat.le_refl _) _
  obtain rfl | rfl : k = 0 ∨ k = 1 := by omega
  · exact ⟨A0, n0, c0, by simp [go_sem], l0, h0.later hb⟩
  · exact ⟨A1, n1, c1, by simp [go_sem], l1, h1.later hb⟩
theorem cell_set8 {w : World} {g h : Nat} (hne : h ≠ g) (o : Nat) (a0 a1 a2 a3 a4 a5 a6 a7 : Value) : ((((((((w.setCell ⟨g, 0, none⟩ a0).setCell ⟨g, 1, none⟩ a1).setCell ⟨g, 2, none⟩ a2).setCell ⟨g, 3, none⟩ a3).setCell ⟨g, 4, none⟩ a4).setCell ⟨g, 5, none⟩ a5).setCell ⟨g, 6, none⟩ a6).setCell ⟨g, 7, none⟩ a7).cell? ⟨h, o, none⟩ = w.cell? ⟨h, o, none⟩ := by
  iterate 8 (rw [World.cell?_setCell_other _ _ _ _ (by intro e; injection e with e; exact hne e.symm)])
theorem Own.out {w w' : World} {B : Nat} {A : Option Addr} {ws : List Nat} (h : Own w B A ws) (hk : ∀ b o, B ≤ b → b < w.heap.size → w'.cell? ⟨b, o, none⟩ = w.cell? ⟨b, o, none⟩) : Row w' w.heap.size A ws :=
  ⟨h.words, fun hl => by
    obtain ⟨g, e, h1, hg, hc⟩ := h.at_ hl
    exact ⟨g, 0, e, hg, fun i hi => by rw [Nat.zero_add, hk g i h1 hg]; exact (hc i hi).1⟩⟩
theorem CopX.out {w w' : World} {B n cap E B' : Nat} {A : Option Addr} {vs : List Sv} (h : CopX w B A n cap vs) (hE : w.heap.size ≤ E) (hB : B' ≤ B) (hk : ∀ b o, B' ≤ b → b < w.heap.size → w'.cell? ⟨b, o, none⟩ = w.cell? ⟨b, o, none⟩) : SRow w' E A (sdsOf vs) :=
  ⟨fun hl => by
    have hn : 0 < n := by rw [← h.len]; simpa [sdsOf] using hl
    obtain ⟨_, ⟨h1, h2⟩ | ⟨g, cap', cur, e, hBg, _⟩⟩ := id h.row_
    · omega
    · injection e with e1 _ e3
      subst e1
      have hr := h.row_
      have hg := (hr.lt g rfl).2
      refine ⟨g, 0, rfl, by omega, fun i hi => ?_⟩
      have hi' : i < vs.length := by simpa [sdsOf] using hi
      have hw := h.words vs[i] (List.getElem_mem hi')
      rw [nth_sds vs i hi']
      have c8 := sp8_of_owns hr h.len i (by rw [← h.len]; exact hi')
      have k : ∀ o v, w.cell? ⟨g, o, none⟩ = some v → w'.cell? ⟨g, o, none⟩ = some v := fun o v c => (hk g o (by omega) hg).trans c
      exact ⟨vs[i].A, vs[i].ca, vs[i].M, vs[i].cm, ⟨k _ _ c8.c0, k _ _ c8.c1, k _ _ c8.c2, k _ _ c8.c3, k _ _ c8.c4, k _ _ c8.c5, k _ _ c8.c6, k _ _ c8.c7⟩, (hw.1.out fun b o h1 h2 => hk b o (by omega) h2).more hE, (hw.2.out fun b o h1 h2 => hk b o (by omega) h2).more hE⟩⟩
theorem vs_words {vs : List Sv} {r : List Sd} (e : sdsOf vs = r) (h : WordsLe r) : ∀ v ∈ vs, v.d.aw.length ≤ 17592186044416 := fun v hv => (h v.d (by rw [← e]; exact List.mem_map_of_mem hv)).1
section
variable {A As Ms : Option Addr} {l : List Sd} (cap ca cm : Nat)
set_option maxHeartbeats 16000000 in
theorem spanOwn_walk (d : Sd) (first : Int) (w : World) (hr : SRow w w.heap.size A l) (hcl : l.length ≤ cap) (hl : l.length ≤ 1466015503658) (hnil : A = none → cap = 0) (hw : WordsLe l) (hA : Row w w.heap.size As d.aw) (hM : Row w w.heap.size Ms d.mw) (la : d.aw.length ≤ 17592186044416) (lm : d.mw.length ≤ 17592186044416) :
    Calls Try.prog 10 #[.slice A l.length cap, spv d As ca Ms cm, .int .i64 first] w fun e w' => e = .returned (.bool true) ∧ Below w.heap.size w w' := by
  have hl2 : l.length ≤ 17592186044416 := by omega
  obtain ⟨r, y, hE⟩ := AddE.ex l d
  obtain ⟨r2, y2, hD⟩ := DropE.ex l first
  obtain ⟨wr1, lr1⟩ := hE.words hw hl
  obtain ⟨wr2, lr2⟩ := hD.words hw hl
  have HCP := Lib.hid fun (w : World) hr => xcopyL_any (w := w) (A := A) (l := l) cap hr hl hw
  have HO := Lib.hid fun (w : World) ha hm => xone_any (w := w) (A := As) (M := Ms) ca cm d ha hm la lm
  have H1 := Lib.hid fun (w : World) hr hA hM => sadd_any (w := w) (A := A) (As := As) (Ms := Ms) (l := l) cap ca cm hr hcl hl2 hnil d hA hM r y hE
  have H3 := Lib.hid fun (w : World) hr => sdrop_any (w := w) (A := A) (l := l) cap hr hcl hl2 first r2 y2 hD
  have HS := Lib.hid fun (w : World) (C : Option Addr) (cc : Nat) hr hq => xsameL_self (w := w) (A := A) (C := C) (l := l) cap cc hr hq hl2 hw
  have HS1 := Lib.hid fun (w : World) (C N : Option Addr) (cc cn : Nat) h1 h2 h3 h4 => xsameone_self (w := w) (A := As) (M := Ms) (C := C) (N := N) ca cm cc cn d h1 h2 h3 h4 la lm
  have HV1 := Lib.hid fun (vs : List Sv) (e : sdsOf vs = r) => vs_words e wr1
  have HV2 := Lib.hid fun (vs : List Sv) (e : sdsOf vs = r2) => vs_words e wr2
  unfold FreshL5 at H1 H3
  unfold OneS at HO
  clear hE hD wr1 wr2 hw
  obtain ⟨f, p, z, an, aw, mn, mw, s⟩ := d
  unfold spv at H1 HO HS1 ⊢
  simp only at *
  go_enter Try.func10, Try.ntmps10
  go_wp2_with fail
  go_at_call 17
  refine (slives_any _).mono ?_
  rintro e w1 ⟨rfl, hb1⟩
  have hs1 := hb1.size
  (try simp only [World.size_alloc] at hs1)
  have b1 : Below w.heap.size w w1 := (by repeat (first | exact Below.refl _ _ | assumption | (refine below_drewN ?_ _) | (refine Below.drew ?_) | (refine Below.alloc ?_ (by first | omega | (simp; omega) | simp) _) | (refine Below.setCell ?_ (by first | omega | (simp; omega) | simp) _) | (refine below_trans ?_ (by assumption) (by first | omega | (simp; omega) | simp))))
  have l01 : w.heap.size < w1.heap.size := by omega
  have Q1 : Sp8 w1 w.heap.size 0 ⟨f, p, z, an, aw, mn, mw, s⟩ As ca Ms cm := by constructor <;> exact ((bcell hb1).1 _ _ (by first | omega | (simp; omega) | simp)).trans (by simp [go_sem])
  obtain ⟨q0, q1, q2, q3, q4, q5, q6, q7⟩ := id Q1
  simp only [Nat.zero_add] at q0 q1 q2 q3 q4 q5 q6 q7
  go_wp2_with fail
  refine wp_region_held_drew (S := (fun X : World => X.cell? ⟨w.heap.size, 0, none⟩ = some (.int .i64 f) ∧ X.cell? ⟨w.heap.size, 1, none⟩ = some (.int .i64 p) ∧ X.cell? ⟨w.heap.size, 2, none⟩ = some (.int .i64 z) ∧ X.cell? ⟨w.heap.size, 3, none⟩ = some (.int .i64 an) ∧ X.cell? ⟨w.heap.size, 4, none⟩ = some (.slice As aw.length ca) ∧ X.cell? ⟨w.heap.size, 5, none⟩ = some (.int .i64 mn) ∧ X.cell? ⟨w.heap.size, 6, none⟩ = some (.slice Ms mw.length cm) ∧ X.cell? ⟨w.heap.size, 7, none⟩ = some (.bool s))) (by kernel_rfl) ?_ (fun hHeld => ?_)
  · (try dsimp only); refine ⟨?_, ?_, ?_, ?_, ?_, ?_, ?_, ?_⟩ <;> first | assumption | (simp [go_sem]; done) | exact (World.cell?_alloc_lt _ _ ⟨_, _, _⟩ (by first | omega | (simp; omega) | simp)).trans (by assumption)
  refine wpAnyH_take (i := 0) (v := ?_) rfl (by kernel_rfl) (by kernel_rfl) (by kernel_rfl) (fun _ _ _ h => h) (Or.inl ⟨by rfl, ?_⟩) (by assumption) ?_
  rotate_left
  · (intro w hSw; (try dsimp only at hSw); go_simp; first | done | with_reducible rfl)
  try simp only [Act.put, List.getElem_toArray, List.getElem_cons_zero, List.getElem_cons_succ, List.setIfInBounds_toArray, List.set_cons_zero, List.set_cons_succ]
  refine wpAnyH_take (i := 2) (v := ?_) rfl (by kernel_rfl) (by kernel_rfl) (by kernel_rfl) (fun _ _ _ h => h) (Or.inl ⟨by rfl, ?_⟩) (by assumption) ?_
  rotate_left
  · (intro w hSw; (try dsimp only at hSw); go_simp; first | done | with_reducible rfl)
  try simp only [Act.put, List.getElem_toArray, List.getElem_cons_zero, List.getElem_cons_succ, List.setIfInBounds_toArray, List.set_cons_zero, List.set_cons_succ]
  refine wpAnyH_ready (rs := [1, 4]) (by kernel_rfl) (by simp) ?_
  refine AllReadyH.cons rfl (fun K hK => ?_) (AllReadyH.cons rfl (fun K hK => ?_) AllReadyH.nil)
  · try simp only [List.getElem_toArray, List.getElem_cons_zero, List.getElem_cons_succ]
    go_simp
    go_at_call 25
    refine (HCP.out _ ((hr.later b1).later (by repeat (first | exact Below.refl _ _ | assumption | (refine below_drewN ?_ _) | (refine Below.drew ?_) | (refine Below.alloc ?_ (by first | omega | (simp; omega) | simp) _) | (refine Below.setCell ?_ (by first | omega | (simp; omega) | simp) _) | (refine below_trans ?_ (by assumption) (by first | omega | (simp; omega) | simp)))))).mono ?_
    rintro e w2 ⟨G, gc, vs, rfl, hvs, oG, hb_w2⟩
    have hs_w2 : w1.heap.size ≤ w2.heap.size := hb_w2.size
    have b12 : Below w1.heap.size w1 w2 := (by repeat (first | exact Below.refl _ _ | assumption | (refine below_drewN ?_ _) | (refine Below.drew ?_) | (refine Below.alloc ?_ (by first | omega | (simp; omega) | simp) _) | (refine Below.setCell ?_ (by first | omega | (simp; omega) | simp) _) | (refine below_trans ?_ (by assumption) (by first | omega | (simp; omega) | simp))))
    have b2 : Below w.heap.size w w2 := b1.trans (b12.mono (by omega))
    have gr2 : SRow w2 w2.heap.size G l := by rw [← hvs]; exact oG.srow
    have mw20 : w2.cell? ⟨w.heap.size, 0, none⟩ = some (.int .i64 f) := (hb_w2.cell (p := ⟨w.heap.size, 0, none⟩) (by first | omega | (simp; omega) | simp)).trans (by first | assumption | (simp [go_sem]; done) | exact (World.cell?_alloc_lt _ _ ⟨_, _, _⟩ (by first | omega | (simp; omega) | simp)).trans (by assumption))
    have mw21 : w2.cell? ⟨w.heap.size, 1, none⟩ = some (.int .i64 p) := (hb_w2.cell (p := ⟨w.heap.size, 1, none⟩) (by first | omega | (simp; omega) | simp)).trans (by first | assumption | (simp [go_sem]; done) | exact (World.cell?_alloc_lt _ _ ⟨_, _, _⟩ (by first | omega | (simp; omega) | simp)).trans (by assumption))
    have mw22 : w2.cell? ⟨w.heap.size, 2, none⟩ = some (.int .i64 z) := (hb_w2.cell (p := ⟨w.heap.size, 2, none⟩) (by first | omega | (simp; omega) | simp)).trans (by first | assumption | (simp [go_sem]; done) | exact (World.cell?_alloc_lt _ _ ⟨_, _, _⟩ (by first | omega | (simp; omega) | simp)).trans (by assumption))
    have mw23 : w2.cell? ⟨w.heap.size, 3, none⟩ = some (.int .i64 an) := (hb_w2.cell (p := ⟨w.heap.size, 3, none⟩) (by first | omega | (simp; omega) | simp)).trans (by first | assumption | (simp [go_sem]; done) | exact (World.cell?_alloc_lt _ _ ⟨_, _, _⟩ (by first | omega | (simp; omega) | simp)).trans (by assumption))
    have mw24 : w2.cell? ⟨w.heap.size, 4, none⟩ = some (.slice As aw.length ca) := (hb_w2.cell (p := ⟨w.heap.size, 4, none⟩) (by first | omega | (simp; omega) | simp)).trans (by first | assumption | (simp [go_sem]; done) | exact (World.cell?_alloc_lt _ _ ⟨_, _, _⟩ (by first | omega | (simp; omega) | simp)).trans (by assumption))
    have mw25 : w2.cell? ⟨w.heap.size, 5, none⟩ = some (.int .i64 mn) := (hb_w2.cell (p := ⟨w.heap.size, 5, none⟩) (by first | omega | (simp; omega) | simp)).trans (by first | assumption | (simp [go_sem]; done) | exact (World.cell?_alloc_lt _ _ ⟨_, _, _⟩ (by first | omega | (simp; omega) | simp)).trans (by assumption))
    have mw26 : w2.cell? ⟨w.heap.size, 6, none⟩ = some (.slice Ms mw.length cm) := (hb_w2.cell (p := ⟨w.heap.size, 6, none⟩) (by first | omega | (simp; omega) | simp)).trans (by first | assumption | (simp [go_sem]; done) | exact (World.cell?_alloc_lt _ _ ⟨_, _, _⟩ (by first | omega | (simp; omega) | simp)).trans (by assumption))
    have mw27 : w2.cell? ⟨w.heap.size, 7, none⟩ = some (.bool s) := (hb_w2.cell (p := ⟨w.heap.size, 7, none⟩) (by first | omega | (simp; omega) | simp)).trans (by first | assumption | (simp [go_sem]; done) | exact (World.cell?_alloc_lt _ _ ⟨_, _, _⟩ (by first | omega | (simp; omega) | simp)).trans (by assumption))
    try go_wp2_with fail
    refine hK.out _ _ ?_ (fun hHeld => ?_)
    · (try dsimp only); refine ⟨?_, ?_, ?_, ?_, ?_, ?_, ?_, ?_⟩ <;> first | assumption | (simp [go_sem]; done) | exact (World.cell?_alloc_lt _ _ ⟨_, _, _⟩ (by first | omega | (simp; omega) | simp)).trans (by assumption)
    clear hK K
    try simp only [Act.put, List.getElem_toArray, List.getElem_cons_zero, List.getElem_cons_succ, List.setIfInBounds_toArray, List.set_cons_zero, List.set_cons_succ]
    refine wpAnyH_ready (rs := [3, 4]) (by kernel_rfl) (by simp) ?_
    refine AllReadyH.cons rfl (fun K hK => ?_) (AllReadyH.cons rfl (fun K hK => ?_) AllReadyH.nil)
    · try simp only [List.getElem_toArray, List.getElem_cons_zero, List.getElem_cons_succ]
      go_simp
      go_at_call 33
      refine (HO.out _ ((hA.later b2).later (by repeat (first | exact Below.refl _ _ | assumption | (refine below_drewN ?_ _) | (refine Below.drew ?_) | (refine Below.alloc ?_ (by first | omega | (simp; omega) | simp) _) | (refine Below.setCell ?_ (by first | omega | (simp; omega) | simp) _) | (refine below_trans ?_ (by assumption) (by first | omega | (simp; omega) | simp))))) ((hM.later b2).later (by repeat (first | exact Below.refl _ _ | assumption | (refine below_drewN ?_ _) | (refine Below.drew ?_) | (refine Below.alloc ?_ (by first | omega | (simp; omega) | simp) _) | (refine Below.setCell ?_ (by first | omega | (simp; omega) | simp) _) | (refine below_trans ?_ (by assumption) (by first | omega | (simp; omega) | simp)))))).mono ?_
      rintro e w3 ⟨A3, c3, M3, d3, rfl, o3, o3', hb_w3⟩
      have hs_w3 : w2.heap.size ≤ w3.heap.size := hb_w3.size
      have b23 : Below w2.heap.size w2 w3 := (by repeat (first | exact Below.refl _ _ | assumption | (refine below_drewN ?_ _) | (refine Below.drew ?_) | (refine Below.alloc ?_ (by first | omega | (simp; omega) | simp) _) | (refine Below.setCell ?_ (by first | omega | (simp; omega) | simp) _) | (refine below_trans ?_ (by assumption) (by first | omega | (simp; omega) | simp))))
      have b3 : Below w.heap.size w w3 := b2.trans (b23.mono (by omega))
      have mw30 : w3.cell? ⟨w.heap.size, 0, none⟩ = some (.int .i64 f) := (hb_w3.cell (p := ⟨w.heap.size, 0, none⟩) (by first | omega | (simp; omega) | simp)).trans (by first | assumption | (simp [go_sem]; done) | exact (World.cell?_alloc_lt _ _ ⟨_, _, _⟩ (by first | omega | (simp; omega) | simp)).trans (by assumption))
      have mw31 : w3.cell? ⟨w.heap.size, 1, none⟩ = some (.int .i64 p) := (hb_w3.cell (p := ⟨w.heap.size, 1, none⟩) (by first | omega | (simp; omega) | simp)).trans (by first | assumption | (simp [go_sem]; done) | exact (World.cell?_alloc_lt _ _ ⟨_, _, _⟩ (by first | omega | (simp; omega) | simp)).trans (by assumption))
      have mw32 : w3.cell? ⟨w.heap.size, 2, none⟩ = some (.int .i64 z) := (hb_w3.cell (p := ⟨w.heap.size, 2, none⟩) (by first | omega | (simp; omega) | simp)).trans (by first | assumption | (simp [go_sem]; done) | exact (World.cell?_alloc_lt _ _ ⟨_, _, _⟩ (by first | omega | (simp; omega) | simp)).trans (by assumption))
      have mw33 : w3.cell? ⟨w.heap.size, 3, none⟩ = some (.int .i64 an) := (hb_w3.cell (p := ⟨w.heap.size, 3, none⟩) (by first | omega | (simp; omega) | simp)).trans (by first | assumption | (simp [go_sem]; done) | exact (World.cell?_alloc_lt _ _ ⟨_, _, _⟩ (by first | omega | (simp; omega) | simp)).trans (by assumption))
      have mw34 : w3.cell? ⟨w.heap.size, 4, none⟩ = some (.slice As aw.length ca) := (hb_w3.cell (p := ⟨w.heap.size, 4, none⟩) (by first | omega | (simp; omega) | simp)).trans (by first | assumption | (simp [go_sem]; done) | exact (World.cell?_alloc_lt _ _ ⟨_, _, _⟩ (by first | omega | (simp; omega) | simp)).trans (by assumption))
      have mw35 : w3.cell? ⟨w.heap.size, 5, none⟩ = some (.int .i64 mn) := (hb_w3.cell (p := ⟨w.heap.size, 5, none⟩) (by first | omega | (simp; omega) | simp)).trans (by first | assumption | (simp [go_sem]; done) | exact (World.cell?_alloc_lt _ _ ⟨_, _, _⟩ (by first | omega | (simp; omega) | simp)).trans (by assumption))
      have mw36 : w3.cell? ⟨w.heap.size, 6, none⟩ = some (.slice Ms mw.length cm) := (hb_w3.cell (p := ⟨w.heap.size, 6, none⟩) (by first | omega | (simp; omega) | simp)).trans (by first | assumption | (simp [go_sem]; done) | exact (World.cell?_alloc_lt _ _ ⟨_, _, _⟩ (by first | omega | (simp; omega) | simp)).trans (by assumption))
      have mw37 : w3.cell? ⟨w.heap.size, 7, none⟩ = some (.bool s) := (hb_w3.cell (p := ⟨w.heap.size, 7, none⟩) (by first | omega | (simp; omega) | simp)).trans (by first | assumption | (simp [go_sem]; done) | exact (World.cell?_alloc_lt _ _ ⟨_, _, _⟩ (by first | omega | (simp; omega) | simp)).trans (by assumption))
      try go_wp2_with fail
      refine hK.out _ _ ?_ (fun hHeld => ?_)
      · (try dsimp only); refine ⟨?_, ?_, ?_, ?_, ?_, ?_, ?_, ?_⟩ <;> first | assumption | (simp [go_sem]; done) | exact (World.cell?_alloc_lt _ _ ⟨_, _, _⟩ (by first | omega | (simp; omega) | simp)).trans (by assumption)
      clear hK K
      try simp only [Act.put, List.getElem_toArray, List.getElem_cons_zero, List.getElem_cons_succ, List.setIfInBounds_toArray, List.set_cons_zero, List.set_cons_succ]
      refine wpAnyH_ready (rs := [4]) (by kernel_rfl) (by simp) ?_
      refine AllReadyH.cons rfl (fun K hK => ?_) AllReadyH.nil
      try simp only [List.getElem_toArray, List.getElem_cons_zero, List.getElem_cons_succ]
      go_simp
      refine hK.out _ _ ?_ (fun hHeld => ?_)
      · (try dsimp only); refine ⟨?_, ?_, ?_, ?_, ?_, ?_, ?_, ?_⟩ <;> first | assumption | (simp [go_sem]; done) | exact (World.cell?_alloc_lt _ _ ⟨_, _, _⟩ (by first | omega | (simp; omega) | simp)).trans (by assumption)
      clear hK K
      try simp only [Act.put, List.getElem_toArray, List.getElem_cons_zero, List.getElem_cons_succ, List.setIfInBounds_toArray, List.set_cons_zero, List.set_cons_succ]
      refine wpAnyH_take (i := 5) (v := ?_) rfl (by kernel_rfl) (by kernel_rfl) (by kernel_rfl) (fun _ _ _ h => h) (Or.inl ⟨by rfl, ?_⟩) (by assumption) ?_
      rotate_left
      · (intro w hSw; (try dsimp only at hSw); go_simp; first | done | with_reducible rfl)
      try simp only [Act.put, List.getElem_toArray, List.getElem_cons_zero, List.getElem_cons_succ, List.setIfInBounds_toArray, List.set_cons_zero, List.set_cons_succ]
      refine wpAnyH_ready (rs := [6]) (by kernel_rfl) (by simp) ?_
      refine AllReadyH.cons rfl (fun K hK => ?_) AllReadyH.nil
      try simp only [List.getElem_toArray, List.getElem_cons_zero, List.getElem_cons_succ]
      go_simp
      have hgne : w.heap.size ≠ w3.heap.size := by omega
      refine hK.out _ _ ?_ (fun hHeld => ?_)
      · (try dsimp only); refine ⟨?_, ?_, ?_, ?_, ?_, ?_, ?_, ?_⟩ <;> first | assumption | (simp [go_sem]; done) | exact (World.cell?_alloc_lt _ _ ⟨_, _, _⟩ (by first | omega | (simp; omega) | simp)).trans (by assumption)
      clear hK K
      try simp only [Act.put, List.getElem_toArray, List.getElem_cons_zero, List.getElem_cons_succ, List.setIfInBounds_toArray, List.set_cons_zero, List.set_cons_succ]
      refine wpAnyH_done (by kernel_rfl) ?_ _
      go_wp2_with fail
      go_at_call 26
      refine (H1.out _ ((hr.later b3).later (by repeat (first | exact Below.refl _ _ | assumption | (refine below_drewN ?_ _) | (refine Below.drew ?_) | (refine Below.alloc ?_ (by first | omega | (simp; omega) | simp) _) | (refine Below.setCell ?_ (by first | omega | (simp; omega) | simp) _) | (refine below_trans ?_ (by assumption) (by first | omega | (simp; omega) | simp))))) ((hA.later b3).later (by repeat (first | exact Below.refl _ _ | assumption | (refine below_drewN ?_ _) | (refine Below.drew ?_) | (refine Below.alloc ?_ (by first | omega | (simp; omega) | simp) _) | (refine Below.setCell ?_ (by first | omega | (simp; omega) | simp) _) | (refine below_trans ?_ (by assumption) (by first | omega | (simp; omega) | simp))))) ((hM.later b3).later (by repeat (first | exact Below.refl _ _ | assumption | (refine below_drewN ?_ _) | (refine Below.drew ?_) | (refine Below.alloc ?_ (by first | omega | (simp; omega) | simp) _) | (refine Below.setCell ?_ (by first | omega | (simp; omega) | simp) _) | (refine below_trans ?_ (by assumption) (by first | omega | (simp; omega) | simp)))))).mono ?_
      rintro e w4 ⟨A4, c4, vs4, rfl, hv4, o4, hb4⟩
      have hs4 := hb4.size
      (try simp only [World.size_alloc, World.heap_drewN, World.drew] at hs4)
      have l34 : w3.heap.size + 1 ≤ w4.heap.size := by first | omega | (have h := hb4.size; simpa [World.drew, World.drewN] using h)
      have b34 : Below w3.heap.size w3 w4 := (by repeat (first | exact Below.refl _ _ | assumption | (refine below_drewN ?_ _) | (refine Below.drew ?_) | (refine Below.alloc ?_ (by first | omega | (simp; omega) | simp) _) | (refine Below.setCell ?_ (by first | omega | (simp; omega) | simp) _) | (refine below_trans ?_ (by assumption) (by first | omega | (simp; omega) | simp))))
      have b4 : Below w.heap.size w w4 := b3.trans (b34.mono (by omega))
      have R4 : Sp8 w4 w3.heap.size 0 ⟨f, p, z, an, aw, mn, mw, s⟩ A3 c3 M3 d3 := by constructor <;> exact ((bcell hb4).1 _ _ (by first | omega | (simp; omega) | simp)).trans (by simp [go_sem])
      have Q4 := ((Q1.later b12).later b23).later b34
      have G4 := ((gr2.later b23).below b34).more (show w3.heap.size ≤ w3.heap.size + 1 by omega)
      have L4 := (hr.below b4).more (show w.heap.size ≤ w3.heap.size + 1 by omega)
      have P1 := (hA.below b4).more (show w.heap.size ≤ w3.heap.size + 1 by omega)
      have P2 := (hM.below b4).more (show w.heap.size ≤ w3.heap.size + 1 by omega)
      have P3 := (o3.row.below b34).more (show w3.heap.size ≤ w3.heap.size + 1 by omega)
      have P4 := (o3'.row.below b34).more (show w3.heap.size ≤ w3.heap.size + 1 by omega)
      have T4 : SpCells w4 (w3.heap.size + 1) w4.heap.size A4 r.length := (SpCells.of_owns o4 (HV1.out _ hv4)).wide (by (try simp only [World.size_alloc, World.heap_drewN, World.drew]); omega) (Nat.le_refl _)
      clear o4 hv4 o3 o3' gr2
      go_wp2_with fail
      go_at_call 28
      refine (H3.out _ (hr.later b4)).mono ?_
      rintro e w5 ⟨A5, c5, vs5, rfl, hv5, o5, hb5⟩
      have hs5 := hb5.size
      have b5 : Below w.heap.size w w5 := b4.trans (hb5.mono (by omega))
      have T5 : SpCells w5 (w3.heap.size + 1) w5.heap.size A5 r2.length := (SpCells.of_owns o5 (HV2.out _ hv5)).wide (by omega) (Nat.le_refl _)
      have T4' := (T4.later hb5).wide (Nat.le_refl _) hs5
      have R0 := Lib.hid fun (c0 c1 : Nat) (t : TypeId) => SRows2.new (c0 := c0) (c1 := c1) t T4' T5 lr1 lr2
      have b45 : Below (w3.heap.size + 1) w4 w5 := hb5.mono (by omega)
      have l35 : w3.heap.size + 1 ≤ w5.heap.size := by omega
      clear T4 T4' T5 o5 hv5
      go_wp2_with fail
      go_loopw [39] (fun ii wr => ∃ k : Nat, ii = .int .i64 (k : Nat) ∧ k ≤ 2 ∧ SRows2 wr (w3.heap.size + 1) w5.heap.size ∧ w5.heap.size + 1 ≤ wr.heap.size ∧ Below (w3.heap.size + 1) w4 wr) (fun ii _ => 2 - (intOf ii).toNat)
      case atStart => exact ⟨0, rfl, by omega, R0.out _ _ _, (by first | omega | (simp; omega) | simp), b45.trans ((Below.refl _ _).alloc (by omega) _)⟩
      case round =>
        obtain ⟨k, rfl, hk, hR, hsz, hb_wr⟩ := hrel
        by_cases hlt : k < 2
        · obtain ⟨Am, n, cm', cG, hn, hT⟩ := hR k hlt
          have HR := Lib.hid hR
          have HTg := Lib.hid hT
          clear hR hT
          go_wp2_with fail
          generalize wr = wD at *
          go_loopw [45] (fun jj wr => ∃ j : Nat, jj = .int .i64 (j : Nat) ∧ j ≤ n ∧ SRows2 wr (w3.heap.size + 1) w5.heap.size ∧ SpCells wr (w3.heap.size + 1) w5.heap.size Am n ∧ w5.heap.size + 1 ≤ wr.heap.size ∧ Below (w3.heap.size + 1) w4 wr) (fun jj _ => n - (intOf jj).toNat)
          case atStart => exact ⟨0, rfl, Nat.zero_le _, HR.out, HTg.out, hsz, hb_wr⟩
          case round =>
            clear HR HTg hsz hb_wr cG
            obtain ⟨j, rfl, hj, hR, hT, hsz, hb_wr⟩ := hrel
            by_cases hjl : j < n
            · obtain ⟨g, zz, Aw, m, cw, rfl, hgB, hgE, x2, f2, x4, hm, hW⟩ := hT j hjl
              have i1 : (j : Int) < (n : Int) := by omega
              have i2 : (0 : Int) ≤ (j : Int) := by omega
              have x4' := ((set_kinds x2 99).2 _ _ _ _ _ x4)
              have HR := Lib.hid (hR.set x2 99)
              have HTg := Lib.hid (hT.set x2 99)
              have HWd := Lib.hid (hW.set x2 99)
              have HB := Lib.hid (hb_wr.setCell (p := ⟨g, j * 8 + 2, none⟩) (show w3.heap.size + 1 ≤ g from hgB) (.int .i64 99))
              have x43 : (wr.setCell ⟨g, j * 8 + 2, none⟩ (.int .i64 99)).cell? ⟨g, j * 8 + 3 + 1, none⟩ = some (.slice Aw m cw) := x4'
              have x40 := x4
              clear hR hT hW
              go_wp2_with fail
              generalize hWS : wr.setCell ⟨g, j * 8 + 2, none⟩ (.int .i64 99) = wS at *
              have hzS : wS.heap.size = wr.heap.size := by rw [← hWS]; simp
              clear hWS x2 f2 x4 x40 hb_wr
              go_loopw [59] (fun kk wr => ∃ q : Nat, kk = .int .i64 (q : Nat) ∧ q ≤ m ∧ wr.cell? ⟨g, j * 8 + 4, none⟩ = some (.slice Aw m cw) ∧ SRows2 wr (w3.heap.size + 1) w5.heap.size ∧ SpCells wr (w3.heap.size + 1) w5.heap.size (some ⟨g, 0, none⟩) n ∧ WdCells wr (w3.heap.size + 1) w5.heap.size Aw m ∧ w5.heap.size + 1 ≤ wr.heap.size ∧ Below (w3.heap.size + 1) w4 wr) (fun kk _ => m - (intOf kk).toNat)
              case atStart => exact ⟨0, rfl, Nat.zero_le _, x4', HR.out, HTg.out, HWd.out, by omega, HB.out⟩
              case round =>
                clear HR HTg HWd HB x4' x43
                obtain ⟨q, rfl, hq, x4, hR, hT, hW, hsz2, hb_wr⟩ := hrel
                by_cases hqm : q < m
                · obtain ⟨gw, tt, rfl, hwB, hwE, cw1, fw1⟩ := hW q hqm
                  have k1 : (q : Int) < (m : Int) := by omega
                  have k2 : (0 : Int) ≤ (q : Int) := by omega
                  have x43 : wr.cell? ⟨g, j * 8 + 3 + 1, none⟩ = some (.slice (some ⟨gw, 0, none⟩) m cw) := x4
                  have HX := Lib.hid fun (u : Int) => (set_kinds cw1 u).2 _ _ _ _ _ x4
                  have HR := Lib.hid fun (u : Int) => hR.set cw1 u
                  have HTg := Lib.hid fun (u : Int) => hT.set cw1 u
                  have HWd := Lib.hid fun (u : Int) => hW.set cw1 u
                  have HB := Lib.hid fun (u : Int) => hb_wr.setCell (p := ⟨gw, q, none⟩) (show w3.heap.size + 1 ≤ gw from hwB) (.int .u64 u)
                  clear hR hT hW hb_wr
                  go_wp2
                  go_roundw
                  case rel => exact ⟨q + 1, by go_num, by omega, HX.out _, HR.out _, HTg.out _, HWd.out _, (by first | omega | (simp; omega) | simp), HB.out _⟩
                  case measure => simp [intOf]; omega
                · have HR := Lib.hid hR
                  have HTg := Lib.hid hT
                  clear hW hR hT
                  go_wp2
                  go_roundw
                  case rel => exact ⟨j + 1, by go_num, by omega, HR.out, HTg.out, hsz2, hb_wr⟩
                  case measure => simp [intOf]; omega
            · have HR := Lib.hid hR
              clear hT hR
              go_wp2
              go_roundw
              case rel => exact ⟨k + 1, by go_num, by omega, HR.out, hsz, hb_wr⟩
              case measure => simp [intOf]; omega
        · obtain rfl : k = 2 := by omega
          clear hR
          have lw : w3.heap.size + 1 ≤ wr.heap.size := by omega
          have bw : Below w.heap.size w wr := b4.trans (hb_wr.mono (by omega))
          have Q9 := Q4.below hb_wr (by omega)
          have R9 := R4.below hb_wr (by omega)
          have P1 := (P1.below hb_wr).more lw
          have P2 := (P2.below hb_wr).more lw
          have P3 := (P3.below hb_wr).more lw
          have P4 := (P4.below hb_wr).more lw
          go_wp2_with fail
          go_at_call 30
          refine (HS.out _ _ _ ((L4.below hb_wr).more lw) ((G4.below hb_wr).more lw)).mono ?_
          rintro e w9 ⟨rfl, hb9⟩
          have hs9 := hb9.size
          have b9 : Below w.heap.size w w9 := bw.trans (hb9.mono (by omega))
          obtain ⟨q0, q1, q2, q3, q4, q5, q6, q7⟩ := Q9.later hb9
          obtain ⟨r0, r1, r2', r3, r4, r5, r6, r7⟩ := R9.later hb9
          simp only [Nat.zero_add] at q0 q1 q2 q3 q4 q5 q6 q7 r0 r1 r2' r3 r4 r5 r6 r7
          go_wp2_with fail
          go_at_call 18
          refine (HS1.out _ _ _ _ _ (P1.later hb9) (P2.later hb9) (P3.later hb9) (P4.later hb9)).mono ?_
          rintro e w10 ⟨rfl, hb10⟩
          go_wp2
          go_ret
          exact ⟨rfl, b9.trans (hb10.mono (by omega))⟩
    · try simp only [List.getElem_toArray, List.getElem_cons_zero, List.getElem_cons_succ]
      go_simp
      refine hK.out _ _ ?_ (fun hHeld => ?_)
      · (try dsimp only); refine ⟨?_, ?_, ?_, ?_, ?_, ?_, ?_, ?_⟩ <;> first | assumption | (simp [go_sem]; done) | exact (World.cell?_alloc_lt _ _ ⟨_, _, _⟩ (by first | omega | (simp; omega) | simp)).trans (by assumption)
      clear hK K
      try simp only [Act.put, List.getElem_toArray, List.getElem_cons_zero, List.getElem_cons_succ, List.setIfInBounds_toArray, List.set_cons_zero, List.set_cons_succ]
      refine wpAnyH_ready (rs := [3]) (by kernel_rfl) (by simp) ?_
      refine AllReadyH.cons rfl (fun K hK => ?_) AllReadyH.nil
      try simp only [List.getElem_toArray, List.getElem_cons_zero, List.getElem_cons_succ]
      go_simp
      go_at_call 33
      refine (HO.out _ ((hA.later b2).later (by repeat (first | exact Below.refl _ _ | assumption | (refine below_drewN ?_ _) | (refine Below.drew ?_) | (refine Below.alloc ?_ (by first | omega | (simp; omega) | simp) _) | (refine Below.setCell ?_ (by first | omega | (simp; omega) | simp) _) | (refine below_trans ?_ (by assumption) (by first | omega | (simp; omega) | simp))))) ((hM.later b2).later (by repeat (first | exact Below.refl _ _ | assumption | (refine below_drewN ?_ _) | (refine Below.drew ?_) | (refine Below.alloc ?_ (by first | omega | (simp; omega) | simp) _) | (refine Below.setCell ?_ (by first | omega | (simp; omega) | simp) _) | (refine below_trans ?_ (by assumption) (by first | omega | (simp; omega) | simp)))))).mono ?_
      rintro e w3 ⟨A3, c3, M3, d3, rfl, o3, o3', hb_w3⟩
      have hs_w3 : w2.heap.size + 1 ≤ w3.heap.size := by have h := hb_w3.size; have e : ∀ (W : World), W.drew.heap.size = W.heap.size := fun _ => rfl; (try rw [e] at h); rw [World.size_alloc] at h; exact h
      have b23 : Below w2.heap.size w2 w3 := (by repeat (first | exact Below.refl _ _ | assumption | (refine below_drewN ?_ _) | (refine Below.drew ?_) | (refine Below.alloc ?_ (by first | omega | (simp; omega) | simp) _) | (refine Below.setCell ?_ (by first | omega | (simp; omega) | simp) _) | (refine below_trans ?_ (by assumption) (by first | omega | (simp; omega) | simp))))
      have b3 : Below w.heap.size w w3 := b2.trans (b23.mono (by omega))
      have Yw3 : Sp8 w3 w2.heap.size 0 sd0 none 0 none 0 := by constructor <;> exact ((bcell hb_w3).1 _ _ (by first | omega | (simp; omega) | simp)).trans (by simp [go_sem, sd0])
      have yw3 : ∀ i, w3.frozen? ⟨w2.heap.size, i, none⟩ = false := fun i => ((bcell hb_w3).2 _ _ (by first | omega | (simp; omega) | simp)).trans (by simp [go_sem])
      obtain ⟨z0, z1, z2, z3, z4, z5, z6, z7⟩ := id Yw3
      simp only [Nat.zero_add] at z0 z1 z2 z3 z4 z5 z6 z7
      have v0 := yw3 0
      have v1 := yw3 1
      have v2 := yw3 2
      have v3 := yw3 3
      have v4 := yw3 4
      have v5 := yw3 5
      have v6 := yw3 6
      have v7 := yw3 7
      have mw30 : w3.cell? ⟨w.heap.size, 0, none⟩ = some (.int .i64 f) := (hb_w3.cell (p := ⟨w.heap.size, 0, none⟩) (by first | omega | (simp; omega) | simp)).trans (by first | assumption | (simp [go_sem]; done) | exact (World.cell?_alloc_lt _ _ ⟨_, _, _⟩ (by first | omega | (simp; omega) | simp)).trans (by assumption))
      have mw31 : w3.cell? ⟨w.heap.size, 1, none⟩ = some (.int .i64 p) := (hb_w3.cell (p := ⟨w.heap.size, 1, none⟩) (by first | omega | (simp; omega) | simp)).trans (by first | assumption | (simp [go_sem]; done) | exact (World.cell?_alloc_lt _ _ ⟨_, _, _⟩ (by first | omega | (simp; omega) | simp)).trans (by assumption))
      have mw32 : w3.cell? ⟨w.heap.size, 2, none⟩ = some (.int .i64 z) := (hb_w3.cell (p := ⟨w.heap.size, 2, none⟩) (by first | omega | (simp; omega) | simp)).trans (by first | assumption | (simp [go_sem]; done) | exact (World.cell?_alloc_lt _ _ ⟨_, _, _⟩ (by first | omega | (simp; omega) | simp)).trans (by assumption))
      have mw33 : w3.cell? ⟨w.heap.size, 3, none⟩ = some (.int .i64 an) := (hb_w3.cell (p := ⟨w.heap.size, 3, none⟩) (by first | omega | (simp; omega) | simp)).trans (by first | assumption | (simp [go_sem]; done) | exact (World.cell?_alloc_lt _ _ ⟨_, _, _⟩ (by first | omega | (simp; omega) | simp)).trans (by assumption))
      have mw34 : w3.cell? ⟨w.heap.size, 4, none⟩ = some (.slice As aw.length ca) := (hb_w3.cell (p := ⟨w.heap.size, 4, none⟩) (by first | omega | (simp; omega) | simp)).trans (by first | assumption | (simp [go_sem]; done) | exact (World.cell?_alloc_lt _ _ ⟨_, _, _⟩ (by first | omega | (simp; omega) | simp)).trans (by assumption))
      have mw35 : w3.cell? ⟨w.heap.size, 5, none⟩ = some (.int .i64 mn) := (hb_w3.cell (p := ⟨w.heap.size, 5, none⟩) (by first | omega | (simp; omega) | simp)).trans (by first | assumption | (simp [go_sem]; done) | exact (World.cell?_alloc_lt _ _ ⟨_, _, _⟩ (by first | omega | (simp; omega) | simp)).trans (by assumption))
      have mw36 : w3.cell? ⟨w.heap.size, 6, none⟩ = some (.slice Ms mw.length cm) := (hb_w3.cell (p := ⟨w.heap.size, 6, none⟩) (by first | omega | (simp; omega) | simp)).trans (by first | assumption | (simp [go_sem]; done) | exact (World.cell?_alloc_lt _ _ ⟨_, _, _⟩ (by first | omega | (simp; omega) | simp)).trans (by assumption))
      have mw37 : w3.cell? ⟨w.heap.size, 7, none⟩ = some (.bool s) := (hb_w3.cell (p := ⟨w.heap.size, 7, none⟩) (by first | omega | (simp; omega) | simp)).trans (by first | assumption | (simp [go_sem]; done) | exact (World.cell?_alloc_lt _ _ ⟨_, _, _⟩ (by first | omega | (simp; omega) | simp)).trans (by assumption))
      try go_wp2_with fail
      refine hK.out _ _ ?_ (fun hHeld => ?_)
      · (try dsimp only); refine ⟨?_, ?_, ?_, ?_, ?_, ?_, ?_, ?_⟩ <;> first | assumption | (simp [go_sem]; done) | exact (World.cell?_alloc_lt _ _ ⟨_, _, _⟩ (by first | omega | (simp; omega) | simp)).trans (by assumption)
      clear hK K
      try simp only [Act.put, List.getElem_toArray, List.getElem_cons_zero, List.getElem_cons_succ, List.setIfInBounds_toArray, List.set_cons_zero, List.set_cons_succ]
      refine wpAnyH_take (i := 5) (v := ?_) rfl (by kernel_rfl) (by kernel_rfl) (by kernel_rfl) (fun _ _ _ h => h) (Or.inl ⟨by rfl, ?_⟩) (by assumption) ?_
      rotate_left
      · (intro w hSw; (try dsimp only at hSw); go_simp; first | done | with_reducible rfl)
      try simp only [Act.put, List.getElem_toArray, List.getElem_cons_zero, List.getElem_cons_succ, List.setIfInBounds_toArray, List.set_cons_zero, List.set_cons_succ]
      refine wpAnyH_ready (rs := [6]) (by kernel_rfl) (by simp) ?_
      refine AllReadyH.cons rfl (fun K hK => ?_) AllReadyH.nil
      try simp only [List.getElem_toArray, List.getElem_cons_zero, List.getElem_cons_succ]
      go_simp
      have hgne : w.heap.size ≠ w2.heap.size := by omega
      refine hK.out _ _ ?_ (fun hHeld => ?_)
      · (try dsimp only); exact ⟨(cell_set8 hgne _ _ _ _ _ _ _ _ _).trans mw30, (cell_set8 hgne _ _ _ _ _ _ _ _ _).trans mw31, (cell_set8 hgne _ _ _ _ _ _ _ _ _).trans mw32, (cell_set8 hgne _ _ _ _ _ _ _ _ _).trans mw33, (cell_set8 hgne _ _ _ _ _ _ _ _ _).trans mw34, (cell_set8 hgne _ _ _ _ _ _ _ _ _).trans mw35, (cell_set8 hgne _ _ _ _ _ _ _ _ _).trans mw36, (cell_set8 hgne _ _ _ _ _ _ _ _ _).trans mw37⟩
      clear hK K
      try simp only [Act.put, List.getElem_toArray, List.getElem_cons_zero, List.getElem_cons_succ, List.setIfInBounds_toArray, List.set_cons_zero, List.set_cons_succ]
      refine wpAnyH_done (by kernel_rfl) ?_ _
      go_wp2_with fail
      go_at_call 26
      refine (H1.out _ (hr.later (by (iterate 8 (refine Below.setCell ?_ (by first | omega | (simp; omega) | simp) _)); exact b3)) (hA.later (by (iterate 8 (refine Below.setCell ?_ (by first | omega | (simp; omega) | simp) _)); exact b3)) (hM.later (by (iterate 8 (refine Below.setCell ?_ (by first | omega | (simp; omega) | simp) _)); exact b3))).mono ?_
      rintro e w4 ⟨A4, c4, vs4, rfl, hv4, o4, hb4⟩
      have l34 : w3.heap.size ≤ w4.heap.size := Nat.le_trans (Nat.le_of_eq (by simp)) hb4.size
      have b4 : Below w.heap.size w w4 := Below.trans (by (iterate 8 (refine Below.setCell ?_ (by first | omega | (simp; omega) | simp) _)); exact b3) (hb4.mono (Nat.le_trans (show w.heap.size ≤ w3.heap.size by omega) (Nat.le_of_eq (by simp))))
      have hcell : ∀ b o, b < w3.heap.size → b ≠ w2.heap.size → w4.cell? ⟨b, o, none⟩ = w3.cell? ⟨b, o, none⟩ := fun b o hlt hne => ((bcell hb4).1 b o (Nat.lt_of_lt_of_le hlt (Nat.le_of_eq (by simp)))).trans (cell_set8 hne _ _ _ _ _ _ _ _ _)
      have R4 : Sp8 w4 w2.heap.size 0 ⟨f, p, z, an, aw, mn, mw, s⟩ A3 c3 M3 d3 := (Yw3.set (d' := ⟨f, p, z, an, aw, mn, mw, s⟩) (A' := A3) (ca' := c3) (M' := M3) (cm' := d3)).later hb4
      have Q3 := (Q1.later b12).later b23
      have Q4 : Sp8 w4 w.heap.size 0 ⟨f, p, z, an, aw, mn, mw, s⟩ As ca Ms cm := ⟨(hcell _ _ (by omega) hgne).trans Q3.c0, (hcell _ _ (by omega) hgne).trans Q3.c1, (hcell _ _ (by omega) hgne).trans Q3.c2, (hcell _ _ (by omega) hgne).trans Q3.c3, (hcell _ _ (by omega) hgne).trans Q3.c4, (hcell _ _ (by omega) hgne).trans Q3.c5, (hcell _ _ (by omega) hgne).trans Q3.c6, (hcell _ _ (by omega) hgne).trans Q3.c7⟩
      have G4 : SRow w4 w3.heap.size G l := by
        exact (gr2.keep fun b o h2 => (hcell b o (by omega) (by omega)).trans (b23.cell (p := ⟨b, o, none⟩) h2)).more (by omega)
      have L4 := (hr.below b4).more (show w.heap.size ≤ w3.heap.size by omega)
      have P1 := (hA.below b4).more (show w.heap.size ≤ w3.heap.size by omega)
      have P2 := (hM.below b4).more (show w.heap.size ≤ w3.heap.size by omega)
      have P3 : Row w4 w3.heap.size A3 aw := (o3.mono (B' := w2.heap.size + 1) (by first | omega | (simp; omega) | simp)).out fun b o h1 h2 => hcell b o h2 (by omega)
      have P4 : Row w4 w3.heap.size M3 mw := (o3'.mono (B' := w2.heap.size + 1) (by first | omega | (simp; omega) | simp)).out fun b o h1 h2 => hcell b o h2 (by omega)
      have T4 : SpCells w4 w3.heap.size w4.heap.size A4 r.length := (SpCells.of_owns o4 (HV1.out _ hv4)).wide (by first | omega | (simp; done) | (simp; omega)) (Nat.le_refl _)
      clear o4 hv4 o3 o3' gr2
      go_wp2_with fail
      go_at_call 28
      refine (H3.out _ (hr.later b4)).mono ?_
      rintro e w5 ⟨A5, c5, vs5, rfl, hv5, o5, hb5⟩
      have hs5 := hb5.size
      have b5 : Below w.heap.size w w5 := b4.trans (hb5.mono (by omega))
      have T5 : SpCells w5 w3.heap.size w5.heap.size A5 r2.length := (SpCells.of_owns o5 (HV2.out _ hv5)).wide (by omega) (Nat.le_refl _)
      have T4' := (T4.later hb5).wide (Nat.le_refl _) hs5
      have R0 := Lib.hid fun (c0 c1 : Nat) (t : TypeId) => SRows2.new (c0 := c0) (c1 := c1) t T4' T5 lr1 lr2
      have b45 : Below w3.heap.size w4 w5 := hb5.mono (by omega)
      have l35 : w3.heap.size ≤ w5.heap.size := by omega
      clear T4 T4' T5 o5 hv5
      go_wp2_with fail
      go_loopw [39] (fun ii wr => ∃ k : Nat, ii = .int .i64 (k : Nat) ∧ k ≤ 2 ∧ SRows2 wr w3.heap.size w5.heap.size ∧ w5.heap.size + 1 ≤ wr.heap.size ∧ Below w3.heap.size w4 wr) (fun ii _ => 2 - (intOf ii).toNat)
      case atStart => exact ⟨0, rfl, by omega, R0.out _ _ _, (by first | omega | (simp; omega) | simp), b45.trans ((Below.refl _ _).alloc (by omega) _)⟩
      case round =>
        obtain ⟨k, rfl, hk, hR, hsz, hb_wr⟩ := hrel
        by_cases hlt : k < 2
        · obtain ⟨Am, n, cm', cG, hn, hT⟩ := hR k hlt
          have HR := Lib.hid hR
          have HTg := Lib.hid hT
          clear hR hT
          go_wp2_with fail
          generalize wr = wD at *
          go_loopw [45] (fun jj wr => ∃ j : Nat, jj = .int .i64 (j : Nat) ∧ j ≤ n ∧ SRows2 wr w3.heap.size w5.heap.size ∧ SpCells wr w3.heap.size w5.heap.size Am n ∧ w5.heap.size + 1 ≤ wr.heap.size ∧ Below w3.heap.size w4 wr) (fun jj _ => n - (intOf jj).toNat)
          case atStart => exact ⟨0, rfl, Nat.zero_le _, HR.out, HTg.out, hsz, hb_wr⟩
          case round =>
            clear HR HTg hsz hb_wr cG
            obtain ⟨j, rfl, hj, hR, hT, hsz, hb_wr⟩ := hrel
            by_cases hjl : j < n
            · obtain ⟨g, zz, Aw, m, cw, rfl, hgB, hgE, x2, f2, x4, hm, hW⟩ := hT j hjl
              have i1 : (j : Int) < (n : Int) := by omega
              have i2 : (0 : Int) ≤ (j : Int) := by omega
              have x4' := ((set_kinds x2 99).2 _ _ _ _ _ x4)
              have HR := Lib.hid (hR.set x2 99)
              have HTg := Lib.hid (hT.set x2 99)
              have HWd := Lib.hid (hW.set x2 99)
              have HB := Lib.hid (hb_wr.setCell (p := ⟨g, j * 8 + 2, none⟩) (show w3.heap.size ≤ g from hgB) (.int .i64 99))
              have x43 : (wr.setCell ⟨g, j * 8 + 2, none⟩ (.int .i64 99)).cell? ⟨g, j * 8 + 3 + 1, none⟩ = some (.slice Aw m cw) := x4'
              have x40 := x4
              clear hR hT hW
              go_wp2_with fail
              generalize hWS : wr.setCell ⟨g, j * 8 + 2, none⟩ (.int .i64 99) = wS at *
              have hzS : wS.heap.size = wr.heap.size := by rw [← hWS]; simp
              clear hWS x2 f2 x4 x40 hb_wr
              go_loopw [59] (fun kk wr => ∃ q : Nat, kk = .int .i64 (q : Nat) ∧ q ≤ m ∧ wr.cell? ⟨g, j * 8 + 4, none⟩ = some (.slice Aw m cw) ∧ SRows2 wr w3.heap.size w5.heap.size ∧ SpCells wr w3.heap.size w5.heap.size (some ⟨g, 0, none⟩) n ∧ WdCells wr w3.heap.size w5.heap.size Aw m ∧ w5.heap.size + 1 ≤ wr.heap.size ∧ Below w3.heap.size w4 wr) (fun kk _ => m - (intOf kk).toNat)
              case atStart => exact ⟨0, rfl, Nat.zero_le _, x4', HR.out, HTg.out, HWd.out, by omega, HB.out⟩
              case round =>
                clear HR HTg HWd HB x4' x43
                obtain ⟨q, rfl, hq, x4, hR, hT, hW, hsz2, hb_wr⟩ := hrel
                by_cases hqm : q < m
                · obtain ⟨gw, tt, rfl, hwB, hwE, cw1, fw1⟩ := hW q hqm
                  have k1 : (q : Int) < (m : Int) := by omega
                  have k2 : (0 : Int) ≤ (q : Int) := by omega
                  have x43 : wr.cell? ⟨g, j * 8 + 3 + 1, none⟩ = some (.slice (some ⟨gw, 0, none⟩) m cw) := x4
                  have HX := Lib.hid fun (u : Int) => (set_kinds cw1 u).2 _ _ _ _ _ x4
                  have HR := Lib.hid fun (u : Int) => hR.set cw1 u
                  have HTg := Lib.hid fun (u : Int) => hT.set cw1 u
                  have HWd := Lib.hid fun (u : Int) => hW.set cw1 u
                  have HB := Lib.hid fun (u : Int) => hb_wr.setCell (p := ⟨gw, q, none⟩) (show w3.heap.size ≤ gw from hwB) (.int .u64 u)
                  clear hR hT hW hb_wr
                  go_wp2
                  go_roundw
                  case rel => exact ⟨q + 1, by go_num, by omega, HX.out _, HR.out _, HTg.out _, HWd.out _, (by first | omega | (simp; omega) | simp), HB.out _⟩
                  case measure => simp [intOf]; omega
                · have HR := Lib.hid hR
                  have HTg := Lib.hid hT
                  clear hW hR hT
                  go_wp2
                  go_roundw
                  case rel => exact ⟨j + 1, by go_num, by omega, HR.out, HTg.out, hsz2, hb_wr⟩
                  case measure => simp [intOf]; omega
            · have HR := Lib.hid hR
              clear hT hR
              go_wp2
              go_roundw
              case rel => exact ⟨k + 1, by go_num, by omega, HR.out, hsz, hb_wr⟩
              case measure => simp [intOf]; omega
        · obtain rfl : k = 2 := by omega
          clear hR
          have lw : w3.heap.size ≤ wr.heap.size := by omega
          have bw : Below w.heap.size w wr := b4.trans (hb_wr.mono (by omega))
          have Q9 := Q4.below hb_wr (by omega)
          have R9 := R4.below hb_wr (by omega)
          have P1 := (P1.below hb_wr).more lw
          have P2 := (P2.below hb_wr).more lw
          have P3 := (P3.below hb_wr).more lw
          have P4 := (P4.below hb_wr).more lw
          go_wp2_with fail
          go_at_call 30
          refine (HS.out _ _ _ ((L4.below hb_wr).more lw) ((G4.below hb_wr).more lw)).mono ?_
          rintro e w9 ⟨rfl, hb9⟩
          have hs9 := hb9.size
          have b9 : Below w.heap.size w w9 := bw.trans (hb9.mono (by omega))
          obtain ⟨q0, q1, q2, q3, q4, q5, q6, q7⟩ := Q9.later hb9
          obtain ⟨r0, r1, r2', r3, r4, r5, r6, r7⟩ := R9.later hb9
          simp only [Nat.zero_add] at q0 q1 q2 q3 q4 q5 q6 q7 r0 r1 r2' r3 r4 r5 r6 r7
          go_wp2_with fail
          go_at_call 18
          refine (HS1.out _ _ _ _ _ (P1.later hb9) (P2.later hb9) (P3.later hb9) (P4.later hb9)).mono ?_
          rintro e w10 ⟨rfl, hb10⟩
          go_wp2
          go_ret
          exact ⟨rfl, b9.trans (hb10.mono (by omega))⟩
  · try simp only [List.getElem_toArray, List.getElem_cons_zero, List.getElem_cons_succ]
    go_simp
    refine hK.out _ _ ?_ (fun hHeld => ?_)
    · (try dsimp only); refine ⟨?_, ?_, ?_, ?_, ?_, ?_, ?_, ?_⟩ <;> first | assumption | (simp [go_sem]; done) | exact (World.cell?_alloc_lt _ _ ⟨_, _, _⟩ (by first | omega | (simp; omega) | simp)).trans (by assumption)
    clear hK K
    try simp only [Act.put, List.getElem_toArray, List.getElem_cons_zero, List.getElem_cons_succ, List.setIfInBounds_toArray, List.set_cons_zero, List.set_cons_succ]
    refine wpAnyH_ready (rs := [1]) (by kernel_rfl) (by simp) ?_
    refine AllReadyH.cons rfl (fun K hK => ?_) AllReadyH.nil
    try simp only [List.getElem_toArray, List.getElem_cons_zero, List.getElem_cons_succ]
    go_simp
    go_at_call 25
    refine (HCP.out _ ((hr.later b1).later (by repeat (first | exact Below.refl _ _ | assumption | (refine below_drewN ?_ _) | (refine Below.drew ?_) | (refine Below.alloc ?_ (by first | omega | (simp; omega) | simp) _) | (refine Below.setCell ?_ (by first | omega | (simp; omega) | simp) _) | (refine below_trans ?_ (by assumption) (by first | omega | (simp; omega) | simp)))))).mono ?_
    rintro e w2 ⟨G, gc, vs, rfl, hvs, oG, hb_w2⟩
    have hs_w2 : w1.heap.size + 1 ≤ w2.heap.size := by have h := hb_w2.size; have e : ∀ (W : World), W.drew.heap.size = W.heap.size := fun _ => rfl; (try rw [e] at h); rw [World.size_alloc] at h; exact h
    have b12 : Below w1.heap.size w1 w2 := (by repeat (first | exact Below.refl _ _ | assumption | (refine below_drewN ?_ _) | (refine Below.drew ?_) | (refine Below.alloc ?_ (by first | omega | (simp; omega) | simp) _) | (refine Below.setCell ?_ (by first | omega | (simp; omega) | simp) _) | (refine below_trans ?_ (by assumption) (by first | omega | (simp; omega) | simp))))
    have b2 : Below w.heap.size w w2 := b1.trans (b12.mono (by omega))
    have gr2 : SRow w2 w2.heap.size G l := by rw [← hvs]; exact oG.srow
    have Yw2 : Sp8 w2 w1.heap.size 0 sd0 none 0 none 0 := by constructor <;> exact ((bcell hb_w2).1 _ _ (by first | omega | (simp; omega) | simp)).trans (by simp [go_sem, sd0])
    have yw2 : ∀ i, w2.frozen? ⟨w1.heap.size, i, none⟩ = false := fun i => ((bcell hb_w2).2 _ _ (by first | omega | (simp; omega) | simp)).trans (by simp [go_sem])
    have mw20 : w2.cell? ⟨w.heap.size, 0, none⟩ = some (.int .i64 f) := (hb_w2.cell (p := ⟨w.heap.size, 0, none⟩) (by first | omega | (simp; omega) | simp)).trans (by first | assumption | (simp [go_sem]; done) | exact (World.cell?_alloc_lt _ _ ⟨_, _, _⟩ (by first | omega | (simp; omega) | simp)).trans (by assumption))
    have mw21 : w2.cell? ⟨w.heap.size, 1, none⟩ = some (.int .i64 p) := (hb_w2.cell (p := ⟨w.heap.size, 1, none⟩) (by first | omega | (simp; omega) | simp)).trans (by first | assumption | (simp [go_sem]; done) | exact (World.cell?_alloc_lt _ _ ⟨_, _, _⟩ (by first | omega | (simp; omega) | simp)).trans (by assumption))
    have mw22 : w2.cell? ⟨w.heap.size, 2, none⟩ = some (.int .i64 z) := (hb_w2.cell (p := ⟨w.heap.size, 2, none⟩) (by first | omega | (simp; omega) | simp)).trans (by first | assumption | (simp [go_sem]; done) | exact (World.cell?_alloc_lt _ _ ⟨_, _, _⟩ (by first | omega | (simp; omega) | simp)).trans (by assumption))
    have mw23 : w2.cell? ⟨w.heap.size, 3, none⟩ = some (.int .i64 an) := (hb_w2.cell (p := ⟨w.heap.size, 3, none⟩) (by first | omega | (simp; omega) | simp)).trans (by first | assumption | (simp [go_sem]; done) | exact (World.cell?_alloc_lt _ _ ⟨_, _, _⟩ (by first | omega | (simp; omega) | simp)).trans (by assumption))
    have mw24 : w2.cell? ⟨w.heap.size, 4, none⟩ = some (.slice As aw.length ca) := (hb_w2.cell (p := ⟨w.heap.size, 4, none⟩) (by first | omega | (simp; omega) | simp)).trans (by first | assumption | (simp [go_sem]; done) | exact (World.cell?_alloc_lt _ _ ⟨_, _, _⟩ (by first | omega | (simp; omega) | simp)).trans (by assumption))
    have mw25 : w2.cell? ⟨w.heap.size, 5, none⟩ = some (.int .i64 mn) := (hb_w2.cell (p := ⟨w.heap.size, 5, none⟩) (by first | omega | (simp; omega) | simp)).trans (by first | assumption | (simp [go_sem]; done) | exact (World.cell?_alloc_lt _ _ ⟨_, _, _⟩ (by first | omega | (simp; omega) | simp)).trans (by assumption))
    have mw26 : w2.cell? ⟨w.heap.size, 6, none⟩ = some (.slice Ms mw.length cm) := (hb_w2.cell (p := ⟨w.heap.size, 6, none⟩) (by first | omega | (simp; omega) | simp)).trans (by first | assumption | (simp [go_sem]; done) | exact (World.cell?_alloc_lt _ _ ⟨_, _, _⟩ (by first | omega | (simp; omega) | simp)).trans (by assumption))
    have mw27 : w2.cell? ⟨w.heap.size, 7, none⟩ = some (.bool s) := (hb_w2.cell (p := ⟨w.heap.size, 7, none⟩) (by first | omega | (simp; omega) | simp)).trans (by first | assumption | (simp [go_sem]; done) | exact (World.cell?_alloc_lt _ _ ⟨_, _, _⟩ (by first | omega | (simp; omega) | simp)).trans (by assumption))
    try go_wp2_with fail
    refine hK.out _ _ ?_ (fun hHeld => ?_)
    · (try dsimp only); refine ⟨?_, ?_, ?_, ?_, ?_, ?_, ?_, ?_⟩ <;> first | assumption | (simp [go_sem]; done) | exact (World.cell?_alloc_lt _ _ ⟨_, _, _⟩ (by first | omega | (simp; omega) | simp)).trans (by assumption)
    clear hK K
    try simp only [Act.put, List.getElem_toArray, List.getElem_cons_zero, List.getElem_cons_succ, List.setIfInBounds_toArray, List.set_cons_zero, List.set_cons_succ]
    refine wpAnyH_ready (rs := [3]) (by kernel_rfl) (by simp) ?_
    refine AllReadyH.cons rfl (fun K hK => ?_) AllReadyH.nil
    try simp only [List.getElem_toArray, List.getElem_cons_zero, List.getElem_cons_succ]
    go_simp
    go_at_call 33
    refine (HO.out _ ((hA.later b2).later (by repeat (first | exact Below.refl _ _ | assumption | (refine below_drewN ?_ _) | (refine Below.drew ?_) | (refine Below.alloc ?_ (by first | omega | (simp; omega) | simp) _) | (refine Below.setCell ?_ (by first | omega | (simp; omega) | simp) _) | (refine below_trans ?_ (by assumption) (by first | omega | (simp; omega) | simp))))) ((hM.later b2).later (by repeat (first | exact Below.refl _ _ | assumption | (refine below_drewN ?_ _) | (refine Below.drew ?_) | (refine Below.alloc ?_ (by first | omega | (simp; omega) | simp) _) | (refine Below.setCell ?_ (by first | omega | (simp; omega) | simp) _) | (refine below_trans ?_ (by assumption) (by first | omega | (simp; omega) | simp)))))).mono ?_
    rintro e w3 ⟨A3, c3, M3, d3, rfl, o3, o3', hb_w3⟩
    have hs_w3 : w2.heap.size ≤ w3.heap.size := hb_w3.size
    have b23 : Below w2.heap.size w2 w3 := (by repeat (first | exact Below.refl _ _ | assumption | (refine below_drewN ?_ _) | (refine Below.drew ?_) | (refine Below.alloc ?_ (by first | omega | (simp; omega) | simp) _) | (refine Below.setCell ?_ (by first | omega | (simp; omega) | simp) _) | (refine below_trans ?_ (by assumption) (by first | omega | (simp; omega) | simp))))
    have b3 : Below w.heap.size w w3 := b2.trans (b23.mono (by omega))
    have Yw3 := Yw2.later b23
    have yw3 : ∀ i, w3.frozen? ⟨w1.heap.size, i, none⟩ = false := fun i => ((bcell b23).2 _ _ (by show w1.heap.size < _; omega)).trans (yw2 i)
    obtain ⟨z0, z1, z2, z3, z4, z5, z6, z7⟩ := id Yw3
    simp only [Nat.zero_add] at z0 z1 z2 z3 z4 z5 z6 z7
    have v0 := yw3 0
    have v1 := yw3 1
    have v2 := yw3 2
    have v3 := yw3 3
    have v4 := yw3 4
    have v5 := yw3 5
    have v6 := yw3 6
    have v7 := yw3 7
    have mw30 : w3.cell? ⟨w.heap.size, 0, none⟩ = some (.int .i64 f) := (hb_w3.cell (p := ⟨w.heap.size, 0, none⟩) (by first | omega | (simp; omega) | simp)).trans (by first | assumption | (simp [go_sem]; done) | exact (World.cell?_alloc_lt _ _ ⟨_, _, _⟩ (by first | omega | (simp; omega) | simp)).trans (by assumption))
    have mw31 : w3.cell? ⟨w.heap.size, 1, none⟩ = some (.int .i64 p) := (hb_w3.cell (p := ⟨w.heap.size, 1, none⟩) (by first | omega | (simp; omega) | simp)).trans (by first | assumption | (simp [go_sem]; done) | exact (World.cell?_alloc_lt _ _ ⟨_, _, _⟩ (by first | omega | (simp; omega) | simp)).trans (by assumption))
    have mw32 : w3.cell? ⟨w.heap.size, 2, none⟩ = some (.int .i64 z) := (hb_w3.cell (p := ⟨w.heap.size, 2, none⟩) (by first | omega | (simp; omega) | simp)).trans (by first | assumption | (simp [go_sem]; done) | exact (World.cell?_alloc_lt _ _ ⟨_, _, _⟩ (by first | omega | (simp; omega) | simp)).trans (by assumption))
    have mw33 : w3.cell? ⟨w.heap.size, 3, none⟩ = some (.int .i64 an) := (hb_w3.cell (p := ⟨w.heap.size, 3, none⟩) (by first | omega | (simp; omega) | simp)).trans (by first | assumption | (simp [go_sem]; done) | exact (World.cell?_alloc_lt _ _ ⟨_, _, _⟩ (by first | omega | (simp; omega) | simp)).trans (by assumption))
    have mw34 : w3.cell? ⟨w.heap.size, 4, none⟩ = some (.slice As aw.length ca) := (hb_w3.cell (p := ⟨w.heap.size, 4, none⟩) (by first | omega | (simp; omega) | simp)).trans (by first | assumption | (simp [go_sem]; done) | exact (World.cell?_alloc_lt _ _ ⟨_, _, _⟩ (by first | omega | (simp; omega) | simp)).trans (by assumption))
    have mw35 : w3.cell? ⟨w.heap.size, 5, none⟩ = some (.int .i64 mn) := (hb_w3.cell (p := ⟨w.heap.size, 5, none⟩) (by first | omega | (simp; omega) | simp)).trans (by first | assumption | (simp [go_sem]; done) | exact (World.cell?_alloc_lt _ _ ⟨_, _, _⟩ (by first | omega | (simp; omega) | simp)).trans (by assumption))
    have mw36 : w3.cell? ⟨w.heap.size, 6, none⟩ = some (.slice Ms mw.length cm) := (hb_w3.cell (p := ⟨w.heap.size, 6, none⟩) (by first | omega | (simp; omega) | simp)).trans (by first | assumption | (simp [go_sem]; done) | exact (World.cell?_alloc_lt _ _ ⟨_, _, _⟩ (by first | omega | (simp; omega) | simp)).trans (by assumption))
    have mw37 : w3.cell? ⟨w.heap.size, 7, none⟩ = some (.bool s) := (hb_w3.cell (p := ⟨w.heap.size, 7, none⟩) (by first | omega | (simp; omega) | simp)).trans (by first | assumption | (simp [go_sem]; done) | exact (World.cell?_alloc_lt _ _ ⟨_, _, _⟩ (by first | omega | (simp; omega) | simp)).trans (by assumption))
    try go_wp2_with fail
    refine hK.out _ _ ?_ (fun hHeld => ?_)
    · (try dsimp only); refine ⟨?_, ?_, ?_, ?_, ?_, ?_, ?_, ?_⟩ <;> first | assumption | (simp [go_sem]; done) | exact (World.cell?_alloc_lt _ _ ⟨_, _, _⟩ (by first | omega | (simp; omega) | simp)).trans (by assumption)
    clear hK K
    try simp only [Act.put, List.getElem_toArray, List.getElem_cons_zero, List.getElem_cons_succ, List.setIfInBounds_toArray, List.set_cons_zero, List.set_cons_succ]
    refine wpAnyH_take (i := 5) (v := ?_) rfl (by kernel_rfl) (by kernel_rfl) (by kernel_rfl) (fun _ _ _ h => h) (Or.inl ⟨by rfl, ?_⟩) (by assumption) ?_
    rotate_left
    · (intro w hSw; (try dsimp only at hSw); go_simp; first | done | with_reducible rfl)
    try simp only [Act.put, List.getElem_toArray, List.getElem_cons_zero, List.getElem_cons_succ, List.setIfInBounds_toArray, List.set_cons_zero, List.set_cons_succ]
    refine wpAnyH_ready (rs := [6]) (by kernel_rfl) (by simp) ?_
    refine AllReadyH.cons rfl (fun K hK => ?_) AllReadyH.nil
    try simp only [List.getElem_toArray, List.getElem_cons_zero, List.getElem_cons_succ]
    go_simp
    have hgne : w.heap.size ≠ w1.heap.size := by omega
    refine hK.out _ _ ?_ (fun hHeld => ?_)
    · (try dsimp only); exact ⟨(cell_set8 hgne _ _ _ _ _ _ _ _ _).trans mw30, (cell_set8 hgne _ _ _ _ _ _ _ _ _).trans mw31, (cell_set8 hgne _ _ _ _ _ _ _ _ _).trans mw32, (cell_set8 hgne _ _ _ _ _ _ _ _ _).trans mw33, (cell_set8 hgne _ _ _ _ _ _ _ _ _).trans mw34, (cell_set8 hgne _ _ _ _ _ _ _ _ _).trans mw35, (cell_set8 hgne _ _ _ _ _ _ _ _ _).trans mw36, (cell_set8 hgne _ _ _ _ _ _ _ _ _).trans mw37⟩
    clear hK K
    try simp only [Act.put, List.getElem_toArray, List.getElem_cons_zero, List.getElem_cons_succ, List.setIfInBounds_toArray, List.set_cons_zero, List.set_cons_succ]
    refine wpAnyH_done (by kernel_rfl) ?_ _
    go_wp2_with fail
    go_at_call 26
    refine (H1.out _ (hr.later (by (iterate 8 (refine Below.setCell ?_ (by first | omega | (simp; omega) | simp) _)); exact b3)) (hA.later (by (iterate 8 (refine Below.setCell ?_ (by first | omega | (simp; omega) | simp) _)); exact b3)) (hM.later (by (iterate 8 (refine Below.setCell ?_ (by first | omega | (simp; omega) | simp) _)); exact b3))).mono ?_
    rintro e w4 ⟨A4, c4, vs4, rfl, hv4, o4, hb4⟩
    have l34 : w3.heap.size ≤ w4.heap.size := Nat.le_trans (Nat.le_of_eq (by simp)) hb4.size
    have b4 : Below w.heap.size w w4 := Below.trans (by (iterate 8 (refine Below.setCell ?_ (by first | omega | (simp; omega) | simp) _)); exact b3) (hb4.mono (Nat.le_trans (show w.heap.size ≤ w3.heap.size by omega) (Nat.le_of_eq (by simp))))
    have hcell : ∀ b o, b < w3.heap.size → b ≠ w1.heap.size → w4.cell? ⟨b, o, none⟩ = w3.cell? ⟨b, o, none⟩ := fun b o hlt hne => ((bcell hb4).1 b o (Nat.lt_of_lt_of_le hlt (Nat.le_of_eq (by simp)))).trans (cell_set8 hne _ _ _ _ _ _ _ _ _)
    have R4 : Sp8 w4 w1.heap.size 0 ⟨f, p, z, an, aw, mn, mw, s⟩ A3 c3 M3 d3 := (Yw3.set (d' := ⟨f, p, z, an, aw, mn, mw, s⟩) (A' := A3) (ca' := c3) (M' := M3) (cm' := d3)).later hb4
    have Q3 := (Q1.later b12).later b23
    have Q4 : Sp8 w4 w.heap.size 0 ⟨f, p, z, an, aw, mn, mw, s⟩ As ca Ms cm := ⟨(hcell _ _ (by omega) hgne).trans Q3.c0, (hcell _ _ (by omega) hgne).trans Q3.c1, (hcell _ _ (by omega) hgne).trans Q3.c2, (hcell _ _ (by omega) hgne).trans Q3.c3, (hcell _ _ (by omega) hgne).trans Q3.c4, (hcell _ _ (by omega) hgne).trans Q3.c5, (hcell _ _ (by omega) hgne).trans Q3.c6, (hcell _ _ (by omega) hgne).trans Q3.c7⟩
    have G4 : SRow w4 w3.heap.size G l := by
      rw [← hvs]
      exact (oG.out (show w2.heap.size ≤ w3.heap.size by omega) (B' := w1.heap.size + 1) (by first | omega | (simp; omega) | simp) fun b o h1 h2 => (hcell b o (by omega) (by omega)).trans (b23.cell (p := ⟨b, o, none⟩) h2))
    have L4 := (hr.below b4).more (show w.heap.size ≤ w3.heap.size by omega)
    have P1 := (hA.below b4).more (show w.heap.size ≤ w3.heap.size by omega)
    have P2 := (hM.below b4).more (show w.heap.size ≤ w3.heap.size by omega)
    have P3 : Row w4 w3.heap.size A3 aw := (o3.mono (B' := w1.heap.size + 1) (by first | omega | (simp; omega) | simp)).out fun b o h1 h2 => hcell b o h2 (by omega)
    have P4 : Row w4 w3.heap.size M3 mw := (o3'.mono (B' := w1.heap.size + 1) (by first | omega | (simp; omega) | simp)).out fun b o h1 h2 => hcell b o h2 (by omega)
    have T4 : SpCells w4 w3.heap.size w4.heap.size A4 r.length := (SpCells.of_owns o4 (HV1.out _ hv4)).wide (by first | omega | (simp; done) | (simp; omega)) (Nat.le_refl _)
    clear o4 hv4 o3 o3' gr2
    go_wp2_with fail
    go_at_call 28
    refine (H3.out _ (hr.later b4)).mono ?_
    rintro e w5 ⟨A5, c5, vs5, rfl, hv5, o5, hb5⟩
    have hs5 := hb5.size
    have b5 : Below w.heap.size w w5 := b4.trans (hb5.mono (by omega))
    have T5 : SpCells w5 w3.heap.size w5.heap.size A5 r2.length := (SpCells.of_owns o5 (HV2.out _ hv5)).wide (by omega) (Nat.le_refl _)
    have T4' := (T4.later hb5).wide (Nat.le_refl _) hs5
    have R0 := Lib.hid fun (c0 c1 : Nat) (t : TypeId) => SRows2.new (c0 := c0) (c1 := c1) t T4' T5 lr1 lr2
    have b45 : Below w3.heap.size w4 w5 := hb5.mono (by omega)
    have l35 : w3.heap.size ≤ w5.heap.size := by omega
    clear T4 T4' T5 o5 hv5
    go_wp2_with fail
    go_loopw [39] (fun ii wr => ∃ k : Nat, ii = .int .i64 (k : Nat) ∧ k ≤ 2 ∧ SRows2 wr w3.heap.size w5.heap.size ∧ w5.heap.size + 1 ≤ wr.heap.size ∧ Below w3.heap.size w4 wr) (fun ii _ => 2 - (intOf ii).toNat)
    case atStart => exact ⟨0, rfl, by omega, R0.out _ _ _, (by first | omega | (simp; omega) | simp), b45.trans ((Below.refl _ _).alloc (by omega) _)⟩
    case round =>
      obtain ⟨k, rfl, hk, hR, hsz, hb_wr⟩ := hrel
      by_cases hlt : k < 2
      · obtain ⟨Am, n, cm', cG, hn, hT⟩ := hR k hlt
        have HR := Lib.hid hR
        have HTg := Lib.hid hT
        clear hR hT
        go_wp2_with fail
        generalize wr = wD at *
        go_loopw [45] (fun jj wr => ∃ j : Nat, jj = .int .i64 (j : Nat) ∧ j ≤ n ∧ SRows2 wr w3.heap.size w5.heap.size ∧ SpCells wr w3.heap.size w5.heap.size Am n ∧ w5.heap.size + 1 ≤ wr.heap.size ∧ Below w3.heap.size w4 wr) (fun jj _ => n - (intOf jj).toNat)
        case atStart => exact ⟨0, rfl, Nat.zero_le _, HR.out, HTg.out, hsz, hb_wr⟩
        case round =>
          clear HR HTg hsz hb_wr cG
          obtain ⟨j, rfl, hj, hR, hT, hsz, hb_wr⟩ := hrel
          by_cases hjl : j < n
          · obtain ⟨g, zz, Aw, m, cw, rfl, hgB, hgE, x2, f2, x4, hm, hW⟩ := hT j hjl
            have i1 : (j : Int) < (n : Int) := by omega
            have i2 : (0 : Int) ≤ (j : Int) := by omega
            have x4' := ((set_kinds x2 99).2 _ _ _ _ _ x4)
            have HR := Lib.hid (hR.set x2 99)
            have HTg := Lib.hid (hT.set x2 99)
            have HWd := Lib.hid (hW.set x2 99)
            have HB := Lib.hid (hb_wr.setCell (p := ⟨g, j * 8 + 2, none⟩) (show w3.heap.size ≤ g from hgB) (.int .i64 99))
            have x43 : (wr.setCell ⟨g, j * 8 + 2, none⟩ (.int .i64 99)).cell? ⟨g, j * 8 + 3 + 1, none⟩ = some (.slice Aw m cw) := x4'
            have x40 := x4
            clear hR hT hW
            go_wp2_with fail
            generalize hWS : wr.setCell ⟨g, j * 8 + 2, none⟩ (.int .i64 99) = wS at *
            have hzS : wS.heap.size = wr.heap.size := by rw [← hWS]; simp
            clear hWS x2 f2 x4 x40 hb_wr
            go_loopw [59] (fun kk wr => ∃ q : Nat, kk = .int .i64 (q : Nat) ∧ q ≤ m ∧ wr.cell? ⟨g, j * 8 + 4, none⟩ = some (.slice Aw m cw) ∧ SRows2 wr w3.heap.size w5.heap.size ∧ SpCells wr w3.heap.size w5.heap.size (some ⟨g, 0, none⟩) n ∧ WdCells wr w3.heap.size w5.heap.size Aw m ∧ w5.heap.size + 1 ≤ wr.heap.size ∧ Below w3.heap.size w4 wr) (fun kk _ => m - (intOf kk).toNat)
            case atStart => exact ⟨0, rfl, Nat.zero_le _, x4', HR.out, HTg.out, HWd.out, by omega, HB.out⟩
            case round =>
              clear HR HTg HWd HB x4' x43
              obtain ⟨q, rfl, hq, x4, hR, hT, hW, hsz2, hb_wr⟩ := hrel
              by_cases hqm : q < m
              · obtain ⟨gw, tt, rfl, hwB, hwE, cw1, fw1⟩ := hW q hqm
                have k1 : (q : Int) < (m : Int) := by omega
                have k2 : (0 : Int) ≤ (q : Int) := by omega
                have x43 : wr.cell? ⟨g, j * 8 + 3 + 1, none⟩ = some (.slice (some ⟨gw, 0, none⟩) m cw) := x4
                have HX := Lib.hid fun (u : Int) => (set_kinds cw1 u).2 _ _ _ _ _ x4
                have HR := Lib.hid fun (u : Int) => hR.set cw1 u
                have HTg := Lib.hid fun (u : Int) => hT.set cw1 u
                have HWd := Lib.hid fun (u : Int) => hW.set cw1 u
                have HB := Lib.hid fun (u : Int) => hb_wr.setCell (p := ⟨gw, q, none⟩) (show w3.heap.size ≤ gw from hwB) (.int .u64 u)
                clear hR hT hW hb_wr
                go_wp2
                go_roundw
                case rel => exact ⟨q + 1, by go_num, by omega, HX.out _, HR.out _, HTg.out _, HWd.out _, (by first | omega | (simp; omega) | simp), HB.out _⟩
                case measure => simp [intOf]; omega
              · have HR := Lib.hid hR
                have HTg := Lib.hid hT
                clear hW hR hT
                go_wp2
                go_roundw
                case rel => exact ⟨j + 1, by go_num, by omega, HR.out, HTg.out, hsz2, hb_wr⟩
                case measure => simp [intOf]; omega
          · have HR := Lib.hid hR
            clear hT hR
            go_wp2
            go_roundw
            case rel => exact ⟨k + 1, by go_num, by omega, HR.out, hsz, hb_wr⟩
            case measure => simp [intOf]; omega
      · obtain rfl : k = 2 := by omega
        clear hR
        have lw : w3.heap.size ≤ wr.heap.size := by omega
        have bw : Below w.heap.size w wr := b4.trans (hb_wr.mono (by omega))
        have Q9 := Q4.below hb_wr (by omega)
        have R9 := R4.below hb_wr (by omega)
        have P1 := (P1.below hb_wr).more lw
        have P2 := (P2.below hb_wr).more lw
        have P3 := (P3.below hb_wr).more lw
        have P4 := (P4.below hb_wr).more lw
        go_wp2_with fail
        go_at_call 30
        refine (HS.out _ _ _ ((L4.below hb_wr).more lw) ((G4.below hb_wr).more lw)).mono ?_
        rintro e w9 ⟨rfl, hb9⟩
        have hs9 := hb9.size
        have b9 : Below w.heap.size w w9 := bw.trans (hb9.mono (by omega))
        obtain ⟨q0, q1, q2, q3, q4, q5, q6, q7⟩ := Q9.later hb9
        obtain ⟨r0, r1, r2', r3, r4, r5, r6, r7⟩ := R9.later hb9
        simp only [Nat.zero_add] at q0 q1 q2 q3 q4 q5 q6 q7 r0 r1 r2' r3 r4 r5 r6 r7
        go_wp2_with fail
        go_at_call 18
        refine (HS1.out _ _ _ _ _ (P1.later hb9) (P2.later hb9) (P3.later hb9) (P4.later hb9)).mono ?_
        rintro e w10 ⟨rfl, hb10⟩
        go_wp2
        go_ret
        exact ⟨rfl, b9.trans (hb10.mono (by omega))⟩
end
end Go.Proofs.Ythphefoohkofbaa
