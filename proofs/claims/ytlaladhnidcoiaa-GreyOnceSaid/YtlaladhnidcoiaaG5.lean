/- Contracts: a copy of queues' heads; grey.twin. -/
import Derived.Test.YtlaladhnidcoiaaG4
import Derived.Deep.RegionLaw
import Derived.Deep.RegionHeld3
import Derived.Deep.Slices
namespace Go.Proofs.Ytlaladhnidcoiaa
open Go.RowKit
set_option linter.unusedVariables false
set_option linter.unusedSimpArgs false

/-- the slice at A holds the heads vs; each leads to its queue -/
structure VQ (w : World) (A : Option Addr) (vs : List Qv) : Prop where
  at_ : 0 < vs.length → ∃ b off, A = some ⟨b, off, none⟩ ∧ b < w.heap.size ∧ ∀ i (hi : i < vs.length), w.cell? ⟨b, off + i, none⟩ = some (qval vs[i])
  rows : ∀ i (hi : i < vs.length), Row w w.heap.size vs[i].A vs[i].q ∧ vs[i].q.length ≤ vs[i].c ∧ (vs[i].A = none → vs[i].c = 0)
theorem GRow.vq {w : World} {A : Option Addr} {qs : List (List Nat)} (h : GRow w A qs) : ∃ vs, qsOf vs = qs ∧ VQ w A vs := by
  by_cases h0 : 0 < qs.length
  · obtain ⟨b, off, e, hb, hc⟩ := h.at_ h0
    have each : ∀ i, i < qs.length → ∃ v : Qv, v.q = nq qs i ∧ w.cell? ⟨b, off + i, none⟩ = some (qval v) ∧ Row w w.heap.size v.A v.q ∧ v.q.length ≤ v.c ∧ (v.A = none → v.c = 0) := fun i hi => by
      obtain ⟨Ai, ci, h1, h2, h3⟩ := hc i hi
      exact ⟨⟨Ai, ci, nq qs i⟩, rfl, h1, h2, h3⟩
    haveI : Inhabited Qv := ⟨⟨none, 0, []⟩⟩
    obtain ⟨f, hf⟩ := Go.Deep.choose_lt each
    refine ⟨(List.range qs.length).map f, ?_, ⟨fun _ => ⟨b, off, e, hb, fun i hi => ?_⟩, fun i hi => ?_⟩⟩
    · apply List.ext_getElem
      · simp [qsOf]
      · intro i h1 h2
        have := (hf i h2).1
        rw [nq_get qs i h2] at this
        simpa [qsOf] using this
    · have hi' : i < qs.length := by simpa using hi
      have e2 : ((List.range qs.length).map f)[i] = f i := by simp
      rw [e2]
      exact (hf i hi').2.1
    · have hi' : i < qs.length := by simpa using hi
      have e2 : ((List.range qs.length).map f)[i] = f i := by simp
      rw [e2]
      exact (hf i hi').2.2
  · obtain rfl : qs = [] := List.eq_nil_of_length_eq_zero (by omega)
    exact ⟨[], rfl, fun h => by simp at h, fun i hi => by simp at hi⟩
theorem VQ.later {w w' : World} {A : Option Addr} {vs : List Qv} (h : VQ w A vs) (hb : Below w.heap.size w w') : VQ w' A vs :=
  ⟨fun hl => by
    obtain ⟨b, off, e, hbb, hc⟩ := h.at_ hl
    exact ⟨b, off, e, Nat.lt_of_lt_of_le hbb hb.size, fun i hi => ((bcell hb).1 _ _ hbb).trans (hc i hi)⟩, fun i hi => ⟨(h.rows i hi).1.later hb, (h.rows i hi).2⟩⟩
theorem own_emptyQ (w w' : World) (B : Nat) (hB : B ≤ w.heap.size) (h : w'.heap = (w.alloc (.cells #[] 25)).heap) : w'.ownsRow B 25 1 (.slice (some ⟨w.heap.size, 0, none⟩) 0 0) 0 [] :=
  ⟨rfl, .inr ⟨w.heap.size, 0, #[], rfl, hB, by rw [h]; exact heap_alloc_new _ _, Nat.le_refl _, Nat.zero_le _, rfl, rfl⟩⟩
section
variable {w : World} {A : Option Addr} {vs : List Qv} (cap : Nat)
theorem qclone_any (hr : VQ w A vs) (n : Nat) (hn : vs.length = n) (h0 : 0 < n) (hl : n ≤ 4) : Calls Try.prog 32 #[.slice A n cap] w fun e w' => ∃ g c, e = .returned (.slice (some ⟨g, 0, none⟩) n c) ∧ w'.ownsRow w.heap.size 25 1 (.slice (some ⟨g, 0, none⟩) n c) n (qflat vs) ∧ g < w'.heap.size ∧ Below w.heap.size w w' := by
  have q22 : ∀ (w : World) (a : Option Addr) (n c n' c' : Nat), (binOp .eql 22 (.slice a n c) (.slice none n' c')).run Try.prog w = .ok (.bool a.isNone) w := fun w a n c n' c' => Lib.run_eql_slice_nil w _ _ a n c n' c' Try.underlying22
  obtain ⟨i0, hi, hz0, hz1, hz2⟩ := info_parts info_q
  obtain ⟨b, off, rfl, hbb, hc⟩ := hr.at_ (by omega)
  have hsrc : ∀ j v, (qflat vs)[j]? = some v → (w.alloc (.cells #[] 25)).cell? ⟨b, off + j, none⟩ = some v := fun j v hv => by
    have hj : j < vs.length := by
      have := (List.getElem?_eq_some_iff.1 hv).1
      rwa [qflat_len] at this
    rw [qflat_at vs j hj] at hv
    injection hv with hv
    subst hv
    exact (World.cell?_alloc_lt _ _ ⟨_, _, _⟩ hbb).trans (hc j hj)
  have HL := Lib.hid hn
  have hql : (qflat vs).length = n := by rw [qflat_len]; exact hn
  clear hn
  go_enter Try.func32, Try.ntmps32
  go_wp2_with (at_builtin; refine wpList_append_lies _ ?_ (.tmp 5) (.tmp 6) 22 ?_ w.heap.size 25 i0 _ 1 24 Try.underlying22 hi hz0 hz1 hz2 rfl (by omega) (.slice (some ⟨w.heap.size, 0, none⟩) 0 0) 0 [] ?_ (own_emptyQ w _ _ (Nat.le_refl _) rfl) ⟨b, off, none⟩ n cap (qflat vs) ?_ (by rw [hql, Nat.mul_one]) ?_ (qflat_one vs) h0 (by unfold maxLen; omega) (by omega) (by simp) _ rfl ?_; rfl; rfl; rfl; rfl; (exact fun j u hj => by rw [add_form]; exact hsrc j u hj); intro g cap2 w2 hown2 hg2 hat2 hlt2; simp only [Nat.zero_add, List.nil_append] at hown2; have hb_w2 : Below w.heap.size _ w2 := (Below.refl _ _).grown hg2 (by first | omega | (simp; omega) | simp) (fun k hk => (by simp [Value.ownBlock] at hk; omega)))
  go_ret
  exact ⟨g, cap2, rfl, hown2, (hown2.lt g rfl).2, (by repeat (first | exact Below.refl _ _ | assumption | (refine below_drewN ?_ _) | (refine Below.drew ?_) | (refine Below.alloc ?_ (by first | omega | (simp; omega) | simp) _) | (refine Below.setCell ?_ (by first | omega | (simp; omega) | simp) _) | (refine below_trans ?_ (by assumption) (by first | omega | (simp; omega) | simp))))⟩
end
/-- what twin holds at step k -/
structure TwK (w : World) (B g n c : Nat) (vs0 vs : List Qv) (k : Nat) : Prop where
  len : vs.length = n
  same : qsOf vs = qsOf vs0
  rest : ∀ j (hj : j < vs.length), k ≤ j → vs0[j]? = some vs[j]
  hd : w.ownsRow B 25 1 (.slice (some ⟨g, 0, none⟩) n c) n (qflat vs)
  rows : ∀ j (hj : j < vs.length), j < k → OwnsN w (g + 1) vs[j].A vs[j].q.length vs[j].c vs[j].q
  apart : ∀ i j (hi : i < vs.length) (hj : j < vs.length), i < k → j < k → i ≠ j → ∀ g, vs[i].A = some ⟨g, 0, none⟩ → vs[j].A ≠ some ⟨g, 0, none⟩
theorem owns_far {w : World} {B s n : Nat} {e : TypeId} {v : Value} {xs : List Value} (h : w.ownsRow B e s v n xs) {p : Addr} (hp : p.block < B) (u : Value) : (w.setCell p u).ownsRow B e s v n xs := by
  obtain ⟨h0, h1 | ⟨g, c, cur, h1, h2, h3, h4⟩⟩ := h
  · exact ⟨h0, .inl h1⟩
  · exact ⟨h0, .inr ⟨g, c, cur, h1, h2, by rw [Below.heap_setCell _ _ _ _ (by omega)]; exact h3, h4⟩⟩
theorem OwnsN.far {w : World} {B n cap : Nat} {A : Option Addr} {t : List Nat} (h : OwnsN w B A n cap t) {p : Addr} (hp : p.block < B) (u : Value) : OwnsN (w.setCell p u) B A n cap t :=
  ⟨h.len, h.words, by
    obtain ⟨h0, h1 | ⟨g, c, cur, h1, h2, h3, h4⟩⟩ := h.row_
    · exact ⟨h0, .inl h1⟩
    · exact ⟨h0, .inr ⟨g, c, cur, h1, h2, by rw [Below.heap_setCell _ _ _ _ (by omega)]; exact h3, h4⟩⟩⟩
theorem TwK.next {w w5 : World} {B g n c k : Nat} {vs0 vs : List Qv} (h : TwK w B g n c vs0 vs k) (hg : g < w.heap.size) (hk : k < n) (hb : Below w.heap.size w w5) (v : Qv) (hq : v.q = (vs[k]'(by rw [h.len]; exact hk)).q) (ho : OwnsN w5 w.heap.size v.A v.q.length v.c v.q) :
    TwK (w5.setCell ⟨g, k, none⟩ (qval v)) B g n c vs0 (vs.set k v) (k + 1) := by
  have hl := h.len
  refine ⟨by rw [List.length_set]; exact hl, ?_, fun j hj hkj => ?_, ?_, fun j hj hjk => ?_, fun i j hi hj hik hjk hne g' e => ?_⟩
  · rw [← h.same]
    unfold qsOf
    rw [List.map_set, hq]
    apply List.ext_getElem (by simp)
    intro i h3 h4
    rw [List.getElem_set]
    split
    · rename_i e; subst e; simp
    · rfl
  · rw [List.getElem_set, if_neg (by omega)]
    exact h.rest j (by simpa using hj) (by omega)
  · have := ((owns_laterN h.hd hb).stored k (qval v)).1
    unfold qflat at this ⊢
    rwa [List.map_set]
  · rw [List.length_set] at hj
    by_cases e : k = j
    · subst e
      simp only [List.getElem_set_self]
      exact (ho.mono (by omega)).far (Nat.lt_succ_self g) _
    · simp only [List.getElem_set_ne e]
      exact ((h.rows j hj (by omega)).later hb).far (Nat.lt_succ_self g) _
  · rw [List.length_set] at hi hj
    have hnew : ∀ g, v.A = some ⟨g, 0, none⟩ → w.heap.size ≤ g := fun g e => by
      rcases ho.adr with h1 | ⟨g', h1, h2, _⟩
      · rw [h1] at e; cases e
      · rw [h1] at e
        injection e with e
        injection e with e
        omega
    have hold : ∀ j (hj : j < vs.length), j < k → ∀ g, vs[j].A = some ⟨g, 0, none⟩ → g < w.heap.size := fun j hj hjk g e => by
      rcases (h.rows j hj hjk).adr with h1 | ⟨g', h1, _, h2⟩
      · rw [h1] at e; cases e
      · rw [h1] at e
        injection e with e
        injection e with e
        omega
    by_cases e1 : k = i
    · subst e1
      simp only [List.getElem_set_self] at e
      rw [List.getElem_set_ne hne]
      intro e2
      have := hnew g' e
      have := hold j hj (by omega) g' e2
      omega
    · rw [List.getElem_set_ne e1] at e
      by_cases e2 : k = j
      · subst e2
        simp only [List.getElem_set_self]
        intro e3
        have := hnew g' e3
        have := hold i hi (by omega) g' e
        omega
      · rw [List.getElem_set_ne e2]
        exact h.apart i j hi hj (by omega) (by omega) hne g' e
theorem TwK.end_ {w : World} {B g n c : Nat} {vs0 vs : List Qv} (h : TwK w B g n c vs0 vs n) (hB : B ≤ g) : GTwin w B (some ⟨g, 0, none⟩) c vs := by
  have hl := h.len
  refine ⟨by rw [hl]; exact h.hd, fun i hi => (h.rows i hi (by omega)).mono (by omega), fun i hi g' e e2 => ?_, fun i j hi hj hne => h.apart i j hi hj (by omega) (by omega) hne⟩
  injection e with e
  injection e with e
  subst e
  rcases (h.rows i hi (by omega)).adr with h1 | ⟨g2, h1, h3, _⟩
  · rw [h1] at e2; cases e2
  · rw [h1] at e2
    injection e2 with e2
    injection e2 with e2
    omega
theorem GTwin.far {w : World} {B cap : Nat} {A : Option Addr} {vs : List Qv} (h : GTwin w B A cap vs) {p : Addr} (hp : p.block < B) (u : Value) : GTwin (w.setCell p u) B A cap vs :=
  ⟨owns_far h.hd hp u, fun i hi => (h.rows i hi).far hp u, h.off, h.apart⟩
def TwinG (w : World) (qs : List (List Nat)) (e : Ending) (w' : World) : Prop := ∃ B c vs, e = .returned (gv B qs.length c) ∧ qsOf vs = qs ∧ GTwin w' w.heap.size B c vs ∧ Below w.heap.size w w'
section
variable {w : World} {A : Option Addr} {qs : List (List Nat)} (cap : Nat)
set_option maxHeartbeats 4000000 in
theorem gtwin_any (hr : GRow w A qs) (h0 : 1 ≤ qs.length) (hl : qs.length ≤ 4) : Calls Try.prog 24 #[gv A qs.length cap] w fun e w' => TwinG w qs e w' := by
  unfold TwinG gv
  obtain ⟨vs0, hvs, hV⟩ := hr.vq
  obtain ⟨n, hn⟩ : ∃ n, Hid (qs.length = n) := ⟨_, rfl⟩
  have hvl : vs0.length = n := by rw [← qsOf_len, hvs]; exact hn.out
  have HVL := Lib.hid hvl
  have HVS := Lib.hid hvs
  have HC := Lib.hid fun (w : World) hV => qclone_any (w := w) (A := A) (vs := vs0) cap hV n hvl (by have := hn.out; omega) (by have := hn.out; omega)
  have hn4 : n ≤ 4 := by have := hn.out; omega
  have hlim := hr.lim
  rw [hn.out]
  clear hvs hvl h0 hl
  go_enter Try.func24, Try.ntmps24
  go_wp2_with fail
  go_at_call 32
  refine (HC.out _ (hV.later (by repeat (first | exact Below.refl _ _ | assumption | (refine below_drewN ?_ _) | (refine Below.drew ?_) | (refine Below.alloc ?_ (by first | omega | (simp; omega) | simp) _) | (refine Below.setCell ?_ (by first | omega | (simp; omega) | simp) _) | (refine below_trans ?_ (by assumption) (by first | omega | (simp; omega) | simp)))))).mono ?_
  rintro e w1 ⟨g, c, rfl, o1, hgl, hb_w1⟩
  obtain ⟨hc_w1, hf_w1⟩ := bcell hb_w1; have hz_w1_w_0 : w.heap.size < w1.heap.size := (by have hzz := hb_w1.size; (try simp only [World.size_alloc, World.size_setCell, World.size_drew, World.heap_drewN] at hzz); omega); have hz_w1_w_1 : w.heap.size + 1 < w1.heap.size := (by have hzz := hb_w1.size; (try simp only [World.size_alloc, World.size_setCell, World.size_drew, World.heap_drewN] at hzz); omega); have hs_w1 := hb_w1.size; (try simp only [World.size_alloc, World.size_setCell, World.size_drew, World.heap_drewN] at hs_w1)
  have b1 : Below w.heap.size w w1 := (by repeat (first | exact Below.refl _ _ | assumption | (refine below_drewN ?_ _) | (refine Below.drew ?_) | (refine Below.alloc ?_ (by first | omega | (simp; omega) | simp) _) | (refine Below.setCell ?_ (by first | omega | (simp; omega) | simp) _) | (refine below_trans ?_ (by assumption) (by first | omega | (simp; omega) | simp))))
  have hgB := ibase_of_owns o1
  simp only [World.size_alloc] at hgB
  have P := ((Bx.new w _ _).alloc _ |>.later hb_w1 : Bx w1 _ _)
  have Q := ((Bx.new (w.alloc _) _ _).later hb_w1 : Bx w1 _ _)
  simp only [World.size_alloc] at Q
  obtain ⟨p0, p1⟩ := P
  obtain ⟨q0, q1⟩ := Q
  have HgB := Lib.hid hgB
  clear hc_w1 hf_w1
  have HS0 : TwK (w1.setCell ⟨w.heap.size, 0, none⟩ (.slice (some ⟨g, 0, none⟩) n c)) (w.heap.size + 2) g n c vs0 vs0 0 := ⟨HVL.out, rfl, fun j hj _ => List.getElem?_eq_getElem hj, owns_monoN (owns_far o1 (p := ⟨w.heap.size, 0, none⟩) (by simp; omega) _) (by simp only [World.size_alloc]; omega), fun j hj hj0 => by omega, fun i j hi hj hi0 => by omega⟩
  have P2 : Bx (w1.setCell ⟨w.heap.size, 0, none⟩ (.slice (some ⟨g, 0, none⟩) n c)) w.heap.size (.slice (some ⟨g, 0, none⟩) n c) := Bx.set ⟨p0, p1⟩ _
  have Q2 : Bx (w1.setCell ⟨w.heap.size, 0, none⟩ (.slice (some ⟨g, 0, none⟩) n c)) (w.heap.size + 1) (.slice none 0 0) := Bx.far ⟨q0, q1⟩ (by simp) _
  have b2 : Below w.heap.size w (w1.setCell ⟨w.heap.size, 0, none⟩ (.slice (some ⟨g, 0, none⟩) n c)) := (by repeat (first | exact Below.refl _ _ | assumption | (refine below_drewN ?_ _) | (refine Below.drew ?_) | (refine Below.alloc ?_ (by first | omega | (simp; omega) | simp) _) | (refine Below.setCell ?_ (by first | omega | (simp; omega) | simp) _) | (refine below_trans ?_ (by assumption) (by first | omega | (simp; omega) | simp))))
  have hg2 : g < (w1.setCell ⟨w.heap.size, 0, none⟩ (.slice (some ⟨g, 0, none⟩) n c)).heap.size := by simpa using hgl
  go_wp2_with fail
  generalize (w1.setCell ⟨w.heap.size, 0, none⟩ (.slice (some ⟨g, 0, none⟩) n c)) = w2 at *
  clear o1 b1 p0 p1 q0 q1 hgl hs_w1 hb_w1
  go_loopw [12] (fun ii wr => ∃ k : Nat, ii = .int .i64 (k : Nat) ∧ k ≤ n ∧ ∃ vs, TwK wr (w.heap.size + 2) g n c vs0 vs k ∧ Bx wr w.heap.size (.slice (some ⟨g, 0, none⟩) n c) ∧ Bx wr (w.heap.size + 1) (.slice none 0 0) ∧ g < wr.heap.size ∧ Below w.heap.size w wr) (fun ii _ => n - (intOf ii).toNat)
  case atStart => exact ⟨0, rfl, Nat.zero_le _, vs0, HS0, P2, Q2, hg2, b2⟩
  case round =>
    clear HS0 P2 Q2 b2 hg2
    obtain ⟨k, rfl, hk, vs, HK0, P, Q, hgl, hb_wr⟩ := hrel
    have hsr := hb_wr.size
    obtain ⟨p0, p1⟩ := id P
    obtain ⟨q0, q1⟩ := id Q
    have HK := Lib.hid HK0
    by_cases hlt : k < n
    · have hkl : k < vs.length := by rw [HK.out.len]; exact hlt
      have hrest := HK.out.rest k hkl (Nat.le_refl _)
      have hk0 : k < vs0.length := by rw [HVL.out]; exact hlt
      have he : vs0[k] = vs[k] := by rw [List.getElem?_eq_getElem hk0] at hrest; injection hrest
      obtain ⟨r1, r2, r3⟩ := hV.rows k hk0
      have hq := hlim.each k
      rw [← HVS.out, qsOf_at _ _ hk0] at hq
      rw [he] at r1 r2 r3 hq
      have c0 := HK.out.hd.cellAt k (by omega)
      rw [qflat_at vs k hkl] at c0
      have f0 := HK.out.hd.frozenAt k
      obtain ⟨v, HV⟩ : ∃ v, Hid (vs[k] = v) := ⟨vs[k], Lib.hid rfl⟩
      rw [HV.out] at r1 r2 r3 hq c0
      replace c0 : wr.cell? ⟨g, k, none⟩ = some (.slice v.A v.q.length v.c) := c0
      have HCL := Lib.hid fun (w : World) hr => wclone_any (w := w) (A := v.A) (t := v.q) v.c hr hq r3
      unfold CopiedN at HCL
      clear HK0 hrest he r3
      obtain ⟨vA, vc, vq⟩ := v
      simp only at *
      have i1 : (k : Int) < (n : Int) := by omega
      have i2 : (0 : Int) ≤ (k : Int) := by omega
      have ng : g ≠ w.heap.size := by have := HgB.out; omega
      go_wp2_with fail
      go_region_held3 (fun X : World => X.cell? ⟨w.heap.size, 0, none⟩ = some (.slice (some ⟨g, 0, none⟩) n c))
        ((first | assumption | exact (World.cell?_setCell_other _ _ _ _ (by intro e; injection e with e1; exact ng e1.symm)).trans (by assumption) | exact (World.cell?_setCell_other _ _ _ _ (by intro e; injection e with e1; exact ng e1)).trans (by assumption)))
        ((first
          | (go_at_call 33; refine (HCL.out _ (r1.later (by repeat (first | exact Below.refl _ _ | assumption | (refine below_drewN ?_ _) | (refine Below.drew ?_) | (refine Below.alloc ?_ (by first | omega | (simp; omega) | simp) _) | (refine Below.setCell ?_ (by first | omega | (simp; omega) | simp) _) | (refine below_trans ?_ (by assumption) (by first | omega | (simp; omega) | simp)))))).mono ?_; rintro e w5 ⟨A5, c5, rfl, o5, hb_w5⟩; have hk5 : Below wr.heap.size wr w5 := (by repeat (first | exact Below.refl _ _ | assumption | (refine below_drewN ?_ _) | (refine Below.drew ?_) | (refine Below.alloc ?_ (by first | omega | (simp; omega) | simp) _) | (refine Below.setCell ?_ (by first | omega | (simp; omega) | simp) _) | (refine below_trans ?_ (by assumption) (by first | omega | (simp; omega) | simp)))); have hs5 : wr.heap.size ≤ w5.heap.size := hk5.size; have o5 : OwnsN w5 wr.heap.size A5 vq.length c5 vq := o5; have p5 : w5.cell? ⟨w.heap.size, 0, none⟩ = some (.slice (some ⟨g, 0, none⟩) n c) := (P.later hk5).c; have c5' : w5.cell? ⟨g, k, none⟩ = some (.slice vA vq.length vc) := (hk5.cell (p := ⟨g, k, none⟩) hgl).trans c0; have f5 : w5.frozen? ⟨g, k, none⟩ = false := ((bcell hk5).2 _ _ hgl).trans f0)))
      all_goals
        have HN := TwK.next HK.out hgl hlt hk5 ⟨A5, c5, vq⟩ (by rw [HV.out]) o5
        have HN : TwK (w5.setCell ⟨g, k, none⟩ (.slice A5 vq.length c5)) (w.heap.size + 2) g n c vs0 (vs.set k ⟨A5, c5, vq⟩) (k + 1) := HN
        have P6 : Bx (w5.setCell ⟨g, k, none⟩ (.slice A5 vq.length c5)) w.heap.size (.slice (some ⟨g, 0, none⟩) n c) := (P.later hk5).far (by show g ≠ _; have := HgB.out; omega) _
        have Q6 : Bx (w5.setCell ⟨g, k, none⟩ (.slice A5 vq.length c5)) (w.heap.size + 1) (.slice none 0 0) := (Q.later hk5).far (by show g ≠ _; have := HgB.out; omega) _
        have b6 : Below w.heap.size w (w5.setCell ⟨g, k, none⟩ (.slice A5 vq.length c5)) := (hb_wr.trans (hk5.mono hsr)).setCell (p := ⟨g, k, none⟩) (by show _ ≤ g; have := HgB.out; omega) _
        go_wp2
        go_roundw
        case rel => exact ⟨k + 1, by go_num, by omega, _, HN, P6, Q6, by rw [World.size_setCell]; omega, b6⟩
        case measure => simp [intOf]; omega
    · obtain rfl : k = n := by omega
      have HE := HK.out.end_ (by have := HgB.out; omega)
      have HSM : qsOf vs = qs := HK.out.same.trans HVS.out
      have HSMH := Lib.hid HSM
      have HLH := Lib.hid HK.out.len
      have HE2 := (HE.far (p := ⟨w.heap.size + 1, 0, none⟩) (Nat.lt_succ_self _) (.slice (some ⟨g, 0, none⟩) k c)).mono (B' := w.heap.size) (by omega)
      have b6 : Below w.heap.size w (wr.setCell ⟨w.heap.size + 1, 0, none⟩ (.slice (some ⟨g, 0, none⟩) k c)) := (by repeat (first | exact Below.refl _ _ | assumption | (refine below_drewN ?_ _) | (refine Below.drew ?_) | (refine Below.alloc ?_ (by first | omega | (simp; omega) | simp) _) | (refine Below.setCell ?_ (by first | omega | (simp; omega) | simp) _) | (refine below_trans ?_ (by assumption) (by first | omega | (simp; omega) | simp))))
      clear HSM HE HK0
      go_wp2
      exact bodyPost_ret (res_g1 rfl rfl (g := w.heap.size + 1) (v0 := .slice (some ⟨g, 0, none⟩) k c) (by first | exact World.cell?_setCell_same _ _ _ q0 | exact World.cell?_setCell_same _ _ _ (by first | exact q0 | (exact (World.cell?_alloc_lt _ _ ⟨_, _, _⟩ (by first | omega | (simp; omega) | simp)).trans q0) | (exact (World.cell?_alloc_lt _ _ ⟨_, _, _⟩ (by first | omega | (simp; omega) | simp)).trans ((World.cell?_alloc_lt _ _ ⟨_, _, _⟩ (by first | omega | (simp; omega) | simp)).trans q0)) | (simp [go_sem, q0]; done)) | exact (World.cell?_alloc_lt _ _ ⟨_, _, _⟩ (by first | omega | (simp; omega) | simp)).trans (World.cell?_setCell_same _ _ _ q0) | (simp [go_sem, q0]; done))) rfl ⟨some ⟨g, 0, none⟩, c, vs, rfl, HSMH.out, HE2, b6⟩
end
end Go.Proofs.Ytlaladhnidcoiaa
