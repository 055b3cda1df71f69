/- Contract of the document's Copy. -/
import Derived.Test.YtlaladhnidcoiaaG11
namespace Go.Proofs.Ytlaladhnidcoiaa
open Go.RowKit
set_option linter.unusedVariables false
set_option linter.unusedSimpArgs false

theorem blk_of_owns {w : World} {B s n c : Nat} {e : TypeId} {A : Option Addr} {xs : List Value} (h : w.ownsRow B e s (.slice A n c) n xs) : A = none ∨ ∃ g, A = some ⟨g, 0, none⟩ ∧ B ≤ g ∧ g < w.heap.size := by
  obtain ⟨_, ⟨h1, h2⟩ | ⟨g', cap', cur, e, hB, hg, _⟩⟩ := id h
  · injection h1 with h1; exact .inl h1
  · injection e with e1
    exact .inr ⟨g', e1, hB, heap_lt hg⟩
/-- copies, and one more -/
theorem gtwin_snoc {w w5 w7 : World} {B0 c c' c5 g : Nat} {B A5 : Option Addr} {vs : List Qv} {q : List Nat} (h : GTwin w B0 B c vs) (hk5 : Below w.heap.size w w5) (hB0 : B0 ≤ w.heap.size) (ho5 : OwnsN w5 w.heap.size A5 q.length c5 q)
    (hd7 : w7.ownsRow B0 25 1 (.slice (some ⟨g, 0, none⟩) (vs.length + 1) c') (vs.length + 1) (qflat vs ++ [.slice A5 q.length c5])) (hg7 : w5.grownBy w7 (B.map fun a => a.block)) (hat : B = some ⟨g, 0, none⟩ ∨ w5.heap.size ≤ g) : GTwin w7 B0 (some ⟨g, 0, none⟩) c' (vs ++ [⟨A5, c5, q⟩]) := by
  have hs5 := hk5.size
  have hBb : ∀ b, (B.map fun a => a.block) = some b → B = some ⟨b, 0, none⟩ ∧ b < w.heap.size := fun b e => by
    rcases blk_of_owns h.hd with h1 | ⟨g', h1, _, h2⟩
    · rw [h1] at e; cases e
    · rw [h1] at e ⊢
      injection e with e
      have e : g' = b := e
      subst e
      exact ⟨rfl, h2⟩
  have hold : ∀ i (hi : i < vs.length) g2, (vs[i]).A = some ⟨g2, 0, none⟩ → g2 < w.heap.size := fun i hi g2 e => by
    rcases (h.rows i hi).adr with h1 | ⟨g', h1, _, h2⟩
    · rw [h1] at e; cases e
    · rw [h1] at e
      injection e with e
      injection e with e
      omega
  have hnew : ∀ g2, A5 = some ⟨g2, 0, none⟩ → w.heap.size ≤ g2 ∧ g2 < w5.heap.size := fun g2 e => by
    rcases ho5.adr with h1 | ⟨g', h1, h2, h3⟩
    · rw [h1] at e; cases e
    · rw [h1] at e
      injection e with e
      injection e with e
      omega
  have hlen : (vs ++ [(⟨A5, c5, q⟩ : Qv)]).length = vs.length + 1 := by simp
  have hat2 : ∀ i (hi : i < (vs ++ [(⟨A5, c5, q⟩ : Qv)]).length), (∃ hi2 : i < vs.length, (vs ++ [(⟨A5, c5, q⟩ : Qv)])[i] = vs[i]) ∨ (i = vs.length ∧ (vs ++ [(⟨A5, c5, q⟩ : Qv)])[i] = ⟨A5, c5, q⟩) := fun i hi => by
    by_cases e : i < vs.length
    · exact .inl ⟨e, List.getElem_append_left e⟩
    · have : i = vs.length := by omega
      subst this
      exact .inr ⟨rfl, by simp⟩
  refine ⟨?_, fun i hi => ?_, fun i hi g2 e => ?_, fun i j hi hj hne g2 e => ?_⟩
  · rw [hlen]
    have : qflat (vs ++ [⟨A5, c5, q⟩]) = qflat vs ++ [.slice A5 q.length c5] := by simp [qflat, qval]
    rw [this]
    exact hd7
  · rcases hat2 i hi with ⟨hi2, e⟩ | ⟨_, e⟩
    · rw [e]
      exact ((h.rows i hi2).later hk5).kept hg7 (fun g2 e2 e3 => h.off i hi2 g2 (hBb g2 e3).1 e2)
    · rw [e]
      exact (ho5.mono hB0).kept hg7 (fun g2 e2 e3 => by have := (hnew g2 e2).1; have := (hBb g2 e3).2; omega)
  · injection e with e
    injection e with e
    subst e
    rcases hat2 i hi with ⟨hi2, e⟩ | ⟨_, e⟩
    · rw [e]
      rcases hat with h1 | h1
      · exact h.off i hi2 g h1
      · intro e2
        have := hold i hi2 g e2
        omega
    · rw [e]
      intro e2
      have := hnew g e2
      rcases hat with h1 | h1
      · have := (hBb g (by rw [h1]; rfl)).2
        omega
      · omega
  · rcases hat2 i hi with ⟨hi2, e1⟩ | ⟨hi2, e1⟩
    · rw [e1] at e
      rcases hat2 j hj with ⟨hj2, e2⟩ | ⟨_, e2⟩
      · rw [e2]
        exact h.apart i j hi2 hj2 hne g2 e
      · rw [e2]
        intro e3
        have := hold i hi2 g2 e
        have := (hnew g2 e3).1
        omega
    · rw [e1] at e
      rcases hat2 j hj with ⟨hj2, e2⟩ | ⟨hj2, e2⟩
      · rw [e2]
        intro e3
        have := hold j hj2 g2 e3
        have := (hnew g2 e).1
        omega
      · omega
section
variable {w : World} {A : Option Addr} {qs : List (List Nat)} (cap : Nat)
set_option maxHeartbeats 4000000 in
theorem xgcopy_any (hr : GRow w A qs) : Calls Try.prog 9 #[gv A qs.length cap] w fun e w' => TwinG w qs e w' := by
  unfold TwinG gv
  obtain ⟨i0, hi, hz0, hz1, hz2⟩ := info_parts info_q
  have hlim := hr.lim
  obtain ⟨n, hn⟩ : ∃ n, Hid (qs.length = n) := ⟨_, rfl⟩
  have hnl : n ≤ 5864062014805 := by rw [← hn.out]; exact hlim.many
  rw [hn.out]
  go_enter Try.func9, Try.ntmps9
  go_wp2_with fail
  go_loopw [9] (fun ii wr => ∃ k : Nat, ii = .int .i64 (k : Nat) ∧ k ≤ n ∧ ∃ (B : Option Addr) (c : Nat) (vs : List Qv), Hid (qsOf vs = qs.take k) ∧ Hid (vs.length = k) ∧ GTwin wr (w.heap.size + 3) B c vs ∧ Bx wr (w.heap.size + 1) (.slice none 0 0) ∧ Bx wr (w.heap.size + 1 + 1) (.slice B k c) ∧ w.heap.size + 3 ≤ wr.heap.size ∧ Below w.heap.size w wr) (fun ii _ => n - (intOf ii).toNat)
  case atStart =>
    have B1 := (Bx.new (w.alloc (.cells #[.slice A n cap] 24)) (.slice none 0 0) 24)
    have B2 := (Bx.new ((w.alloc (.cells #[.slice A n cap] 24)).alloc (.cells #[.slice none 0 0] 24)) (.slice none 0 0) 24)
    rw [World.size_alloc] at B1
    rw [World.size_alloc, World.size_alloc] at B2
    exact ⟨0, rfl, Nat.zero_le _, none, 0, [], Lib.hid rfl, Lib.hid rfl, GTwin.nil _ _, B1.alloc _, B2, by simp, (by repeat (first | exact Below.refl _ _ | assumption | (refine below_drewN ?_ _) | (refine Below.drew ?_) | (refine Below.alloc ?_ (by first | omega | (simp; omega) | simp) _) | (refine Below.setCell ?_ (by first | omega | (simp; omega) | simp) _) | (refine below_trans ?_ (by assumption) (by first | omega | (simp; omega) | simp))))⟩
  case round =>
    obtain ⟨k, rfl, hk, B, c, vs, HQS, HVL, HG, BR, BO, hsz, hb_wr⟩ := hrel
    obtain ⟨r0, r1⟩ := id BR
    obtain ⟨o0, o1⟩ := id BO
    by_cases hlt : k < n
    · have hkq : k < qs.length := by have := hn.out; omega
      obtain ⟨b, off, hA, hbb, hc⟩ := (hr.later hb_wr).at_ (by omega)
      obtain ⟨Aq, cq, c1, rq, lq, nq0⟩ := hc k hkq
      have hql := hlim.each k
      have HQS2 : ∀ A5 c5, Hid (qsOf (vs ++ [⟨A5, c5, nq qs k⟩]) = qs.take (k + 1)) := fun A5 c5 => Lib.hid (by
        rw [List.take_succ_eq_append_getElem hkq, ← HQS.out, ← nq_get qs k hkq]
        simp [qsOf])
      have i1 : (k : Int) < (n : Int) := by omega
      have i2 : (0 : Int) ≤ (k : Int) := by omega
      subst hA
      clear hc
      generalize nq qs k = q at *
      have hd0 := HG.hd
      rw [HVL.out] at hd0
      have HD0 := Lib.hid hd0
      have HG0 := Lib.hid HG
      have hob : (Value.slice B k c).ownBlock = B.map fun a => a.block := by cases B <;> rfl
      have hnb : ∀ b, (B.map fun a => a.block) = some b → w.heap.size + 3 ≤ b := fun b e => by
        rcases blk_of_owns hd0 with h1 | ⟨g', h1, h2, _⟩
        · rw [h1] at e; cases e
        · rw [h1] at e
          injection e with e
          have e : g' = b := e
          omega
      clear HG hd0 nq0 lq
      have hsr : w.heap.size ≤ wr.heap.size := by omega
      have hz2x : w.heap.size + 1 + 1 < wr.heap.size := by omega
      go_wp2_with fail
      go_region_law ((first
        | (refine step_appendQ rfl (.tmp 15) (.tmp 16) rfl wr.heap.size (some ⟨wr.heap.size, 0, none⟩) 0 0 [] (by simp [Act.eval, Act.put]) (own_emptyN wr _ wr.heap.size (Nat.le_refl _) rfl) Aq q.length cq (vals q) (by simp [Act.eval, Act.put]) (length_vals _) (row_news rq _ (fun b o hb => (World.cell?_alloc_lt _ _ ⟨_, _, _⟩ hb))) (vals_one q) (by omega) (by simp) ?_; intro A5 c5 w5 ho5 hg5 hbd5 hA5; have hk5 : Below wr.heap.size wr w5 := (by repeat (first | exact Below.refl _ _ | assumption | (refine below_drewN ?_ _) | (refine Below.drew ?_) | (refine Below.alloc ?_ (by first | omega | (simp; omega) | simp) _) | (refine Below.setCell ?_ (by first | omega | (simp; omega) | simp) _) | (refine below_trans ?_ (by assumption) (by first | omega | (simp; omega) | simp)))); simp only [Nat.zero_add, List.nil_append] at ho5; have hs5 := hbd5.size; (try simp only [World.size_alloc, World.size_drew] at hs5); have o5 := (BO.later hk5).c; have f5 := (BO.later hk5).f; have hz5x : w.heap.size + 1 + 1 < w5.heap.size := (BO.later hk5).lt)
        | (refine step_append_lies _ rfl (.tmp 14) (.tmp 18) 22 rfl (w.heap.size + 3) 25 i0 _ 1 24 Try.underlying22 hi hz0 hz1 hz2 rfl (by omega) (.slice B k c) k (qflat vs) (by simp [Act.eval, Act.put]) ((owns_laterN HD0.out hk5).alloc _) ⟨w5.heap.size, 0, none⟩ 1 1 [.slice A5 q.length c5] (by simp [Act.eval, Act.put]) rfl (cell_one_new _ _ _) (by simp [Value.oneCell']) (by omega) (by unfold maxLen; omega) (by omega) (by simp; omega) _ rfl ?_; intro g7 c7 w7 ho7 hgx7 hat7 hlt7; rw [hob] at hgx7 hat7; have hg7 := (World.grownBy_alloc w5 _ (B.map fun a => a.block)).trans hgx7; have o7 : w7.cell? ⟨w.heap.size + 1 + 1, 0, none⟩ = some (.slice B k c) := ((grown_cell hg7 0 (by omega) (fun e => by have := hnb _ e; omega)).1).trans o5; have f7 : w7.frozen? ⟨w.heap.size + 1 + 1, 0, none⟩ = false := ((grown_cell hg7 0 (by omega) (fun e => by have := hnb _ e; omega)).2).trans f5; clear hgx7)))
      all_goals
        have hs57 := hg7.size
        have HGN := (gtwin_snoc (c' := c7) (g := g7) (q := q) HG0.out hk5 (by omega) ⟨rfl, rq.words, ho5⟩ (by rw [HVL.out]; exact ho7) hg7 (by
          rcases hat7 with h1 | h1
          · left
            rcases blk_of_owns HG0.out.hd with h2 | ⟨g', h2, _⟩
            · rw [h2] at h1; cases h1
            · rw [h2] at h1 ⊢
              injection h1 with h1
              have h1 : g' = g7 := h1
              rw [h1]
          · right; simp only [World.size_alloc, World.size_drew] at h1; omega)).far (p := ⟨w.heap.size + 1 + 1, 0, none⟩) (Nat.lt_succ_self _) (.slice (some ⟨g7, 0, none⟩) (k + 1) c7)
        have BO7 : Bx (w7.setCell ⟨w.heap.size + 1 + 1, 0, none⟩ (.slice (some ⟨g7, 0, none⟩) (k + 1) c7)) (w.heap.size + 1 + 1) (.slice (some ⟨g7, 0, none⟩) (k + 1) c7) := Bx.set ⟨o7, f7⟩ _
        have BR7 : Bx (w7.setCell ⟨w.heap.size + 1 + 1, 0, none⟩ (.slice (some ⟨g7, 0, none⟩) (k + 1) c7)) (w.heap.size + 1) (.slice none 0 0) := Bx.far ⟨((grown_cell hg7 0 (by omega) (fun e => by have := hnb _ e; omega)).1).trans (BR.later hk5).c, ((grown_cell hg7 0 (by omega) (fun e => by have := hnb _ e; omega)).2).trans (BR.later hk5).f⟩ (by simp) _
        have b7 : Below w.heap.size w (w7.setCell ⟨w.heap.size + 1 + 1, 0, none⟩ (.slice (some ⟨g7, 0, none⟩) (k + 1) c7)) := ((hb_wr.trans (hk5.mono hsr)).grown hg7 (by omega) (fun b e => by have := hnb _ e; omega)).setCell (p := ⟨w.heap.size + 1 + 1, 0, none⟩) (by show _ ≤ w.heap.size + 1 + 1; omega) _
        have hz7 : w.heap.size + 3 ≤ (w7.setCell ⟨w.heap.size + 1 + 1, 0, none⟩ (.slice (some ⟨g7, 0, none⟩) (k + 1) c7)).heap.size := by rw [World.size_setCell]; omega
        generalize (w7.setCell ⟨w.heap.size + 1 + 1, 0, none⟩ (.slice (some ⟨g7, 0, none⟩) (k + 1) c7)) = w8 at *
        go_wp2
        go_roundw
        case rel => exact ⟨k + 1, by go_num, by omega, some ⟨g7, 0, none⟩, c7, _, HQS2 A5 c5, Lib.hid (by simp [HVL.out]), HGN, BR7, BO7, hz7, b7⟩
        case measure => simp [intOf]; omega
    · obtain rfl : k = n := by omega
      have HQ : Hid (qsOf vs = qs) := Lib.hid (by rw [HQS.out, ← hn.out, List.take_length])
      have HGF := Lib.hid ((HG.far (p := ⟨w.heap.size + 1, 0, none⟩) (by show w.heap.size + 1 < w.heap.size + 3; omega) (.slice B k c)).mono (B' := w.heap.size) (by omega))
      have b8 : Below w.heap.size w (wr.setCell ⟨w.heap.size + 1, 0, none⟩ (.slice B k c)) := (by repeat (first | exact Below.refl _ _ | assumption | (refine below_drewN ?_ _) | (refine Below.drew ?_) | (refine Below.alloc ?_ (by first | omega | (simp; omega) | simp) _) | (refine Below.setCell ?_ (by first | omega | (simp; omega) | simp) _) | (refine below_trans ?_ (by assumption) (by first | omega | (simp; omega) | simp))))
      have n1 : ¬ (w.heap.size + 1 + 1 = w.heap.size + 1) := by omega
      clear HG
      go_wp2
      exact bodyPost_ret (res_g1 rfl rfl (g := w.heap.size + 1) (v0 := .slice B k c) (by first | exact World.cell?_setCell_same _ _ _ r0 | exact World.cell?_setCell_same _ _ _ (by first | exact r0 | (exact (World.cell?_alloc_lt _ _ ⟨_, _, _⟩ (by first | omega | (simp; omega) | simp)).trans r0) | (exact (World.cell?_alloc_lt _ _ ⟨_, _, _⟩ (by first | omega | (simp; omega) | simp)).trans ((World.cell?_alloc_lt _ _ ⟨_, _, _⟩ (by first | omega | (simp; omega) | simp)).trans r0)) | (simp [go_sem, r0]; done)) | exact (World.cell?_alloc_lt _ _ ⟨_, _, _⟩ (by first | omega | (simp; omega) | simp)).trans (World.cell?_setCell_same _ _ _ r0) | (simp [go_sem, r0]; done))) rfl ⟨B, c, vs, rfl, HQ.out, HGF.out, b8⟩
end
end Go.Proofs.Ytlaladhnidcoiaa
