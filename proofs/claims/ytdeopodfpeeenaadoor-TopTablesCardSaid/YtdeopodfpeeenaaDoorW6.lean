/- Contracts: Clear of tables of weak handles. -/
import Derived.Test.YtdeopodfpeeenaaDoorW4
import Derived.Test.YtdeopodfpeeenaaDoorW5
namespace Go.Proofs.YtdeopodfpeeenaaDoor
open Go.RowKit
set_option linter.unusedVariables false
set_option linter.unusedSimpArgs false

theorem owns_belowN {w w' : World} {B B' s n : Nat} {e : TypeId} {v : Value} {xs : List Value} (h : w.ownsRow B e s v n xs) (hb : Below B' w w') (hlt : ∀ g, v.ownBlock = some g → g < B') : w'.ownsRow B e s v n xs := by
  obtain ⟨h0, h1 | ⟨g, c, cur, rfl, h2, h3, h4⟩⟩ := h
  · exact ⟨h0, .inl h1⟩
  · exact ⟨h0, .inr ⟨g, c, cur, rfl, h2, (hb.block g (hlt g rfl)).trans h3, h4⟩⟩
theorem irow_of_owns {w : World} {B n cap : Nat} {A : Option Addr} {xs : List Int} (h : w.ownsRow B 3 1 (.slice A n cap) n (ivals xs)) (hn : xs.length = n) (hw : ∀ x ∈ xs, I63 x) : IRow w w.heap.size A xs :=
  ⟨hw, fun hl => by
    obtain ⟨_, ⟨h1, h2⟩ | ⟨g, cap', cur, e, _⟩⟩ := id h
    · omega
    · injection e with e1 e2 e3
      subst e1
      exact ⟨g, 0, rfl, (h.lt g rfl).2, fun i hi => by rw [Nat.zero_add, h.cellAt i (by omega), ivals_at xs i hi]⟩⟩
theorem OwnsN.store {w : World} {B n cap g : Nat} {t : List Nat} (h : OwnsN w B (some ⟨g, 0, none⟩) n cap t) (i : Nat) (hi : i < n) : OwnsN (w.setCell ⟨g, i, none⟩ (.int .u64 0)) B (some ⟨g, 0, none⟩) n cap (t.set i 0) :=
  ⟨by rw [List.length_set]; exact h.len, fun y hy => by
    rcases List.mem_or_eq_of_mem_set hy with hy | rfl
    · exact h.words y hy
    · decide, by
    have := (h.row_.stored i (.int .u64 0)).1
    have e : (vals t).set i (.int .u64 0) = vals (t.set i 0) := by
      unfold vals
      rw [List.map_set]
      rfl
    rwa [e] at this⟩
theorem OwnsN.below {w w' : World} {B B' n cap : Nat} {A : Option Addr} {t : List Nat} (h : OwnsN w B A n cap t) (hb : Below B' w w') (hlt : ∀ g, A = some ⟨g, 0, none⟩ → g < B') : OwnsN w' B A n cap t :=
  ⟨h.len, h.words, by
    obtain ⟨h0, h1 | ⟨g, c, cur, e, h2, h3, h4⟩⟩ := h.row_
    · exact ⟨h0, .inl h1⟩
    · have e1 := e
      injection e1 with e1
      exact ⟨h0, .inr ⟨g, c, cur, e, h2, (hb.block g (hlt g e1)).trans h3, h4⟩⟩⟩
theorem OwnsN.blk {w : World} {B n cap : Nat} {A : Option Addr} {t : List Nat} (h : OwnsN w B A n cap t) (hn : 0 < n) : ∃ g, A = some ⟨g, 0, none⟩ ∧ B ≤ g ∧ g < w.heap.size := by
  obtain ⟨g, e, h1, h2, _⟩ := h.own.at_ (by rw [h.len]; exact hn)
  exact ⟨g, e, h1, h2⟩
theorem ivals_snoc (xs : List Int) (x : Int) : ivals (xs ++ [x]) = ivals xs ++ [.int .i64 x] := by simp [ivals]
section
variable {w : World} {A G : Option Addr} {t gs : List Nat} (cap cg : Nat)
set_option maxHeartbeats 2000000 in
theorem wclear_any (hr : Row w w.heap.size A t) (hcl : t.length ≤ cap) (hl : t.length ≤ 17592186044416) (hn : A = none → cap = 0) (hq : Row w w.heap.size G gs) (hgl : gs.length ≤ 17592186044416) (r : List Nat) (l : List Int) (y : Int) (hE : ClrE t gs r l y) :
    Calls Tryd.prog 8 #[.slice A t.length cap, .slice G gs.length cg] w fun e w' => ∃ B cb C cc, e = .returned (.tuple #[.slice B r.length cb, .slice C l.length cc, .int .i64 y]) ∧ OwnsN w' w.heap.size B r.length cb r ∧ IRow w' w'.heap.size C l ∧ l.length ≤ 64 ∧ Below w.heap.size w w' := by
  rcases hE with ⟨hok, rfl, rfl, rfl⟩ | ⟨hok, rfl, rfl, rfl⟩
  · have HC := Lib.hid fun (w : World) hr => wcheck_any (w := w) (A := A) (t := t) cap hr hcl hl 2 (.inr ⟨hok, rfl⟩)
    clear hok
    go_enter Tryd.func8, Tryd.ntmps8
    go_wp2_with fail
    go_at_call 21
    refine (HC.out _ (hr.later (by repeat (first | exact Below.refl _ _ | assumption | (refine below_drewN ?_ _) | (refine Below.drew ?_) | (refine Below.alloc ?_ (by first | omega | (simp; omega) | simp) _) | (refine Below.setCell ?_ (by first | omega | (simp; omega) | simp) _) | (refine below_trans ?_ (by assumption) (by first | omega | (simp; omega) | simp)))))).mono ?_
    rintro e w1 ⟨rfl, hb_w1⟩
    obtain ⟨hc_w1, hf_w1⟩ := bcell hb_w1; have hs_w1 := hb_w1.size; (try simp only [World.size_alloc, World.size_setCell, World.size_drew, World.heap_drewN] at hs_w1)
    go_wp2
    go_ret3
    exact ⟨none, 0, none, 0, rfl, OwnsN.nil _ _, IRow.nil _ _ _, by simp, (by repeat (first | exact Below.refl _ _ | assumption | (refine below_drewN ?_ _) | (refine Below.drew ?_) | (refine Below.alloc ?_ (by first | omega | (simp; omega) | simp) _) | (refine Below.setCell ?_ (by first | omega | (simp; omega) | simp) _) | (refine below_trans ?_ (by assumption) (by first | omega | (simp; omega) | simp))))⟩
  · have HC := Lib.hid fun (w : World) hr => wcheck_any (w := w) (A := A) (t := t) cap hr hcl hl 0 (.inl ⟨hok, rfl⟩)
    have HCP := Lib.hid fun (w : World) hr => wclone_any (w := w) (A := A) (t := t) cap hr hl hn
    unfold CopiedN at HCP
    obtain ⟨i0, hi, hz0, hz1, hz2⟩ := info_parts info_int
    have h64 := hok.1
    clear hok
    go_enter Tryd.func8, Tryd.ntmps8
    go_wp2_with fail
    go_at_call 21
    refine (HC.out _ (hr.later (by repeat (first | exact Below.refl _ _ | assumption | (refine below_drewN ?_ _) | (refine Below.drew ?_) | (refine Below.alloc ?_ (by first | omega | (simp; omega) | simp) _) | (refine Below.setCell ?_ (by first | omega | (simp; omega) | simp) _) | (refine below_trans ?_ (by assumption) (by first | omega | (simp; omega) | simp)))))).mono ?_
    rintro e w1 ⟨rfl, hb_w1⟩
    obtain ⟨hc_w1, hf_w1⟩ := bcell hb_w1; have hs_w1 := hb_w1.size; (try simp only [World.size_alloc, World.size_setCell, World.size_drew, World.heap_drewN] at hs_w1)
    have b1 : Below w.heap.size w w1 := (by repeat (first | exact Below.refl _ _ | assumption | (refine below_drewN ?_ _) | (refine Below.drew ?_) | (refine Below.alloc ?_ (by first | omega | (simp; omega) | simp) _) | (refine Below.setCell ?_ (by first | omega | (simp; omega) | simp) _) | (refine below_trans ?_ (by assumption) (by first | omega | (simp; omega) | simp))))
    go_wp2_with fail
    go_at_call 22
    refine (HCP.out _ ((hr.later b1).later (by repeat (first | exact Below.refl _ _ | assumption | (refine below_drewN ?_ _) | (refine Below.drew ?_) | (refine Below.alloc ?_ (by first | omega | (simp; omega) | simp) _) | (refine Below.setCell ?_ (by first | omega | (simp; omega) | simp) _) | (refine below_trans ?_ (by assumption) (by first | omega | (simp; omega) | simp)))))).mono ?_
    rintro e w2 ⟨B2, c2, rfl, o2, hb_w2⟩
    obtain ⟨hc_w2, hf_w2⟩ := bcell hb_w2; have hs_w2 := hb_w2.size; (try simp only [World.size_alloc, World.size_setCell, World.size_drew, World.heap_drewN] at hs_w2)
    have b2 : Below w.heap.size w w2 := (by repeat (first | exact Below.refl _ _ | assumption | (refine below_drewN ?_ _) | (refine Below.drew ?_) | (refine Below.alloc ?_ (by first | omega | (simp; omega) | simp) _) | (refine Below.setCell ?_ (by first | omega | (simp; omega) | simp) _) | (refine below_trans ?_ (by assumption) (by first | omega | (simp; omega) | simp))))
    go_wp2_with fail
    go_loopw [9, 21] (fun c ii wr => ∃ k : Nat, ii = .int .i64 (k : Nat) ∧ k ≤ t.length ∧ ∃ (m : Nat) (Ac : Option Addr) (capc : Nat), Hid ((clrH t gs k).length = m) ∧ m ≤ k ∧ c = .slice Ac m capc ∧ wr.ownsRow w2.heap.size 3 1 (.slice Ac m capc) m (ivals (clrH t gs k)) ∧ OwnsN wr w1.heap.size B2 t.length c2 (clrK t gs k) ∧ w2.heap.size ≤ wr.heap.size ∧ Below w.heap.size w wr) (fun _ ii _ => t.length - (intOf ii).toNat)
    case atStart => exact ⟨0, rfl, Nat.zero_le _, 0, none, 0, Lib.hid rfl, Nat.le_refl _, rfl, World.ownsRow_nil _ _ _ _, by rw [clrK_zero]; exact o2, (by first | omega | (simp; omega) | simp), b2⟩
    case round =>
      obtain ⟨k, rfl, hk, m, Ac, capc, HM, hmk, rfl, oC, oB, hsz, hb_wr⟩ := hrel
      have hsr := hb_wr.size
      by_cases hlt : k < t.length
      · obtain ⟨g2, rfl, hg1, hg2⟩ := o2.blk (by omega)
        obtain ⟨b, off, hA, hbb, hc⟩ := (hr.later hb_wr).cellAt (k := k) hlt
        subst hA
        obtain ⟨x, hx⟩ : ∃ x, Hid (t.getD k 0 = x) := ⟨_, rfl⟩
        rw [hx.out] at hc
        have i1 : (k : Int) < (t.length : Int) := by omega
        have i2 : (0 : Int) ≤ (k : Int) := by omega
        by_cases hgo : x ≠ 0 ∧ x ∈ gs
        · obtain ⟨hx0, hxm⟩ := hgo
          have f1 : ((x : Int) != 0) = true := by simp; omega
          have hcl2 : clrH t gs (k + 1) = clrH t gs k ++ [((k + 1 : Nat) : Int)] := by
            show clrH t gs k ++ (if goesW t gs k then [((k + 1 : Nat) : Int)] else []) = _
            rw [if_pos (by unfold goesW; rw [hx.out]; exact decide_eq_true ⟨hx0, hxm⟩)]
          have hck2 := clrK_yes (gs := gs) hlt (by rw [hx.out]; exact hxm)
          have HCL : Hid (ivals (clrH t gs (k + 1)) = ivals (clrH t gs k) ++ [.int .i64 ((k : Int) + 1)]) := Lib.hid (by rw [hcl2, ivals_snoc]; rfl)
          have HLL : Hid ((clrH t gs (k + 1)).length = m + 1) := Lib.hid (by rw [hcl2, List.length_append, HM.out]; rfl)
          have HCK := Lib.hid hck2
          clear hcl2 hck2
          have HQ := Lib.hid fun (w : World) hr => wcontains_any (w := w) (A := G) (us := gs) (L := gs.length) cg hr rfl hgl x true (.inl ⟨rfl, hxm⟩)
          clear hx0 hxm
          go_wp2_with fail
          go_at_call 24
          refine (HQ.out _ ((hq.later hb_wr).later (by repeat (first | exact Below.refl _ _ | assumption | (refine below_drewN ?_ _) | (refine Below.drew ?_) | (refine Below.alloc ?_ (by first | omega | (simp; omega) | simp) _) | (refine Below.setCell ?_ (by first | omega | (simp; omega) | simp) _) | (refine below_trans ?_ (by assumption) (by first | omega | (simp; omega) | simp)))))).mono ?_
          rintro e w5 ⟨rfl, hb_w5⟩
          have hs_w5 := hb_w5.size
          have b5 : Below w.heap.size w w5 := (by repeat (first | exact Below.refl _ _ | assumption | (refine below_drewN ?_ _) | (refine Below.drew ?_) | (refine Below.alloc ?_ (by first | omega | (simp; omega) | simp) _) | (refine Below.setCell ?_ (by first | omega | (simp; omega) | simp) _) | (refine below_trans ?_ (by assumption) (by first | omega | (simp; omega) | simp))))
          have oC5 := owns_laterN oC hb_w5
          have oB5 := oB.later hb_w5
          have qq := oB5.own.at_ (by rw [clrK_len]; omega)
          obtain ⟨gq, eq, _, _, qq⟩ := qq
          injection eq with eq
          injection eq with eq
          subst eq
          obtain ⟨q0, q1⟩ := qq k (by rw [clrK_len]; exact hlt)
          have oC6 := ownsRow_setCell_below oC5 (a := ⟨g2, k, none⟩) hg2 (.int .u64 0)
          have oB6 := oB5.store k hlt
          rw [← HCK.out] at oB6
          clear qq oC oB oB5 hc hb_wr
          generalize (clrK t gs k).getD k 0 = z at *
          go_wp2_with (at_builtin; refine wpList_append_lies _ ?_ (.tmp 36) (.tmp 39) 35 ?_ w2.heap.size 3 i0 _ 1 8 Tryd.underlying35 hi hz0 hz1 hz2 rfl (by omega) (.slice Ac m capc) m (ivals (clrH t gs k)) ?_ (oC6.alloc _) ⟨w5.heap.size, 0, none⟩ 1 1 [.int .i64 ((k : Int) + 1)] ?_ (by simp) ?_ (by simp [Value.oneCell']) (by omega) (by unfold maxLen; omega) (by omega) (by first | omega | (simp; omega) | simp) _ rfl ?_; rfl; rfl; (go_num); rfl; (intro j u hj; have hj0 : j = 0 := (by cases j with | zero => rfl | succ j => simp at hj); subst hj0; simp at hj; subst hj; rw [add_form]; simp [go_sem]); intro g cap7 w7 hown7 hg7 hat7 hlt7; have hb_w7 : Below w2.heap.size _ w7 := (Below.refl _ _).grown hg7 (by first | omega | (simp; omega) | simp) (fun b hb => oC5.lt b hb |>.1); have hs7 := hb_w7.size; (try simp only [World.size_alloc, World.size_setCell] at hs7))
          go_roundw
          case rel =>
            refine ⟨k + 1, by go_num, by omega, m + 1, some ⟨g, 0, none⟩, cap7, HLL, by omega, rfl, by rw [HCL.out]; exact hown7, ?_, (by first | omega | (simp; omega) | simp), ?_⟩
            · exact ((oB6.later ((Below.refl _ _).alloc (by first | omega | (simp; omega) | simp) _))).below hb_w7 (fun g h => by injection h with h; injection h with h; omega)
            · have b7 : Below w.heap.size w (((w5.setCell ⟨g2, k, none⟩ (.int .u64 0)).alloc (.cells #[.int .i64 ((k : Int) + 1)] 3))) := (by repeat (first | exact Below.refl _ _ | assumption | (refine below_drewN ?_ _) | (refine Below.drew ?_) | (refine Below.alloc ?_ (by first | omega | (simp; omega) | simp) _) | (refine Below.setCell ?_ (by first | omega | (simp; omega) | simp) _) | (refine below_trans ?_ (by assumption) (by first | omega | (simp; omega) | simp))))
              exact b7.trans (hb_w7.mono (by first | omega | (simp; omega) | simp))
          case measure => simp [intOf]; omega
        · have hcl2 : clrH t gs (k + 1) = clrH t gs k := by
            show clrH t gs k ++ (if goesW t gs k then [((k + 1 : Nat) : Int)] else []) = _
            rw [if_neg (by unfold goesW; rw [hx.out]; simpa using hgo), List.append_nil]
          have hck2 := clrK_no (gs := gs) hlt (by rw [hx.out]; exact hgo)
          have HCL := Lib.hid hcl2
          have HCK := Lib.hid hck2
          clear hcl2 hck2
          by_cases hx0 : x = 0
          · have f1 : ((x : Int) != 0) = false := by simp; omega
            clear hgo hx0
            go_wp2
            go_roundw
            case rel => exact ⟨k + 1, by go_num, by omega, m, Ac, capc, by rw [HCL.out]; exact HM, by omega, rfl, by rw [HCL.out]; exact oC, by rw [HCK.out]; exact oB, (by first | omega | (simp; omega) | simp), (by repeat (first | exact Below.refl _ _ | assumption | (refine below_drewN ?_ _) | (refine Below.drew ?_) | (refine Below.alloc ?_ (by first | omega | (simp; omega) | simp) _) | (refine Below.setCell ?_ (by first | omega | (simp; omega) | simp) _) | (refine below_trans ?_ (by assumption) (by first | omega | (simp; omega) | simp))))⟩
            case measure => simp [intOf]; omega
          · have f1 : ((x : Int) != 0) = true := by simp; omega
            have HQ := Lib.hid fun (w : World) hr => wcontains_any (w := w) (A := G) (us := gs) (L := gs.length) cg hr rfl hgl x false (.inr ⟨rfl, fun h => hgo ⟨hx0, h⟩⟩)
            clear hx0 hgo
            go_wp2_with fail
            go_at_call 24
            refine (HQ.out _ ((hq.later hb_wr).later (by repeat (first | exact Below.refl _ _ | assumption | (refine below_drewN ?_ _) | (refine Below.drew ?_) | (refine Below.alloc ?_ (by first | omega | (simp; omega) | simp) _) | (refine Below.setCell ?_ (by first | omega | (simp; omega) | simp) _) | (refine below_trans ?_ (by assumption) (by first | omega | (simp; omega) | simp)))))).mono ?_
            rintro e w5 ⟨rfl, hb_w5⟩
            have hs_w5 := hb_w5.size
            have b5 : Below w.heap.size w w5 := (by repeat (first | exact Below.refl _ _ | assumption | (refine below_drewN ?_ _) | (refine Below.drew ?_) | (refine Below.alloc ?_ (by first | omega | (simp; omega) | simp) _) | (refine Below.setCell ?_ (by first | omega | (simp; omega) | simp) _) | (refine below_trans ?_ (by assumption) (by first | omega | (simp; omega) | simp))))
            have oC5 := owns_laterN oC hb_w5
            have oB5 := oB.later hb_w5
            go_wp2
            go_roundw
            case rel => exact ⟨k + 1, by go_num, by omega, m, Ac, capc, by rw [HCL.out]; exact HM, by omega, rfl, by rw [HCL.out]; exact oC5, by rw [HCK.out]; exact oB5, (by first | omega | (simp; omega) | simp), b5⟩
            case measure => simp [intOf]; omega
      · obtain rfl : k = t.length := by omega
        rw [clrK_all] at oB
        have hlen := clrT_len t gs
        have HIN := Lib.hid (clrH_in t gs t.length (by omega))
        have HI := Lib.hid (irow_of_owns oC HM.out HIN.out)
        have HLEN := Lib.hid hlen
        clear hlen
        go_wp2
        go_ret3
        exact ⟨B2, c2, Ac, capc, by rw [HLEN.out, HM.out]; rfl, by rw [HLEN.out]; exact oB.mono (by first | omega | (simp; omega) | simp), HI.out, by rw [HM.out]; omega, hb_wr⟩
end
end Go.Proofs.YtdeopodfpeeenaaDoor
