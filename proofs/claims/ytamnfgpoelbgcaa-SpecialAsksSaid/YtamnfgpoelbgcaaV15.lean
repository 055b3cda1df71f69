/- The document's Add of specials. -/
import Derived.Test.YtamnfgpoelbgcaaV14
namespace Go.Proofs.Ytamnfgpoelbgcaa
open Go.RowKit
set_option linter.unusedVariables false
set_option linter.unusedSimpArgs false

/-- a copy that is never nil -/
def CopiedS (w : World) (l : List Sc) (e : Ending) (w' : World) : Prop := ∃ g cap, e = .returned (.slice (some ⟨g, 0, none⟩) l.length cap) ∧ w'.ownsRow w.heap.size 41 3 (.slice (some ⟨g, 0, none⟩) l.length cap) l.length (flat l) ∧ Below w.heap.size w w'
section
variable {w : World} {A M : Option Addr} {l more : List Sc} (cap cm : Nat)
theorem xcopyS_any (hr : CRow w w.heap.size A l) (hl : l.length ≤ 5864062014805) : Calls Try.prog 9 #[.slice A l.length cap] w fun e w' => CopiedS w l e w' := by
  unfold CopiedS
  obtain ⟨i0, hi, hz0, hz1, hz2⟩ := info_parts info_sc
  by_cases h0 : 0 < l.length
  · obtain ⟨b, off, rfl, hbb, hc⟩ := hr.at_ h0
    have hsrc := fun j v hv => hr.src (b := b) (off := off) j v hv
    have hlt : b < w.heap.size := hbb
    go_enter Try.func9, Try.ntmps9
    go_wp2_with (at_builtin; refine wpList_append_lies _ ?_ (.tmp 3) (.tmp 4) 22 ?_ w.heap.size 41 i0 _ 3 24 Try.underlying22 hi hz0 hz1 hz2 rfl (by omega) (.slice (some ⟨w.heap.size, 0, none⟩) 0 0) 0 [] ?_ (own_emptyC w _ _ (Nat.le_refl _) rfl) ⟨b, off, none⟩ l.length cap (flat l) ?_ (by rw [length_flat]) ?_ (flat_one l) h0 (by unfold maxLen; omega) (by omega) (by simp) _ rfl ?_; rfl; rfl; rfl; rfl; (exact fun j u hj => by rw [add_form]; exact (World.cell?_alloc_lt _ _ ⟨_, _, _⟩ hlt).trans (by have := hsrc j u hj; rwa [add_form] at this)); intro g cap2 w2 hown2 hg2 hat2 hlt2; simp only [Nat.zero_add, List.nil_append] at hown2; have hb_w2 : Below w.heap.size _ w2 := (Below.refl _ _).grown hg2 (by first | omega | (simp; omega) | simp) (fun k hk => (by simp [Value.ownBlock] at hk; omega)))
    go_ret
    exact ⟨_, cap2, rfl, hown2, (by repeat (first | exact Below.refl _ _ | assumption | (refine below_drewN ?_ _) | (refine Below.drew ?_) | (refine Below.alloc ?_ (by first | omega | (simp; omega) | simp) _) | (refine Below.setCell ?_ (by first | omega | (simp; omega) | simp) _) | (refine below_trans ?_ (by assumption) (by first | omega | (simp; omega) | simp))))⟩
  · obtain rfl : l = [] := List.eq_nil_of_length_eq_zero (by omega)
    have ho := own_emptyC w (w.alloc (.cells #[] 41)) w.heap.size (Nat.le_refl _) rfl
    simp only [List.length_nil]
    cases A
    all_goals
      go_enter Try.func9, Try.ntmps9
      go_wp2
      go_ret
      exact ⟨_, 0, rfl, ho, (by repeat (first | exact Below.refl _ _ | assumption | (refine below_drewN ?_ _) | (refine Below.drew ?_) | (refine Below.alloc ?_ (by first | omega | (simp; omega) | simp) _) | (refine Below.setCell ?_ (by first | omega | (simp; omega) | simp) _) | (refine below_trans ?_ (by assumption) (by first | omega | (simp; omega) | simp))))⟩
theorem some_of_owns {w : World} {B n cap : Nat} {A : Option Addr} {xs : List Value} (h : w.ownsRow B 41 3 (.slice A n cap) n xs) (h0 : 0 < n) : ∃ g, A = some ⟨g, 0, none⟩ ∧ n ≤ cap ∧ B ≤ g ∧ g < w.heap.size := by
  obtain ⟨_, ⟨h1, h2⟩ | ⟨g, cap', cur, e, h1, hg, h2, _⟩⟩ := h
  · omega
  · injection e with e1 _ e3
    exact ⟨g, e1, by omega, h1, heap_lt hg⟩
theorem cap_of_owns {w : World} {B n cap g : Nat} {xs : List Value} (h : w.ownsRow B 41 3 (.slice (some ⟨g, 0, none⟩) n cap) n xs) : n ≤ cap ∧ B ≤ g ∧ g < w.heap.size := by
  obtain ⟨_, ⟨h1, h2⟩ | ⟨g', cap', cur, e, h1, hg, h2, _⟩⟩ := h
  · cases h1
  · injection e with e1 _ e3
    injection e1 with e1
    injection e1 with e1
    subst e1
    exact ⟨by omega, h1, heap_lt hg⟩
set_option maxHeartbeats 4000000 in
theorem xaddL_any (hr : CRow w w.heap.size A l) (hcl : l.length ≤ cap) (hl : l.length ≤ 5864062014805) (hm : CRow w w.heap.size M more) (hml : more.length ≤ 5864062014805) (l' : List Sc) (y : Int) (hE : AddE l more l' y) :
    Calls Try.prog 11 #[.slice A l.length cap, .slice M more.length cm] w fun e w' => ∃ B cb, e = .returned (.tuple #[.slice B l'.length cb, .int .i64 y]) ∧ OwnsC w' w.heap.size (.slice B l'.length cb) l' ∧ Below w.heap.size w w' := by
  by_cases hok : OkC l
  · have HE := Lib.hid hE
    have HO := Lib.hid hok
    have HC := Lib.hid fun (w : World) hr => xccheck_any (w := w) (A := A) (l := l) cap hr hcl hl 0 (.inl ⟨hok, rfl⟩)
    have HCl := Lib.hid fun (w : World) hr => xcopyS_any (w := w) (A := A) (l := l) cap hr hl
    unfold CopiedS at HCl
    clear hE hok
    go_enter Try.func11, Try.ntmps11
    go_wp2_with fail
    go_at_call 21
    refine (HC.out _ (hr.later (by repeat (first | exact Below.refl _ _ | assumption | (refine below_drewN ?_ _) | (refine Below.drew ?_) | (refine Below.alloc ?_ (by first | omega | (simp; omega) | simp) _) | (refine Below.setCell ?_ (by first | omega | (simp; omega) | simp) _) | (refine below_trans ?_ (by assumption) (by first | omega | (simp; omega) | simp)))))).mono ?_
    rintro e w1 ⟨rfl, hb_w1⟩
    obtain ⟨hc_w1, hf_w1⟩ := bcell hb_w1; have hs_w1 := hb_w1.size; (try simp only [World.size_alloc, World.size_setCell, World.size_drew, World.heap_drewN] at hs_w1)
    go_wp2_with fail
    go_at_call 9
    refine (HCl.out _ (hr.later (by repeat (first | exact Below.refl _ _ | assumption | (refine below_drewN ?_ _) | (refine Below.drew ?_) | (refine Below.alloc ?_ (by first | omega | (simp; omega) | simp) _) | (refine Below.setCell ?_ (by first | omega | (simp; omega) | simp) _) | (refine below_trans ?_ (by assumption) (by first | omega | (simp; omega) | simp)))))).mono ?_
    rintro e w2 ⟨g2, cap2, rfl, oc2, hb_w2⟩
    obtain ⟨hc_w2, hf_w2⟩ := bcell hb_w2; have hs_w2 := hb_w2.size; (try simp only [World.size_alloc, World.size_setCell, World.size_drew, World.heap_drewN] at hs_w2)
    have b2 : Below w.heap.size w w2 := (by repeat (first | exact Below.refl _ _ | assumption | (refine below_drewN ?_ _) | (refine Below.drew ?_) | (refine Below.alloc ?_ (by first | omega | (simp; omega) | simp) _) | (refine Below.setCell ?_ (by first | omega | (simp; omega) | simp) _) | (refine below_trans ?_ (by assumption) (by first | omega | (simp; omega) | simp))))
    have oc2' : w2.ownsRow w.heap.size 41 3 (.slice (some ⟨g2, 0, none⟩) l.length cap2) l.length (flat l) := owns_monoC oc2 (by first | omega | (simp; omega) | simp)
    clear hc_w1 hf_w1 hc_w2 hf_w2 hb_w1 oc2
    go_wp2_with fail
    go_loopw [6, 18] (fun c ii wr => ∃ k : Nat, ii = .int .i64 (k : Nat) ∧ k ≤ more.length ∧ (∀ j, j < k → refC (stC l more j) (nthC more j) = 0) ∧ ∃ (n g capO : Nat), (stC l more k).length = n ∧ c = .slice (some ⟨g, 0, none⟩) n capO ∧ wr.ownsRow w.heap.size 41 3 (.slice (some ⟨g, 0, none⟩) n capO) n (flat (stC l more k)) ∧ Below w.heap.size w wr) (fun _ ii _ => more.length - (intOf ii).toNat)
    case atStart => exact ⟨0, rfl, Nat.zero_le _, fun j hj => by omega, l.length, g2, cap2, rfl, rfl, oc2', (by repeat (first | exact Below.refl _ _ | assumption | (refine below_drewN ?_ _) | (refine Below.drew ?_) | (refine Below.alloc ?_ (by first | omega | (simp; omega) | simp) _) | (refine Below.setCell ?_ (by first | omega | (simp; omega) | simp) _) | (refine below_trans ?_ (by assumption) (by first | omega | (simp; omega) | simp))))⟩
    case round =>
      obtain ⟨k, rfl, hk, hP0, n, g, capO, hn0, rfl, oO, hb_wr⟩ := hrel
      have hsr := hb_wr.size
      clear oc2' b2
      have HP0 := Lib.hid hP0
      have HN0 := Lib.hid hn0
      have hok' := stC_ok HO.out k hP0
      have hn64 : n ≤ 64 := by rw [← hn0]; exact hok'.1
      have rO : CRow wr wr.heap.size (some ⟨g, 0, none⟩) (stC l more k) := CRow.of_owns (of_ownsC hn0 oO)
      obtain ⟨hnc, hgB, hgl⟩ := cap_of_owns oO
      clear hP0
      by_cases hlt : k < more.length
      · obtain ⟨b, off, rfl, hbb, hc⟩ := (hm.later hb_wr).at_ (by omega)
        have c3 := hc k hlt
        have HR := fun (w : World) hr hb => xadd1_any (w := w) (l := stC l more k) capO (b := g) (off := 0) hr (by omega) hb hok' (nthC more k)
        have HF0 : stC l more (k + 1) = addC (stC l more k) (nthC more k) := rfl
        have hno := fun hn => HE.out.no HO.out hlt HP0.out hn
        have hnext : refC (stC l more k) (nthC more k) = 0 → ∀ j, j < k + 1 → refC (stC l more j) (nthC more j) = 0 := fun h0 j hj => by
          by_cases e : j = k
          · rw [e]; exact h0
          · exact HP0.out j (by omega)
        rw [hn0] at HR
        obtain ⟨s, hs⟩ : ∃ s, Hid (nthC more k = s) := ⟨_, rfl⟩
        rw [hs.out] at c3 HR HF0 hno hnext
        obtain ⟨st, hst⟩ : ∃ st, Hid (stC l more k = st) := ⟨_, rfl⟩
        rw [hst.out] at HR HF0 hno hnext oO rO hn0
        obtain ⟨c0, c1, c2⟩ := id c3
        have hk0 : (0 : Int) ≤ (k : Int) := by omega
        have hk1 : (k : Int) < (more.length : Int) := by omega
        obtain ⟨r, hrr⟩ : ∃ r, Hid (refC st s = r) := ⟨_, rfl⟩
        rw [hrr.out] at HR hno hnext
        have HR := Lib.hid HR
        clear hc hn0 hok'
        by_cases hr0 : r = 0
        · subst hr0
          have HP := Lib.hid (hnext rfl)
          have HL : Hid ((stC l more (k + 1)).length = n + 1) := Lib.hid (by rw [HF0, length_addC, ← hst.out, HN0.out])
          have HF := Lib.hid HF0
          clear hno hnext HF0
          obtain ⟨a, kk, t⟩ := s
          simp only at *
          unfold scv at HR
          go_wp2_with (go_at_call 26; refine (HR.out _ (rO.later (by repeat (first | exact Below.refl _ _ | assumption | (refine below_drewN ?_ _) | (refine Below.drew ?_) | (refine Below.alloc ?_ (by first | omega | (simp; omega) | simp) _) | (refine Below.setCell ?_ (by first | omega | (simp; omega) | simp) _) | (refine below_trans ?_ (by assumption) (by first | omega | (simp; omega) | simp))))) (by first | omega | (simp; omega) | simp)).mono ?_; rintro e w3 (⟨A3, cap3, _, rfl, o3, hb_w3⟩ | ⟨h9, _⟩); rotate_left; exact absurd rfl h9)
          have hs3 := hb_w3.size
          simp only [World.size_alloc] at hs3
          obtain ⟨g3, rfl, _, _, _⟩ := some_of_owns o3 (by omega)
          go_roundw
          case rel => exact ⟨k + 1, by go_num, by omega, HP.out, n + 1, g3, cap3, HL.out, rfl, by rw [HF.out]; exact owns_monoC o3 (by first | omega | (simp; omega) | simp), (by repeat (first | exact Below.refl _ _ | assumption | (refine below_drewN ?_ _) | (refine Below.drew ?_) | (refine Below.alloc ?_ (by first | omega | (simp; omega) | simp) _) | (refine Below.setCell ?_ (by first | omega | (simp; omega) | simp) _) | (refine below_trans ?_ (by assumption) (by first | omega | (simp; omega) | simp))))⟩
          case measure => simp [intOf]; omega
        · obtain ⟨rfl, hy⟩ := hno hr0
          have HY := Lib.hid hy
          have hrn : (r != 0) = true := by simpa using hr0
          have HR0 := Lib.hid hr0
          clear hno hnext hr0 hy HF0
          obtain ⟨a, kk, t⟩ := s
          simp only at *
          unfold scv at HR
          go_wp2_with (first
            | (go_at_call 26; refine (HR.out _ (rO.later (by repeat (first | exact Below.refl _ _ | assumption | (refine below_drewN ?_ _) | (refine Below.drew ?_) | (refine Below.alloc ?_ (by first | omega | (simp; omega) | simp) _) | (refine Below.setCell ?_ (by first | omega | (simp; omega) | simp) _) | (refine below_trans ?_ (by assumption) (by first | omega | (simp; omega) | simp))))) (by first | omega | (simp; omega) | simp)).mono ?_; rintro e w3 (⟨A3, cap3, h9, _⟩ | ⟨_, rfl, hb_w3⟩); exact absurd h9 HR0.out; obtain ⟨hc_w3, hf_w3⟩ := bcell hb_w3; have hz_w3_wr_0 : wr.heap.size < w3.heap.size := (by have hzz := hb_w3.size; (try simp only [World.size_alloc, World.size_setCell, World.size_drew, World.heap_drewN] at hzz); omega); have hs_w3 := hb_w3.size; (try simp only [World.size_alloc, World.size_setCell, World.size_drew, World.heap_drewN] at hs_w3))
            | (go_at_call 9; refine (HCl.out _ (hr.later (by repeat (first | exact Below.refl _ _ | assumption | (refine below_drewN ?_ _) | (refine Below.drew ?_) | (refine Below.alloc ?_ (by first | omega | (simp; omega) | simp) _) | (refine Below.setCell ?_ (by first | omega | (simp; omega) | simp) _) | (refine below_trans ?_ (by assumption) (by first | omega | (simp; omega) | simp)))))).mono ?_; rintro e w4 ⟨g4, cap4, rfl, oc4, hb_w4⟩))
          go_ret2
          exact ⟨_, cap4, by rw [HY.out]; rfl, owns_monoC oc4 (by first | omega | (simp; omega) | simp), (by repeat (first | exact Below.refl _ _ | assumption | (refine below_drewN ?_ _) | (refine Below.drew ?_) | (refine Below.alloc ?_ (by first | omega | (simp; omega) | simp) _) | (refine Below.setCell ?_ (by first | omega | (simp; omega) | simp) _) | (refine below_trans ?_ (by assumption) (by first | omega | (simp; omega) | simp))))⟩
      · obtain rfl : k = more.length := by omega
        obtain ⟨h1, h2⟩ := HE.out.ok HO.out HP0.out
        subst h2
        have o2 := of_ownsC hn0 oO
        rw [← h1] at o2
        have HL2 : Hid (n = l'.length) := Lib.hid (by rw [h1]; exact hn0.symm)
        clear h1 hn0 hok'
        go_wp2
        go_ret2
        exact ⟨_, capO, by rw [← HL2.out]; rfl, o2, (by repeat (first | exact Below.refl _ _ | assumption | (refine below_drewN ?_ _) | (refine Below.drew ?_) | (refine Below.alloc ?_ (by first | omega | (simp; omega) | simp) _) | (refine Below.setCell ?_ (by first | omega | (simp; omega) | simp) _) | (refine below_trans ?_ (by assumption) (by first | omega | (simp; omega) | simp))))⟩
  · obtain ⟨rfl, rfl⟩ := hE.bad hok
    have HC := Lib.hid fun (w : World) hr => xccheck_any (w := w) (A := A) (l := l) cap hr hcl hl 2 (.inr ⟨hok, rfl⟩)
    clear hE hok
    go_enter Try.func11, Try.ntmps11
    go_wp2_with fail
    go_at_call 21
    refine (HC.out _ (hr.later (by repeat (first | exact Below.refl _ _ | assumption | (refine below_drewN ?_ _) | (refine Below.drew ?_) | (refine Below.alloc ?_ (by first | omega | (simp; omega) | simp) _) | (refine Below.setCell ?_ (by first | omega | (simp; omega) | simp) _) | (refine below_trans ?_ (by assumption) (by first | omega | (simp; omega) | simp)))))).mono ?_
    rintro e w1 ⟨rfl, hb_w1⟩
    obtain ⟨hc_w1, hf_w1⟩ := bcell hb_w1; have hs_w1 := hb_w1.size; (try simp only [World.size_alloc, World.size_setCell, World.size_drew, World.heap_drewN] at hs_w1)
    go_wp2
    go_ret2
    exact ⟨none, 0, rfl, World.ownsRow_nil _ _ _ _, (by repeat (first | exact Below.refl _ _ | assumption | (refine below_drewN ?_ _) | (refine Below.drew ?_) | (refine Below.alloc ?_ (by first | omega | (simp; omega) | simp) _) | (refine Below.setCell ?_ (by first | omega | (simp; omega) | simp) _) | (refine below_trans ?_ (by assumption) (by first | omega | (simp; omega) | simp))))⟩
end
end Go.Proofs.Ytamnfgpoelbgcaa
