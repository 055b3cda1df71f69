/- Contracts of package special: Add. -/
import Derived.Test.YtamnfgpoelbgcaaV11
namespace Go.Proofs.Ytamnfgpoelbgcaa
open Go.RowKit
set_option linter.unusedVariables false
set_option linter.unusedSimpArgs false

theorem AddE.ok {l more l' : List Sc} {y : Int} (h : AddE l more l' y) (ho : OkC l) (hr : ∀ j, j < more.length → refC (stC l more j) (nthC more j) = 0) : l' = stC l more more.length ∧ y = 0 := by
  rcases h with ⟨h, _⟩ | ⟨_, _, h1, h2⟩ | ⟨k, _, h1, h2, h3, h4, _⟩
  · exact absurd ho h
  · exact ⟨h1, h2⟩
  · have := hr k h1
    omega
theorem AddE.no {l more l' : List Sc} {y : Int} {k : Nat} (h : AddE l more l' y) (ho : OkC l) (hk : k < more.length) (hr : ∀ j, j < k → refC (stC l more j) (nthC more j) = 0) (hn : refC (stC l more k) (nthC more k) ≠ 0) : l' = l ∧ y = refC (stC l more k) (nthC more k) := by
  rcases h with ⟨h, _⟩ | ⟨_, h1, _⟩ | ⟨j, _, h1, h2, h3, h4, h5⟩
  · exact absurd ho h
  · exact absurd (h1 k hk) hn
  · rcases Nat.lt_trichotomy j k with e | e | e
    · have := hr j e; omega
    · rw [e] at h3; exact ⟨h5, h3.symm⟩
    · exact absurd (h2 k e) hn
theorem AddE.bad {l more l' : List Sc} {y : Int} (h : AddE l more l' y) (ho : ¬ OkC l) : l' = [] ∧ y = 2 := by
  rcases h with ⟨_, h1, h2⟩ | ⟨h, _⟩ | ⟨_, h, _⟩
  · exact ⟨h1, h2⟩
  · exact absurd h ho
  · exact absurd h ho
theorem of_ownsC {w : World} {B n cap : Nat} {A : Option Addr} {l : List Sc} (hn : l.length = n) (h : w.ownsRow B 41 3 (.slice A n cap) n (flat l)) : OwnsC w B (.slice A l.length cap) l := by
  subst hn
  exact h
section
variable {w : World} {A M : Option Addr} {l more : List Sc} (cap cm : Nat)
set_option maxHeartbeats 8000000 in
theorem cadd_any (hr : CRow w w.heap.size A l) (hcl : l.length ≤ cap) (hl : l.length ≤ 5864062014805) (hnil : A = none → cap = 0) (hm : CRow w w.heap.size M more) (hml : more.length ≤ 5864062014805) (l' : List Sc) (y : Int) (hE : AddE l more l' y) :
    Calls Try.prog 10 #[.slice A l.length cap, .slice M more.length cm] w fun e w' => ∃ B cb, e = .returned (.tuple #[.slice B l'.length cb, .int .i64 y]) ∧ OwnsC w' w.heap.size (.slice B l'.length cb) l' ∧ Below w.heap.size w w' := by
  by_cases hok : OkC l
  · have HE := Lib.hid hE
    have HO := Lib.hid hok
    have HC := Lib.hid fun (w : World) hr => ccheck_any (w := w) (A := A) (l := l) cap hr hcl hl 0 (.inl ⟨hok, rfl⟩)
    have HCl := Lib.hid fun (w : World) hr => cclone_any (w := w) (A := A) (l := l) cap hr hl hnil
    unfold CopiedC at HCl
    clear hE hok
    go_enter Try.func10, Try.ntmps10
    go_wp2_with fail
    go_at_call 20
    refine (HC.out _ (hr.later (by repeat (first | exact Below.refl _ _ | assumption | (refine below_drewN ?_ _) | (refine Below.drew ?_) | (refine Below.alloc ?_ (by first | omega | (simp; omega) | simp) _) | (refine Below.setCell ?_ (by first | omega | (simp; omega) | simp) _) | (refine below_trans ?_ (by assumption) (by first | omega | (simp; omega) | simp)))))).mono ?_
    rintro e w1 ⟨rfl, hb_w1⟩
    obtain ⟨hc_w1, hf_w1⟩ := bcell hb_w1; have hs_w1 := hb_w1.size; (try simp only [World.size_alloc, World.size_setCell, World.size_drew, World.heap_drewN] at hs_w1)
    go_wp2_with fail
    go_at_call 22
    refine (HCl.out _ (hr.later (by repeat (first | exact Below.refl _ _ | assumption | (refine below_drewN ?_ _) | (refine Below.drew ?_) | (refine Below.alloc ?_ (by first | omega | (simp; omega) | simp) _) | (refine Below.setCell ?_ (by first | omega | (simp; omega) | simp) _) | (refine below_trans ?_ (by assumption) (by first | omega | (simp; omega) | simp)))))).mono ?_
    rintro e w2 ⟨A2, cap2, rfl, oc2, hb_w2⟩
    obtain ⟨hc_w2, hf_w2⟩ := bcell hb_w2; have hs_w2 := hb_w2.size; (try simp only [World.size_alloc, World.size_setCell, World.size_drew, World.heap_drewN] at hs_w2)
    have b2 : Below w.heap.size w w2 := (by repeat (first | exact Below.refl _ _ | assumption | (refine below_drewN ?_ _) | (refine Below.drew ?_) | (refine Below.alloc ?_ (by first | omega | (simp; omega) | simp) _) | (refine Below.setCell ?_ (by first | omega | (simp; omega) | simp) _) | (refine below_trans ?_ (by assumption) (by first | omega | (simp; omega) | simp))))
    have oc2' : w2.ownsRow w.heap.size 41 3 (.slice A2 l.length cap2) l.length (flat l) := owns_monoC oc2 (by first | omega | (simp; omega) | simp)
    clear hc_w1 hf_w1 hc_w2 hf_w2 hb_w1 oc2
    go_wp2_with fail
    go_loopw [7, 20] (fun c ii wr => ∃ k : Nat, ii = .int .i64 (k : Nat) ∧ k ≤ more.length ∧ (∀ j, j < k → refC (stC l more j) (nthC more j) = 0) ∧ ∃ (n : Nat) (AO : Option Addr) (capO : Nat), (stC l more k).length = n ∧ c = .slice AO n capO ∧ wr.ownsRow w.heap.size 41 3 (.slice AO n capO) n (flat (stC l more k)) ∧ Below w.heap.size w wr) (fun _ ii _ => more.length - (intOf ii).toNat)
    case atStart => exact ⟨0, rfl, Nat.zero_le _, fun j hj => by omega, l.length, A2, cap2, rfl, rfl, oc2', (by repeat (first | exact Below.refl _ _ | assumption | (refine below_drewN ?_ _) | (refine Below.drew ?_) | (refine Below.alloc ?_ (by first | omega | (simp; omega) | simp) _) | (refine Below.setCell ?_ (by first | omega | (simp; omega) | simp) _) | (refine below_trans ?_ (by assumption) (by first | omega | (simp; omega) | simp))))⟩
    case round =>
      obtain ⟨k, rfl, hk, hP0, n, AO, capO, hn0, rfl, oO, hb_wr⟩ := hrel
      have hsr := hb_wr.size
      clear oc2' b2
      have HP0 := Lib.hid hP0
      have HN0 := Lib.hid hn0
      have hok' := stC_ok HO.out k hP0
      have hn64 : n ≤ 64 := by rw [← hn0]; exact hok'.1
      have rO : CRow wr wr.heap.size AO (stC l more k) := CRow.of_owns (of_ownsC hn0 oO)
      clear hP0
      by_cases hlt : k < more.length
      · obtain ⟨b, off, rfl, hbb, hc⟩ := (hm.later hb_wr).at_ (by omega)
        have c3 := hc k hlt
        have HR := fun (w : World) hr => crefused_any (w := w) (A := AO) (l := stC l more k) capO (nthC more k) hr (by omega)
        have HB := fun (w : World) hr => cbehind_any (w := w) (A := AO) (l := stC l more k) capO (nthC more k).a hr (by omega)
        have HF0 : stC l more (k + 1) = addC (stC l more k) (nthC more k) := rfl
        have hno := fun hn => HE.out.no HO.out hlt HP0.out hn
        have hbh := bh_le (stC l more k) (nthC more k).a
        rw [hn0] at HR HB hbh
        obtain ⟨s, hs⟩ : ∃ s, Hid (nthC more k = s) := ⟨_, rfl⟩
        have hnext : refC (stC l more k) (nthC more k) = 0 → ∀ j, j < k + 1 → refC (stC l more j) (nthC more j) = 0 := fun h0 j hj => by
          by_cases e : j = k
          · rw [e]; exact h0
          · exact HP0.out j (by omega)
        rw [hs.out] at c3 HR HB HF0 hno hbh hnext
        obtain ⟨st, hst⟩ : ∃ st, Hid (stC l more k = st) := ⟨_, rfl⟩
        rw [hst.out] at HR HB HF0 hno hbh hnext oO rO hn0
        obtain ⟨c0, c1, c2⟩ := id c3
        have hk0 : (0 : Int) ≤ (k : Int) := by omega
        have hk1 : (k : Int) < (more.length : Int) := by omega
        obtain ⟨r, hrr⟩ : ∃ r, Hid (refC st s = r) := ⟨_, rfl⟩
        rw [hrr.out] at HR hno hnext
        clear hc hn0 hok'
        by_cases hr0 : r = 0
        · subst hr0
          have HP := Lib.hid (hnext rfl)
          have HL : Hid ((stC l more (k + 1)).length = n + 1) := Lib.hid (by rw [HF0, length_addC, ← hst.out, HN0.out])
          have HLT : Hid (∀ b, (AO.map fun a => a.block) = some b → w.heap.size ≤ b) := Lib.hid fun b hb => (oO.lt b (by cases AO with | none => cases hb | some a => exact hb)).1
          have HNE : Hid (some wr.heap.size ≠ (AO.map fun a => a.block)) := Lib.hid fun e => by
            have := (oO.lt wr.heap.size (by cases AO with | none => cases e | some a => exact e.symm)).2
            omega
          have HI : Hid (∀ (W : World) (xb : Nat), W.ownsRow w.heap.size 41 3 (.slice AO n capO) n (flat st) → w.heap.size ≤ W.heap.size → W.heap[xb]? = some (.cells #[.int .u64 s.a, .int .u8 s.k, .int .u64 s.t] 41 (0, 0)) → wr.heap.size ≤ xb →
              Calls Try.prog 24 #[.slice AO n capO, .int .i64 (bh st s.a : Nat), .slice (some ⟨xb, 0, none⟩) 1 1] W fun e w' => ∃ (A' : Option Addr) (cap' : Nat), e = .returned (.slice A' (n + 1) cap') ∧ w'.ownsRow w.heap.size 41 3 (.slice A' (n + 1) cap') (n + 1) (flat (addC st s)) ∧ W.grownBy w' (AO.map fun a => a.block)) := Lib.hid fun W xb hO hB hx hxb => by
            have hn : st.length = n := by rw [← hst.out]; exact HN0.out
            have := cinsert_any (w := W) (A := AO) (l := st) capO (i := bh st s.a) s (of_ownsC hn hO) hB (by omega) (bh_le st s.a) hx (fun g hg => by
              have := (oO.lt g (by rw [hg]; rfl)).2
              omega)
            unfold InsC at this
            rw [hn] at this
            exact this
          have HF := Lib.hid HF0
          have HB := Lib.hid HB
          have HR := Lib.hid HR
          clear hno hnext HF0
          obtain ⟨a, kk, t⟩ := s
          simp only at *
          unfold scv at HR
          simp only at HR
          go_wp2_with (go_at_call 23; refine (HR.out _ (rO.later (by repeat (first | exact Below.refl _ _ | assumption | (refine below_drewN ?_ _) | (refine Below.drew ?_) | (refine Below.alloc ?_ (by first | omega | (simp; omega) | simp) _) | (refine Below.setCell ?_ (by first | omega | (simp; omega) | simp) _) | (refine below_trans ?_ (by assumption) (by first | omega | (simp; omega) | simp)))))).mono ?_; rintro e w0 ⟨rfl, hb_w0⟩; obtain ⟨hc_w0, hf_w0⟩ := bcell hb_w0; have hz_w0_wr_0 : wr.heap.size < w0.heap.size := (by have hzz := hb_w0.size; (try simp only [World.size_alloc, World.size_setCell, World.size_drew, World.heap_drewN] at hzz); omega); have hs_w0 := hb_w0.size; (try simp only [World.size_alloc, World.size_setCell, World.size_drew, World.heap_drewN] at hs_w0))
          have z0 : w0.cell? ⟨wr.heap.size, 0, none⟩ = some (.int .u64 a) := (hc_w0 _ _ (by first | omega | (simp; omega) | simp)).trans (by simp [go_sem])
          have z1 : w0.cell? ⟨wr.heap.size, 1, none⟩ = some (.int .u8 kk) := (hc_w0 _ _ (by first | omega | (simp; omega) | simp)).trans (by simp [go_sem])
          have z2 : w0.cell? ⟨wr.heap.size, 2, none⟩ = some (.int .u64 t) := (hc_w0 _ _ (by first | omega | (simp; omega) | simp)).trans (by simp [go_sem])
          clear hc_w0 hf_w0
          refine wp_region_held_drew (S := (fun X : World => X.cell? ⟨wr.heap.size, 0, none⟩ = some (.int .u64 a) ∧ X.cell? ⟨wr.heap.size, 1, none⟩ = some (.int .u8 kk) ∧ X.cell? ⟨wr.heap.size, 2, none⟩ = some (.int .u64 t))) (by kernel_rfl) ?_ (fun hHeld => ?_)
          · (try dsimp only); (refine ⟨?_, ?_, ?_⟩ <;> first | assumption | (simp [go_sem]; done) | exact (World.cell?_alloc_lt _ _ ⟨_, _, _⟩ (by first | omega | (simp; omega) | simp)).trans (by assumption))
          refine wpAnyH_take (i := 0) (v := ?_) rfl (by kernel_rfl) (by kernel_rfl) (by kernel_rfl) (fun _ _ _ h => h) (Or.inl ⟨by rfl, ?_⟩) (by assumption) ?_
          rotate_left
          · (intro w hSw; (try dsimp only at hSw); go_simp; first | done | with_reducible rfl)
          try simp only [Act.put, List.getElem_toArray, List.getElem_cons_zero, List.getElem_cons_succ, List.setIfInBounds_toArray, List.set_cons_zero, List.set_cons_succ]
          refine wpAnyH_take (i := 1) (v := ?_) rfl (by kernel_rfl) (by kernel_rfl) (by kernel_rfl) (fun _ _ _ h => h) (Or.inl ⟨by rfl, ?_⟩) (by assumption) ?_
          rotate_left
          · (intro w hSw; (try dsimp only at hSw); go_simp; first | done | with_reducible rfl)
          try simp only [Act.put, List.getElem_toArray, List.getElem_cons_zero, List.getElem_cons_succ, List.setIfInBounds_toArray, List.set_cons_zero, List.set_cons_succ]
          refine wpAnyH_take (i := 2) (v := ?_) rfl (by kernel_rfl) (by kernel_rfl) (by kernel_rfl) (fun _ _ _ h => h) (Or.inl ⟨by rfl, ?_⟩) (by assumption) ?_
          rotate_left
          · (intro w hSw; (try dsimp only at hSw); go_simp; first | done | with_reducible rfl)
          try simp only [Act.put, List.getElem_toArray, List.getElem_cons_zero, List.getElem_cons_succ, List.setIfInBounds_toArray, List.set_cons_zero, List.set_cons_succ]
          refine wpAnyH_take (i := 3) (v := ?_) rfl (by kernel_rfl) (by kernel_rfl) (by kernel_rfl) (fun _ _ _ h => h) (Or.inl ⟨by rfl, ?_⟩) (by assumption) ?_
          rotate_left
          · (intro w hSw; (try dsimp only at hSw); go_simp; first | done | with_reducible rfl)
          try simp only [Act.put, List.getElem_toArray, List.getElem_cons_zero, List.getElem_cons_succ, List.setIfInBounds_toArray, List.set_cons_zero, List.set_cons_succ]
          refine wpAnyH_take (i := 5) (v := ?_) rfl (by kernel_rfl) (by kernel_rfl) (by kernel_rfl) (fun _ _ _ h => h) (Or.inl ⟨by rfl, ?_⟩) (by assumption) ?_
          rotate_left
          · (intro w hSw; (try dsimp only at hSw); go_simp; first | done | with_reducible rfl)
          try simp only [Act.put, List.getElem_toArray, List.getElem_cons_zero, List.getElem_cons_succ, List.setIfInBounds_toArray, List.set_cons_zero, List.set_cons_succ]
          refine wpAnyH_ready (rs := [4, 6]) (by kernel_rfl) (by simp) ?_
          refine AllReadyH.cons rfl (fun K hK => ?_) (AllReadyH.cons rfl (fun K hK => ?_) AllReadyH.nil)
          · try simp only [List.getElem_toArray, List.getElem_cons_zero, List.getElem_cons_succ]
            go_simp
            go_at_call 25
            refine (HB.out _ (rO.later (by repeat (first | exact Below.refl _ _ | assumption | (refine below_drewN ?_ _) | (refine Below.drew ?_) | (refine Below.alloc ?_ (by first | omega | (simp; omega) | simp) _) | (refine Below.setCell ?_ (by first | omega | (simp; omega) | simp) _) | (refine below_trans ?_ (by assumption) (by first | omega | (simp; omega) | simp)))))).mono ?_
            rintro e w1 ⟨rfl, hb_w1⟩
            have hs_w1 := hb_w1.size
            (try simp only [World.size_drew, World.heap_drewN, World.size_alloc] at hs_w1)
            have mw10 : w1.cell? ⟨wr.heap.size, 0, none⟩ = some (.int .u64 a) := (hb_w1.cell (p := ⟨wr.heap.size, 0, none⟩) (by first | omega | (simp; omega) | simp)).trans (by first | assumption | (simp [go_sem]; done) | exact (World.cell?_alloc_lt _ _ ⟨_, _, _⟩ (by first | omega | (simp; omega) | simp)).trans (by assumption))
            have mw11 : w1.cell? ⟨wr.heap.size, 1, none⟩ = some (.int .u8 kk) := (hb_w1.cell (p := ⟨wr.heap.size, 1, none⟩) (by first | omega | (simp; omega) | simp)).trans (by first | assumption | (simp [go_sem]; done) | exact (World.cell?_alloc_lt _ _ ⟨_, _, _⟩ (by first | omega | (simp; omega) | simp)).trans (by assumption))
            have mw12 : w1.cell? ⟨wr.heap.size, 2, none⟩ = some (.int .u64 t) := (hb_w1.cell (p := ⟨wr.heap.size, 2, none⟩) (by first | omega | (simp; omega) | simp)).trans (by first | assumption | (simp [go_sem]; done) | exact (World.cell?_alloc_lt _ _ ⟨_, _, _⟩ (by first | omega | (simp; omega) | simp)).trans (by assumption))
            try go_wp2_with fail
            refine hK.out _ _ ?_ (fun hHeld => ?_)
            · (try dsimp only); (refine ⟨?_, ?_, ?_⟩ <;> first | assumption | (simp [go_sem]; done) | exact (World.cell?_alloc_lt _ _ ⟨_, _, _⟩ (by first | omega | (simp; omega) | simp)).trans (by assumption))
            clear hK K
            try simp only [Act.put, List.getElem_toArray, List.getElem_cons_zero, List.getElem_cons_succ, List.setIfInBounds_toArray, List.set_cons_zero, List.set_cons_succ]
            refine wpAnyH_ready (rs := [6]) (by kernel_rfl) (by simp) ?_
            refine AllReadyH.cons rfl (fun K hK => ?_) AllReadyH.nil
            try simp only [List.getElem_toArray, List.getElem_cons_zero, List.getElem_cons_succ]
            go_simp
            refine hK.out _ _ ?_ (fun hHeld => ?_)
            · (try dsimp only); (refine ⟨?_, ?_, ?_⟩ <;> first | assumption | (simp [go_sem]; done) | exact (World.cell?_alloc_lt _ _ ⟨_, _, _⟩ (by first | omega | (simp; omega) | simp)).trans (by assumption))
            clear hK K
            try simp only [Act.put, List.getElem_toArray, List.getElem_cons_zero, List.getElem_cons_succ, List.setIfInBounds_toArray, List.set_cons_zero, List.set_cons_succ]
            refine wpAnyH_ready (rs := [7]) (by kernel_rfl) (by simp) ?_
            refine AllReadyH.cons rfl (fun K hK => ?_) AllReadyH.nil
            try simp only [List.getElem_toArray, List.getElem_cons_zero, List.getElem_cons_succ]
            go_simp
            go_at_call 24
            refine (HI.out _ _ (owns_laterC oO (by repeat (first | exact Below.refl _ _ | assumption | (refine below_drewN ?_ _) | (refine Below.drew ?_) | (refine Below.alloc ?_ (by first | omega | (simp; omega) | simp) _) | (refine Below.setCell ?_ (by first | omega | (simp; omega) | simp) _) | (refine below_trans ?_ (by assumption) (by first | omega | (simp; omega) | simp))))) (by first | omega | (simp; omega) | simp) (heap_alloc_new _ _) (by first | omega | (simp; omega) | simp)).mono ?_
            rintro e w5 ⟨A5, cap5, rfl, oO5, hgr5⟩
            have hs_w5 := hgr5.size
            (try simp only [World.size_drew, World.heap_drewN, World.size_alloc] at hs_w5)
            have hb_w5 : Below w.heap.size _ w5 := (Below.refl _ _).grown hgr5 (by first | omega | (simp; omega) | simp) HLT.out
            have j0 : w5.cell? ⟨wr.heap.size, 0, none⟩ = some (.int .u64 a) := hgr5.cell (by first | assumption | (simp [go_sem]; done) | exact (World.cell?_alloc_lt _ _ ⟨_, _, _⟩ (by first | omega | (simp; omega) | simp)).trans (by assumption)) HNE.out
            have j1 : w5.cell? ⟨wr.heap.size, 1, none⟩ = some (.int .u8 kk) := hgr5.cell (by first | assumption | (simp [go_sem]; done) | exact (World.cell?_alloc_lt _ _ ⟨_, _, _⟩ (by first | omega | (simp; omega) | simp)).trans (by assumption)) HNE.out
            have j2 : w5.cell? ⟨wr.heap.size, 2, none⟩ = some (.int .u64 t) := hgr5.cell (by first | assumption | (simp [go_sem]; done) | exact (World.cell?_alloc_lt _ _ ⟨_, _, _⟩ (by first | omega | (simp; omega) | simp)).trans (by assumption)) HNE.out
            try go_wp2_with fail
            refine hK.out _ _ ?_ (fun hHeld => ?_)
            · (try dsimp only); (refine ⟨?_, ?_, ?_⟩ <;> first | assumption | (simp [go_sem]; done) | exact (World.cell?_alloc_lt _ _ ⟨_, _, _⟩ (by first | omega | (simp; omega) | simp)).trans (by assumption))
            clear hK K
            try simp only [Act.put, List.getElem_toArray, List.getElem_cons_zero, List.getElem_cons_succ, List.setIfInBounds_toArray, List.set_cons_zero, List.set_cons_succ]
            refine wpAnyH_take (i := 8) (v := ?_) rfl (by kernel_rfl) (by kernel_rfl) (by kernel_rfl) (fun _ _ _ h => h) (Or.inl ⟨by rfl, ?_⟩) (by assumption) ?_
            rotate_left
            · (intro w hSw; (try dsimp only at hSw); go_simp; first | done | with_reducible rfl)
            try simp only [Act.put, List.getElem_toArray, List.getElem_cons_zero, List.getElem_cons_succ, List.setIfInBounds_toArray, List.set_cons_zero, List.set_cons_succ]
            refine wpAnyH_done (by kernel_rfl) ?_ _
            go_wp2_with fail
            go_roundw
            case rel => exact ⟨k + 1, by go_num, by omega, HP.out, n + 1, A5, cap5, HL.out, rfl, by rw [HF.out]; exact oO5, (by repeat (first | exact Below.refl _ _ | assumption | (refine below_drewN ?_ _) | (refine Below.drew ?_) | (refine Below.alloc ?_ (by first | omega | (simp; omega) | simp) _) | (refine Below.setCell ?_ (by first | omega | (simp; omega) | simp) _) | (refine below_trans ?_ (by assumption) (by first | omega | (simp; omega) | simp))))⟩
            case measure => simp [intOf]; omega
          · try simp only [List.getElem_toArray, List.getElem_cons_zero, List.getElem_cons_succ]
            go_simp
            refine hK.out _ _ ?_ (fun hHeld => ?_)
            · (try dsimp only); (refine ⟨?_, ?_, ?_⟩ <;> first | assumption | (simp [go_sem]; done) | exact (World.cell?_alloc_lt _ _ ⟨_, _, _⟩ (by first | omega | (simp; omega) | simp)).trans (by assumption))
            clear hK K
            try simp only [Act.put, List.getElem_toArray, List.getElem_cons_zero, List.getElem_cons_succ, List.setIfInBounds_toArray, List.set_cons_zero, List.set_cons_succ]
            refine wpAnyH_ready (rs := [4]) (by kernel_rfl) (by simp) ?_
            refine AllReadyH.cons rfl (fun K hK => ?_) AllReadyH.nil
            try simp only [List.getElem_toArray, List.getElem_cons_zero, List.getElem_cons_succ]
            go_simp
            go_at_call 25
            refine (HB.out _ (rO.later (by repeat (first | exact Below.refl _ _ | assumption | (refine below_drewN ?_ _) | (refine Below.drew ?_) | (refine Below.alloc ?_ (by first | omega | (simp; omega) | simp) _) | (refine Below.setCell ?_ (by first | omega | (simp; omega) | simp) _) | (refine below_trans ?_ (by assumption) (by first | omega | (simp; omega) | simp)))))).mono ?_
            rintro e w1 ⟨rfl, hb_w1⟩
            have hs_w1 := hb_w1.size
            (try simp only [World.size_drew, World.heap_drewN, World.size_alloc] at hs_w1)
            have mw10 : w1.cell? ⟨wr.heap.size, 0, none⟩ = some (.int .u64 a) := (hb_w1.cell (p := ⟨wr.heap.size, 0, none⟩) (by first | omega | (simp; omega) | simp)).trans (by first | assumption | (simp [go_sem]; done) | exact (World.cell?_alloc_lt _ _ ⟨_, _, _⟩ (by first | omega | (simp; omega) | simp)).trans (by assumption))
            have mw11 : w1.cell? ⟨wr.heap.size, 1, none⟩ = some (.int .u8 kk) := (hb_w1.cell (p := ⟨wr.heap.size, 1, none⟩) (by first | omega | (simp; omega) | simp)).trans (by first | assumption | (simp [go_sem]; done) | exact (World.cell?_alloc_lt _ _ ⟨_, _, _⟩ (by first | omega | (simp; omega) | simp)).trans (by assumption))
            have mw12 : w1.cell? ⟨wr.heap.size, 2, none⟩ = some (.int .u64 t) := (hb_w1.cell (p := ⟨wr.heap.size, 2, none⟩) (by first | omega | (simp; omega) | simp)).trans (by first | assumption | (simp [go_sem]; done) | exact (World.cell?_alloc_lt _ _ ⟨_, _, _⟩ (by first | omega | (simp; omega) | simp)).trans (by assumption))
            try go_wp2_with fail
            refine hK.out _ _ ?_ (fun hHeld => ?_)
            · (try dsimp only); (refine ⟨?_, ?_, ?_⟩ <;> first | assumption | (simp [go_sem]; done) | exact (World.cell?_alloc_lt _ _ ⟨_, _, _⟩ (by first | omega | (simp; omega) | simp)).trans (by assumption))
            clear hK K
            try simp only [Act.put, List.getElem_toArray, List.getElem_cons_zero, List.getElem_cons_succ, List.setIfInBounds_toArray, List.set_cons_zero, List.set_cons_succ]
            refine wpAnyH_ready (rs := [7]) (by kernel_rfl) (by simp) ?_
            refine AllReadyH.cons rfl (fun K hK => ?_) AllReadyH.nil
            try simp only [List.getElem_toArray, List.getElem_cons_zero, List.getElem_cons_succ]
            go_simp
            go_at_call 24
            refine (HI.out _ _ (owns_laterC oO (by repeat (first | exact Below.refl _ _ | assumption | (refine below_drewN ?_ _) | (refine Below.drew ?_) | (refine Below.alloc ?_ (by first | omega | (simp; omega) | simp) _) | (refine Below.setCell ?_ (by first | omega | (simp; omega) | simp) _) | (refine below_trans ?_ (by assumption) (by first | omega | (simp; omega) | simp))))) (by first | omega | (simp; omega) | simp) ((hb_w1.block _ (by simp)).trans (heap_alloc_new _ _)) (by first | omega | (simp; omega) | simp)).mono ?_
            rintro e w5 ⟨A5, cap5, rfl, oO5, hgr5⟩
            have hs_w5 := hgr5.size
            (try simp only [World.size_drew, World.heap_drewN, World.size_alloc] at hs_w5)
            have hb_w5 : Below w.heap.size _ w5 := (Below.refl _ _).grown hgr5 (by first | omega | (simp; omega) | simp) HLT.out
            have j0 : w5.cell? ⟨wr.heap.size, 0, none⟩ = some (.int .u64 a) := hgr5.cell (by first | assumption | (simp [go_sem]; done) | exact (World.cell?_alloc_lt _ _ ⟨_, _, _⟩ (by first | omega | (simp; omega) | simp)).trans (by assumption)) HNE.out
            have j1 : w5.cell? ⟨wr.heap.size, 1, none⟩ = some (.int .u8 kk) := hgr5.cell (by first | assumption | (simp [go_sem]; done) | exact (World.cell?_alloc_lt _ _ ⟨_, _, _⟩ (by first | omega | (simp; omega) | simp)).trans (by assumption)) HNE.out
            have j2 : w5.cell? ⟨wr.heap.size, 2, none⟩ = some (.int .u64 t) := hgr5.cell (by first | assumption | (simp [go_sem]; done) | exact (World.cell?_alloc_lt _ _ ⟨_, _, _⟩ (by first | omega | (simp; omega) | simp)).trans (by assumption)) HNE.out
            try go_wp2_with fail
            refine hK.out _ _ ?_ (fun hHeld => ?_)
            · (try dsimp only); (refine ⟨?_, ?_, ?_⟩ <;> first | assumption | (simp [go_sem]; done) | exact (World.cell?_alloc_lt _ _ ⟨_, _, _⟩ (by first | omega | (simp; omega) | simp)).trans (by assumption))
            clear hK K
            try simp only [Act.put, List.getElem_toArray, List.getElem_cons_zero, List.getElem_cons_succ, List.setIfInBounds_toArray, List.set_cons_zero, List.set_cons_succ]
            refine wpAnyH_take (i := 8) (v := ?_) rfl (by kernel_rfl) (by kernel_rfl) (by kernel_rfl) (fun _ _ _ h => h) (Or.inl ⟨by rfl, ?_⟩) (by assumption) ?_
            rotate_left
            · (intro w hSw; (try dsimp only at hSw); go_simp; first | done | with_reducible rfl)
            try simp only [Act.put, List.getElem_toArray, List.getElem_cons_zero, List.getElem_cons_succ, List.setIfInBounds_toArray, List.set_cons_zero, List.set_cons_succ]
            refine wpAnyH_done (by kernel_rfl) ?_ _
            go_wp2_with fail
            go_roundw
            case rel => exact ⟨k + 1, by go_num, by omega, HP.out, n + 1, A5, cap5, HL.out, rfl, by rw [HF.out]; exact oO5, (by repeat (first | exact Below.refl _ _ | assumption | (refine below_drewN ?_ _) | (refine Below.drew ?_) | (refine Below.alloc ?_ (by first | omega | (simp; omega) | simp) _) | (refine Below.setCell ?_ (by first | omega | (simp; omega) | simp) _) | (refine below_trans ?_ (by assumption) (by first | omega | (simp; omega) | simp))))⟩
            case measure => simp [intOf]; omega
        · obtain ⟨rfl, hy⟩ := hno hr0
          have HY := Lib.hid hy
          have HR := Lib.hid HR
          have hrn : (r != 0) = true := by simpa using hr0
          clear hno hnext hr0 hy HB
          obtain ⟨a, kk, t⟩ := s
          simp only at *
          unfold scv at HR
          simp only at HR
          go_wp2_with (first
            | (go_at_call 23; refine (HR.out _ (rO.later (by repeat (first | exact Below.refl _ _ | assumption | (refine below_drewN ?_ _) | (refine Below.drew ?_) | (refine Below.alloc ?_ (by first | omega | (simp; omega) | simp) _) | (refine Below.setCell ?_ (by first | omega | (simp; omega) | simp) _) | (refine below_trans ?_ (by assumption) (by first | omega | (simp; omega) | simp)))))).mono ?_; rintro e w0 ⟨rfl, hb_w0⟩; obtain ⟨hc_w0, hf_w0⟩ := bcell hb_w0; have hz_w0_wr_0 : wr.heap.size < w0.heap.size := (by have hzz := hb_w0.size; (try simp only [World.size_alloc, World.size_setCell, World.size_drew, World.heap_drewN] at hzz); omega); have hs_w0 := hb_w0.size; (try simp only [World.size_alloc, World.size_setCell, World.size_drew, World.heap_drewN] at hs_w0))
            | (go_at_call 22; refine (HCl.out _ (hr.later (by repeat (first | exact Below.refl _ _ | assumption | (refine below_drewN ?_ _) | (refine Below.drew ?_) | (refine Below.alloc ?_ (by first | omega | (simp; omega) | simp) _) | (refine Below.setCell ?_ (by first | omega | (simp; omega) | simp) _) | (refine below_trans ?_ (by assumption) (by first | omega | (simp; omega) | simp)))))).mono ?_; rintro e w3 ⟨A3, cap3, rfl, oc3, hb_w3⟩))
          go_ret2
          exact ⟨A3, cap3, by rw [HY.out]; rfl, owns_monoC oc3 (by first | omega | (simp; omega) | simp), (by repeat (first | exact Below.refl _ _ | assumption | (refine below_drewN ?_ _) | (refine Below.drew ?_) | (refine Below.alloc ?_ (by first | omega | (simp; omega) | simp) _) | (refine Below.setCell ?_ (by first | omega | (simp; omega) | simp) _) | (refine below_trans ?_ (by assumption) (by first | omega | (simp; omega) | simp))))⟩
      · obtain rfl : k = more.length := by omega
        obtain ⟨h1, h2⟩ := HE.out.ok HO.out HP0.out
        have H1 := Lib.hid h1
        subst h2
        have o2 := of_ownsC hn0 oO
        rw [← h1] at o2
        have HL2 : Hid (n = l'.length) := Lib.hid (by rw [h1]; exact hn0.symm)
        clear h1 hn0 hok'
        go_wp2
        go_ret2
        exact ⟨AO, capO, by rw [← HL2.out]; rfl, o2, (by repeat (first | exact Below.refl _ _ | assumption | (refine below_drewN ?_ _) | (refine Below.drew ?_) | (refine Below.alloc ?_ (by first | omega | (simp; omega) | simp) _) | (refine Below.setCell ?_ (by first | omega | (simp; omega) | simp) _) | (refine below_trans ?_ (by assumption) (by first | omega | (simp; omega) | simp))))⟩
  · obtain ⟨rfl, rfl⟩ := hE.bad hok
    have HC := Lib.hid fun (w : World) hr => ccheck_any (w := w) (A := A) (l := l) cap hr hcl hl 2 (.inr ⟨hok, rfl⟩)
    clear hE hok
    go_enter Try.func10, Try.ntmps10
    go_wp2_with fail
    go_at_call 20
    refine (HC.out _ (hr.later (by repeat (first | exact Below.refl _ _ | assumption | (refine below_drewN ?_ _) | (refine Below.drew ?_) | (refine Below.alloc ?_ (by first | omega | (simp; omega) | simp) _) | (refine Below.setCell ?_ (by first | omega | (simp; omega) | simp) _) | (refine below_trans ?_ (by assumption) (by first | omega | (simp; omega) | simp)))))).mono ?_
    rintro e w1 ⟨rfl, hb_w1⟩
    obtain ⟨hc_w1, hf_w1⟩ := bcell hb_w1; have hs_w1 := hb_w1.size; (try simp only [World.size_alloc, World.size_setCell, World.size_drew, World.heap_drewN] at hs_w1)
    go_wp2
    go_ret2
    exact ⟨none, 0, rfl, World.ownsRow_nil _ _ _ _, (by repeat (first | exact Below.refl _ _ | assumption | (refine below_drewN ?_ _) | (refine Below.drew ?_) | (refine Below.alloc ?_ (by first | omega | (simp; omega) | simp) _) | (refine Below.setCell ?_ (by first | omega | (simp; omega) | simp) _) | (refine below_trans ?_ (by assumption) (by first | omega | (simp; omega) | simp))))⟩
end
end Go.Proofs.Ytamnfgpoelbgcaa
