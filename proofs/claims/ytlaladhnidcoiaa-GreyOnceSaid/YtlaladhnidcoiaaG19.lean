/- The walk of the law GreySteals. -/
import Derived.Test.YtlaladhnidcoiaaG18
namespace Go.Proofs.Ytlaladhnidcoiaa
open Go.RowKit
set_option linter.unusedVariables false
set_option linter.unusedSimpArgs false

/-- what Pop has done, where it has popped -/
structure PopOk (qs r : List (List Nat)) (k a : Nat) (s : Bool) : Prop where
  hk : k < qs.length
  ok : OkG qs
  okr : OkG r
  len : r.length = qs.length
  fl : qs.flatten.length = r.flatten.length + 1
  le : ∀ i, (nq r i).length ≤ (nq qs i).length
  own : s = true ↔ (nq qs k).length = 0
  same : s = true → nq r k = nq qs k
  nz : a ≠ 0
  perm : qs.flatten.Perm (a :: r.flatten)
theorem pop_perm {qs : List (List Nat)} {m a : Nat} {q' : List Nat} (hm : m < qs.length) (hp : (nq qs m).Perm (a :: q')) : qs.flatten.Perm (a :: (qs.set m q').flatten) := by
  rw [flat_set qs m q' hm, flat_split qs m hm]
  refine (((List.Perm.append_left _ hp).append_right _).trans ?_)
  rw [List.append_assoc, List.append_assoc, List.cons_append]
  exact List.perm_middle
theorem PopOk.of {qs : List (List Nat)} {k m a : Nat} {q' : List Nat} {s : Bool} (h : OkG qs) (hk : k < qs.length) (hm : m < qs.length) (hp : (nq qs m).Perm (a :: q')) (ho : s = true ↔ (nq qs k).length = 0) (hs : s = true → k ≠ m) : PopOk qs (qs.set m q') k a s := by
  have hpp := pop_perm hm hp
  have hnd := hpp.nodup_iff.1 h.nd
  rw [List.nodup_cons] at hnd
  have hl := hpp.length_eq
  rw [List.length_cons] at hl
  refine ⟨hk, h, ⟨by rw [List.length_set]; exact h.lo, by rw [List.length_set]; exact h.hi, by have := h.len; omega, fun b hb => h.nz b (hpp.mem_iff.2 (List.mem_cons_of_mem _ hb)), hnd.2⟩, by rw [List.length_set], hl, fun i => ?_, ho, fun e => ?_, h.nz a (hpp.mem_iff.2 (List.mem_cons_self ..)), hpp⟩
  · rw [nq_set _ _ _ _ hm]
    split
    · rename_i e
      subst e
      have := hp.length_eq
      rw [List.length_cons] at this
      omega
    · exact Nat.le_refl _
  · rw [nq_set _ _ _ _ hm, if_neg (hs e)]
theorem PopE.ok {qs r : List (List Nat)} {x : Int} {a : Nat} {s : Bool} (h : PopE qs x r a s 0) : ∃ k : Nat, x = k ∧ PopOk qs r k a s := by
  rcases h with ⟨_, _, _, _, h⟩ | ⟨_, _, _, _, _, h⟩ | ⟨h1, h2, h3, rfl, rfl, rfl, _⟩ | ⟨_, _, _, _, _, _, _, h⟩ | ⟨h1, h2, h3, h4, rfl, rfl, rfl, _⟩
  · exact absurd h (by decide)
  · exact absurd h (by decide)
  · obtain ⟨k, rfl⟩ := Int.eq_ofNat_of_zero_le h2.1
    simp only [Int.toNat_natCast] at *
    have hk : k < qs.length := by have := h2.2; omega
    refine ⟨k, rfl, PopOk.of h1 hk hk ?_ ⟨fun e => (by cases e), fun e => by omega⟩ (fun e => by cases e)⟩
    generalize nq qs k = q at h3 ⊢
    have hl : q.length - 1 < q.length := by omega
    have ht := take_next q (q.length - 1) hl
    rw [show q.length - 1 + 1 = q.length by omega, List.take_length] at ht
    have e := List.perm_append_comm (l₁ := q.take (q.length - 1)) (l₂ := [q.getD (q.length - 1) 0])
    rw [← ht] at e
    exact e
  · exact absurd h (by decide)
  · obtain ⟨k, rfl⟩ := Int.eq_ofNat_of_zero_le h2.1
    simp only [Int.toNat_natCast] at *
    have hk : k < qs.length := by have := h2.2; omega
    refine ⟨k, rfl, PopOk.of h1 hk (lng_lt h1.lo) ?_ ⟨fun _ => h3, fun _ => rfl⟩ (fun _ e => by rw [← e] at h4; omega)⟩
    generalize nq qs (lng qs) = q at h4 ⊢
    have hd := drop_here q 0 h4
    rw [List.drop_zero] at hd
    rw [← hd]
theorem longest_zero {qs : List (List Nat)} (h : (nq qs (lng qs)).length = 0) : qs.flatten.length = 0 := by
  have : ∀ q ∈ qs, q = [] := fun q hq => by
    obtain ⟨i, hi, rfl⟩ := List.getElem_of_mem hq
    have := longK_max (qs := qs) qs.length i hi
    rw [nq_get _ _ hi] at this
    unfold lng at h
    exact List.eq_nil_of_length_eq_zero (by omega)
  have e : qs.flatten = [] := List.flatten_eq_nil_iff.2 this
  rw [e]
  rfl
set_option maxHeartbeats 8000000 in
theorem greySteals_walk (A : Option Addr) (cap : Nat) (qs : List (List Nat)) (x : Int) (w : World) (hr : GRow w A qs) (hx : -9223372036854775808 ≤ x ∧ x ≤ 9223372036854775807) :
    Calls Try.prog 7 #[.agg #[.slice A qs.length cap], .int .i64 x] w fun e w' => e = .returned (.bool true) ∧ Below w.heap.size w w' := by
  obtain ⟨r, a, s, y, hE⟩ := PopE.ex qs x
  have HO := Lib.hid fun (w : World) hr => gpop_any (w := w) (A := A) (qs := qs) cap hr x hx _ _ _ _ hE
  unfold PopG at HO
  by_cases hy0 : y = 0
  rotate_left
  · obtain ⟨m, z, hM⟩ := ManE.ex qs
    have HM := Lib.hid fun (w : World) hr => gmany_any (w := w) (A := A) (qs := qs) cap hr _ _ hM
    have d1 : (y != 0) = true := by simpa using hy0
    have hz : a = 0 ∧ s = false ∧ (y = 3 → m = 0 ∧ z = 0) := by
      rcases hE with ⟨_, _, h1, h2, h3⟩ | ⟨_, _, _, h1, h2, h3⟩ | ⟨_, _, _, _, _, _, h⟩ | ⟨h0, _, _, hl, _, h1, h2, h3⟩ | ⟨_, _, _, _, _, _, _, h⟩
      · exact ⟨h1, h2, fun h => by rw [h3] at h; exact absurd h (by decide)⟩
      · exact ⟨h1, h2, fun h => by rw [h3] at h; exact absurd h (by decide)⟩
      · exact absurd h hy0
      · refine ⟨h1, h2, fun _ => ?_⟩
        rcases hM with ⟨h, _⟩ | ⟨_, hm, hz⟩
        · exact absurd h0 h
        · exact ⟨by rw [hm]; exact longest_zero hl, hz⟩
      · exact absurd h hy0
    obtain ⟨rfl, rfl, hz3⟩ := hz
    by_cases hy3 : y = 3
    · obtain ⟨rfl, rfl⟩ := hz3 hy3
      subst hy3
      clear hE hM hy0 hz3
      unfold gv at *
      go_enter Try.func7, Try.ntmps7
      go_wp2_with fail
      go_at_call 14
      refine (glives_any _).mono ?_
      rintro e w0 ⟨rfl, hb_w0⟩
      obtain ⟨hc_w0, hf_w0⟩ := bcell hb_w0; have hs_w0 := hb_w0.size; (try simp only [World.size_alloc, World.size_setCell, World.size_drew, World.heap_drewN] at hs_w0)
      have k_w0 : Below w.heap.size w w0 := (by repeat (first | exact Below.refl _ _ | assumption | (refine below_drewN ?_ _) | (refine Below.drew ?_) | (refine Below.alloc ?_ (by first | omega | (simp; omega) | simp) _) | (refine Below.setCell ?_ (by first | omega | (simp; omega) | simp) _) | (refine below_trans ?_ (by assumption) (by first | omega | (simp; omega) | simp))))
      have b_w0 := k_w0
      have P2 := ((Bx.new w _ _).later hb_w0 : Bx w0 _ _)
      (try simp only [World.size_alloc] at P2)
      clear hc_w0 hf_w0
      obtain ⟨P2_c, P2_f⟩ := id P2
      have P2_l := P2.lt
      go_wp2_with fail
      go_at_call 12
      refine (HO.out _ ((hr.later b_w0).later (by repeat (first | exact Below.refl _ _ | assumption | (refine below_drewN ?_ _) | (refine Below.drew ?_) | (refine Below.alloc ?_ (by first | omega | (simp; omega) | simp) _) | (refine Below.setCell ?_ (by first | omega | (simp; omega) | simp) _) | (refine below_trans ?_ (by assumption) (by first | omega | (simp; omega) | simp)))))).mono ?_
      rintro e w1 ⟨B1, c1, rfl, o1, hb_w1⟩
      obtain ⟨hc_w1, hf_w1⟩ := bcell hb_w1; have hs_w1 := hb_w1.size; (try simp only [World.size_alloc, World.size_setCell, World.size_drew, World.heap_drewN] at hs_w1)
      have k_w1 : Below w0.heap.size w0 w1 := (by repeat (first | exact Below.refl _ _ | assumption | (refine below_drewN ?_ _) | (refine Below.drew ?_) | (refine Below.alloc ?_ (by first | omega | (simp; omega) | simp) _) | (refine Below.setCell ?_ (by first | omega | (simp; omega) | simp) _) | (refine below_trans ?_ (by assumption) (by first | omega | (simp; omega) | simp))))
      have b_w1 : Below w.heap.size w w1 := below_trans b_w0 k_w1 (by first | omega | (simp; omega) | simp)
      clear P2_c P2_f P2_l
      have P2 := (P2.later k_w1 : Bx w1 _ _)
      clear hc_w1 hf_w1
      obtain ⟨P2_c, P2_f⟩ := id P2
      have P2_l := P2.lt
      have ra := o1.row
      clear o1
      go_wp2_with fail
      go_at_call 16
      refine (HM.out _ ((hr.later b_w1).later (by repeat (first | exact Below.refl _ _ | assumption | (refine below_drewN ?_ _) | (refine Below.drew ?_) | (refine Below.alloc ?_ (by first | omega | (simp; omega) | simp) _) | (refine Below.setCell ?_ (by first | omega | (simp; omega) | simp) _) | (refine below_trans ?_ (by assumption) (by first | omega | (simp; omega) | simp)))))).mono ?_
      rintro e w2 ⟨rfl, hb_w2⟩
      obtain ⟨hc_w2, hf_w2⟩ := bcell hb_w2; have hs_w2 := hb_w2.size; (try simp only [World.size_alloc, World.size_setCell, World.size_drew, World.heap_drewN] at hs_w2)
      have k_w2 : Below w1.heap.size w1 w2 := (by repeat (first | exact Below.refl _ _ | assumption | (refine below_drewN ?_ _) | (refine Below.drew ?_) | (refine Below.alloc ?_ (by first | omega | (simp; omega) | simp) _) | (refine Below.setCell ?_ (by first | omega | (simp; omega) | simp) _) | (refine below_trans ?_ (by assumption) (by first | omega | (simp; omega) | simp))))
      have b_w2 : Below w.heap.size w w2 := below_trans b_w1 k_w2 (by first | omega | (simp; omega) | simp)
      clear P2_c P2_f P2_l
      have P2 := (P2.later k_w2 : Bx w2 _ _)
      have P5 := ((Bx.new w1 _ _).later hb_w2 : Bx w2 _ _)
      (try simp only [World.size_alloc] at P5)
      have ra := ra.later k_w2
      clear hc_w2 hf_w2
      obtain ⟨P2_c, P2_f⟩ := id P2
      have P2_l := P2.lt
      obtain ⟨P5_c, P5_f⟩ := id P5
      have P5_l := P5.lt
      go_wp2
      go_ret
      exact ⟨rfl, b_w2⟩
    · have d2 : (y != 3) = true := by simpa using hy3
      clear hE hM hy0 hz3 hy3
      unfold gv at *
      go_enter Try.func7, Try.ntmps7
      go_wp2_with fail
      go_at_call 14
      refine (glives_any _).mono ?_
      rintro e w0 ⟨rfl, hb_w0⟩
      obtain ⟨hc_w0, hf_w0⟩ := bcell hb_w0; have hs_w0 := hb_w0.size; (try simp only [World.size_alloc, World.size_setCell, World.size_drew, World.heap_drewN] at hs_w0)
      have k_w0 : Below w.heap.size w w0 := (by repeat (first | exact Below.refl _ _ | assumption | (refine below_drewN ?_ _) | (refine Below.drew ?_) | (refine Below.alloc ?_ (by first | omega | (simp; omega) | simp) _) | (refine Below.setCell ?_ (by first | omega | (simp; omega) | simp) _) | (refine below_trans ?_ (by assumption) (by first | omega | (simp; omega) | simp))))
      have b_w0 := k_w0
      have P2 := ((Bx.new w _ _).later hb_w0 : Bx w0 _ _)
      (try simp only [World.size_alloc] at P2)
      clear hc_w0 hf_w0
      obtain ⟨P2_c, P2_f⟩ := id P2
      have P2_l := P2.lt
      go_wp2_with fail
      go_at_call 12
      refine (HO.out _ ((hr.later b_w0).later (by repeat (first | exact Below.refl _ _ | assumption | (refine below_drewN ?_ _) | (refine Below.drew ?_) | (refine Below.alloc ?_ (by first | omega | (simp; omega) | simp) _) | (refine Below.setCell ?_ (by first | omega | (simp; omega) | simp) _) | (refine below_trans ?_ (by assumption) (by first | omega | (simp; omega) | simp)))))).mono ?_
      rintro e w1 ⟨B1, c1, rfl, o1, hb_w1⟩
      obtain ⟨hc_w1, hf_w1⟩ := bcell hb_w1; have hs_w1 := hb_w1.size; (try simp only [World.size_alloc, World.size_setCell, World.size_drew, World.heap_drewN] at hs_w1)
      have k_w1 : Below w0.heap.size w0 w1 := (by repeat (first | exact Below.refl _ _ | assumption | (refine below_drewN ?_ _) | (refine Below.drew ?_) | (refine Below.alloc ?_ (by first | omega | (simp; omega) | simp) _) | (refine Below.setCell ?_ (by first | omega | (simp; omega) | simp) _) | (refine below_trans ?_ (by assumption) (by first | omega | (simp; omega) | simp))))
      have b_w1 : Below w.heap.size w w1 := below_trans b_w0 k_w1 (by first | omega | (simp; omega) | simp)
      clear P2_c P2_f P2_l
      have P2 := (P2.later k_w1 : Bx w1 _ _)
      clear hc_w1 hf_w1
      obtain ⟨P2_c, P2_f⟩ := id P2
      have P2_l := P2.lt
      have ra := o1.row
      clear o1
      go_wp2_with fail
      go_at_call 16
      refine (HM.out _ ((hr.later b_w1).later (by repeat (first | exact Below.refl _ _ | assumption | (refine below_drewN ?_ _) | (refine Below.drew ?_) | (refine Below.alloc ?_ (by first | omega | (simp; omega) | simp) _) | (refine Below.setCell ?_ (by first | omega | (simp; omega) | simp) _) | (refine below_trans ?_ (by assumption) (by first | omega | (simp; omega) | simp)))))).mono ?_
      rintro e w2 ⟨rfl, hb_w2⟩
      obtain ⟨hc_w2, hf_w2⟩ := bcell hb_w2; have hs_w2 := hb_w2.size; (try simp only [World.size_alloc, World.size_setCell, World.size_drew, World.heap_drewN] at hs_w2)
      have k_w2 : Below w1.heap.size w1 w2 := (by repeat (first | exact Below.refl _ _ | assumption | (refine below_drewN ?_ _) | (refine Below.drew ?_) | (refine Below.alloc ?_ (by first | omega | (simp; omega) | simp) _) | (refine Below.setCell ?_ (by first | omega | (simp; omega) | simp) _) | (refine below_trans ?_ (by assumption) (by first | omega | (simp; omega) | simp))))
      have b_w2 : Below w.heap.size w w2 := below_trans b_w1 k_w2 (by first | omega | (simp; omega) | simp)
      clear P2_c P2_f P2_l
      have P2 := (P2.later k_w2 : Bx w2 _ _)
      have P5 := ((Bx.new w1 _ _).later hb_w2 : Bx w2 _ _)
      (try simp only [World.size_alloc] at P5)
      have ra := ra.later k_w2
      clear hc_w2 hf_w2
      obtain ⟨P2_c, P2_f⟩ := id P2
      have P2_l := P2.lt
      obtain ⟨P5_c, P5_f⟩ := id P5
      have P5_l := P5.lt
      go_wp2
      go_ret
      exact ⟨rfl, b_w2⟩
  subst hy0
  obtain ⟨k, rfl, hP⟩ := hE.ok
  have HP := Lib.hid hP
  have hkq := hP.hk
  have hl16 := hP.ok.len
  have hnz := hP.nz
  have hfl := hP.fl
  have hcnt : r.flatten.count a = 0 := List.count_eq_zero.2 (fun h => by
    have := hP.perm.nodup_iff.1 hP.ok.nd
    rw [List.nodup_cons] at this
    exact this.1 h)
  obtain ⟨m, hm⟩ : ∃ m, r.flatten.length = m := ⟨_, rfl⟩
  have HM := Lib.hid fun (w : World) hr => gmany_any (w := w) (A := A) (qs := qs) cap hr (m + 1) 0 (.inr ⟨hP.ok, by rw [hfl, hm], rfl⟩)
  have HM2 := Lib.hid fun (w : World) (A : Option Addr) (cap : Nat) hr => gmany_any (w := w) (A := A) (qs := r) cap hr m 0 (.inr ⟨hP.okr, hm.symm, rfl⟩)
  have HHS := Lib.hid fun (w : World) (A : Option Addr) (cap : Nat) hr => xghas_any (w := w) (A := A) (qs := r) cap hr hP.okr.hi (by have := hP.okr.len; omega) a 0 hcnt
  have hm16 : m ≤ 16384 := by omega
  have d1 : ((a : Int) != 0) = true := by simp; omega
  have e1 : IntKind.i64.wrap ((m : Int) + 1 - (m : Int)) = 1 := by rw [IntWalk.i64_in _ (by omega)]; omega
  have e2 : IntKind.i64.wrap 1 = 1 := by decide
  have e3 : (m : Int) + 1 - (m : Int) = 1 := by omega
  obtain ⟨n, hnn⟩ : ∃ n, Hid (qs.length = n) := ⟨_, rfl⟩
  have hrn : Hid (r.length = n) := Lib.hid (hP.len.trans hnn.out)
  rw [hnn.out, hrn.out] at HO
  rw [hnn.out] at HM hkq ⊢
  rw [hrn.out] at HM2 HHS
  have hn4 : n ≤ 4 := by rw [← hnn.out]; exact hP.ok.hi
  have HNN := Lib.hid hnn.out
  have HRN := Lib.hid hrn.out
  clear hE hP hnz hfl hcnt hm hl16
  cases s
  · have hown := HP.out.own
    have hsame := HP.out.same
    obtain ⟨lo, hlo⟩ : ∃ lo, Hid ((nq qs k).length = lo) := ⟨_, rfl⟩
    have hlo0 : lo ≠ 0 := fun e => by have := hown.2 (hlo.out.trans e); cases this
    have g1 : ((lo : Int) == 0) = false := beq_eq_false_iff_ne.2 (by omega)
    have g2 : (false == false) = true := rfl
    have hlop : ¬ (lo = 0) := hlo0
    clear hown hsame
    unfold gv at *
    go_enter Try.func7, Try.ntmps7
    go_wp2_with fail
    go_at_call 14
    refine (glives_any _).mono ?_
    rintro e w0 ⟨rfl, hb_w0⟩
    obtain ⟨hc_w0, hf_w0⟩ := bcell hb_w0; have hs_w0 := hb_w0.size; (try simp only [World.size_alloc, World.size_setCell, World.size_drew, World.heap_drewN] at hs_w0)
    have k_w0 : Below w.heap.size w w0 := (by repeat (first | exact Below.refl _ _ | assumption | (refine below_drewN ?_ _) | (refine Below.drew ?_) | (refine Below.alloc ?_ (by first | omega | (simp; omega) | simp) _) | (refine Below.setCell ?_ (by first | omega | (simp; omega) | simp) _) | (refine below_trans ?_ (by assumption) (by first | omega | (simp; omega) | simp))))
    have b_w0 := k_w0
    have P2 := ((Bx.new w _ _).later hb_w0 : Bx w0 _ _)
    (try simp only [World.size_alloc] at P2)
    clear hc_w0 hf_w0
    obtain ⟨P2_c, P2_f⟩ := id P2
    have P2_l := P2.lt
    go_wp2_with fail
    go_at_call 12
    refine (HO.out _ ((hr.later b_w0).later (by repeat (first | exact Below.refl _ _ | assumption | (refine below_drewN ?_ _) | (refine Below.drew ?_) | (refine Below.alloc ?_ (by first | omega | (simp; omega) | simp) _) | (refine Below.setCell ?_ (by first | omega | (simp; omega) | simp) _) | (refine below_trans ?_ (by assumption) (by first | omega | (simp; omega) | simp)))))).mono ?_
    rintro e w1 ⟨B1, c1, rfl, o1, hb_w1⟩
    obtain ⟨hc_w1, hf_w1⟩ := bcell hb_w1; have hs_w1 := hb_w1.size; (try simp only [World.size_alloc, World.size_setCell, World.size_drew, World.heap_drewN] at hs_w1)
    have k_w1 : Below w0.heap.size w0 w1 := (by repeat (first | exact Below.refl _ _ | assumption | (refine below_drewN ?_ _) | (refine Below.drew ?_) | (refine Below.alloc ?_ (by first | omega | (simp; omega) | simp) _) | (refine Below.setCell ?_ (by first | omega | (simp; omega) | simp) _) | (refine below_trans ?_ (by assumption) (by first | omega | (simp; omega) | simp))))
    have b_w1 : Below w.heap.size w w1 := below_trans b_w0 k_w1 (by first | omega | (simp; omega) | simp)
    clear P2_c P2_f P2_l
    have P2 := (P2.later k_w1 : Bx w1 _ _)
    clear hc_w1 hf_w1
    obtain ⟨P2_c, P2_f⟩ := id P2
    have P2_l := P2.lt
    have ra := o1.row
    clear o1
    go_wp2_with fail
    go_at_call 16
    refine (HM.out _ ((hr.later b_w1).later (by repeat (first | exact Below.refl _ _ | assumption | (refine below_drewN ?_ _) | (refine Below.drew ?_) | (refine Below.alloc ?_ (by first | omega | (simp; omega) | simp) _) | (refine Below.setCell ?_ (by first | omega | (simp; omega) | simp) _) | (refine below_trans ?_ (by assumption) (by first | omega | (simp; omega) | simp)))))).mono ?_
    rintro e w2 ⟨rfl, hb_w2⟩
    obtain ⟨hc_w2, hf_w2⟩ := bcell hb_w2; have hs_w2 := hb_w2.size; (try simp only [World.size_alloc, World.size_setCell, World.size_drew, World.heap_drewN] at hs_w2)
    have k_w2 : Below w1.heap.size w1 w2 := (by repeat (first | exact Below.refl _ _ | assumption | (refine below_drewN ?_ _) | (refine Below.drew ?_) | (refine Below.alloc ?_ (by first | omega | (simp; omega) | simp) _) | (refine Below.setCell ?_ (by first | omega | (simp; omega) | simp) _) | (refine below_trans ?_ (by assumption) (by first | omega | (simp; omega) | simp))))
    have b_w2 : Below w.heap.size w w2 := below_trans b_w1 k_w2 (by first | omega | (simp; omega) | simp)
    clear P2_c P2_f P2_l
    have P2 := (P2.later k_w2 : Bx w2 _ _)
    have P5 := ((Bx.new w1 _ _).later hb_w2 : Bx w2 _ _)
    (try simp only [World.size_alloc] at P5)
    have ra := ra.later k_w2
    clear hc_w2 hf_w2
    obtain ⟨P2_c, P2_f⟩ := id P2
    have P2_l := P2.lt
    obtain ⟨P5_c, P5_f⟩ := id P5
    have P5_l := P5.lt
    go_wp2_with fail
    go_at_call 16
    refine (HM2.out _ _ _ (ra.later (by repeat (first | exact Below.refl _ _ | assumption | (refine below_drewN ?_ _) | (refine Below.drew ?_) | (refine Below.alloc ?_ (by first | omega | (simp; omega) | simp) _) | (refine Below.setCell ?_ (by first | omega | (simp; omega) | simp) _) | (refine below_trans ?_ (by assumption) (by first | omega | (simp; omega) | simp)))))).mono ?_
    rintro e w3 ⟨rfl, hb_w3⟩
    obtain ⟨hc_w3, hf_w3⟩ := bcell hb_w3; have hs_w3 := hb_w3.size; (try simp only [World.size_alloc, World.size_setCell, World.size_drew, World.heap_drewN] at hs_w3)
    have k_w3 : Below w2.heap.size w2 w3 := (by repeat (first | exact Below.refl _ _ | assumption | (refine below_drewN ?_ _) | (refine Below.drew ?_) | (refine Below.alloc ?_ (by first | omega | (simp; omega) | simp) _) | (refine Below.setCell ?_ (by first | omega | (simp; omega) | simp) _) | (refine below_trans ?_ (by assumption) (by first | omega | (simp; omega) | simp))))
    have b_w3 : Below w.heap.size w w3 := below_trans b_w2 k_w3 (by first | omega | (simp; omega) | simp)
    clear P2_c P2_f P2_l
    have P2 := (P2.later k_w3 : Bx w3 _ _)
    clear P5_c P5_f P5_l
    have P5 := (P5.later k_w3 : Bx w3 _ _)
    have ra := ra.later k_w3
    clear hc_w3 hf_w3
    obtain ⟨P2_c, P2_f⟩ := id P2
    have P2_l := P2.lt
    obtain ⟨P5_c, P5_f⟩ := id P5
    have P5_l := P5.lt
    have hg := hr.later b_w3
    obtain ⟨bg, og, eg, hbg, hcg⟩ := hg.at_ (by have := HNN.out; omega)
    obtain ⟨bh, oh, eh, hbh, hch⟩ := ra.at_ (by have := HRN.out; omega)
    obtain ⟨Ak, ck, q1, _⟩ := hcg k (by have := HNN.out; omega)
    rw [hlo.out] at q1
    have j1 : (k : Int) < (n : Int) := by omega
    have j2 : (0 : Int) ≤ (k : Int) := by omega
    have HG := Lib.hid hg
    have HRA := Lib.hid ra
    have HCG := Lib.hid hcg
    have HCH := Lib.hid hch
    have eg0 := eg
    have eh0 := eh
    subst eg eh
    clear hcg hch hg ra
    go_wp2_with fail
    go_loopw [72] (fun ii wr => ∃ i : Nat, ii = .int .i64 (i : Nat) ∧ i ≤ n ∧ wr = w3) (fun ii _ => n - (intOf ii).toNat)
    case atStart => exact ⟨0, rfl, Nat.zero_le _, by first | rfl | trivial⟩
    case round =>
      obtain ⟨i, rfl, hi, rfl⟩ := hrel
      by_cases hlt : i < n
      · obtain ⟨Ai, ci, x1, _⟩ := HCG.out i (by rw [HNN.out]; exact hlt)
        obtain ⟨Aj, cj, x2, _⟩ := HCH.out i (by rw [HRN.out]; exact hlt)
        have hle := HP.out.le i
        obtain ⟨li, e2⟩ : ∃ li, (nq qs i).length = li := ⟨_, rfl⟩
        obtain ⟨lj, e1⟩ : ∃ lj, (nq r i).length = lj := ⟨_, rfl⟩
        rw [e2] at x1 hle
        rw [e1] at x2 hle
        have i1 : (i : Int) < (n : Int) := by omega
        have i2 : (0 : Int) ≤ (i : Int) := by omega
        have d1 : decide ((li : Int) < (lj : Int)) = false := by simp; omega
        clear e1 e2
        go_wp2
        go_roundw
        case rel => exact ⟨i + 1, by go_num, by omega, by first | rfl | trivial⟩
        case measure => simp [intOf]; omega
      · go_wp2_with fail
        go_at_call 22
        refine (HHS.out _ _ _ (HRA.out.later (by repeat (first | exact Below.refl _ _ | assumption | (refine below_drewN ?_ _) | (refine Below.drew ?_) | (refine Below.alloc ?_ (by first | omega | (simp; omega) | simp) _) | (refine Below.setCell ?_ (by first | omega | (simp; omega) | simp) _) | (refine below_trans ?_ (by assumption) (by first | omega | (simp; omega) | simp)))))).mono ?_
        rintro e w4 ⟨rfl, hb_w4⟩
        go_wp2
        go_ret
        exact ⟨rfl, (by repeat (first | exact Below.refl _ _ | assumption | (refine below_drewN ?_ _) | (refine Below.drew ?_) | (refine Below.alloc ?_ (by first | omega | (simp; omega) | simp) _) | (refine Below.setCell ?_ (by first | omega | (simp; omega) | simp) _) | (refine below_trans ?_ (by assumption) (by first | omega | (simp; omega) | simp))))⟩
  · have hown := HP.out.own
    have hsame := HP.out.same
    obtain ⟨lo, hlo⟩ : ∃ lo, Hid ((nq qs k).length = lo) := ⟨_, rfl⟩
    have hlo0 : lo = 0 := by rw [← hlo.out]; exact hown.1 rfl
    have HLO0 := Lib.hid hlo0
    have g1 : ((lo : Int) == 0) = true := by rw [hlo0]; rfl
    have hsame := hsame rfl
    have HSM := Lib.hid hsame
    clear hlo0
    clear hown hsame
    unfold gv at *
    go_enter Try.func7, Try.ntmps7
    go_wp2_with fail
    go_at_call 14
    refine (glives_any _).mono ?_
    rintro e w0 ⟨rfl, hb_w0⟩
    obtain ⟨hc_w0, hf_w0⟩ := bcell hb_w0; have hs_w0 := hb_w0.size; (try simp only [World.size_alloc, World.size_setCell, World.size_drew, World.heap_drewN] at hs_w0)
    have k_w0 : Below w.heap.size w w0 := (by repeat (first | exact Below.refl _ _ | assumption | (refine below_drewN ?_ _) | (refine Below.drew ?_) | (refine Below.alloc ?_ (by first | omega | (simp; omega) | simp) _) | (refine Below.setCell ?_ (by first | omega | (simp; omega) | simp) _) | (refine below_trans ?_ (by assumption) (by first | omega | (simp; omega) | simp))))
    have b_w0 := k_w0
    have P2 := ((Bx.new w _ _).later hb_w0 : Bx w0 _ _)
    (try simp only [World.size_alloc] at P2)
    clear hc_w0 hf_w0
    obtain ⟨P2_c, P2_f⟩ := id P2
    have P2_l := P2.lt
    go_wp2_with fail
    go_at_call 12
    refine (HO.out _ ((hr.later b_w0).later (by repeat (first | exact Below.refl _ _ | assumption | (refine below_drewN ?_ _) | (refine Below.drew ?_) | (refine Below.alloc ?_ (by first | omega | (simp; omega) | simp) _) | (refine Below.setCell ?_ (by first | omega | (simp; omega) | simp) _) | (refine below_trans ?_ (by assumption) (by first | omega | (simp; omega) | simp)))))).mono ?_
    rintro e w1 ⟨B1, c1, rfl, o1, hb_w1⟩
    obtain ⟨hc_w1, hf_w1⟩ := bcell hb_w1; have hs_w1 := hb_w1.size; (try simp only [World.size_alloc, World.size_setCell, World.size_drew, World.heap_drewN] at hs_w1)
    have k_w1 : Below w0.heap.size w0 w1 := (by repeat (first | exact Below.refl _ _ | assumption | (refine below_drewN ?_ _) | (refine Below.drew ?_) | (refine Below.alloc ?_ (by first | omega | (simp; omega) | simp) _) | (refine Below.setCell ?_ (by first | omega | (simp; omega) | simp) _) | (refine below_trans ?_ (by assumption) (by first | omega | (simp; omega) | simp))))
    have b_w1 : Below w.heap.size w w1 := below_trans b_w0 k_w1 (by first | omega | (simp; omega) | simp)
    clear P2_c P2_f P2_l
    have P2 := (P2.later k_w1 : Bx w1 _ _)
    clear hc_w1 hf_w1
    obtain ⟨P2_c, P2_f⟩ := id P2
    have P2_l := P2.lt
    have ra := o1.row
    clear o1
    go_wp2_with fail
    go_at_call 16
    refine (HM.out _ ((hr.later b_w1).later (by repeat (first | exact Below.refl _ _ | assumption | (refine below_drewN ?_ _) | (refine Below.drew ?_) | (refine Below.alloc ?_ (by first | omega | (simp; omega) | simp) _) | (refine Below.setCell ?_ (by first | omega | (simp; omega) | simp) _) | (refine below_trans ?_ (by assumption) (by first | omega | (simp; omega) | simp)))))).mono ?_
    rintro e w2 ⟨rfl, hb_w2⟩
    obtain ⟨hc_w2, hf_w2⟩ := bcell hb_w2; have hs_w2 := hb_w2.size; (try simp only [World.size_alloc, World.size_setCell, World.size_drew, World.heap_drewN] at hs_w2)
    have k_w2 : Below w1.heap.size w1 w2 := (by repeat (first | exact Below.refl _ _ | assumption | (refine below_drewN ?_ _) | (refine Below.drew ?_) | (refine Below.alloc ?_ (by first | omega | (simp; omega) | simp) _) | (refine Below.setCell ?_ (by first | omega | (simp; omega) | simp) _) | (refine below_trans ?_ (by assumption) (by first | omega | (simp; omega) | simp))))
    have b_w2 : Below w.heap.size w w2 := below_trans b_w1 k_w2 (by first | omega | (simp; omega) | simp)
    clear P2_c P2_f P2_l
    have P2 := (P2.later k_w2 : Bx w2 _ _)
    have P5 := ((Bx.new w1 _ _).later hb_w2 : Bx w2 _ _)
    (try simp only [World.size_alloc] at P5)
    have ra := ra.later k_w2
    clear hc_w2 hf_w2
    obtain ⟨P2_c, P2_f⟩ := id P2
    have P2_l := P2.lt
    obtain ⟨P5_c, P5_f⟩ := id P5
    have P5_l := P5.lt
    go_wp2_with fail
    go_at_call 16
    refine (HM2.out _ _ _ (ra.later (by repeat (first | exact Below.refl _ _ | assumption | (refine below_drewN ?_ _) | (refine Below.drew ?_) | (refine Below.alloc ?_ (by first | omega | (simp; omega) | simp) _) | (refine Below.setCell ?_ (by first | omega | (simp; omega) | simp) _) | (refine below_trans ?_ (by assumption) (by first | omega | (simp; omega) | simp)))))).mono ?_
    rintro e w3 ⟨rfl, hb_w3⟩
    obtain ⟨hc_w3, hf_w3⟩ := bcell hb_w3; have hs_w3 := hb_w3.size; (try simp only [World.size_alloc, World.size_setCell, World.size_drew, World.heap_drewN] at hs_w3)
    have k_w3 : Below w2.heap.size w2 w3 := (by repeat (first | exact Below.refl _ _ | assumption | (refine below_drewN ?_ _) | (refine Below.drew ?_) | (refine Below.alloc ?_ (by first | omega | (simp; omega) | simp) _) | (refine Below.setCell ?_ (by first | omega | (simp; omega) | simp) _) | (refine below_trans ?_ (by assumption) (by first | omega | (simp; omega) | simp))))
    have b_w3 : Below w.heap.size w w3 := below_trans b_w2 k_w3 (by first | omega | (simp; omega) | simp)
    clear P2_c P2_f P2_l
    have P2 := (P2.later k_w3 : Bx w3 _ _)
    clear P5_c P5_f P5_l
    have P5 := (P5.later k_w3 : Bx w3 _ _)
    have ra := ra.later k_w3
    clear hc_w3 hf_w3
    obtain ⟨P2_c, P2_f⟩ := id P2
    have P2_l := P2.lt
    obtain ⟨P5_c, P5_f⟩ := id P5
    have P5_l := P5.lt
    have hg := hr.later b_w3
    obtain ⟨bg, og, eg, hbg, hcg⟩ := hg.at_ (by have := HNN.out; omega)
    obtain ⟨bh, oh, eh, hbh, hch⟩ := ra.at_ (by have := HRN.out; omega)
    obtain ⟨Ak, ck, q1, _⟩ := hcg k (by have := HNN.out; omega)
    rw [hlo.out] at q1
    have j1 : (k : Int) < (n : Int) := by omega
    have j2 : (0 : Int) ≤ (k : Int) := by omega
    have HG := Lib.hid hg
    have HRA := Lib.hid ra
    have HCG := Lib.hid hcg
    have HCH := Lib.hid hch
    have eg0 := eg
    have eh0 := eh
    subst eg eh
    clear hcg hch hg ra
    go_wp2_with fail
    go_loopw [72] (fun ii wr => ∃ i : Nat, ii = .int .i64 (i : Nat) ∧ i ≤ n ∧ wr = w3) (fun ii _ => n - (intOf ii).toNat)
    case atStart => exact ⟨0, rfl, Nat.zero_le _, by first | rfl | trivial⟩
    case round =>
      obtain ⟨i, rfl, hi, rfl⟩ := hrel
      by_cases hlt : i < n
      · obtain ⟨Ai, ci, x1, _⟩ := HCG.out i (by rw [HNN.out]; exact hlt)
        obtain ⟨Aj, cj, x2, _⟩ := HCH.out i (by rw [HRN.out]; exact hlt)
        have hle := HP.out.le i
        obtain ⟨li, e2⟩ : ∃ li, (nq qs i).length = li := ⟨_, rfl⟩
        obtain ⟨lj, e1⟩ : ∃ lj, (nq r i).length = lj := ⟨_, rfl⟩
        rw [e2] at x1 hle
        rw [e1] at x2 hle
        have i1 : (i : Int) < (n : Int) := by omega
        have i2 : (0 : Int) ≤ (i : Int) := by omega
        have d1 : decide ((li : Int) < (lj : Int)) = false := by simp; omega
        have esame : i = k → (nq r i).length = (nq qs i).length := fun e => by subst e; rw [HSM.out]
        by_cases hik : i = k
        · have e4 : lj = lo := by rw [← e1, esame hik, ← hlo.out, hik]
          subst e4
          subst hik
          have f1 : ((i : Int) == (i : Int)) = true := by simp
          have f2 : ((lj : Int) != (lj : Int)) = false := by simp
          clear e1 e2 esame
          go_wp2
          go_roundw
          case rel => exact ⟨i + 1, by go_num, by omega, by first | rfl | trivial⟩
          case measure => simp [intOf]; omega
        · have f1 : ((i : Int) == (k : Int)) = false := beq_eq_false_iff_ne.2 (by omega)
          clear e1 e2 esame
          go_wp2
          go_roundw
          case rel => exact ⟨i + 1, by go_num, by omega, by first | rfl | trivial⟩
          case measure => simp [intOf]; omega
      · go_wp2_with fail
        go_at_call 22
        refine (HHS.out _ _ _ (HRA.out.later (by repeat (first | exact Below.refl _ _ | assumption | (refine below_drewN ?_ _) | (refine Below.drew ?_) | (refine Below.alloc ?_ (by first | omega | (simp; omega) | simp) _) | (refine Below.setCell ?_ (by first | omega | (simp; omega) | simp) _) | (refine below_trans ?_ (by assumption) (by first | omega | (simp; omega) | simp)))))).mono ?_
        rintro e w4 ⟨rfl, hb_w4⟩
        go_wp2
        go_ret
        exact ⟨rfl, (by repeat (first | exact Below.refl _ _ | assumption | (refine below_drewN ?_ _) | (refine Below.drew ?_) | (refine Below.alloc ?_ (by first | omega | (simp; omega) | simp) _) | (refine Below.setCell ?_ (by first | omega | (simp; omega) | simp) _) | (refine below_trans ?_ (by assumption) (by first | omega | (simp; omega) | simp))))⟩
end Go.Proofs.Ytlaladhnidcoiaa
