/- The walk of the law GreyOnce. -/
import Derived.Test.YtlaladhnidcoiaaG20
namespace Go.Proofs.Ytlaladhnidcoiaa
open Go.RowKit
set_option linter.unusedVariables false
set_option linter.unusedSimpArgs false

/-- small numbers that came in -/
structure URow (w : World) (B : Nat) (A : Option Addr) (xs : List Nat) : Prop where
  in_ : ∀ x ∈ xs, x < 256
  at_ : 0 < xs.length → ∃ b off, A = some ⟨b, off, none⟩ ∧ b < B ∧ ∀ i, i < xs.length → w.cell? ⟨b, off + i, none⟩ = some (.int .u8 (xs.getD i 0 : Nat))
theorem URow.later {w w' : World} {A : Option Addr} {xs : List Nat} (h : URow w w.heap.size A xs) (hb : Below w.heap.size w w') : URow w' w'.heap.size A xs :=
  ⟨h.in_, fun hl => by
    obtain ⟨b, off, e, hlt, hc⟩ := h.at_ hl
    exact ⟨b, off, e, Nat.lt_of_lt_of_le hlt hb.size, fun i hi => (hb.cell (p := ⟨b, off + i, none⟩) hlt).trans (hc i hi)⟩⟩
/-- what has been popped, and what is left -/
structure OnceI (qs : List (List Nat)) (i : Nat) (ps : List Nat) (q : List (List Nat)) : Prop where
  ok : OkG q
  len : q.length = qs.length
  perm : qs.flatten.Perm (ps ++ q.flatten)
  pl : ps.length = i
theorem OnceI.left {qs q : List (List Nat)} {i : Nat} {ps : List Nat} (h : OnceI qs i ps q) : qs.flatten.length = i + q.flatten.length := by
  rw [h.perm.length_eq, List.length_append, h.pl]
theorem pop_goes {q : List (List Nat)} {t : Nat} (h : OkG q) (h0 : 0 < q.flatten.length) (ht : t < q.length) : ∃ r a s, PopE q (t : Int) r a s 0 := by
  obtain ⟨r, a, s, y, hE⟩ := PopE.ex q (t : Int)
  have hy : y = 0 := by
    rcases id hE with ⟨h1, _⟩ | ⟨_, h1, _⟩ | ⟨_, _, _, _, _, _, h1⟩ | ⟨_, _, _, h1, _⟩ | ⟨_, _, _, _, _, _, _, h1⟩
    · exact absurd h h1
    · exact absurd ⟨by omega, by omega⟩ h1
    · exact h1
    · have := longest_zero h1; omega
    · exact h1
  subst hy
  exact ⟨r, a, s, hE⟩
theorem pop_ends {q : List (List Nat)} (h : OkG q) (h0 : q.flatten.length = 0) : PopE q 0 q 0 false 3 := by
  have he : ∀ i, (nq q i).length = 0 := fun i => by have := nq_len_le q i; omega
  exact .inr (.inr (.inr (.inl ⟨h, ⟨by omega, by have := h.lo; omega⟩, he _, he _, rfl, rfl, rfl, rfl⟩)))
theorem OnceI.next {qs q r : List (List Nat)} {i k a : Nat} {s : Bool} {ps : List Nat} (h : OnceI qs i ps q) (hok : OkG qs) (hp : PopOk q r k a s) : OnceI qs (i + 1) (ps ++ [a]) r ∧ a ∉ ps ∧ qs.flatten.count a = 1 ∧ a ∈ qs.flatten := by
  have hpp : qs.flatten.Perm (ps ++ [a] ++ r.flatten) := by
    rw [List.append_assoc]
    exact h.perm.trans (List.Perm.append_left _ hp.perm)
  have hnd := hpp.nodup_iff.1 hok.nd
  have hnd2 := (nodup_snoc.1 (List.nodup_append.1 hnd).1).2
  have hmem : a ∈ qs.flatten := hpp.mem_iff.2 (by simp)
  refine ⟨⟨hp.okr, hp.len.trans h.len, hpp, by rw [List.length_append, h.pl]; rfl⟩, hnd2, ?_, hmem⟩
  have h1 := count_of_nodup hok.nd a
  have h2 := List.count_pos_iff.2 hmem
  omega
theorem GOwn.kept {w w' : World} {B : Nat} {row : Option Nat} {A : Option Addr} {qs : List (List Nat)} (h : GOwn w B A qs) (hg : w.grownBy w' row) (hM : ∀ M, row = some M → M < B) : GOwn w' B A qs :=
  ⟨h.lim, fun hl => by
    obtain ⟨g, e, hB, hgl, hc⟩ := h.at_ hl
    refine ⟨g, e, hB, Nat.lt_of_lt_of_le hgl hg.size, fun i hi => ?_⟩
    obtain ⟨Ai, ci, h1, h2, h3⟩ := hc i hi
    refine ⟨Ai, ci, ((grown_cell hg i hgl (fun e => by have := hM _ e; omega)).1).trans h1, ⟨h2.words, fun h0 => ?_⟩, h3⟩
    obtain ⟨g2, off, e2, hB2, hg2, hc2⟩ := h2.at_ h0
    exact ⟨g2, off, e2, hB2, Nat.lt_of_lt_of_le hg2 hg.size, fun j hj => ⟨((grown_cell hg (off + j) hg2 (fun e => by have := hM _ e; omega)).1).trans (hc2 j hj).1, ((grown_cell hg (off + j) hg2 (fun e => by have := hM _ e; omega)).2).trans (hc2 j hj).2⟩⟩⟩
theorem Bx.kept {w w' : World} {b : Nat} {v : Value} {row : Option Nat} (h : Bx w b v) (hg : w.grownBy w' row) (hne : row ≠ some b) : Bx w' b v :=
  ⟨((grown_cell hg 0 h.lt hne).1).trans h.c, ((grown_cell hg 0 h.lt hne).2).trans h.f⟩
theorem OwnsN.map_ {w : World} {B n cap : Nat} {A : Option Addr} {t : List Nat} (h : OwnsN w B A n cap t) : ∀ M, (A.map fun a => a.block) = some M → B ≤ M ∧ M < w.heap.size := fun M e => by
  rcases h.adr with h1 | ⟨g, h1, h2, h3⟩
  · rw [h1] at e; cases e
  · rw [h1] at e
    injection e with e
    have e : g = M := e
    omega
set_option maxRecDepth 20000 in
set_option maxHeartbeats 8000000 in
theorem greyOnce_walk (A X : Option Addr) (cap cx : Nat) (qs : List (List Nat)) (xs : List Nat) (w : World) (hr : GRow w A qs) (hx : URow w w.heap.size X xs) (hxl : xs.length ≤ 140737488355328) :
    Calls Try.prog 5 #[.agg #[.slice A qs.length cap], .slice X xs.length cx] w fun e w' => e = .returned (.bool true) ∧ Below w.heap.size w w' := by
  obtain ⟨n, z, hM⟩ := ManE.ex qs
  have HM := Lib.hid fun (w : World) hr => gmany_any (w := w) (A := A) (qs := qs) cap hr _ _ hM
  unfold gv at HM
  by_cases hz : z = 0
  rotate_left
  · have d1 : (z != 0) = true := by simpa using hz
    clear hM hz
    go_enter Try.func5, Try.ntmps5
    go_wp2_with fail
    go_at_call 14
    refine (glives_any _).mono ?_
    rintro e w0 ⟨rfl, hb_w0⟩
    obtain ⟨hc_w0, hf_w0⟩ := bcell hb_w0; have hs_w0 := hb_w0.size; (try simp only [World.size_alloc, World.size_setCell, World.size_drew, World.heap_drewN] at hs_w0)
    have k_w0 : Below w.heap.size w w0 := (by repeat (first | exact Below.refl _ _ | assumption | (refine below_drewN ?_ _) | (refine Below.drew ?_) | (refine Below.alloc ?_ (by first | omega | (simp; omega) | simp) _) | (refine Below.setCell ?_ (by first | omega | (simp; omega) | simp) _) | (refine below_trans ?_ (by assumption) (by first | omega | (simp; omega) | simp))))
    have b_w0 := k_w0
    have P2 := ((Bx.new w _ _).later hb_w0 : Bx w0 _ _)
    (try simp only [World.size_alloc] at P2)
    clear hc_w0 hf_w0
    obtain ⟨P2_c, P2_f⟩ := id P2
    have P2_l := P2.lt
    go_wp2_with fail
    go_at_call 16
    refine (HM.out _ ((hr.later b_w0).later (by repeat (first | exact Below.refl _ _ | assumption | (refine below_drewN ?_ _) | (refine Below.drew ?_) | (refine Below.alloc ?_ (by first | omega | (simp; omega) | simp) _) | (refine Below.setCell ?_ (by first | omega | (simp; omega) | simp) _) | (refine below_trans ?_ (by assumption) (by first | omega | (simp; omega) | simp)))))).mono ?_
    rintro e w1 ⟨rfl, hb_w1⟩
    obtain ⟨hc_w1, hf_w1⟩ := bcell hb_w1; have hs_w1 := hb_w1.size; (try simp only [World.size_alloc, World.size_setCell, World.size_drew, World.heap_drewN] at hs_w1)
    have k_w1 : Below w0.heap.size w0 w1 := (by repeat (first | exact Below.refl _ _ | assumption | (refine below_drewN ?_ _) | (refine Below.drew ?_) | (refine Below.alloc ?_ (by first | omega | (simp; omega) | simp) _) | (refine Below.setCell ?_ (by first | omega | (simp; omega) | simp) _) | (refine below_trans ?_ (by assumption) (by first | omega | (simp; omega) | simp))))
    have b_w1 : Below w.heap.size w w1 := below_trans b_w0 k_w1 (by first | omega | (simp; omega) | simp)
    clear P2_c P2_f P2_l
    have P2 := (P2.later k_w1 : Bx w1 _ _)
    clear hc_w1 hf_w1
    obtain ⟨P2_c, P2_f⟩ := id P2
    have P2_l := P2.lt
    go_wp2
    go_ret
    exact ⟨rfl, b_w1⟩
  subst hz
  have hok : OkG qs ∧ n = qs.flatten.length := by
    rcases hM with ⟨_, _, h⟩ | ⟨h1, h2, _⟩
    · exact absurd h (by decide)
    · exact ⟨h1, h2⟩
  obtain ⟨hok, hn⟩ := hok
  by_cases h200 : n ≤ 200
  rotate_left
  · have d1 : decide ((200 : Int) < (n : Int)) = true := by simp; omega
    have d2 : 200 < n := by omega
    clear hM hok hn h200
    go_enter Try.func5, Try.ntmps5
    go_wp2_with fail
    go_at_call 14
    refine (glives_any _).mono ?_
    rintro e w0 ⟨rfl, hb_w0⟩
    obtain ⟨hc_w0, hf_w0⟩ := bcell hb_w0; have hs_w0 := hb_w0.size; (try simp only [World.size_alloc, World.size_setCell, World.size_drew, World.heap_drewN] at hs_w0)
    have k_w0 : Below w.heap.size w w0 := (by repeat (first | exact Below.refl _ _ | assumption | (refine below_drewN ?_ _) | (refine Below.drew ?_) | (refine Below.alloc ?_ (by first | omega | (simp; omega) | simp) _) | (refine Below.setCell ?_ (by first | omega | (simp; omega) | simp) _) | (refine below_trans ?_ (by assumption) (by first | omega | (simp; omega) | simp))))
    have b_w0 := k_w0
    have P2 := ((Bx.new w _ _).later hb_w0 : Bx w0 _ _)
    (try simp only [World.size_alloc] at P2)
    clear hc_w0 hf_w0
    obtain ⟨P2_c, P2_f⟩ := id P2
    have P2_l := P2.lt
    go_wp2_with fail
    go_at_call 16
    refine (HM.out _ ((hr.later b_w0).later (by repeat (first | exact Below.refl _ _ | assumption | (refine below_drewN ?_ _) | (refine Below.drew ?_) | (refine Below.alloc ?_ (by first | omega | (simp; omega) | simp) _) | (refine Below.setCell ?_ (by first | omega | (simp; omega) | simp) _) | (refine below_trans ?_ (by assumption) (by first | omega | (simp; omega) | simp)))))).mono ?_
    rintro e w1 ⟨rfl, hb_w1⟩
    obtain ⟨hc_w1, hf_w1⟩ := bcell hb_w1; have hs_w1 := hb_w1.size; (try simp only [World.size_alloc, World.size_setCell, World.size_drew, World.heap_drewN] at hs_w1)
    have k_w1 : Below w0.heap.size w0 w1 := (by repeat (first | exact Below.refl _ _ | assumption | (refine below_drewN ?_ _) | (refine Below.drew ?_) | (refine Below.alloc ?_ (by first | omega | (simp; omega) | simp) _) | (refine Below.setCell ?_ (by first | omega | (simp; omega) | simp) _) | (refine below_trans ?_ (by assumption) (by first | omega | (simp; omega) | simp))))
    have b_w1 : Below w.heap.size w w1 := below_trans b_w0 k_w1 (by first | omega | (simp; omega) | simp)
    clear P2_c P2_f P2_l
    have P2 := (P2.later k_w1 : Bx w1 _ _)
    clear hc_w1 hf_w1
    obtain ⟨P2_c, P2_f⟩ := id P2
    have P2_l := P2.lt
    go_wp2
    go_ret
    exact ⟨rfl, b_w1⟩
  have d1 : decide ((200 : Int) < (n : Int)) = false := by simp; omega
  have d2 : ¬ 200 < n := by omega
  have HOK := Lib.hid hok
  have HN := Lib.hid hn
  have hlo := hok.lo
  have hhi := hok.hi
  obtain ⟨m, hm⟩ : ∃ m, Hid (qs.length = m) := ⟨_, rfl⟩
  have HHAS := Lib.hid fun (w : World) hr a hc => xghas_any (w := w) (A := A) (qs := qs) cap hr hok.hi (by have := hok.len; omega) a 1 hc
  have HPOP := Lib.hid fun (w : World) (A : Option Addr) (cap : Nat) (q r : List (List Nat)) (x : Int) hx (a : Nat) (s : Bool) (y : Int) hr hE => gpop_any (w := w) (A := A) (qs := q) cap hr x hx r a s y hE
  have HCHK := Lib.hid fun (w : World) (A : Option Addr) (cap : Nat) (r : List (List Nat)) hr (ho : OkG r) => gcheck_any (w := w) (A := A) (qs := r) cap hr 0 (.inl ⟨ho, rfl⟩)
  unfold PopG at HPOP
  unfold gv at *
  obtain ⟨L, hL⟩ : ∃ L, Hid (xs.length = L) := ⟨_, rfl⟩
  rw [hL.out] at hxl
  rw [hm.out] at HM HHAS hlo hhi ⊢
  rw [hL.out]
  clear hM hok hn
  obtain ⟨i0, hi0, hz0, hz1, hz2⟩ := info_parts info_u64
  go_enter Try.func5, Try.ntmps5
  go_wp2_with fail
  go_at_call 14
  refine (glives_any _).mono ?_
  rintro e w0 ⟨rfl, hb_w0⟩
  obtain ⟨hc_w0, hf_w0⟩ := bcell hb_w0; have hs_w0 := hb_w0.size; (try simp only [World.size_alloc, World.size_setCell, World.size_drew, World.heap_drewN] at hs_w0)
  have k_w0 : Below w.heap.size w w0 := (by repeat (first | exact Below.refl _ _ | assumption | (refine below_drewN ?_ _) | (refine Below.drew ?_) | (refine Below.alloc ?_ (by first | omega | (simp; omega) | simp) _) | (refine Below.setCell ?_ (by first | omega | (simp; omega) | simp) _) | (refine below_trans ?_ (by assumption) (by first | omega | (simp; omega) | simp))))
  have b_w0 := k_w0
  have P2 := ((Bx.new w _ _).later hb_w0 : Bx w0 _ _)
  (try simp only [World.size_alloc] at P2)
  clear hc_w0 hf_w0
  obtain ⟨P2_c, P2_f⟩ := id P2
  have P2_l := P2.lt
  go_wp2_with fail
  go_at_call 16
  refine (HM.out _ ((hr.later b_w0).later (by repeat (first | exact Below.refl _ _ | assumption | (refine below_drewN ?_ _) | (refine Below.drew ?_) | (refine Below.alloc ?_ (by first | omega | (simp; omega) | simp) _) | (refine Below.setCell ?_ (by first | omega | (simp; omega) | simp) _) | (refine below_trans ?_ (by assumption) (by first | omega | (simp; omega) | simp)))))).mono ?_
  rintro e w1 ⟨rfl, hb_w1⟩
  obtain ⟨hc_w1, hf_w1⟩ := bcell hb_w1; have hs_w1 := hb_w1.size; (try simp only [World.size_alloc, World.size_setCell, World.size_drew, World.heap_drewN] at hs_w1)
  have k_w1 : Below w0.heap.size w0 w1 := (by repeat (first | exact Below.refl _ _ | assumption | (refine below_drewN ?_ _) | (refine Below.drew ?_) | (refine Below.alloc ?_ (by first | omega | (simp; omega) | simp) _) | (refine Below.setCell ?_ (by first | omega | (simp; omega) | simp) _) | (refine below_trans ?_ (by assumption) (by first | omega | (simp; omega) | simp))))
  have b_w1 : Below w.heap.size w w1 := below_trans b_w0 k_w1 (by first | omega | (simp; omega) | simp)
  clear P2_c P2_f P2_l
  have P2 := (P2.later k_w1 : Bx w1 _ _)
  clear hc_w1 hf_w1
  obtain ⟨P2_c, P2_f⟩ := id P2
  have P2_l := P2.lt
  have B7 := Bx.new w1 (.slice A m cap) 24
  have P2a := P2.alloc (.cells #[.slice A m cap] 24)
  have hra := (hr.later b_w1).later ((Below.refl _ _).alloc (Nat.le_refl _) (.cells #[.slice A m cap] 24))
  have ba : Below w.heap.size w (w1.alloc (.cells #[.slice A m cap] 24)) := b_w1.alloc (by first | omega | (simp; omega) | simp) _
  have za : (w1.alloc (.cells #[.slice A m cap] 24)).heap.size = w1.heap.size + 1 := by simp
  have zw1 : w.heap.size < w1.heap.size := P2.lt
  have hI0 : OnceI qs 0 [] qs := ⟨HOK.out, rfl, by simp, rfl⟩
  go_wp2_with fail
  generalize (w1.alloc (.cells #[.slice A m cap] 24)) = wa at *
  generalize w1.heap.size = b7 at *
  clear P2 P2_c P2_f P2_l b_w1 b_w0
  go_loopw [8, 9] (fun pp ii wr => ∃ (i : Nat) (Kp : Option Addr) (ck : Nat), pp = .slice Kp i ck ∧ ii = .int .i64 (i : Nat) ∧ i ≤ n ∧ ∃ (ps : List Nat) (q : List (List Nat)) (Bh : Option Addr) (ch : Nat), Hid (OnceI qs i ps q) ∧ OwnsN wr (b7 + 1) Kp i ck ps ∧ GRow wr Bh q ∧ Bx wr w.heap.size (.slice A m cap) ∧ Bx wr b7 (.slice Bh m ch) ∧ b7 + 1 ≤ wr.heap.size ∧ Below w.heap.size w wr) (fun _ ii _ => n - (intOf ii).toNat)
  case atStart => exact ⟨0, none, 0, rfl, rfl, Nat.zero_le _, [], qs, A, cap, Lib.hid hI0, OwnsN.nil _ _, hra, P2a, B7, by omega, ba⟩
  case round =>
    clear hI0 hra P2a B7 ba za
    obtain ⟨i, Kp, ck, rfl, rfl, hi, ps, q, Bh, ch, HI, oK, rh, P2, P7, hsz, hb_wr⟩ := hrel
    obtain ⟨p20, p21⟩ := id P2
    obtain ⟨p70, p71⟩ := id P7
    have hql : Hid (q.length = m) := Lib.hid (HI.out.len.trans hm.out)
    have hleft := HI.out.left
    rw [← HN.out] at hleft
    by_cases hlt : i < n
    · by_cases hx0 : 0 < L
      · obtain ⟨xb, xo, rfl, hxb, hxc⟩ := (hx.later hb_wr).at_ (by rw [hL.out]; exact hx0)
        obtain ⟨j, hj, hjl⟩ : ∃ j, Hid (i % L = j) ∧ j < L := ⟨_, rfl, Nat.mod_lt _ hx0⟩
        have hjx : j < xs.length := by rw [hL.out]; exact hjl
        have hxc1 := hxc j hjx
        obtain ⟨v, hv⟩ : ∃ v, Hid (xs.getD j 0 = v) := ⟨_, rfl⟩
        rw [hv.out] at hxc1
        have hv8 : v < 256 := by
          have := hx.in_ (xs.getD j 0) (by rw [List.getD_eq_getElem?_getD, List.getElem?_eq_getElem hjx]; exact List.getElem_mem hjx)
          rw [hv.out] at this
          exact this
        have e1 : Int.tmod (i : Int) (L : Int) = (j : Nat) := by rw [Int.tmod_eq_emod_of_nonneg (by omega)]; have := hj.out; omega
        have ti1 : (j : Int) < (L : Int) := by omega
        have ti0 : (0 : Int) ≤ (j : Int) := by omega
        have dx : decide ((0 : Int) < (L : Int)) = true := by simp; omega
        clear hxc hjx
        obtain ⟨t, ht, htm⟩ : ∃ t, Hid (v % m = t) ∧ t < m := ⟨_, rfl, Nat.mod_lt _ (by omega)⟩
        have e2 : Int.tmod (v : Int) (m : Int) = (t : Nat) := by rw [Int.tmod_eq_emod_of_nonneg (by omega)]; have := ht.out; omega
        have hm0 : ((m : Int) == 0) = false := beq_eq_false_iff_ne.2 (by omega)
        have hm1 : ¬ ((m : Int) = 0) := by omega
        have hm2 : ¬ (m = 0) := by omega
        obtain ⟨r, a, s, hE⟩ := pop_goes (t := t) HI.out.ok (by omega) (by rw [hql.out]; exact htm)
        obtain ⟨k, hkk, hPO⟩ := hE.ok
        clear hkk
        obtain ⟨hnx, hnot, hcnt, hmem⟩ := HI.out.next HOK.out hPO
        have HNX := Lib.hid hnx
        have HNOT := Lib.hid hnot
        have HOKR := Lib.hid hnx.ok
        have hrl : Hid (r.length = m) := Lib.hid (hnx.len.trans hm.out)
        have hrlim := hnx.ok.hi
        have HP := Lib.hid fun (W : World) hr => HPOP.out W Bh ch q r (t : Int) (by omega) a s 0 hr hE
        rw [hql.out, hrl.out] at HP
        have HC := Lib.hid fun (W : World) (C : Option Addr) (cc : Nat) hr => HCHK.out W C cc r hr HOKR.out
        rw [hrl.out] at HC
        have HH := Lib.hid fun (W : World) hr => HHAS.out W hr a hcnt
        have ha64 : Hid (a < W64) := Lib.hid (by
          obtain ⟨l, hl, hal⟩ := List.mem_flatten.1 hmem
          obtain ⟨z, hz, rfl⟩ := List.getElem_of_mem hl
          obtain ⟨_, _, _, _, hcc⟩ := hr.at_ (by omega)
          obtain ⟨_, _, _, hrw, _⟩ := hcc z hz
          rw [nq_get _ _ hz] at hrw
          exact hrw.words a hal)
        have hpsl := HI.out.pl
        clear hE hPO hnx hnot hcnt hmem hleft
        have hrA := hr.later hb_wr
        have hwr2 : w.heap.size < wr.heap.size := P2.lt
        have hb72 : b7 < wr.heap.size := P7.lt
        go_wp2_with fail
        have qa2 := (P2.alloc (.cells #[.slice none 0 0] 24)).c
        have qa7 := (P7.alloc (.cells #[.slice none 0 0] 24)).c
        refine wp_region_held_drew (S := (fun X : World => X.cell? ⟨w.heap.size, 0, none⟩ = some (.slice A m cap) ∧ X.cell? ⟨b7, 0, none⟩ = some (.slice Bh m ch))) (by kernel_rfl) ?_ (fun hHeld => ?_)
        · (try dsimp only); refine ⟨?_, ?_⟩ <;> first | assumption | (simp [go_sem]; done) | exact (World.cell?_alloc_lt _ _ ⟨_, _, _⟩ (by first | omega | (simp; omega) | simp)).trans (by assumption)
        refine wpAnyH_take (i := 0) (v := ?_) rfl (by kernel_rfl) (by kernel_rfl) (by kernel_rfl) (fun _ _ _ h => h) (Or.inl ⟨by rfl, ?_⟩) (by assumption) ?_
        rotate_left
        · (intro w hSw; (try dsimp only at hSw); go_simp; first | done | with_reducible rfl)
        try simp only [Act.put, List.getElem_toArray, List.getElem_cons_zero, List.getElem_cons_succ, List.setIfInBounds_toArray, List.set_cons_zero, List.set_cons_succ]
        refine wpAnyH_take (i := 1) (v := ?_) rfl (by kernel_rfl) (by kernel_rfl) (by kernel_rfl) (fun _ _ _ h => h) (Or.inl ⟨by rfl, ?_⟩) (by assumption) ?_
        rotate_left
        · (intro w hSw; (try dsimp only at hSw); go_simp; first | done | with_reducible rfl)
        try simp only [Act.put, List.getElem_toArray, List.getElem_cons_zero, List.getElem_cons_succ, List.setIfInBounds_toArray, List.set_cons_zero, List.set_cons_succ]
        refine wpAnyH_take (i := 2) (v := ?_) rfl (by kernel_rfl) (by kernel_rfl) (by kernel_rfl) (fun _ _ _ h => h) (Or.inl ⟨by rfl, ?_⟩) (by assumption) ?_
        rotate_left
        · (intro w hSw; (try dsimp only at hSw); go_simp; first | done | with_reducible rfl)
        try simp only [Act.put, List.getElem_toArray, List.getElem_cons_zero, List.getElem_cons_succ, List.setIfInBounds_toArray, List.set_cons_zero, List.set_cons_succ]
        refine wpAnyH_take (i := 3) (v := ?_) rfl (by kernel_rfl) (by kernel_rfl) (by kernel_rfl) (fun _ _ _ h => h) (Or.inl ⟨by rfl, ?_⟩) (by assumption) ?_
        rotate_left
        · (intro w hSw; (try dsimp only at hSw); go_simp; first | done | with_reducible rfl)
        try simp only [Act.put, List.getElem_toArray, List.getElem_cons_zero, List.getElem_cons_succ, List.setIfInBounds_toArray, List.set_cons_zero, List.set_cons_succ]
        refine wpAnyH_take (i := 4) (v := ?_) rfl (by kernel_rfl) (by kernel_rfl) (by kernel_rfl) (fun _ _ _ h => h) (Or.inl ⟨by rfl, ?_⟩) (by assumption) ?_
        rotate_left
        · (intro w hSw; (try dsimp only at hSw); go_simp; first | done | with_reducible rfl)
        try simp only [Act.put, List.getElem_toArray, List.getElem_cons_zero, List.getElem_cons_succ, List.setIfInBounds_toArray, List.set_cons_zero, List.set_cons_succ]
        refine wpAnyH_take (i := 5) (v := ?_) rfl (by kernel_rfl) (by kernel_rfl) (by kernel_rfl) (fun _ _ _ h => h) (Or.inl ⟨by rfl, ?_⟩) (by assumption) ?_
        rotate_left
        · (intro w hSw; (try dsimp only at hSw); go_simp; first | done | with_reducible rfl)
        try simp only [Act.put, List.getElem_toArray, List.getElem_cons_zero, List.getElem_cons_succ, List.setIfInBounds_toArray, List.set_cons_zero, List.set_cons_succ]
        refine wpAnyH_ready (rs := [6, 12]) (by kernel_rfl) (by simp) ?_
        refine AllReadyH.cons rfl (fun K hK => ?_) (AllReadyH.cons rfl (fun K hK => ?_) AllReadyH.nil)
        · try simp only [List.getElem_toArray, List.getElem_cons_zero, List.getElem_cons_succ]
          go_simp
          go_at_call 12
          refine (HP.out _ (rh.later (by repeat (first | exact Below.refl _ _ | assumption | (refine below_drewN ?_ _) | (refine Below.drew ?_) | (refine Below.alloc ?_ (by first | omega | (simp; omega) | simp) _) | (refine Below.setCell ?_ (by first | omega | (simp; omega) | simp) _) | (refine below_trans ?_ (by assumption) (by first | omega | (simp; omega) | simp)))))).mono ?_
          rintro e w5 ⟨B5, c5, rfl, o5, hb_w5⟩
          have mw50 : w5.cell? ⟨w.heap.size, 0, none⟩ = some (.slice A m cap) := (hb_w5.cell (p := ⟨w.heap.size, 0, none⟩) (by first | omega | (simp; omega) | simp)).trans (by first | assumption | (simp [go_sem]; done) | exact (World.cell?_alloc_lt _ _ ⟨_, _, _⟩ (by first | omega | (simp; omega) | simp)).trans (by assumption))
          have mw51 : w5.cell? ⟨b7, 0, none⟩ = some (.slice Bh m ch) := (hb_w5.cell (p := ⟨b7, 0, none⟩) (by first | omega | (simp; omega) | simp)).trans (by first | assumption | (simp [go_sem]; done) | exact (World.cell?_alloc_lt _ _ ⟨_, _, _⟩ (by first | omega | (simp; omega) | simp)).trans (by assumption))
          have hs5 := hb_w5.size
          (try simp only [World.size_alloc, World.size_drew] at hs5)
          have z25 : w.heap.size < w5.heap.size := by omega
          have z75 : b7 < w5.heap.size := by omega
          try go_wp2_with fail
          refine hK.out _ _ ?_ (fun hHeld => ?_)
          · (try dsimp only); refine ⟨?_, ?_⟩ <;> first | assumption | (simp [go_sem]; done) | exact (World.cell?_alloc_lt _ _ ⟨_, _, _⟩ (by first | omega | (simp; omega) | simp)).trans (by assumption)
          clear hK K
          try simp only [Act.put, List.getElem_toArray, List.getElem_cons_zero, List.getElem_cons_succ, List.setIfInBounds_toArray, List.set_cons_zero, List.set_cons_succ]
          refine wpAnyH_take (i := 7) (v := ?_) rfl (by kernel_rfl) (by kernel_rfl) (by kernel_rfl) (fun _ _ _ h => h) (Or.inl ⟨by rfl, ?_⟩) (by assumption) ?_
          rotate_left
          · (intro w hSw; (try dsimp only at hSw); go_simp; first | done | with_reducible rfl)
          try simp only [Act.put, List.getElem_toArray, List.getElem_cons_zero, List.getElem_cons_succ, List.setIfInBounds_toArray, List.set_cons_zero, List.set_cons_succ]
          refine wpAnyH_take (i := 8) (v := ?_) rfl (by kernel_rfl) (by kernel_rfl) (by kernel_rfl) (fun _ _ _ h => h) (Or.inl ⟨by rfl, ?_⟩) (by assumption) ?_
          rotate_left
          · (intro w hSw; (try dsimp only at hSw); go_simp; first | done | with_reducible rfl)
          try simp only [Act.put, List.getElem_toArray, List.getElem_cons_zero, List.getElem_cons_succ, List.setIfInBounds_toArray, List.set_cons_zero, List.set_cons_succ]
          refine wpAnyH_take (i := 9) (v := ?_) rfl (by kernel_rfl) (by kernel_rfl) (by kernel_rfl) (fun _ _ _ h => h) (Or.inl ⟨by rfl, ?_⟩) (by assumption) ?_
          rotate_left
          · (intro w hSw; (try dsimp only at hSw); go_simp; first | done | with_reducible rfl)
          try simp only [Act.put, List.getElem_toArray, List.getElem_cons_zero, List.getElem_cons_succ, List.setIfInBounds_toArray, List.set_cons_zero, List.set_cons_succ]
          refine wpAnyH_take (i := 10) (v := ?_) rfl (by kernel_rfl) (by kernel_rfl) (by kernel_rfl) (fun _ _ _ h => h) (Or.inl ⟨by rfl, ?_⟩) (by assumption) ?_
          rotate_left
          · (intro w hSw; (try dsimp only at hSw); go_simp; first | done | with_reducible rfl)
          try simp only [Act.put, List.getElem_toArray, List.getElem_cons_zero, List.getElem_cons_succ, List.setIfInBounds_toArray, List.set_cons_zero, List.set_cons_succ]
          refine wpAnyH_take (i := 11) (v := ?_) rfl (by kernel_rfl) (by kernel_rfl) (by kernel_rfl) (fun _ _ _ h => h) (Or.inl ⟨by rfl, ?_⟩) (by assumption) ?_
          rotate_left
          · (intro w hSw; (try dsimp only at hSw); go_simp; first | done | with_reducible rfl)
          try simp only [Act.put, List.getElem_toArray, List.getElem_cons_zero, List.getElem_cons_succ, List.setIfInBounds_toArray, List.set_cons_zero, List.set_cons_succ]
          refine wpAnyH_ready (rs := [12]) (by kernel_rfl) (by simp) ?_
          refine AllReadyH.cons rfl (fun K hK => ?_) AllReadyH.nil
          try simp only [List.getElem_toArray, List.getElem_cons_zero, List.getElem_cons_succ]
          go_simp
          refine hK.out _ _ ?_ (fun hHeld => ?_)
          · (try dsimp only); refine ⟨?_, ?_⟩ <;> first | assumption | (simp [go_sem]; done) | exact (World.cell?_alloc_lt _ _ ⟨_, _, _⟩ (by first | omega | (simp; omega) | simp)).trans (by assumption)
          clear hK K
          try simp only [Act.put, List.getElem_toArray, List.getElem_cons_zero, List.getElem_cons_succ, List.setIfInBounds_toArray, List.set_cons_zero, List.set_cons_succ]
          refine wpAnyH_ready (rs := [13]) (by kernel_rfl) (by simp) ?_
          refine AllReadyH.cons rfl (fun K hK => ?_) AllReadyH.nil
          try simp only [List.getElem_toArray, List.getElem_cons_zero, List.getElem_cons_succ]
          go_simp
          refine hK.out _ _ ?_ (fun hHeld => ?_)
          · (try dsimp only); refine ⟨?_, ?_⟩ <;> first | assumption | (simp [go_sem]; done) | exact (World.cell?_alloc_lt _ _ ⟨_, _, _⟩ (by first | omega | (simp; omega) | simp)).trans (by assumption)
          clear hK K
          try simp only [Act.put, List.getElem_toArray, List.getElem_cons_zero, List.getElem_cons_succ, List.setIfInBounds_toArray, List.set_cons_zero, List.set_cons_succ]
          refine wpAnyH_take (i := 14) (v := ?_) rfl (by kernel_rfl) (by kernel_rfl) (by kernel_rfl) (fun _ _ _ h => h) (Or.inl ⟨by rfl, ?_⟩) (by assumption) ?_
          rotate_left
          · (intro w hSw; (try dsimp only at hSw); go_simp; first | done | with_reducible rfl)
          try simp only [Act.put, List.getElem_toArray, List.getElem_cons_zero, List.getElem_cons_succ, List.setIfInBounds_toArray, List.set_cons_zero, List.set_cons_succ]
          refine wpAnyH_take (i := 15) (v := ?_) rfl (by kernel_rfl) (by kernel_rfl) (by kernel_rfl) (fun _ _ _ h => h) (Or.inl ⟨by rfl, ?_⟩) (by assumption) ?_
          rotate_left
          · (intro w hSw; (try dsimp only at hSw); go_simp; first | done | with_reducible rfl)
          try simp only [Act.put, List.getElem_toArray, List.getElem_cons_zero, List.getElem_cons_succ, List.setIfInBounds_toArray, List.set_cons_zero, List.set_cons_succ]
          refine wpAnyH_take (i := 16) (v := ?_) rfl (by kernel_rfl) (by kernel_rfl) (by kernel_rfl) (fun _ _ _ h => h) (Or.inl ⟨by rfl, ?_⟩) (by assumption) ?_
          rotate_left
          · (intro w hSw; (try dsimp only at hSw); go_simp; first | done | with_reducible rfl)
          try simp only [Act.put, List.getElem_toArray, List.getElem_cons_zero, List.getElem_cons_succ, List.setIfInBounds_toArray, List.set_cons_zero, List.set_cons_succ]
          refine wpAnyH_done (by kernel_rfl) ?_ _
          have kw5 : Below wr.heap.size wr w5 := (by repeat (first | exact Below.refl _ _ | assumption | (refine below_drewN ?_ _) | (refine Below.drew ?_) | (refine Below.alloc ?_ (by first | omega | (simp; omega) | simp) _) | (refine Below.setCell ?_ (by first | omega | (simp; omega) | simp) _) | (refine below_trans ?_ (by assumption) (by first | omega | (simp; omega) | simp))))
          have hs5n : wr.heap.size ≤ w5.heap.size := by omega
          have a5 : Below w5.heap.size w5 (w5.alloc (.cells #[.slice B5 m c5] 24)) := (Below.refl _ _).alloc (Nat.le_refl _) _
          have PB : Bx (w5.alloc (.cells #[.slice B5 m c5] 24)) w5.heap.size (.slice B5 m c5) := Bx.new w5 (.slice B5 m c5) 24
          have kW : Below wr.heap.size wr (w5.alloc (.cells #[.slice B5 m c5] 24)) := kw5.trans (a5.mono hs5n)
          have oW : GOwn (w5.alloc (.cells #[.slice B5 m c5] 24)) wr.heap.size B5 r := o5.later a5
          clear a5
          have PA := P2.later kW
          have PH := P7.later kW
          have hrW := hrA.later kW
          have oKW := oK.later kW
          have bW : Below w.heap.size w (w5.alloc (.cells #[.slice B5 m c5] 24)) := hb_wr.trans (kW.mono (by omega))
          have hKA := oK.map_
          have zN : wr.heap.size ≤ (World.heap (w5.alloc (.cells #[.slice B5 m c5] 24))).size := kW.size
          have wlt : w.heap.size < b7 := by omega
          clear p20 p21 p70 p71 qa2 qa7 hHeld mw50 mw51 P2 P7 oK rh hb_wr hrA kW kw5 hwr2 o5 hs5 z25 z75 HP e2 ht htm hm0 hm1 hm2
          try clear dx2 dx
          generalize hb11 : w5.heap.size = b11 at *
          generalize (w5.alloc (.cells #[.slice B5 m c5] 24)) = W at *
          generalize wr.heap.size = N at *
          clear hb_w5
          obtain ⟨pa0, pa1⟩ := id PA
          obtain ⟨ph0, ph1⟩ := id PH
          obtain ⟨pb0, pb1⟩ := id PB
          have pal := PA.lt
          have phl := PH.lt
          have pbl := PB.lt
          go_wp2_with fail
          go_at_call 22
          refine (HH.out _ hrW).mono ?_
          rintro e w6 ⟨rfl, hb_w6⟩
          have k6 : Below W.heap.size W w6 := (by repeat (first | exact Below.refl _ _ | assumption | (refine below_drewN ?_ _) | (refine Below.drew ?_) | (refine Below.alloc ?_ (by first | omega | (simp; omega) | simp) _) | (refine Below.setCell ?_ (by first | omega | (simp; omega) | simp) _) | (refine below_trans ?_ (by assumption) (by first | omega | (simp; omega) | simp))))
          clear pa0 pa1 ph0 ph1 pb0 pb1 pal phl pbl
          have PA := PA.later k6
          have PH := PH.later k6
          have PB := PB.later k6
          have hrW := hrW.later k6
          have oW := oW.later k6
          have oKW := oKW.later k6
          obtain ⟨pa0, pa1⟩ := id PA
          obtain ⟨ph0, ph1⟩ := id PH
          obtain ⟨pb0, pb1⟩ := id PB
          have pal := PA.lt
          have phl := PH.lt
          have pbl := PB.lt
          have b6 : Below w.heap.size w w6 := bW.trans (k6.mono (by omega))
          have zN := Nat.le_trans zN k6.size
          clear bW HH
          go_wp2_with fail
          go_at_call 20
          refine (HC.out _ B5 c5 oW.row).mono ?_
          rintro e w7 ⟨rfl, hb_w7⟩
          have k7 : Below w6.heap.size w6 w7 := (by repeat (first | exact Below.refl _ _ | assumption | (refine below_drewN ?_ _) | (refine Below.drew ?_) | (refine Below.alloc ?_ (by first | omega | (simp; omega) | simp) _) | (refine Below.setCell ?_ (by first | omega | (simp; omega) | simp) _) | (refine below_trans ?_ (by assumption) (by first | omega | (simp; omega) | simp))))
          clear pa0 pa1 ph0 ph1 pb0 pb1 pal phl pbl
          have PA := PA.later k7
          have PH := PH.later k7
          have PB := PB.later k7
          have hrW := hrW.later k7
          have oW := oW.later k7
          have oKW := oKW.later k7
          obtain ⟨pa0, pa1⟩ := id PA
          obtain ⟨ph0, ph1⟩ := id PH
          obtain ⟨pb0, pb1⟩ := id PB
          have pal := PA.lt
          have phl := PH.lt
          have pbl := PB.lt
          have b7w : Below w.heap.size w w7 := b6.trans (k7.mono (by omega))
          have zN := Nat.le_trans zN k7.size
          clear b6 HC k6 k7 hb_w6 hb_w7
          go_wp2_with fail
          go_loopw [79] (fun jj wz => ∃ j : Nat, jj = .int .i64 (j : Nat) ∧ j ≤ i ∧ wz = w7) (fun jj _ => i - (intOf jj).toNat)
          case atStart => exact ⟨0, rfl, Nat.zero_le _, rfl⟩
          case round =>
            obtain ⟨j, rfl, hj, rfl⟩ := hrel
            by_cases hlt2 : j < i
            · obtain ⟨b3, o3, rfl, hb3, c3⟩ := oKW.row.cellAt (k := j) (by omega)
              obtain ⟨x, hxp⟩ : ∃ x, Hid (ps.getD j 0 = x) := ⟨_, rfl⟩
              have hne : ¬ x = a := fun e => HNOT.out (by
                rw [← e, ← hxp.out, List.getD_eq_getElem?_getD, List.getElem?_eq_getElem (by omega)]
                exact List.getElem_mem _)
              rw [hxp.out] at c3
              have f1 : ((a : Int) == (x : Int)) = false := beq_eq_false_iff_ne.2 (by omega)
              have j1 : (j : Int) < (i : Int) := by omega
              have j2 : (0 : Int) ≤ (j : Int) := by omega
              clear hne
              go_wp2
              go_roundw
              case rel => exact ⟨j + 1, by go_num, by omega, by first | rfl | trivial⟩
              case measure => simp [intOf]; omega
            · obtain rfl : j = i := by omega
              go_wp2_with (at_builtin; refine wpList_plain (by rfl) (fun K8 hK8 => ?_); refine wp_appendQ (.tmp 87) (.tmp 89) (by rfl) (b7 + 1) Kp ck j (vals ps) (by first | rfl | simp [Act.eval, Act.put]) (oKW.row_.alloc _) (some ⟨wr.heap.size, 0, none⟩) 1 1 (vals [a]) (by first | rfl | simp [Act.eval, Act.put]) rfl (fun _ => ⟨wr.heap.size, 0, rfl, fun j u hj => by have := cell_one_new wr (.int .u64 (a : Nat)) 30 j u hj; rw [add_form] at this; exact this⟩) (vals_one _) (by omega) (by simp; omega) ?_; intro A8 c8 w8 ho8 hg8 hb8 hA8; have QA := (PA.alloc _).kept hg8 (fun e => by have := hKA _ e; omega); have QH := (PH.alloc _).kept hg8 (fun e => by have := hKA _ e; omega); have QB := (PB.alloc _).kept hg8 (fun e => by have := hKA _ e; omega); have QW := (oW.later ((Below.refl _ _).alloc (Nat.le_refl _) _)).kept hg8 (fun M e => (hKA M e).2); have QK : OwnsN w8 (b7 + 1) A8 (j + 1) c8 (ps ++ [a]) := ⟨(by rw [List.length_append, hpsl]; rfl), fun x hx => (by rcases List.mem_append.1 hx with h | h; exact oKW.words x h; rw [List.mem_singleton.1 h]; exact ha64.out), (by rw [vals_app]; exact ho8)⟩; have QZ : Below w.heap.size w w8 := b7w.trans ((((Below.refl (b7 + 1) wr).alloc (by omega) _).trans hb8).mono (by omega)); have QS := hg8.size; simp only [World.size_alloc] at QS; clear hg8 hb8 ho8 hA8; clear pa0 pa1 ph0 ph1 pb0 pb1 pal phl pbl; obtain ⟨ph0, ph1⟩ := id QH; obtain ⟨pb0, pb1⟩ := id QB; refine hK8 _ _ ?_; clear hK8 K8)
              go_roundw
              case rel => exact ⟨j + 1, A8, c8, rfl, by go_num, by omega, ps ++ [a], r, B5, c5, HNX, QK.far (p := ⟨b7, 0, none⟩) (by show b7 < b7 + 1; omega) _, (QW.far (p := ⟨b7, 0, none⟩) (by show b7 < N; omega) _).row, QA.far (p := ⟨b7, 0, none⟩) (by show b7 ≠ w.heap.size; omega) _, QH.set _, by simp; omega, QZ.setCell (p := ⟨b7, 0, none⟩) (by show w.heap.size ≤ b7; omega) _⟩
              case measure => simp [intOf]; omega
        · try simp only [List.getElem_toArray, List.getElem_cons_zero, List.getElem_cons_succ]
          go_simp
          refine hK.out _ _ ?_ (fun hHeld => ?_)
          · (try dsimp only); refine ⟨?_, ?_⟩ <;> first | assumption | (simp [go_sem]; done) | exact (World.cell?_alloc_lt _ _ ⟨_, _, _⟩ (by first | omega | (simp; omega) | simp)).trans (by assumption)
          clear hK K
          try simp only [Act.put, List.getElem_toArray, List.getElem_cons_zero, List.getElem_cons_succ, List.setIfInBounds_toArray, List.set_cons_zero, List.set_cons_succ]
          refine wpAnyH_ready (rs := [6]) (by kernel_rfl) (by simp) ?_
          refine AllReadyH.cons rfl (fun K hK => ?_) AllReadyH.nil
          try simp only [List.getElem_toArray, List.getElem_cons_zero, List.getElem_cons_succ]
          go_simp
          go_at_call 12
          refine (HP.out _ (rh.later (by repeat (first | exact Below.refl _ _ | assumption | (refine below_drewN ?_ _) | (refine Below.drew ?_) | (refine Below.alloc ?_ (by first | omega | (simp; omega) | simp) _) | (refine Below.setCell ?_ (by first | omega | (simp; omega) | simp) _) | (refine below_trans ?_ (by assumption) (by first | omega | (simp; omega) | simp)))))).mono ?_
          rintro e w5 ⟨B5, c5, rfl, o5, hb_w5⟩
          have mw50 : w5.cell? ⟨w.heap.size, 0, none⟩ = some (.slice A m cap) := (hb_w5.cell (p := ⟨w.heap.size, 0, none⟩) (by first | omega | (simp; omega) | simp)).trans (by first | assumption | (simp [go_sem]; done) | exact (World.cell?_alloc_lt _ _ ⟨_, _, _⟩ (by first | omega | (simp; omega) | simp)).trans (by assumption))
          have mw51 : w5.cell? ⟨b7, 0, none⟩ = some (.slice Bh m ch) := (hb_w5.cell (p := ⟨b7, 0, none⟩) (by first | omega | (simp; omega) | simp)).trans (by first | assumption | (simp [go_sem]; done) | exact (World.cell?_alloc_lt _ _ ⟨_, _, _⟩ (by first | omega | (simp; omega) | simp)).trans (by assumption))
          have hs5 := hb_w5.size
          (try simp only [World.size_alloc, World.size_drew] at hs5)
          have z25 : w.heap.size < w5.heap.size := by omega
          have z75 : b7 < w5.heap.size := by omega
          obtain ⟨q0, q1⟩ : Bx w5 wr.heap.size (.slice none 0 0) := (Bx.new wr.drew (.slice none 0 0) 24).later hb_w5
          try go_wp2_with fail
          refine hK.out _ _ ?_ (fun hHeld => ?_)
          · (try dsimp only); refine ⟨?_, ?_⟩ <;> first | assumption | (simp [go_sem]; done) | exact (World.cell?_alloc_lt _ _ ⟨_, _, _⟩ (by first | omega | (simp; omega) | simp)).trans (by assumption)
          clear hK K
          try simp only [Act.put, List.getElem_toArray, List.getElem_cons_zero, List.getElem_cons_succ, List.setIfInBounds_toArray, List.set_cons_zero, List.set_cons_succ]
          refine wpAnyH_take (i := 7) (v := ?_) rfl (by kernel_rfl) (by kernel_rfl) (by kernel_rfl) (fun _ _ _ h => h) (Or.inl ⟨by rfl, ?_⟩) (by assumption) ?_
          rotate_left
          · (intro w hSw; (try dsimp only at hSw); go_simp; first | done | with_reducible rfl)
          try simp only [Act.put, List.getElem_toArray, List.getElem_cons_zero, List.getElem_cons_succ, List.setIfInBounds_toArray, List.set_cons_zero, List.set_cons_succ]
          refine wpAnyH_take (i := 8) (v := ?_) rfl (by kernel_rfl) (by kernel_rfl) (by kernel_rfl) (fun _ _ _ h => h) (Or.inl ⟨by rfl, ?_⟩) (by assumption) ?_
          rotate_left
          · (intro w hSw; (try dsimp only at hSw); go_simp; first | done | with_reducible rfl)
          try simp only [Act.put, List.getElem_toArray, List.getElem_cons_zero, List.getElem_cons_succ, List.setIfInBounds_toArray, List.set_cons_zero, List.set_cons_succ]
          refine wpAnyH_take (i := 9) (v := ?_) rfl (by kernel_rfl) (by kernel_rfl) (by kernel_rfl) (fun _ _ _ h => h) (Or.inl ⟨by rfl, ?_⟩) (by assumption) ?_
          rotate_left
          · (intro w hSw; (try dsimp only at hSw); go_simp; first | done | with_reducible rfl)
          try simp only [Act.put, List.getElem_toArray, List.getElem_cons_zero, List.getElem_cons_succ, List.setIfInBounds_toArray, List.set_cons_zero, List.set_cons_succ]
          refine wpAnyH_take (i := 10) (v := ?_) rfl (by kernel_rfl) (by kernel_rfl) (by kernel_rfl) (fun _ _ _ h => h) (Or.inl ⟨by rfl, ?_⟩) (by assumption) ?_
          rotate_left
          · (intro w hSw; (try dsimp only at hSw); go_simp; first | done | with_reducible rfl)
          try simp only [Act.put, List.getElem_toArray, List.getElem_cons_zero, List.getElem_cons_succ, List.setIfInBounds_toArray, List.set_cons_zero, List.set_cons_succ]
          refine wpAnyH_take (i := 11) (v := ?_) rfl (by kernel_rfl) (by kernel_rfl) (by kernel_rfl) (fun _ _ _ h => h) (Or.inl ⟨by rfl, ?_⟩) (by assumption) ?_
          rotate_left
          · (intro w hSw; (try dsimp only at hSw); go_simp; first | done | with_reducible rfl)
          try simp only [Act.put, List.getElem_toArray, List.getElem_cons_zero, List.getElem_cons_succ, List.setIfInBounds_toArray, List.set_cons_zero, List.set_cons_succ]
          refine wpAnyH_ready (rs := [13]) (by kernel_rfl) (by simp) ?_
          refine AllReadyH.cons rfl (fun K hK => ?_) AllReadyH.nil
          try simp only [List.getElem_toArray, List.getElem_cons_zero, List.getElem_cons_succ]
          go_simp
          refine hK.out _ _ ?_ (fun hHeld => ?_)
          · (try dsimp only); refine ⟨?_, ?_⟩ <;> exact (World.cell?_setCell_other _ _ _ _ (by intro e; injection e with e1; omega)).trans (by first | assumption | exact (World.cell?_alloc_lt _ _ ⟨_, _, _⟩ (by first | omega | (simp; omega) | simp)).trans (by assumption))
          clear hK K
          try simp only [Act.put, List.getElem_toArray, List.getElem_cons_zero, List.getElem_cons_succ, List.setIfInBounds_toArray, List.set_cons_zero, List.set_cons_succ]
          refine wpAnyH_take (i := 14) (v := ?_) rfl (by kernel_rfl) (by kernel_rfl) (by kernel_rfl) (fun _ _ _ h => h) (Or.inl ⟨by rfl, ?_⟩) (by assumption) ?_
          rotate_left
          · (intro w hSw; (try dsimp only at hSw); go_simp; first | done | with_reducible rfl)
          try simp only [Act.put, List.getElem_toArray, List.getElem_cons_zero, List.getElem_cons_succ, List.setIfInBounds_toArray, List.set_cons_zero, List.set_cons_succ]
          refine wpAnyH_take (i := 15) (v := ?_) rfl (by kernel_rfl) (by kernel_rfl) (by kernel_rfl) (fun _ _ _ h => h) (Or.inl ⟨by rfl, ?_⟩) (by assumption) ?_
          rotate_left
          · (intro w hSw; (try dsimp only at hSw); go_simp; first | done | with_reducible rfl)
          try simp only [Act.put, List.getElem_toArray, List.getElem_cons_zero, List.getElem_cons_succ, List.setIfInBounds_toArray, List.set_cons_zero, List.set_cons_succ]
          refine wpAnyH_take (i := 16) (v := ?_) rfl (by kernel_rfl) (by kernel_rfl) (by kernel_rfl) (fun _ _ _ h => h) (Or.inl ⟨by rfl, ?_⟩) (by assumption) ?_
          rotate_left
          · (intro w hSw; (try dsimp only at hSw); go_simp; first | done | with_reducible rfl)
          try simp only [Act.put, List.getElem_toArray, List.getElem_cons_zero, List.getElem_cons_succ, List.setIfInBounds_toArray, List.set_cons_zero, List.set_cons_succ]
          refine wpAnyH_done (by kernel_rfl) ?_ _
          have kw5 : Below wr.heap.size wr w5 := (by repeat (first | exact Below.refl _ _ | assumption | (refine below_drewN ?_ _) | (refine Below.drew ?_) | (refine Below.alloc ?_ (by first | omega | (simp; omega) | simp) _) | (refine Below.setCell ?_ (by first | omega | (simp; omega) | simp) _) | (refine below_trans ?_ (by assumption) (by first | omega | (simp; omega) | simp))))
          have hs5n : wr.heap.size ≤ wr.heap.size := Nat.le_refl _
          have PB : Bx (w5.setCell ⟨wr.heap.size, 0, none⟩ (.slice B5 m c5)) wr.heap.size (.slice B5 m c5) := Bx.set (v := .slice none 0 0) ⟨q0, q1⟩ _
          have kW : Below wr.heap.size wr (w5.setCell ⟨wr.heap.size, 0, none⟩ (.slice B5 m c5)) := kw5.setCell (p := ⟨wr.heap.size, 0, none⟩) (Nat.le_refl _) _
          have oW : GOwn (w5.setCell ⟨wr.heap.size, 0, none⟩ (.slice B5 m c5)) wr.heap.size B5 r := (o5.far (p := ⟨wr.heap.size, 0, none⟩) (by simp) _).mono (by simp)
          clear q0 q1
          have PA := P2.later kW
          have PH := P7.later kW
          have hrW := hrA.later kW
          have oKW := oK.later kW
          have bW : Below w.heap.size w (w5.setCell ⟨wr.heap.size, 0, none⟩ (.slice B5 m c5)) := hb_wr.trans (kW.mono (by omega))
          have hKA := oK.map_
          have zN : wr.heap.size ≤ (World.heap (w5.setCell ⟨wr.heap.size, 0, none⟩ (.slice B5 m c5))).size := kW.size
          have wlt : w.heap.size < b7 := by omega
          clear p20 p21 p70 p71 qa2 qa7 hHeld mw50 mw51 P2 P7 oK rh hb_wr hrA kW kw5 hwr2 o5 hs5 z25 z75 HP e2 ht htm hm0 hm1 hm2
          try clear dx2 dx
          skip
          generalize (w5.setCell ⟨wr.heap.size, 0, none⟩ (.slice B5 m c5)) = W at *
          generalize wr.heap.size = N at *
          clear hb_w5
          obtain ⟨pa0, pa1⟩ := id PA
          obtain ⟨ph0, ph1⟩ := id PH
          obtain ⟨pb0, pb1⟩ := id PB
          have pal := PA.lt
          have phl := PH.lt
          have pbl := PB.lt
          go_wp2_with fail
          go_at_call 22
          refine (HH.out _ hrW).mono ?_
          rintro e w6 ⟨rfl, hb_w6⟩
          have k6 : Below W.heap.size W w6 := (by repeat (first | exact Below.refl _ _ | assumption | (refine below_drewN ?_ _) | (refine Below.drew ?_) | (refine Below.alloc ?_ (by first | omega | (simp; omega) | simp) _) | (refine Below.setCell ?_ (by first | omega | (simp; omega) | simp) _) | (refine below_trans ?_ (by assumption) (by first | omega | (simp; omega) | simp))))
          clear pa0 pa1 ph0 ph1 pb0 pb1 pal phl pbl
          have PA := PA.later k6
          have PH := PH.later k6
          have PB := PB.later k6
          have hrW := hrW.later k6
          have oW := oW.later k6
          have oKW := oKW.later k6
          obtain ⟨pa0, pa1⟩ := id PA
          obtain ⟨ph0, ph1⟩ := id PH
          obtain ⟨pb0, pb1⟩ := id PB
          have pal := PA.lt
          have phl := PH.lt
          have pbl := PB.lt
          have b6 : Below w.heap.size w w6 := bW.trans (k6.mono (by omega))
          have zN := Nat.le_trans zN k6.size
          clear bW HH
          go_wp2_with fail
          go_at_call 20
          refine (HC.out _ B5 c5 oW.row).mono ?_
          rintro e w7 ⟨rfl, hb_w7⟩
          have k7 : Below w6.heap.size w6 w7 := (by repeat (first | exact Below.refl _ _ | assumption | (refine below_drewN ?_ _) | (refine Below.drew ?_) | (refine Below.alloc ?_ (by first | omega | (simp; omega) | simp) _) | (refine Below.setCell ?_ (by first | omega | (simp; omega) | simp) _) | (refine below_trans ?_ (by assumption) (by first | omega | (simp; omega) | simp))))
          clear pa0 pa1 ph0 ph1 pb0 pb1 pal phl pbl
          have PA := PA.later k7
          have PH := PH.later k7
          have PB := PB.later k7
          have hrW := hrW.later k7
          have oW := oW.later k7
          have oKW := oKW.later k7
          obtain ⟨pa0, pa1⟩ := id PA
          obtain ⟨ph0, ph1⟩ := id PH
          obtain ⟨pb0, pb1⟩ := id PB
          have pal := PA.lt
          have phl := PH.lt
          have pbl := PB.lt
          have b7w : Below w.heap.size w w7 := b6.trans (k7.mono (by omega))
          have zN := Nat.le_trans zN k7.size
          clear b6 HC k6 k7 hb_w6 hb_w7
          go_wp2_with fail
          go_loopw [79] (fun jj wz => ∃ j : Nat, jj = .int .i64 (j : Nat) ∧ j ≤ i ∧ wz = w7) (fun jj _ => i - (intOf jj).toNat)
          case atStart => exact ⟨0, rfl, Nat.zero_le _, rfl⟩
          case round =>
            obtain ⟨j, rfl, hj, rfl⟩ := hrel
            by_cases hlt2 : j < i
            · obtain ⟨b3, o3, rfl, hb3, c3⟩ := oKW.row.cellAt (k := j) (by omega)
              obtain ⟨x, hxp⟩ : ∃ x, Hid (ps.getD j 0 = x) := ⟨_, rfl⟩
              have hne : ¬ x = a := fun e => HNOT.out (by
                rw [← e, ← hxp.out, List.getD_eq_getElem?_getD, List.getElem?_eq_getElem (by omega)]
                exact List.getElem_mem _)
              rw [hxp.out] at c3
              have f1 : ((a : Int) == (x : Int)) = false := beq_eq_false_iff_ne.2 (by omega)
              have j1 : (j : Int) < (i : Int) := by omega
              have j2 : (0 : Int) ≤ (j : Int) := by omega
              clear hne
              go_wp2
              go_roundw
              case rel => exact ⟨j + 1, by go_num, by omega, by first | rfl | trivial⟩
              case measure => simp [intOf]; omega
            · obtain rfl : j = i := by omega
              go_wp2_with (at_builtin; refine wpList_plain (by rfl) (fun K8 hK8 => ?_); refine wp_appendQ (.tmp 87) (.tmp 89) (by rfl) (b7 + 1) Kp ck j (vals ps) (by first | rfl | simp [Act.eval, Act.put]) (oKW.row_.alloc _) (some ⟨wr.heap.size, 0, none⟩) 1 1 (vals [a]) (by first | rfl | simp [Act.eval, Act.put]) rfl (fun _ => ⟨wr.heap.size, 0, rfl, fun j u hj => by have := cell_one_new wr (.int .u64 (a : Nat)) 30 j u hj; rw [add_form] at this; exact this⟩) (vals_one _) (by omega) (by simp; omega) ?_; intro A8 c8 w8 ho8 hg8 hb8 hA8; have QA := (PA.alloc _).kept hg8 (fun e => by have := hKA _ e; omega); have QH := (PH.alloc _).kept hg8 (fun e => by have := hKA _ e; omega); have QB := (PB.alloc _).kept hg8 (fun e => by have := hKA _ e; omega); have QW := (oW.later ((Below.refl _ _).alloc (Nat.le_refl _) _)).kept hg8 (fun M e => (hKA M e).2); have QK : OwnsN w8 (b7 + 1) A8 (j + 1) c8 (ps ++ [a]) := ⟨(by rw [List.length_append, hpsl]; rfl), fun x hx => (by rcases List.mem_append.1 hx with h | h; exact oKW.words x h; rw [List.mem_singleton.1 h]; exact ha64.out), (by rw [vals_app]; exact ho8)⟩; have QZ : Below w.heap.size w w8 := b7w.trans ((((Below.refl (b7 + 1) wr).alloc (by omega) _).trans hb8).mono (by omega)); have QS := hg8.size; simp only [World.size_alloc] at QS; clear hg8 hb8 ho8 hA8; clear pa0 pa1 ph0 ph1 pb0 pb1 pal phl pbl; obtain ⟨ph0, ph1⟩ := id QH; obtain ⟨pb0, pb1⟩ := id QB; refine hK8 _ _ ?_; clear hK8 K8)
              go_roundw
              case rel => exact ⟨j + 1, A8, c8, rfl, by go_num, by omega, ps ++ [a], r, B5, c5, HNX, QK.far (p := ⟨b7, 0, none⟩) (by show b7 < b7 + 1; omega) _, (QW.far (p := ⟨b7, 0, none⟩) (by show b7 < N; omega) _).row, QA.far (p := ⟨b7, 0, none⟩) (by show b7 ≠ w.heap.size; omega) _, QH.set _, by simp; omega, QZ.setCell (p := ⟨b7, 0, none⟩) (by show w.heap.size ≤ b7; omega) _⟩
              case measure => simp [intOf]; omega
      · obtain rfl : L = 0 := by omega
        have hv8 : i < 256 := by omega
        clear hx0
        obtain ⟨t, ht, htm⟩ : ∃ t, Hid (i % m = t) ∧ t < m := ⟨_, rfl, Nat.mod_lt _ (by omega)⟩
        have e2 : Int.tmod (i : Int) (m : Int) = (t : Nat) := by rw [Int.tmod_eq_emod_of_nonneg (by omega)]; have := ht.out; omega
        have hm0 : ((m : Int) == 0) = false := beq_eq_false_iff_ne.2 (by omega)
        have hm1 : ¬ ((m : Int) = 0) := by omega
        have hm2 : ¬ (m = 0) := by omega
        obtain ⟨r, a, s, hE⟩ := pop_goes (t := t) HI.out.ok (by omega) (by rw [hql.out]; exact htm)
        obtain ⟨k, hkk, hPO⟩ := hE.ok
        clear hkk
        obtain ⟨hnx, hnot, hcnt, hmem⟩ := HI.out.next HOK.out hPO
        have HNX := Lib.hid hnx
        have HNOT := Lib.hid hnot
        have HOKR := Lib.hid hnx.ok
        have hrl : Hid (r.length = m) := Lib.hid (hnx.len.trans hm.out)
        have hrlim := hnx.ok.hi
        have HP := Lib.hid fun (W : World) hr => HPOP.out W Bh ch q r (t : Int) (by omega) a s 0 hr hE
        rw [hql.out, hrl.out] at HP
        have HC := Lib.hid fun (W : World) (C : Option Addr) (cc : Nat) hr => HCHK.out W C cc r hr HOKR.out
        rw [hrl.out] at HC
        have HH := Lib.hid fun (W : World) hr => HHAS.out W hr a hcnt
        have ha64 : Hid (a < W64) := Lib.hid (by
          obtain ⟨l, hl, hal⟩ := List.mem_flatten.1 hmem
          obtain ⟨z, hz, rfl⟩ := List.getElem_of_mem hl
          obtain ⟨_, _, _, _, hcc⟩ := hr.at_ (by omega)
          obtain ⟨_, _, _, hrw, _⟩ := hcc z hz
          rw [nq_get _ _ hz] at hrw
          exact hrw.words a hal)
        have hpsl := HI.out.pl
        clear hE hPO hnx hnot hcnt hmem hleft
        have hrA := hr.later hb_wr
        have hwr2 : w.heap.size < wr.heap.size := P2.lt
        have hb72 : b7 < wr.heap.size := P7.lt
        go_wp2_with fail
        have qa2 := (P2.alloc (.cells #[.slice none 0 0] 24)).c
        have qa7 := (P7.alloc (.cells #[.slice none 0 0] 24)).c
        refine wp_region_held_drew (S := (fun X : World => X.cell? ⟨w.heap.size, 0, none⟩ = some (.slice A m cap) ∧ X.cell? ⟨b7, 0, none⟩ = some (.slice Bh m ch))) (by kernel_rfl) ?_ (fun hHeld => ?_)
        · (try dsimp only); refine ⟨?_, ?_⟩ <;> first | assumption | (simp [go_sem]; done) | exact (World.cell?_alloc_lt _ _ ⟨_, _, _⟩ (by first | omega | (simp; omega) | simp)).trans (by assumption)
        refine wpAnyH_take (i := 0) (v := ?_) rfl (by kernel_rfl) (by kernel_rfl) (by kernel_rfl) (fun _ _ _ h => h) (Or.inl ⟨by rfl, ?_⟩) (by assumption) ?_
        rotate_left
        · (intro w hSw; (try dsimp only at hSw); go_simp; first | done | with_reducible rfl)
        try simp only [Act.put, List.getElem_toArray, List.getElem_cons_zero, List.getElem_cons_succ, List.setIfInBounds_toArray, List.set_cons_zero, List.set_cons_succ]
        refine wpAnyH_take (i := 1) (v := ?_) rfl (by kernel_rfl) (by kernel_rfl) (by kernel_rfl) (fun _ _ _ h => h) (Or.inl ⟨by rfl, ?_⟩) (by assumption) ?_
        rotate_left
        · (intro w hSw; (try dsimp only at hSw); go_simp; first | done | with_reducible rfl)
        try simp only [Act.put, List.getElem_toArray, List.getElem_cons_zero, List.getElem_cons_succ, List.setIfInBounds_toArray, List.set_cons_zero, List.set_cons_succ]
        refine wpAnyH_take (i := 2) (v := ?_) rfl (by kernel_rfl) (by kernel_rfl) (by kernel_rfl) (fun _ _ _ h => h) (Or.inl ⟨by rfl, ?_⟩) (by assumption) ?_
        rotate_left
        · (intro w hSw; (try dsimp only at hSw); go_simp; first | done | with_reducible rfl)
        try simp only [Act.put, List.getElem_toArray, List.getElem_cons_zero, List.getElem_cons_succ, List.setIfInBounds_toArray, List.set_cons_zero, List.set_cons_succ]
        refine wpAnyH_take (i := 3) (v := ?_) rfl (by kernel_rfl) (by kernel_rfl) (by kernel_rfl) (fun _ _ _ h => h) (Or.inl ⟨by rfl, ?_⟩) (by assumption) ?_
        rotate_left
        · (intro w hSw; (try dsimp only at hSw); go_simp; first | done | with_reducible rfl)
        try simp only [Act.put, List.getElem_toArray, List.getElem_cons_zero, List.getElem_cons_succ, List.setIfInBounds_toArray, List.set_cons_zero, List.set_cons_succ]
        refine wpAnyH_take (i := 4) (v := ?_) rfl (by kernel_rfl) (by kernel_rfl) (by kernel_rfl) (fun _ _ _ h => h) (Or.inl ⟨by rfl, ?_⟩) (by assumption) ?_
        rotate_left
        · (intro w hSw; (try dsimp only at hSw); go_simp; first | done | with_reducible rfl)
        try simp only [Act.put, List.getElem_toArray, List.getElem_cons_zero, List.getElem_cons_succ, List.setIfInBounds_toArray, List.set_cons_zero, List.set_cons_succ]
        refine wpAnyH_take (i := 5) (v := ?_) rfl (by kernel_rfl) (by kernel_rfl) (by kernel_rfl) (fun _ _ _ h => h) (Or.inl ⟨by rfl, ?_⟩) (by assumption) ?_
        rotate_left
        · (intro w hSw; (try dsimp only at hSw); go_simp; first | done | with_reducible rfl)
        try simp only [Act.put, List.getElem_toArray, List.getElem_cons_zero, List.getElem_cons_succ, List.setIfInBounds_toArray, List.set_cons_zero, List.set_cons_succ]
        refine wpAnyH_ready (rs := [6, 12]) (by kernel_rfl) (by simp) ?_
        refine AllReadyH.cons rfl (fun K hK => ?_) (AllReadyH.cons rfl (fun K hK => ?_) AllReadyH.nil)
        · try simp only [List.getElem_toArray, List.getElem_cons_zero, List.getElem_cons_succ]
          go_simp
          go_at_call 12
          refine (HP.out _ (rh.later (by repeat (first | exact Below.refl _ _ | assumption | (refine below_drewN ?_ _) | (refine Below.drew ?_) | (refine Below.alloc ?_ (by first | omega | (simp; omega) | simp) _) | (refine Below.setCell ?_ (by first | omega | (simp; omega) | simp) _) | (refine below_trans ?_ (by assumption) (by first | omega | (simp; omega) | simp)))))).mono ?_
          rintro e w5 ⟨B5, c5, rfl, o5, hb_w5⟩
          have mw50 : w5.cell? ⟨w.heap.size, 0, none⟩ = some (.slice A m cap) := (hb_w5.cell (p := ⟨w.heap.size, 0, none⟩) (by first | omega | (simp; omega) | simp)).trans (by first | assumption | (simp [go_sem]; done) | exact (World.cell?_alloc_lt _ _ ⟨_, _, _⟩ (by first | omega | (simp; omega) | simp)).trans (by assumption))
          have mw51 : w5.cell? ⟨b7, 0, none⟩ = some (.slice Bh m ch) := (hb_w5.cell (p := ⟨b7, 0, none⟩) (by first | omega | (simp; omega) | simp)).trans (by first | assumption | (simp [go_sem]; done) | exact (World.cell?_alloc_lt _ _ ⟨_, _, _⟩ (by first | omega | (simp; omega) | simp)).trans (by assumption))
          have hs5 := hb_w5.size
          (try simp only [World.size_alloc, World.size_drew] at hs5)
          have z25 : w.heap.size < w5.heap.size := by omega
          have z75 : b7 < w5.heap.size := by omega
          try go_wp2_with fail
          refine hK.out _ _ ?_ (fun hHeld => ?_)
          · (try dsimp only); refine ⟨?_, ?_⟩ <;> first | assumption | (simp [go_sem]; done) | exact (World.cell?_alloc_lt _ _ ⟨_, _, _⟩ (by first | omega | (simp; omega) | simp)).trans (by assumption)
          clear hK K
          try simp only [Act.put, List.getElem_toArray, List.getElem_cons_zero, List.getElem_cons_succ, List.setIfInBounds_toArray, List.set_cons_zero, List.set_cons_succ]
          refine wpAnyH_take (i := 7) (v := ?_) rfl (by kernel_rfl) (by kernel_rfl) (by kernel_rfl) (fun _ _ _ h => h) (Or.inl ⟨by rfl, ?_⟩) (by assumption) ?_
          rotate_left
          · (intro w hSw; (try dsimp only at hSw); go_simp; first | done | with_reducible rfl)
          try simp only [Act.put, List.getElem_toArray, List.getElem_cons_zero, List.getElem_cons_succ, List.setIfInBounds_toArray, List.set_cons_zero, List.set_cons_succ]
          refine wpAnyH_take (i := 8) (v := ?_) rfl (by kernel_rfl) (by kernel_rfl) (by kernel_rfl) (fun _ _ _ h => h) (Or.inl ⟨by rfl, ?_⟩) (by assumption) ?_
          rotate_left
          · (intro w hSw; (try dsimp only at hSw); go_simp; first | done | with_reducible rfl)
          try simp only [Act.put, List.getElem_toArray, List.getElem_cons_zero, List.getElem_cons_succ, List.setIfInBounds_toArray, List.set_cons_zero, List.set_cons_succ]
          refine wpAnyH_take (i := 9) (v := ?_) rfl (by kernel_rfl) (by kernel_rfl) (by kernel_rfl) (fun _ _ _ h => h) (Or.inl ⟨by rfl, ?_⟩) (by assumption) ?_
          rotate_left
          · (intro w hSw; (try dsimp only at hSw); go_simp; first | done | with_reducible rfl)
          try simp only [Act.put, List.getElem_toArray, List.getElem_cons_zero, List.getElem_cons_succ, List.setIfInBounds_toArray, List.set_cons_zero, List.set_cons_succ]
          refine wpAnyH_take (i := 10) (v := ?_) rfl (by kernel_rfl) (by kernel_rfl) (by kernel_rfl) (fun _ _ _ h => h) (Or.inl ⟨by rfl, ?_⟩) (by assumption) ?_
          rotate_left
          · (intro w hSw; (try dsimp only at hSw); go_simp; first | done | with_reducible rfl)
          try simp only [Act.put, List.getElem_toArray, List.getElem_cons_zero, List.getElem_cons_succ, List.setIfInBounds_toArray, List.set_cons_zero, List.set_cons_succ]
          refine wpAnyH_take (i := 11) (v := ?_) rfl (by kernel_rfl) (by kernel_rfl) (by kernel_rfl) (fun _ _ _ h => h) (Or.inl ⟨by rfl, ?_⟩) (by assumption) ?_
          rotate_left
          · (intro w hSw; (try dsimp only at hSw); go_simp; first | done | with_reducible rfl)
          try simp only [Act.put, List.getElem_toArray, List.getElem_cons_zero, List.getElem_cons_succ, List.setIfInBounds_toArray, List.set_cons_zero, List.set_cons_succ]
          refine wpAnyH_ready (rs := [12]) (by kernel_rfl) (by simp) ?_
          refine AllReadyH.cons rfl (fun K hK => ?_) AllReadyH.nil
          try simp only [List.getElem_toArray, List.getElem_cons_zero, List.getElem_cons_succ]
          go_simp
          refine hK.out _ _ ?_ (fun hHeld => ?_)
          · (try dsimp only); refine ⟨?_, ?_⟩ <;> first | assumption | (simp [go_sem]; done) | exact (World.cell?_alloc_lt _ _ ⟨_, _, _⟩ (by first | omega | (simp; omega) | simp)).trans (by assumption)
          clear hK K
          try simp only [Act.put, List.getElem_toArray, List.getElem_cons_zero, List.getElem_cons_succ, List.setIfInBounds_toArray, List.set_cons_zero, List.set_cons_succ]
          refine wpAnyH_ready (rs := [13]) (by kernel_rfl) (by simp) ?_
          refine AllReadyH.cons rfl (fun K hK => ?_) AllReadyH.nil
          try simp only [List.getElem_toArray, List.getElem_cons_zero, List.getElem_cons_succ]
          go_simp
          refine hK.out _ _ ?_ (fun hHeld => ?_)
          · (try dsimp only); refine ⟨?_, ?_⟩ <;> first | assumption | (simp [go_sem]; done) | exact (World.cell?_alloc_lt _ _ ⟨_, _, _⟩ (by first | omega | (simp; omega) | simp)).trans (by assumption)
          clear hK K
          try simp only [Act.put, List.getElem_toArray, List.getElem_cons_zero, List.getElem_cons_succ, List.setIfInBounds_toArray, List.set_cons_zero, List.set_cons_succ]
          refine wpAnyH_take (i := 14) (v := ?_) rfl (by kernel_rfl) (by kernel_rfl) (by kernel_rfl) (fun _ _ _ h => h) (Or.inl ⟨by rfl, ?_⟩) (by assumption) ?_
          rotate_left
          · (intro w hSw; (try dsimp only at hSw); go_simp; first | done | with_reducible rfl)
          try simp only [Act.put, List.getElem_toArray, List.getElem_cons_zero, List.getElem_cons_succ, List.setIfInBounds_toArray, List.set_cons_zero, List.set_cons_succ]
          refine wpAnyH_take (i := 15) (v := ?_) rfl (by kernel_rfl) (by kernel_rfl) (by kernel_rfl) (fun _ _ _ h => h) (Or.inl ⟨by rfl, ?_⟩) (by assumption) ?_
          rotate_left
          · (intro w hSw; (try dsimp only at hSw); go_simp; first | done | with_reducible rfl)
          try simp only [Act.put, List.getElem_toArray, List.getElem_cons_zero, List.getElem_cons_succ, List.setIfInBounds_toArray, List.set_cons_zero, List.set_cons_succ]
          refine wpAnyH_take (i := 16) (v := ?_) rfl (by kernel_rfl) (by kernel_rfl) (by kernel_rfl) (fun _ _ _ h => h) (Or.inl ⟨by rfl, ?_⟩) (by assumption) ?_
          rotate_left
          · (intro w hSw; (try dsimp only at hSw); go_simp; first | done | with_reducible rfl)
          try simp only [Act.put, List.getElem_toArray, List.getElem_cons_zero, List.getElem_cons_succ, List.setIfInBounds_toArray, List.set_cons_zero, List.set_cons_succ]
          refine wpAnyH_done (by kernel_rfl) ?_ _
          have kw5 : Below wr.heap.size wr w5 := (by repeat (first | exact Below.refl _ _ | assumption | (refine below_drewN ?_ _) | (refine Below.drew ?_) | (refine Below.alloc ?_ (by first | omega | (simp; omega) | simp) _) | (refine Below.setCell ?_ (by first | omega | (simp; omega) | simp) _) | (refine below_trans ?_ (by assumption) (by first | omega | (simp; omega) | simp))))
          have hs5n : wr.heap.size ≤ w5.heap.size := by omega
          have a5 : Below w5.heap.size w5 (w5.alloc (.cells #[.slice B5 m c5] 24)) := (Below.refl _ _).alloc (Nat.le_refl _) _
          have PB : Bx (w5.alloc (.cells #[.slice B5 m c5] 24)) w5.heap.size (.slice B5 m c5) := Bx.new w5 (.slice B5 m c5) 24
          have kW : Below wr.heap.size wr (w5.alloc (.cells #[.slice B5 m c5] 24)) := kw5.trans (a5.mono hs5n)
          have oW : GOwn (w5.alloc (.cells #[.slice B5 m c5] 24)) wr.heap.size B5 r := o5.later a5
          clear a5
          have PA := P2.later kW
          have PH := P7.later kW
          have hrW := hrA.later kW
          have oKW := oK.later kW
          have bW : Below w.heap.size w (w5.alloc (.cells #[.slice B5 m c5] 24)) := hb_wr.trans (kW.mono (by omega))
          have hKA := oK.map_
          have zN : wr.heap.size ≤ (World.heap (w5.alloc (.cells #[.slice B5 m c5] 24))).size := kW.size
          have wlt : w.heap.size < b7 := by omega
          clear p20 p21 p70 p71 qa2 qa7 hHeld mw50 mw51 P2 P7 oK rh hb_wr hrA kW kw5 hwr2 o5 hs5 z25 z75 HP e2 ht htm hm0 hm1 hm2
          try clear dx2 dx
          generalize hb11 : w5.heap.size = b11 at *
          generalize (w5.alloc (.cells #[.slice B5 m c5] 24)) = W at *
          generalize wr.heap.size = N at *
          clear hb_w5
          obtain ⟨pa0, pa1⟩ := id PA
          obtain ⟨ph0, ph1⟩ := id PH
          obtain ⟨pb0, pb1⟩ := id PB
          have pal := PA.lt
          have phl := PH.lt
          have pbl := PB.lt
          go_wp2_with fail
          go_at_call 22
          refine (HH.out _ hrW).mono ?_
          rintro e w6 ⟨rfl, hb_w6⟩
          have k6 : Below W.heap.size W w6 := (by repeat (first | exact Below.refl _ _ | assumption | (refine below_drewN ?_ _) | (refine Below.drew ?_) | (refine Below.alloc ?_ (by first | omega | (simp; omega) | simp) _) | (refine Below.setCell ?_ (by first | omega | (simp; omega) | simp) _) | (refine below_trans ?_ (by assumption) (by first | omega | (simp; omega) | simp))))
          clear pa0 pa1 ph0 ph1 pb0 pb1 pal phl pbl
          have PA := PA.later k6
          have PH := PH.later k6
          have PB := PB.later k6
          have hrW := hrW.later k6
          have oW := oW.later k6
          have oKW := oKW.later k6
          obtain ⟨pa0, pa1⟩ := id PA
          obtain ⟨ph0, ph1⟩ := id PH
          obtain ⟨pb0, pb1⟩ := id PB
          have pal := PA.lt
          have phl := PH.lt
          have pbl := PB.lt
          have b6 : Below w.heap.size w w6 := bW.trans (k6.mono (by omega))
          have zN := Nat.le_trans zN k6.size
          clear bW HH
          go_wp2_with fail
          go_at_call 20
          refine (HC.out _ B5 c5 oW.row).mono ?_
          rintro e w7 ⟨rfl, hb_w7⟩
          have k7 : Below w6.heap.size w6 w7 := (by repeat (first | exact Below.refl _ _ | assumption | (refine below_drewN ?_ _) | (refine Below.drew ?_) | (refine Below.alloc ?_ (by first | omega | (simp; omega) | simp) _) | (refine Below.setCell ?_ (by first | omega | (simp; omega) | simp) _) | (refine below_trans ?_ (by assumption) (by first | omega | (simp; omega) | simp))))
          clear pa0 pa1 ph0 ph1 pb0 pb1 pal phl pbl
          have PA := PA.later k7
          have PH := PH.later k7
          have PB := PB.later k7
          have hrW := hrW.later k7
          have oW := oW.later k7
          have oKW := oKW.later k7
          obtain ⟨pa0, pa1⟩ := id PA
          obtain ⟨ph0, ph1⟩ := id PH
          obtain ⟨pb0, pb1⟩ := id PB
          have pal := PA.lt
          have phl := PH.lt
          have pbl := PB.lt
          have b7w : Below w.heap.size w w7 := b6.trans (k7.mono (by omega))
          have zN := Nat.le_trans zN k7.size
          clear b6 HC k6 k7 hb_w6 hb_w7
          go_wp2_with fail
          go_loopw [79] (fun jj wz => ∃ j : Nat, jj = .int .i64 (j : Nat) ∧ j ≤ i ∧ wz = w7) (fun jj _ => i - (intOf jj).toNat)
          case atStart => exact ⟨0, rfl, Nat.zero_le _, rfl⟩
          case round =>
            obtain ⟨j, rfl, hj, rfl⟩ := hrel
            by_cases hlt2 : j < i
            · obtain ⟨b3, o3, rfl, hb3, c3⟩ := oKW.row.cellAt (k := j) (by omega)
              obtain ⟨x, hxp⟩ : ∃ x, Hid (ps.getD j 0 = x) := ⟨_, rfl⟩
              have hne : ¬ x = a := fun e => HNOT.out (by
                rw [← e, ← hxp.out, List.getD_eq_getElem?_getD, List.getElem?_eq_getElem (by omega)]
                exact List.getElem_mem _)
              rw [hxp.out] at c3
              have f1 : ((a : Int) == (x : Int)) = false := beq_eq_false_iff_ne.2 (by omega)
              have j1 : (j : Int) < (i : Int) := by omega
              have j2 : (0 : Int) ≤ (j : Int) := by omega
              clear hne
              go_wp2
              go_roundw
              case rel => exact ⟨j + 1, by go_num, by omega, by first | rfl | trivial⟩
              case measure => simp [intOf]; omega
            · obtain rfl : j = i := by omega
              go_wp2_with (at_builtin; refine wpList_plain (by rfl) (fun K8 hK8 => ?_); refine wp_appendQ (.tmp 87) (.tmp 89) (by rfl) (b7 + 1) Kp ck j (vals ps) (by first | rfl | simp [Act.eval, Act.put]) (oKW.row_.alloc _) (some ⟨wr.heap.size, 0, none⟩) 1 1 (vals [a]) (by first | rfl | simp [Act.eval, Act.put]) rfl (fun _ => ⟨wr.heap.size, 0, rfl, fun j u hj => by have := cell_one_new wr (.int .u64 (a : Nat)) 30 j u hj; rw [add_form] at this; exact this⟩) (vals_one _) (by omega) (by simp; omega) ?_; intro A8 c8 w8 ho8 hg8 hb8 hA8; have QA := (PA.alloc _).kept hg8 (fun e => by have := hKA _ e; omega); have QH := (PH.alloc _).kept hg8 (fun e => by have := hKA _ e; omega); have QB := (PB.alloc _).kept hg8 (fun e => by have := hKA _ e; omega); have QW := (oW.later ((Below.refl _ _).alloc (Nat.le_refl _) _)).kept hg8 (fun M e => (hKA M e).2); have QK : OwnsN w8 (b7 + 1) A8 (j + 1) c8 (ps ++ [a]) := ⟨(by rw [List.length_append, hpsl]; rfl), fun x hx => (by rcases List.mem_append.1 hx with h | h; exact oKW.words x h; rw [List.mem_singleton.1 h]; exact ha64.out), (by rw [vals_app]; exact ho8)⟩; have QZ : Below w.heap.size w w8 := b7w.trans ((((Below.refl (b7 + 1) wr).alloc (by omega) _).trans hb8).mono (by omega)); have QS := hg8.size; simp only [World.size_alloc] at QS; clear hg8 hb8 ho8 hA8; clear pa0 pa1 ph0 ph1 pb0 pb1 pal phl pbl; obtain ⟨ph0, ph1⟩ := id QH; obtain ⟨pb0, pb1⟩ := id QB; refine hK8 _ _ ?_; clear hK8 K8)
              go_roundw
              case rel => exact ⟨j + 1, A8, c8, rfl, by go_num, by omega, ps ++ [a], r, B5, c5, HNX, QK.far (p := ⟨b7, 0, none⟩) (by show b7 < b7 + 1; omega) _, (QW.far (p := ⟨b7, 0, none⟩) (by show b7 < N; omega) _).row, QA.far (p := ⟨b7, 0, none⟩) (by show b7 ≠ w.heap.size; omega) _, QH.set _, by simp; omega, QZ.setCell (p := ⟨b7, 0, none⟩) (by show w.heap.size ≤ b7; omega) _⟩
              case measure => simp [intOf]; omega
        · try simp only [List.getElem_toArray, List.getElem_cons_zero, List.getElem_cons_succ]
          go_simp
          refine hK.out _ _ ?_ (fun hHeld => ?_)
          · (try dsimp only); refine ⟨?_, ?_⟩ <;> first | assumption | (simp [go_sem]; done) | exact (World.cell?_alloc_lt _ _ ⟨_, _, _⟩ (by first | omega | (simp; omega) | simp)).trans (by assumption)
          clear hK K
          try simp only [Act.put, List.getElem_toArray, List.getElem_cons_zero, List.getElem_cons_succ, List.setIfInBounds_toArray, List.set_cons_zero, List.set_cons_succ]
          refine wpAnyH_ready (rs := [6]) (by kernel_rfl) (by simp) ?_
          refine AllReadyH.cons rfl (fun K hK => ?_) AllReadyH.nil
          try simp only [List.getElem_toArray, List.getElem_cons_zero, List.getElem_cons_succ]
          go_simp
          go_at_call 12
          refine (HP.out _ (rh.later (by repeat (first | exact Below.refl _ _ | assumption | (refine below_drewN ?_ _) | (refine Below.drew ?_) | (refine Below.alloc ?_ (by first | omega | (simp; omega) | simp) _) | (refine Below.setCell ?_ (by first | omega | (simp; omega) | simp) _) | (refine below_trans ?_ (by assumption) (by first | omega | (simp; omega) | simp)))))).mono ?_
          rintro e w5 ⟨B5, c5, rfl, o5, hb_w5⟩
          have mw50 : w5.cell? ⟨w.heap.size, 0, none⟩ = some (.slice A m cap) := (hb_w5.cell (p := ⟨w.heap.size, 0, none⟩) (by first | omega | (simp; omega) | simp)).trans (by first | assumption | (simp [go_sem]; done) | exact (World.cell?_alloc_lt _ _ ⟨_, _, _⟩ (by first | omega | (simp; omega) | simp)).trans (by assumption))
          have mw51 : w5.cell? ⟨b7, 0, none⟩ = some (.slice Bh m ch) := (hb_w5.cell (p := ⟨b7, 0, none⟩) (by first | omega | (simp; omega) | simp)).trans (by first | assumption | (simp [go_sem]; done) | exact (World.cell?_alloc_lt _ _ ⟨_, _, _⟩ (by first | omega | (simp; omega) | simp)).trans (by assumption))
          have hs5 := hb_w5.size
          (try simp only [World.size_alloc, World.size_drew] at hs5)
          have z25 : w.heap.size < w5.heap.size := by omega
          have z75 : b7 < w5.heap.size := by omega
          obtain ⟨q0, q1⟩ : Bx w5 wr.heap.size (.slice none 0 0) := (Bx.new wr.drew (.slice none 0 0) 24).later hb_w5
          try go_wp2_with fail
          refine hK.out _ _ ?_ (fun hHeld => ?_)
          · (try dsimp only); refine ⟨?_, ?_⟩ <;> first | assumption | (simp [go_sem]; done) | exact (World.cell?_alloc_lt _ _ ⟨_, _, _⟩ (by first | omega | (simp; omega) | simp)).trans (by assumption)
          clear hK K
          try simp only [Act.put, List.getElem_toArray, List.getElem_cons_zero, List.getElem_cons_succ, List.setIfInBounds_toArray, List.set_cons_zero, List.set_cons_succ]
          refine wpAnyH_take (i := 7) (v := ?_) rfl (by kernel_rfl) (by kernel_rfl) (by kernel_rfl) (fun _ _ _ h => h) (Or.inl ⟨by rfl, ?_⟩) (by assumption) ?_
          rotate_left
          · (intro w hSw; (try dsimp only at hSw); go_simp; first | done | with_reducible rfl)
          try simp only [Act.put, List.getElem_toArray, List.getElem_cons_zero, List.getElem_cons_succ, List.setIfInBounds_toArray, List.set_cons_zero, List.set_cons_succ]
          refine wpAnyH_take (i := 8) (v := ?_) rfl (by kernel_rfl) (by kernel_rfl) (by kernel_rfl) (fun _ _ _ h => h) (Or.inl ⟨by rfl, ?_⟩) (by assumption) ?_
          rotate_left
          · (intro w hSw; (try dsimp only at hSw); go_simp; first | done | with_reducible rfl)
          try simp only [Act.put, List.getElem_toArray, List.getElem_cons_zero, List.getElem_cons_succ, List.setIfInBounds_toArray, List.set_cons_zero, List.set_cons_succ]
          refine wpAnyH_take (i := 9) (v := ?_) rfl (by kernel_rfl) (by kernel_rfl) (by kernel_rfl) (fun _ _ _ h => h) (Or.inl ⟨by rfl, ?_⟩) (by assumption) ?_
          rotate_left
          · (intro w hSw; (try dsimp only at hSw); go_simp; first | done | with_reducible rfl)
          try simp only [Act.put, List.getElem_toArray, List.getElem_cons_zero, List.getElem_cons_succ, List.setIfInBounds_toArray, List.set_cons_zero, List.set_cons_succ]
          refine wpAnyH_take (i := 10) (v := ?_) rfl (by kernel_rfl) (by kernel_rfl) (by kernel_rfl) (fun _ _ _ h => h) (Or.inl ⟨by rfl, ?_⟩) (by assumption) ?_
          rotate_left
          · (intro w hSw; (try dsimp only at hSw); go_simp; first | done | with_reducible rfl)
          try simp only [Act.put, List.getElem_toArray, List.getElem_cons_zero, List.getElem_cons_succ, List.setIfInBounds_toArray, List.set_cons_zero, List.set_cons_succ]
          refine wpAnyH_take (i := 11) (v := ?_) rfl (by kernel_rfl) (by kernel_rfl) (by kernel_rfl) (fun _ _ _ h => h) (Or.inl ⟨by rfl, ?_⟩) (by assumption) ?_
          rotate_left
          · (intro w hSw; (try dsimp only at hSw); go_simp; first | done | with_reducible rfl)
          try simp only [Act.put, List.getElem_toArray, List.getElem_cons_zero, List.getElem_cons_succ, List.setIfInBounds_toArray, List.set_cons_zero, List.set_cons_succ]
          refine wpAnyH_ready (rs := [13]) (by kernel_rfl) (by simp) ?_
          refine AllReadyH.cons rfl (fun K hK => ?_) AllReadyH.nil
          try simp only [List.getElem_toArray, List.getElem_cons_zero, List.getElem_cons_succ]
          go_simp
          refine hK.out _ _ ?_ (fun hHeld => ?_)
          · (try dsimp only); refine ⟨?_, ?_⟩ <;> exact (World.cell?_setCell_other _ _ _ _ (by intro e; injection e with e1; omega)).trans (by first | assumption | exact (World.cell?_alloc_lt _ _ ⟨_, _, _⟩ (by first | omega | (simp; omega) | simp)).trans (by assumption))
          clear hK K
          try simp only [Act.put, List.getElem_toArray, List.getElem_cons_zero, List.getElem_cons_succ, List.setIfInBounds_toArray, List.set_cons_zero, List.set_cons_succ]
          refine wpAnyH_take (i := 14) (v := ?_) rfl (by kernel_rfl) (by kernel_rfl) (by kernel_rfl) (fun _ _ _ h => h) (Or.inl ⟨by rfl, ?_⟩) (by assumption) ?_
          rotate_left
          · (intro w hSw; (try dsimp only at hSw); go_simp; first | done | with_reducible rfl)
          try simp only [Act.put, List.getElem_toArray, List.getElem_cons_zero, List.getElem_cons_succ, List.setIfInBounds_toArray, List.set_cons_zero, List.set_cons_succ]
          refine wpAnyH_take (i := 15) (v := ?_) rfl (by kernel_rfl) (by kernel_rfl) (by kernel_rfl) (fun _ _ _ h => h) (Or.inl ⟨by rfl, ?_⟩) (by assumption) ?_
          rotate_left
          · (intro w hSw; (try dsimp only at hSw); go_simp; first | done | with_reducible rfl)
          try simp only [Act.put, List.getElem_toArray, List.getElem_cons_zero, List.getElem_cons_succ, List.setIfInBounds_toArray, List.set_cons_zero, List.set_cons_succ]
          refine wpAnyH_take (i := 16) (v := ?_) rfl (by kernel_rfl) (by kernel_rfl) (by kernel_rfl) (fun _ _ _ h => h) (Or.inl ⟨by rfl, ?_⟩) (by assumption) ?_
          rotate_left
          · (intro w hSw; (try dsimp only at hSw); go_simp; first | done | with_reducible rfl)
          try simp only [Act.put, List.getElem_toArray, List.getElem_cons_zero, List.getElem_cons_succ, List.setIfInBounds_toArray, List.set_cons_zero, List.set_cons_succ]
          refine wpAnyH_done (by kernel_rfl) ?_ _
          have kw5 : Below wr.heap.size wr w5 := (by repeat (first | exact Below.refl _ _ | assumption | (refine below_drewN ?_ _) | (refine Below.drew ?_) | (refine Below.alloc ?_ (by first | omega | (simp; omega) | simp) _) | (refine Below.setCell ?_ (by first | omega | (simp; omega) | simp) _) | (refine below_trans ?_ (by assumption) (by first | omega | (simp; omega) | simp))))
          have hs5n : wr.heap.size ≤ wr.heap.size := Nat.le_refl _
          have PB : Bx (w5.setCell ⟨wr.heap.size, 0, none⟩ (.slice B5 m c5)) wr.heap.size (.slice B5 m c5) := Bx.set (v := .slice none 0 0) ⟨q0, q1⟩ _
          have kW : Below wr.heap.size wr (w5.setCell ⟨wr.heap.size, 0, none⟩ (.slice B5 m c5)) := kw5.setCell (p := ⟨wr.heap.size, 0, none⟩) (Nat.le_refl _) _
          have oW : GOwn (w5.setCell ⟨wr.heap.size, 0, none⟩ (.slice B5 m c5)) wr.heap.size B5 r := (o5.far (p := ⟨wr.heap.size, 0, none⟩) (by simp) _).mono (by simp)
          clear q0 q1
          have PA := P2.later kW
          have PH := P7.later kW
          have hrW := hrA.later kW
          have oKW := oK.later kW
          have bW : Below w.heap.size w (w5.setCell ⟨wr.heap.size, 0, none⟩ (.slice B5 m c5)) := hb_wr.trans (kW.mono (by omega))
          have hKA := oK.map_
          have zN : wr.heap.size ≤ (World.heap (w5.setCell ⟨wr.heap.size, 0, none⟩ (.slice B5 m c5))).size := kW.size
          have wlt : w.heap.size < b7 := by omega
          clear p20 p21 p70 p71 qa2 qa7 hHeld mw50 mw51 P2 P7 oK rh hb_wr hrA kW kw5 hwr2 o5 hs5 z25 z75 HP e2 ht htm hm0 hm1 hm2
          try clear dx2 dx
          skip
          generalize (w5.setCell ⟨wr.heap.size, 0, none⟩ (.slice B5 m c5)) = W at *
          generalize wr.heap.size = N at *
          clear hb_w5
          obtain ⟨pa0, pa1⟩ := id PA
          obtain ⟨ph0, ph1⟩ := id PH
          obtain ⟨pb0, pb1⟩ := id PB
          have pal := PA.lt
          have phl := PH.lt
          have pbl := PB.lt
          go_wp2_with fail
          go_at_call 22
          refine (HH.out _ hrW).mono ?_
          rintro e w6 ⟨rfl, hb_w6⟩
          have k6 : Below W.heap.size W w6 := (by repeat (first | exact Below.refl _ _ | assumption | (refine below_drewN ?_ _) | (refine Below.drew ?_) | (refine Below.alloc ?_ (by first | omega | (simp; omega) | simp) _) | (refine Below.setCell ?_ (by first | omega | (simp; omega) | simp) _) | (refine below_trans ?_ (by assumption) (by first | omega | (simp; omega) | simp))))
          clear pa0 pa1 ph0 ph1 pb0 pb1 pal phl pbl
          have PA := PA.later k6
          have PH := PH.later k6
          have PB := PB.later k6
          have hrW := hrW.later k6
          have oW := oW.later k6
          have oKW := oKW.later k6
          obtain ⟨pa0, pa1⟩ := id PA
          obtain ⟨ph0, ph1⟩ := id PH
          obtain ⟨pb0, pb1⟩ := id PB
          have pal := PA.lt
          have phl := PH.lt
          have pbl := PB.lt
          have b6 : Below w.heap.size w w6 := bW.trans (k6.mono (by omega))
          have zN := Nat.le_trans zN k6.size
          clear bW HH
          go_wp2_with fail
          go_at_call 20
          refine (HC.out _ B5 c5 oW.row).mono ?_
          rintro e w7 ⟨rfl, hb_w7⟩
          have k7 : Below w6.heap.size w6 w7 := (by repeat (first | exact Below.refl _ _ | assumption | (refine below_drewN ?_ _) | (refine Below.drew ?_) | (refine Below.alloc ?_ (by first | omega | (simp; omega) | simp) _) | (refine Below.setCell ?_ (by first | omega | (simp; omega) | simp) _) | (refine below_trans ?_ (by assumption) (by first | omega | (simp; omega) | simp))))
          clear pa0 pa1 ph0 ph1 pb0 pb1 pal phl pbl
          have PA := PA.later k7
          have PH := PH.later k7
          have PB := PB.later k7
          have hrW := hrW.later k7
          have oW := oW.later k7
          have oKW := oKW.later k7
          obtain ⟨pa0, pa1⟩ := id PA
          obtain ⟨ph0, ph1⟩ := id PH
          obtain ⟨pb0, pb1⟩ := id PB
          have pal := PA.lt
          have phl := PH.lt
          have pbl := PB.lt
          have b7w : Below w.heap.size w w7 := b6.trans (k7.mono (by omega))
          have zN := Nat.le_trans zN k7.size
          clear b6 HC k6 k7 hb_w6 hb_w7
          go_wp2_with fail
          go_loopw [79] (fun jj wz => ∃ j : Nat, jj = .int .i64 (j : Nat) ∧ j ≤ i ∧ wz = w7) (fun jj _ => i - (intOf jj).toNat)
          case atStart => exact ⟨0, rfl, Nat.zero_le _, rfl⟩
          case round =>
            obtain ⟨j, rfl, hj, rfl⟩ := hrel
            by_cases hlt2 : j < i
            · obtain ⟨b3, o3, rfl, hb3, c3⟩ := oKW.row.cellAt (k := j) (by omega)
              obtain ⟨x, hxp⟩ : ∃ x, Hid (ps.getD j 0 = x) := ⟨_, rfl⟩
              have hne : ¬ x = a := fun e => HNOT.out (by
                rw [← e, ← hxp.out, List.getD_eq_getElem?_getD, List.getElem?_eq_getElem (by omega)]
                exact List.getElem_mem _)
              rw [hxp.out] at c3
              have f1 : ((a : Int) == (x : Int)) = false := beq_eq_false_iff_ne.2 (by omega)
              have j1 : (j : Int) < (i : Int) := by omega
              have j2 : (0 : Int) ≤ (j : Int) := by omega
              clear hne
              go_wp2
              go_roundw
              case rel => exact ⟨j + 1, by go_num, by omega, by first | rfl | trivial⟩
              case measure => simp [intOf]; omega
            · obtain rfl : j = i := by omega
              go_wp2_with (at_builtin; refine wpList_plain (by rfl) (fun K8 hK8 => ?_); refine wp_appendQ (.tmp 87) (.tmp 89) (by rfl) (b7 + 1) Kp ck j (vals ps) (by first | rfl | simp [Act.eval, Act.put]) (oKW.row_.alloc _) (some ⟨wr.heap.size, 0, none⟩) 1 1 (vals [a]) (by first | rfl | simp [Act.eval, Act.put]) rfl (fun _ => ⟨wr.heap.size, 0, rfl, fun j u hj => by have := cell_one_new wr (.int .u64 (a : Nat)) 30 j u hj; rw [add_form] at this; exact this⟩) (vals_one _) (by omega) (by simp; omega) ?_; intro A8 c8 w8 ho8 hg8 hb8 hA8; have QA := (PA.alloc _).kept hg8 (fun e => by have := hKA _ e; omega); have QH := (PH.alloc _).kept hg8 (fun e => by have := hKA _ e; omega); have QB := (PB.alloc _).kept hg8 (fun e => by have := hKA _ e; omega); have QW := (oW.later ((Below.refl _ _).alloc (Nat.le_refl _) _)).kept hg8 (fun M e => (hKA M e).2); have QK : OwnsN w8 (b7 + 1) A8 (j + 1) c8 (ps ++ [a]) := ⟨(by rw [List.length_append, hpsl]; rfl), fun x hx => (by rcases List.mem_append.1 hx with h | h; exact oKW.words x h; rw [List.mem_singleton.1 h]; exact ha64.out), (by rw [vals_app]; exact ho8)⟩; have QZ : Below w.heap.size w w8 := b7w.trans ((((Below.refl (b7 + 1) wr).alloc (by omega) _).trans hb8).mono (by omega)); have QS := hg8.size; simp only [World.size_alloc] at QS; clear hg8 hb8 ho8 hA8; clear pa0 pa1 ph0 ph1 pb0 pb1 pal phl pbl; obtain ⟨ph0, ph1⟩ := id QH; obtain ⟨pb0, pb1⟩ := id QB; refine hK8 _ _ ?_; clear hK8 K8)
              go_roundw
              case rel => exact ⟨j + 1, A8, c8, rfl, by go_num, by omega, ps ++ [a], r, B5, c5, HNX, QK.far (p := ⟨b7, 0, none⟩) (by show b7 < b7 + 1; omega) _, (QW.far (p := ⟨b7, 0, none⟩) (by show b7 < N; omega) _).row, QA.far (p := ⟨b7, 0, none⟩) (by show b7 ≠ w.heap.size; omega) _, QH.set _, by simp; omega, QZ.setCell (p := ⟨b7, 0, none⟩) (by show w.heap.size ≤ b7; omega) _⟩
              case measure => simp [intOf]; omega
    · obtain rfl : i = n := by omega
      have hE := pop_ends HI.out.ok (by omega)
      have HP := Lib.hid fun (W : World) hr => HPOP.out W Bh ch q q 0 (by decide) 0 false 3 hr hE
      rw [hql.out] at HP
      clear hE hleft
      go_wp2_with fail
      go_at_call 12
      refine (HP.out _ (rh.later (by repeat (first | exact Below.refl _ _ | assumption | (refine below_drewN ?_ _) | (refine Below.drew ?_) | (refine Below.alloc ?_ (by first | omega | (simp; omega) | simp) _) | (refine Below.setCell ?_ (by first | omega | (simp; omega) | simp) _) | (refine below_trans ?_ (by assumption) (by first | omega | (simp; omega) | simp)))))).mono ?_
      rintro e w5 ⟨B5, c5, rfl, o5, hb_w5⟩
      have bel5 : Below wr.heap.size wr (w5.alloc (.cells #[.slice B5 m c5] 24)) := hb_w5.alloc hb_w5.size _
      have zz5 : w.heap.size ≤ wr.heap.size := hb_wr.size
      go_wp2
      go_ret
      exact ⟨rfl, hb_wr.trans (bel5.mono (by omega))⟩
end Go.Proofs.Ytlaladhnidcoiaa
