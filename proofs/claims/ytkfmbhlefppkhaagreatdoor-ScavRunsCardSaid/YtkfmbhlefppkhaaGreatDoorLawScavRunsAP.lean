/- Parts of the proof. -/
import Derived.Test.YtkfmbhlefppkhaaGreatDoorScavQ20
import Derived.Lib.RowBridge
import Derived.Lib.SortBridge
set_option maxRecDepth 100000
set_option linter.unusedVariables false
set_option linter.unusedSimpArgs false
namespace Go.Proofs.YtkfmbhlefppkhaaGreatDoor
open Go
theorem best_skip (ws : List Nat) (a m : Nat) (h : ∀ j, a ≤ j → j < a + m → tb ws j = true) : best ws (a + m) = best ws a := by
  induction m with
  | zero => rfl
  | succ m ih =>
    have hb := h (a + m) (by omega) (by omega)
    rw [← Nat.add_assoc, best, ih (fun j h1 h2 => h j h1 (by omega)), zs, hb]
    simp
theorem zs_skip (ws : List Nat) (a m : Nat) (hm : 0 < m) (h : ∀ j, a ≤ j → j < a + m → tb ws j = true) : zs ws (a + m) = 0 := by
  obtain ⟨m, rfl⟩ : ∃ k, m = k + 1 := ⟨m - 1, by omega⟩
  have hb := h (a + m) (by omega) (by omega)
  rw [← Nat.add_assoc, zs, hb]
  rfl
theorem zs_run (ws : List Nat) (a m : Nat) (h0 : zs ws a = 0) (h : FitAt ws a m) : zs ws (a + m) = m := by
  induction m with
  | zero => exact h0
  | succ m ih =>
    have hb := h (a + m) (by omega) (by omega)
    rw [← Nat.add_assoc, zs, hb, ih (fun j h1 h2 => h j h1 (by omega))]
    rfl
theorem best_run (ws : List Nat) (a m : Nat) (h0 : zs ws a = 0) (h : FitAt ws a m) : best ws (a + m) = max (best ws a) m := by
  induction m with
  | zero => rw [Nat.add_zero]; omega
  | succ m ih =>
    have hz := zs_run ws a (m + 1) h0 h
    rw [← Nat.add_assoc] at hz ⊢
    rw [best, ih (fun j h1 h2 => h j h1 (by omega)), hz]
    omega
theorem best_round (ws : List Nat) (n a b e : Nat) (h : a = 0 ∨ tb ws a = true) (hab : a ≤ b) (hbe : b ≤ e) (hen : e ≤ n)
    (h1 : ∀ j, a ≤ j → j < b → tb ws j = true) (h2 : ∀ j, b ≤ j → j < e → tb ws j = false) : best ws e = max (best ws a) (e - b) := by
  obtain ⟨m, rfl⟩ : ∃ m, b = a + m := ⟨b - a, by omega⟩
  obtain ⟨k, rfl⟩ : ∃ k, e = a + m + k := ⟨e - (a + m), by omega⟩
  have hb := best_skip ws a m h1
  have hk : a + m + k - (a + m) = k := by omega
  rw [hk]
  by_cases hm : 0 < m
  · rw [best_run ws (a + m) k (zs_skip ws a m hm h1) h2, hb]
  · obtain rfl : m = 0 := by omega
    rw [Nat.add_zero] at *
    by_cases hk0 : k = 0
    · subst hk0; rw [Nat.add_zero]; omega
    · rcases h with rfl | h
      · exact best_run ws 0 k rfl h2
      · have := h2 a (Nat.le_refl _) (by omega)
        rw [h] at this
        cases this
end Go.Proofs.YtkfmbhlefppkhaaGreatDoor
namespace Go.Proofs.YtkfmbhlefppkhaaGreatDoor
open Go.Shelf Go.RowKit Go.Lib Go.Sort
theorem srtD_pair (xs : List Int) : (srtD xs).Pairwise (fun x y => y ≤ x) := by
  have h := List.pairwise_mergeSort (le := fun x y : Int => decide (y ≤ x)) (by intro a b c h1 h2; simp at *; omega) (by intro a b; simp; omega) xs
  exact h.imp fun h => by simpa using h
end Go.Proofs.YtkfmbhlefppkhaaGreatDoor
namespace Go.Proofs.YtkfmbhlefppkhaaGreatDoor
open Go.RowKit
set_option maxHeartbeats 1000000 in
theorem longest_ok {n : Int} {A : Option Addr} {ws : List Nat} {w : World} (cap : Nat) (hr : Row w w.heap.size A ws) (h : Right n ws) :
    Calls Tryz.prog 63 #[.agg #[.int .i64 n, .slice A ws.length cap]] w fun e w' => e = .returned (.tuple #[.int .i64 (best ws n.toNat : Nat), .int .i64 0]) ∧ Below w.heap.size w w' := by
  have hn := h.1
  have hn2 := h.2.1
  have hR := Lib.hid h
  clear h
  go_enter Tryz.func63, Tryz.ntmps63
  go_wp2_with (go_at_call 138; refine (pview_ok _ (hr.later bX) hR.out).mono ?_; rintro e w1 ⟨rfl, hb_w1⟩; obtain ⟨hc_w1, hf_w1⟩ := bcell hb_w1; have hz_w1_w_0 : w.heap.size < w1.heap.size := lY hb_w1.size)
  go_loopw [6, 7] (fun be i wr => ∃ k : Nat, i = .int .i64 k ∧ (k : Int) ≤ n ∧ be = .int .i64 (best ws k : Nat) ∧ (k = 0 ∨ (k : Int) = n ∨ tb ws k = true) ∧ wr.cell? ⟨w1.heap.size, 0, none⟩ = some (.int .i64 n) ∧ wr.cell? ⟨w1.heap.size, 1, none⟩ = some (.slice A ws.length cap) ∧ w1.heap.size + 1 ≤ wr.heap.size ∧ Below w1.heap.size w1 wr) (fun _ i _ => n.toNat - (intOf i).toNat)
  case atStart => exact ⟨0, rfl, hn, rfl, .inl rfl, by simp [go_sem], by simp [go_sem], lX, bX⟩
  case round =>
    obtain ⟨k, rfl, hk, rfl, hE, q0, q1, hsz, hb_wr⟩ := hrel
    have HE := Lib.hid hE
    clear hE
    have hbl := best_le ws k
    have hz_wr1 := hb_wr.size
    by_cases hlt : (k : Int) < n
    · go_wp2_with fail
      go_at_call 139
      refine (pnext_any cap (k : Nat) false ((hr.later (w' := w1) bX).later hb_wr) hR.out (by omega) (by omega)).mono ?_
      rintro e w2 ⟨⟨t, rfl, t1, t2, t3, t4⟩, hb_w2⟩
      obtain ⟨hc_w2, hf_w2⟩ := bcell hb_w2
      have hs_w2 := hb_w2.size
      have x0 := (hc_w2 w1.heap.size 0 (by omega)).trans q0
      have x1 := (hc_w2 w1.heap.size 1 (by omega)).trans q1
      obtain ⟨t, rfl⟩ := Int.eq_ofNat_of_zero_le (show 0 ≤ t by omega)
      have HT := Lib.hid t3
      have HT2 := Lib.hid t4
      clear t3 t4
      go_wp2_with fail
      go_at_call 139
      refine (pnext_any cap (t : Nat) true (((hr.later (w' := w1) bX).later hb_wr).later hb_w2) hR.out (by omega) (by omega)).mono ?_
      rintro e w3 ⟨⟨u, rfl, u1, u2, u3, u4⟩, hb_w3⟩
      obtain ⟨hc_w3, hf_w3⟩ := bcell hb_w3
      have hs_w3 := hb_w3.size
      have y0 := (hc_w3 w1.heap.size 0 (by omega)).trans x0
      have y1 := (hc_w3 w1.heap.size 1 (by omega)).trans x1
      obtain ⟨u, rfl⟩ := Int.eq_ofNat_of_zero_le (show 0 ≤ u by omega)
      have HU := Lib.hid u3
      have HU2 := Lib.hid u4
      clear u3 u4
      have HM : Hid (best ws u = max (best ws k) (u - t)) := Lib.hid (best_round ws n.toNat k t u (by
          rcases HE.out with e | e | e
          · exact .inl e
          · omega
          · exact .inr e) (by omega) (by omega) (by omega) (fun j j1 j2 => by
            have := HT.out j (by omega) (by omega)
            cases hb : tb ws j
            · exact absurd hb this
            · rfl) (fun j j1 j2 => by
            have := HU.out j (by omega) (by omega)
            cases hb : tb ws j
            · rfl
            · exact absurd hb this))
      have hgo : k < u := by
        by_cases e : (t : Int) < n
        · have a1 := HT2.out e
          have a2 : t < u := by
            by_cases e2 : t < u
            · exact e2
            · have e3 : u = t := by omega
              have a3 := HU2.out (by omega)
              rw [e3, Int.toNat_natCast] at a3
              rw [Int.toNat_natCast] at a1
              rw [a1] at a3
              cases a3
          omega
        · omega
      go_wp2
      go_roundw
      case rel => exact ⟨u, rfl, by omega, by rw [HM.out]; simp only [Value.int.injEq, true_and]; omega, by
          by_cases e : (u : Int) = n
          · exact .inr (.inl e)
          · exact .inr (.inr (by have := HU2.out (by omega); rwa [Int.toNat_natCast] at this)), y0, y1, by omega, bX⟩
      case measure => simp [intOf]; omega
    · have hkn : n.toNat = k := by omega
      go_wp2
      go_ret2
      exact ⟨rfl, bX⟩
def isum (l : List Int) : Int := l.foldr (· + ·) 0
theorem isum_app (l m : List Int) : isum (l ++ m) = isum l + isum m := by
  induction l with
  | nil => simp [isum]
  | cons a l ih =>
    simp only [isum, List.cons_append, List.foldr_cons] at ih ⊢
    omega
theorem isum_perm {l m : List Int} (h : l.Perm m) : isum l = isum m := by
  induction h with
  | nil => rfl
  | cons a _ ih => simp only [isum, List.foldr_cons] at ih ⊢; omega
  | swap a b l => simp only [isum, List.foldr_cons]; omega
  | trans _ _ h1 h2 => exact h1.trans h2
theorem isum_pos {l : List Int} (h : ∀ x ∈ l, 1 ≤ x) : 0 ≤ isum l := by
  induction l with
  | nil => exact Int.le_refl _
  | cons a l ih =>
    have h1 := ih fun x hx => h x (List.mem_cons_of_mem _ hx)
    have h2 := h a List.mem_cons_self
    simp only [isum, List.foldr_cons] at h1 ⊢
    omega
theorem isum_take {l : List Int} (h : ∀ x ∈ l, 1 ≤ x) (k : Nat) : 0 ≤ isum (l.take k) ∧ isum (l.take k) ≤ isum l := by
  have h1 := isum_app (l.take k) (l.drop k)
  rw [List.take_append_drop] at h1
  have h2 := isum_pos (l := l.take k) fun x hx => h x (List.mem_of_mem_take hx)
  have h3 := isum_pos (l := l.drop k) fun x hx => h x (List.mem_of_mem_drop hx)
  omega
theorem isum_succ {l : List Int} {k : Nat} (hk : k < l.length) : isum (l.take (k + 1)) = isum (l.take k) + l.getD k 0 := by
  rw [List.take_succ_eq_append_getElem hk, isum_app, List.getD_eq_getElem?_getD, List.getElem?_eq_getElem hk]
  simp [isum]
theorem isum_rInts (us : List Nat) (k : Nat) : isum (rInts us k) = (((runsL us k).sum : Nat) : Int) := by
  unfold rInts
  induction runsL us k with
  | nil => rfl
  | cons a l ih =>
    simp only [isum, List.map_cons, List.foldr_cons, List.sum_cons] at ih ⊢
    rw [ih]
    omega
structure SrtP (N : Nat) (us : List Nat) (xs : List Int) : Prop where
  pos : ∀ x ∈ xs, 1 ≤ x
  sum : isum xs = (N : Int) - (countTo us N : Nat)
  desc : ∀ j, j + 1 < xs.length → xs.getD (j + 1) 0 ≤ xs.getD j 0
  head : (xs = [] ∧ best us N = 0) ∨ (0 < xs.length ∧ xs.getD 0 0 = (best us N : Nat))
theorem srtP (N : Nat) (us : List Nat) : SrtP N us (srtD (rInts us N)) := by
  obtain ⟨h1, h2, h3, h4⟩ := runsP us N
  have hp := srtD_perm (rInts us N)
  have hpw := srtD_pair (rInts us N)
  have hmem : ∀ x, x ∈ srtD (rInts us N) ↔ x ∈ rInts us N := fun x => hp.mem_iff
  have hin : ∀ x ∈ rInts us N, 1 ≤ x ∧ x ≤ (best us N : Nat) := fun x hx => by
    obtain ⟨q, hq, rfl⟩ := List.mem_map.1 hx
    have := h2 q hq
    have := h3 q hq
    omega
  have hb : best us N = 0 ∨ ((best us N : Nat) : Int) ∈ rInts us N := h4.imp id fun h => List.mem_map.2 ⟨_, h, rfl⟩
  refine ⟨fun x hx => (hin x ((hmem x).1 hx)).1, ?_, fun j hj => ?_, ?_⟩
  · rw [isum_perm hp, isum_rInts]; omega
  · rw [List.getD_eq_getElem?_getD, List.getD_eq_getElem?_getD, List.getElem?_eq_getElem hj, List.getElem?_eq_getElem (by omega)]
    exact List.pairwise_iff_getElem.1 hpw j (j + 1) (by omega) hj (by omega)
  · generalize srtD (rInts us N) = xs at *
    rcases xs with _ | ⟨a, l⟩
    · refine .inl ⟨rfl, ?_⟩
      rcases hb with h | h
      · exact h
      · exact absurd ((hmem _).2 h) (by simp)
    · refine .inr ⟨by simp, ?_⟩
      have ha := hin a ((hmem a).1 List.mem_cons_self)
      rcases hb with h | h
      · omega
      · have h5 := (hmem _).2 h
        show a = _
        rcases List.mem_cons.1 h5 with h6 | h6
        · exact h6.symm
        · have := (List.pairwise_cons.1 hpw).1 _ h6
          omega
set_option maxHeartbeats 8000000 in
theorem scavRuns_walk (v : Hv) (O : Option Addr) (co : Nat) (s : Sc) (w : World) (hz : Sizes w) (m : SM w v O s) (hs : Short s.h) (hnil : v.V = none → v.cv = 0) (hlo : s.os.length ≤ 17592186044416) (hfa : s.fa < W64) (hgo : s.go < W64) :
    Calls Tryz.prog 12 #[scV v O co s] w fun e w' => e = .returned (.bool true) ∧ Below w.heap.size w w' := by
  have X0 := E8.new w (.slice v.A s.h.ws.length v.ca) (.int .i64 s.h.n) (.slice v.U s.h.us.length v.cu) (.slice v.V s.h.l.length v.cv) (.int .i64 s.n) (.slice O s.os.length co) (.int .u64 (s.fa : Nat)) (.int .u64 (s.go : Nat)) 64
  have M0 := m.later ((Below.refl _ _).alloc (Nat.le_refl _) (.cells #[.slice v.A s.h.ws.length v.ca, .int .i64 s.h.n, .slice v.U s.h.us.length v.cu, .slice v.V s.h.l.length v.cv, .int .i64 s.n, .slice O s.os.length co, .int .u64 (s.fa : Nat), .int .u64 (s.go : Nat)] 64))
  have z0 := X0.lt
  obtain ⟨t, y, E⟩ := RunE.ex s
  have HK := Lib.hid fun (w : World) (v : Hv) (O : Option Addr) (co : Nat) z m => frunsX_any (w := w) (v := v) (O := O) (s := s) co z m hs t y E
  rcases E with ⟨hk, rfl, rfl⟩ | ⟨hk, he, rfl⟩
  · clear hk m hs
    unfold scV at HK ⊢
    go_enter Tryz.func12, Tryz.ntmps12
    go_wp2_with fail
    go_at_call 51
    refine (flives_any _ (hz.later bX)).mono ?_
    rintro e w1 ⟨rfl, hb_w1⟩
    have b_w1 : Below w.heap.size w w1 := bX
    replace X0 := X0.later hb_w1
    replace M0 := M0.later hb_w1
    obtain ⟨X0_0, X0_1, X0_2, X0_3, X0_4, X0_5, X0_6, X0_7, X0_f⟩ := id X0
    go_wp2_with fail
    go_at_call 55
    refine (HK.out _ _ _ _ (hz.later (by exact b_w1)) (by exact M0)).mono ?_
    rintro e w2 ⟨A2, c2, rfl, R2, hb_w2⟩
    clear X0_0 X0_1 X0_2 X0_3 X0_4 X0_5 X0_6 X0_7 X0_f
    have b_w2 : Below w.heap.size w w2 := b_w1.trans (hb_w2.mono b_w1.size)
    replace X0 := X0.later hb_w2
    replace M0 := M0.later hb_w2
    go_wp2
    go_ret
    exact ⟨rfl, b_w2⟩
  · obtain ⟨n0, n1, n2⟩ := hk.nn
    obtain ⟨N, hN⟩ : ∃ N : Nat, s.n = (N : Int) := ⟨s.n.toNat, by omega⟩
    have hhn := hk.n.symm.trans hN
    have hN2 : s.n.toNat = N := by omega
    rw [hN2] at he
    have HP := srtP N s.h.us
    rw [← he] at HP
    have HFR := Lib.hid fun (w : World) hr => free_ok (w := w) (n := s.h.n) (A := v.U) (ws := s.h.us) v.cu hr hk.h.framed.pages
    have HLO := Lib.hid fun (w : World) hr => longest_ok (w := w) (n := s.h.n) (A := v.U) (ws := s.h.us) v.cu hr hk.h.framed.pages
    have htn : s.h.n.toNat = N := by omega
    rw [htn] at HFR HLO
    obtain ⟨hpos, hsum, hdesc, hhead⟩ := HP
    have hcl := countTo_le s.h.us N
    have hbl := best_le s.h.us N
    have HT := Lib.hid (isum_take hpos)
    have HS := Lib.hid hsum
    have HD := Lib.hid hdesc
    have HPO := Lib.hid hpos
    have hlen : t.length ≤ 4096 := by rw [he, srtD_len, rInts_len]; have := runsL_len s.h.us N; omega
    generalize countTo s.h.us N = q1 at *
    generalize best s.h.us N = q2 at *
    clear hk m hs he hN2 hpos hsum hdesc
    unfold scV at HK ⊢
    have N4 : N ≤ 4096 := by omega
    have hnb : 0 ≤ s.h.n ∧ s.h.n ≤ 4096 := by omega
    have HH := Lib.hid hhn
    clear n0 n1 n2 hN hhn htn
    go_enter Tryz.func12, Tryz.ntmps12
    go_wp2_with fail
    go_at_call 51
    refine (flives_any _ (hz.later bX)).mono ?_
    rintro e w1 ⟨rfl, hb_w1⟩
    have b_w1 : Below w.heap.size w w1 := bX
    replace X0 := X0.later hb_w1
    replace M0 := M0.later hb_w1
    obtain ⟨X0_0, X0_1, X0_2, X0_3, X0_4, X0_5, X0_6, X0_7, X0_f⟩ := id X0
    go_wp2_with fail
    go_at_call 55
    refine (HK.out _ _ _ _ (hz.later (by exact b_w1)) (by exact M0)).mono ?_
    rintro e w2 ⟨A2, c2, rfl, R2, hb_w2⟩
    clear X0_0 X0_1 X0_2 X0_3 X0_4 X0_5 X0_6 X0_7 X0_f
    have b_w2 : Below w.heap.size w w2 := b_w1.trans (hb_w2.mono b_w1.size)
    replace X0 := X0.later hb_w2
    replace M0 := M0.later hb_w2
    obtain ⟨X0_0, X0_1, X0_2, X0_3, X0_4, X0_5, X0_6, X0_7, X0_f⟩ := id X0
    go_wp2_with fail
    go_at_call 62
    refine (HFR.out _ (by exact M0.h.u)).mono ?_
    rintro e w3 ⟨rfl, hb_w3⟩
    clear X0_0 X0_1 X0_2 X0_3 X0_4 X0_5 X0_6 X0_7 X0_f
    have b_w3 : Below w.heap.size w w3 := b_w2.trans (hb_w3.mono b_w2.size)
    replace X0 := X0.later hb_w3
    replace M0 := M0.later hb_w3
    replace R2 := R2.later hb_w3
    obtain ⟨X0_0, X0_1, X0_2, X0_3, X0_4, X0_5, X0_6, X0_7, X0_f⟩ := id X0
    go_wp2_with fail
    go_at_call 63
    refine (HLO.out _ (by exact M0.h.u)).mono ?_
    rintro e w4 ⟨rfl, hb_w4⟩
    clear X0_0 X0_1 X0_2 X0_3 X0_4 X0_5 X0_6 X0_7 X0_f
    have b_w4 : Below w.heap.size w w4 := b_w3.trans (hb_w4.mono b_w3.size)
    replace X0 := X0.later hb_w4
    replace M0 := M0.later hb_w4
    replace R2 := R2.later hb_w4
    go_wp2_with fail
    go_loopw [9, 40] (fun sv kv wr => ∃ k : Nat, kv = .int .i64 (k : Nat) ∧ k ≤ t.length ∧ sv = .int .i64 (isum (t.take k)) ∧ wr = w4) (fun _ kv _ => t.length - (intOf kv).toNat)
    case atStart => exact ⟨0, rfl, Nat.zero_le _, by simp [isum], rfl⟩
    case round =>
      obtain ⟨k, rfl, hk, rfl, rfl⟩ := hrel
      have hb := HT.out k
      by_cases hlt : k < t.length
      · obtain ⟨bk, off, hAe, hbl2, hc⟩ := R2.at_ (by omega)
        have c1 := hc k hlt
        have hx1 := HPO.out (t.getD k 0) (by rw [List.getD_eq_getElem?_getD, List.getElem?_eq_getElem hlt]; exact List.getElem_mem hlt)
        have hs2 := HS.out
        have hsb : isum t ≤ 4096 := by have := HH.out; omega
        clear hs2
        have HU := Lib.hid (isum_succ hlt)
        have hb2 := HT.out (k + 1)
        rw [HU.out] at hb2
        have HDk := HD.out (k - 1)
        have c0 := hc (k - 1) (by omega)
        generalize isum (t.take k) = S at *
        subst hAe
        clear hc
        have i1 : (k : Int) < (t.length : Int) := by omega
        have i2 : (0 : Int) ≤ (k : Int) := by omega
        by_cases hk0 : k = 0
        · subst hk0
          simp only [Nat.add_zero] at c1
          generalize t.getD 0 0 = x at *
          generalize isum t = S0 at *
          have f1 : decide (x < 1) = false := decide_eq_false (by omega)
          clear c0 HDk
          go_wp2
          go_roundw
          case rel => exact ⟨1, by go_num, by omega, by rw [HU.out], by first | rfl | trivial⟩
          case measure => simp [intOf]; try omega
        · obtain ⟨j, rfl⟩ : ∃ j, k = j + 1 := ⟨k - 1, by omega⟩
          simp only [Nat.add_sub_cancel] at c0 HDk
          have hd := HDk hlt
          clear HDk
          generalize t.getD (j + 1) 0 = x at *
          generalize isum t = S0 at *
          generalize t.getD j 0 = p at *
          have f1 : decide (x < 1) = false := decide_eq_false (by omega)
          have f2 : decide (p < x) = false := decide_eq_false (by omega)
          have f3 : decide (((j + 1 : Nat) : Int) > 0) = true := decide_eq_true (by omega)
          have i3 : (j : Int) < (t.length : Int) := by omega
          have i4 : (0 : Int) ≤ (j : Int) := by omega
          go_wp2
          go_roundw
          case rel => exact ⟨j + 1 + 1, by go_num, by omega, by rw [HU.out], by first | rfl | trivial⟩
          case measure => simp [intOf]; try omega
      · obtain rfl : k = t.length := by omega
        rw [List.take_length] at hb ⊢
        have e1 : (isum t == s.h.n - (q1 : Int)) = true := by rw [HS.out, HH.out]; simp
        have hsb : 0 ≤ isum t ∧ isum t ≤ 4096 := by have h1 := HS.out; have h2 := HH.out; omega
        skip
        rcases hhead with ⟨h1, h2⟩ | ⟨h1, h2⟩
        · subst h1 h2
          generalize isum [] = S at *
          go_wp2
          go_ret
          exact ⟨rfl, b_w4⟩
        · obtain ⟨bk, off, hAe, hbl2, hc⟩ := R2.at_ h1
          have c0 := hc 0 h1
          rw [h2, Nat.add_zero] at c0
          clear hc h2
          subst hAe
          have f1 : ((t.length : Int) == 0) = false := beq_eq_false_iff_ne.2 (by omega)
          have f2 : decide ((t.length : Int) > 0) = true := decide_eq_true (by omega)
          have f3 : decide (t.length > 0) = true := decide_eq_true (by omega)
          have f4 : decide (0 < t.length) = true := decide_eq_true (by omega)
          have f5 : (t.length == 0) = false := beq_eq_false_iff_ne.2 (by omega)
          generalize isum t = S at *
          go_wp2
          go_ret
          exact ⟨rfl, b_w4⟩
end Go.Proofs.YtkfmbhlefppkhaaGreatDoor
