/- parts Z37, Z40, Z39, Z41, Z42 -/
import Derived.Test.YtfhiibohgjbmbaaGreatDoorMF17
import Derived.Deep.RegionHeld3
set_option linter.unusedVariables false
set_option linter.unusedSimpArgs false
namespace Go.Proofs.YtfhiibohgjbmbaaGreatDoor
open Go.RowKit
set_option maxRecDepth 100000

theorem OwnsN.far2 {w : World} {B n cap : Nat} {A : Option Addr} {t : List Nat} (h : OwnsN w B A n cap t) {p : Addr} (hp : p.block < B) (u : Value) : OwnsN (w.setCell p u) B A n cap t :=
  ⟨h.len, h.words, h.row_.kept (grown_setp w p u) (.inr (by
    intro e
    have := (h.row_.lt p.block (by first | exact e | exact e.symm)).1
    omega))⟩
theorem OwnsN.grownLt {w w' : World} {B n cap g : Nat} {A : Option Addr} {t : List Nat} (h : OwnsN w B A n cap t) (hg : w.grownBy w' (some g)) (hB : g < B) : OwnsN w' B A n cap t :=
  ⟨h.len, h.words, h.row_.kept hg (.inr (by
    intro e
    have := (h.row_.lt g (by first | exact e | exact e.symm)).1
    omega))⟩
set_option maxHeartbeats 4000000 in
theorem zclean_any {w : World} {B b : Nat} {v : Hv} {h : Hp} (m : WB w B b v h) (hkk : OkH h) {i : Nat} (hi : i < h.l.length) (hs : (nth h.l i).s = false) :
    Calls Tryz.prog 96 #[.pointer (some ⟨b, 0, none⟩), .int .i64 (i : Nat)] w fun e w' => ∃ L c, e = .returned (.slice L (usD (nth h.l i)).length c) ∧ OwnsN w' w.heap.size L (usD (nth h.l i)).length c (usD (nth h.l i)) ∧ (∃ v', WB w' B b v' (clnH h i)) ∧ Below B w w' := by
  have hok := hkk.framed.spans
  have hw := hkk.framed.words
  have hin : ∀ a ∈ unmA (nth h.l i) (slN (nth h.l i)), a + swd (nth h.l i) ≤ h.ws.length := fun a ha => by
    obtain ⟨j, j1, _, _, rfl⟩ := unmA_mem ha
    exact (hkk.slotW hi j1).1
  have hk1 := cl1H_ok hkk hi hs
  have hi1 : i < (cl1H h i).l.length := by rw [(cl1H_like hkk hi).l]; exact hi
  have HDR := Lib.hid fun (w : World) (B b : Nat) (v : Hv) (mm : WB w B b v (cl1H h i)) (A M : Option Addr) (ca cm : Nat) => zdrop_any mm hk1.framed.spans hk1.framed.pages hi1 (hk1.owned.in_ i hi1).2 (fun j j1 j2 => (hk1.owned.used j (by have := (hk1.owned.in_ i hi1).2; omega)).2 (.inr ⟨i, hi1, j1, j2⟩)) A M ca cm
  have en : nth (cl1H h i).l i = clnD (nth h.l i) := by rw [cl1H_nth hi, if_pos rfl]
  rw [en] at HDR
  have HCN : Hid ((countTo (clnD (nth h.l i)).aw (nth h.l i).an.toNat = 0 → clnH h i = droH (cl1H h i) i) ∧ (¬ countTo (clnD (nth h.l i)).aw (nth h.l i).an.toNat = 0 → clnH h i = cl1H h i)) := Lib.hid ⟨fun e => by unfold clnH; rw [if_pos e], fun e => by unfold clnH; rw [if_neg e]⟩
  have HBO := Lib.hid fun (w : World) (A M : Option Addr) (ca cm : Nat) hA hM => both_ok (w := w) (n := (nth h.l i).an) (A := A) (C := M) (ws := (nth h.l i).aw) (us := (nth h.l i).mw) ca cm hA hM (hok.at_ hi).a (by have := (hok.at_ hi).m; rw [(hok.at_ hi).mn, ← (hok.at_ hi).an] at this; exact this)
  have HCT := Lib.hid fun (w : World) (A : Option Addr) (ca : Nat) hr => count_ok (w := w) (n := (nth h.l i).an) (A := A) (ws := (clnD (nth h.l i)).aw) ca hr (hok.at_ hi).cln.a
  have HMN : Hid ((nth h.l i).mn = (nth h.l i).an) := Lib.hid (by rw [(hok.at_ hi).mn, (hok.at_ hi).an])
  have HL0 : Hid (0 < (clnD (nth h.l i)).aw.length) := Lib.hid (by have := (hok.at_ hi).cln.aw; omega)
  have HCE : Hid (cl1H h i = ⟨clnW h.ws (swd (nth h.l i)) (usD (nth h.l i)) (usD (nth h.l i)).length, h.n, h.us, h.l.set i (clnD (nth h.l i))⟩) := Lib.hid rfl
  unfold Fresh at HBO
  unfold clnD at HDR HCN HCT HL0 HCE
  unfold usD at HCE ⊢
  simp only at HDR HCN HCT HL0 HCE
  clear hk1 hi1 en hkk hs
  obtain ⟨vs, hvs, hS, hAS⟩ := m.s
  obtain ⟨g, hV, hgB, hgl⟩ := m.block hS hi
  have hlen := hS.len
  have hle := m.le
  have hbl := m.lt
  have ok := hok.at_ hi
  have hil : i < vs.length := by omega
  have hd : vs[i].d = nth h.l i := by rw [← hvs]; exact (nth_sds vs i hil).symm
  rw [hV] at hS
  have c8 := sp8_of_owns hS.row_ hlen i hi
  rw [hd] at c8
  have hwo := hS.words _ (List.getElem_mem hil)
  rw [hd] at hwo
  obtain ⟨x, hxx⟩ : ∃ x, Hid (vs[i] = x) := ⟨vs[i], Lib.hid rfl⟩
  rw [hxx.out] at c8 hwo
  have hbg : b ≠ g := fun e => hAS.1 (by rw [hV, e])
  rw [Nat.zero_add] at c8
  have HUN := Lib.hid fun (w : World) (A M : Option Addr) (ca cm : Nat) hA hM => zunmarked_any (w := w) (d := nth h.l i) (A := A) (M := M) ca cm ok hA hM
  have HSW := Lib.hid fun (w : World) (A M : Option Addr) (ca cm : Nat) => zslotw_any (w := w) (nth h.l i) A ca M cm (by have := ok.sized.slots; omega) (by have := ok.sized.slots; omega)
  obtain ⟨us, hus⟩ : ∃ us, Hid (unmA (nth h.l i) (slN (nth h.l i)) = us) := ⟨_, Lib.hid rfl⟩
  rw [hus.out] at HUN hin HCE ⊢
  have hul : Hid (us.length ≤ 8) := Lib.hid (by
    have h1 := unmA_len (nth h.l i) (slN (nth h.l i))
    have h2 := ok.slK
    rw [hus.out] at h1
    omega)
  obtain ⟨z, hz⟩ : ∃ z, Hid (swd (nth h.l i) = z) := ⟨_, Lib.hid rfl⟩
  rw [hz.out] at HSW hin HCE
  have hz64 : Hid (z ≤ 64) := Lib.hid (by have := ok.swd_eq; rw [← hz.out]; omega)
  have HC := Lib.hid fun (w : World) (A : Option Addr) (ca : Nat) (ws : List Nat) (hl : ws.length = h.ws.length) (k : Nat) (hk : k < us.length) (hr : Row w w.heap.size A ws) => by
    have hmem : us.getD k 0 ∈ us := by rw [List.getD_eq_getElem?_getD, List.getElem?_eq_getElem hk]; exact List.getElem_mem hk
    have h1 := hin _ hmem
    have C := clear_any (w := w) (A := A) (ws := ws) ca (us.getD k 0) z hr (by omega) (by unfold W64; omega) (by have := hz64.out; unfold W64; omega)
    have e1 : resA ws (us.getD k 0 + z ≤ ws.length) (overTo ws (us.getD k 0) (fun _ => 0) z) = overTo ws (us.getD k 0) (fun _ => 0) z ∧ errA ws (us.getD k 0 + z ≤ ws.length) = 0 := resA_in (by omega) (by omega)
    rw [e1.1, e1.2] at C
    exact C
  unfold FreshA at HC
  have HM := Lib.hid m
  obtain ⟨b0, b1, b2, b3, f0, f1, f2, f3⟩ := id m.box
  rw [hV] at b3
  obtain ⟨d, hdd⟩ : ∃ d, Hid (nth h.l i = d) := ⟨_, Lib.hid rfl⟩
  rw [hdd.out] at HUN HSW c8 hwo HDR HCN HBO HCT HMN HL0 HCE
  obtain ⟨df, dp, dz, dan, daw, dmn, dmw, ds⟩ := d
  obtain ⟨xd, xA, xca, xM, xcm⟩ := x
  unfold spv at HUN HSW
  simp only at HUN HSW c8 hwo HDR HCN HBO HCT HMN HL0 HCE
  have hA := hwo.1.row
  have hM := hwo.2.row
  have HC8 := Lib.hid c8
  obtain ⟨c0, c1, c2, c3, c4, c5, c6, c7⟩ := c8
  clear m hS hok ok hwo hd hlen hin
  have i0 : (0 : Int) ≤ (i : Int) := by omega
  have i1 : (i : Int) < (h.l.length : Int) := by omega
  go_enter Tryz.func96, Tryz.ntmps96
  go_wp2_with fail
  go_at_call 159
  refine (HUN.out _ _ _ _ _ (hA.later bX) (hM.later bX)).mono ?_
  rintro e w1 ⟨L, c, rfl, hO1, hb_w1⟩
  have hb1 : Below w.heap.size w w1 := bX
  have hs1 := hb1.size
  have hm1 := HM.out.later hb1
  have h81 := HC8.out.later hb1
  have hz63 := hz64.out
  have hul8 := hul.out
  have HVS := Lib.hid hvs
  have HV := Lib.hid hV
  clear c0 c1 c2 c3 c4 c5 c6 c7 b0 b1 b2 b3 f0 f1 f2 f3 hb_w1 hus hz hvs hV
  go_wp2_with fail
  have e0 : clnW h.ws z us 0 = h.ws := rfl
  go_loopw [24] (fun ii wr => ∃ (k : Nat) (A' : Option Addr) (ca' : Nat), ii = .int .i64 (k : Nat) ∧ k ≤ us.length ∧ WB wr B b ⟨A', ca', v.U, v.cu, v.V, v.cv⟩ ⟨clnW h.ws z us k, h.n, h.us, h.l⟩ ∧ Sp8 wr g (i * 8) ⟨df, dp, dz, dan, daw, dmn, dmw, ds⟩ xA xca xM xcm ∧ OwnsN wr w.heap.size L us.length c us ∧ w.heap.size ≤ wr.heap.size ∧ Below B w wr) (fun ii _ => us.length - (intOf ii).toNat)
  case atStart => exact ⟨0, v.A, v.ca, rfl, Nat.zero_le _, hm1, h81, hO1, hs1, hb1.mono (by omega)⟩
  case round =>
    obtain ⟨k, A', ca', rfl, hk, hmr, h8r, hOr, hsr, hbr⟩ := hrel
    by_cases hlt : k < us.length
    · obtain ⟨gL, hLe, hL1, hL2, hL3⟩ := hOr.own.at_ (show 0 < us.length by omega)
      obtain ⟨l0, lf⟩ := hL3 k hlt
      subst hLe
      obtain ⟨b0, b1, b2, b3, f0, f1, f2, f3⟩ := id hmr.box
      obtain ⟨c0, c1, c2, c3, c4, c5, c6, c7⟩ := id h8r
      have hAr : Row wr wr.heap.size A' (clnW h.ws z us k) := hmr.hm.a
      have hlW := clnW_len h.ws z us k
      have HCk := Lib.hid fun (w : World) (A : Option Addr) (ca : Nat) hr => HC.out w A ca (clnW h.ws z us k) hlW k hlt hr
      have HW1 : Hid (clnW h.ws z us (k + 1) = overTo (clnW h.ws z us k) (us.getD k 0) (fun _ => 0) z) := Lib.hid rfl
      obtain ⟨Wk, hWk⟩ : ∃ W, Hid (clnW h.ws z us k = W) := ⟨_, Lib.hid rfl⟩
      rw [hWk.out] at HCk HW1 b0 hmr hAr hlW
      have hgd : us.getD k 0 = us[k] := by rw [List.getD_eq_getElem?_getD, List.getElem?_eq_getElem hlt]; rfl
      obtain ⟨ak, hak⟩ : ∃ a, Hid (us[k] = a) := ⟨_, Lib.hid rfl⟩
      rw [hgd, hak.out] at HCk HW1 l0
      clear hgd
      have hbl2 := hmr.lt
      have hg2 := h8r.lt
      have HMR := Lib.hid hmr
      have H8R := Lib.hid h8r
      have HOR := Lib.hid hOr
      have HBR := Lib.hid hbr
      clear hL3 hmr h8r hOr hbr hlW b1 b2 b3 f1 f2 f3 hWk hak e0 hAS hul8
      have HK1 : Hid (k + 1 ≤ us.length) := Lib.hid (by omega)
      have j0 : (0 : Int) ≤ (k : Int) := by omega
      have j1 : (k : Int) < (us.length : Int) := by omega
      go_wp2_with fail
      refine wp_region_held_drew (S := (fun X : World => X.cell? ⟨g, i * 8, none⟩ = some (.int .i64 df) ∧ X.cell? ⟨g, i * 8 + 1, none⟩ = some (.int .i64 dp) ∧ X.cell? ⟨g, i * 8 + 2, none⟩ = some (.int .i64 dz) ∧ X.cell? ⟨g, i * 8 + 3, none⟩ = some (.int .i64 dan) ∧ X.cell? ⟨g, i * 8 + 4, none⟩ = some (.slice xA daw.length xca) ∧ X.cell? ⟨g, i * 8 + 5, none⟩ = some (.int .i64 dmn) ∧ X.cell? ⟨g, i * 8 + 6, none⟩ = some (.slice xM dmw.length xcm) ∧ X.cell? ⟨g, i * 8 + 7, none⟩ = some (.bool ds))) (by kernel_rfl) ?_ (fun hHeld => ?_)
      · (try dsimp only); refine ⟨?_, ?_, ?_, ?_, ?_, ?_, ?_, ?_⟩ <;> first | assumption | (simp [go_sem]; done) | exact (World.cell?_alloc_lt _ _ ⟨_, _, _⟩ lX).trans (by assumption) | exact (World.cell?_setCell_other _ ⟨_, _, _⟩ ⟨_, _, _⟩ _ (fun e2 => hbg (by injection e2))).trans (by assumption)
      refine tY 0 ?_
      try simp only [Act.put, qZ]
      refine tY 1 ?_
      try simp only [Act.put, qZ]
      refine tY 2 ?_
      try simp only [Act.put, qZ]
      refine tY 3 ?_
      try simp only [Act.put, qZ]
      refine tY 4 ?_
      try simp only [Act.put, qZ]
      refine tY 6 ?_
      try simp only [Act.put, qZ]
      refine tY 7 ?_
      try simp only [Act.put, qZ]
      refine tY 8 ?_
      try simp only [Act.put, qZ]
      refine tY 9 ?_
      try simp only [Act.put, qZ]
      refine wpAnyH_ready (rs := [5, 10]) (by kernel_rfl) (by simp) ?_
      refine AllReadyH.cons rfl (fun K hK => ?_) (AllReadyH.cons rfl (fun K hK => ?_) AllReadyH.nil)
      · try simp only [qA, qB, qC]
        go_simp
        try go_wp2_with fail
        refine hK.out _ _ ?_ (fun hHeld => ?_)
        · (try dsimp only); refine ⟨?_, ?_, ?_, ?_, ?_, ?_, ?_, ?_⟩ <;> first | assumption | (simp [go_sem]; done) | exact (World.cell?_alloc_lt _ _ ⟨_, _, _⟩ lX).trans (by assumption) | exact (World.cell?_setCell_other _ ⟨_, _, _⟩ ⟨_, _, _⟩ _ (fun e2 => hbg (by injection e2))).trans (by assumption)
        clear hK K
        try simp only [Act.put, qZ]
        refine wpAnyH_ready (rs := [10]) (by kernel_rfl) (by simp) ?_
        refine AllReadyH.cons rfl (fun K hK => ?_) AllReadyH.nil
        try simp only [qA, qB, qC]
        go_simp
        go_at_call 161
        refine (HSW.out _ _ _ _ _).mono ?_
        rintro e w2 ⟨rfl, hb_w2⟩
        have hs_w2 : wr.heap.size ≤ w2.heap.size := hb_w2.size
        have p2 : w2.cell? ⟨b, 0, none⟩ = some (.slice A' Wk.length ca') := (hb_w2.cell lX).trans kY
        have q2 : w2.frozen? ⟨b, 0, none⟩ = false := ((bcell hb_w2).2 _ _ lX).trans kY
        have mw20 : w2.cell? ⟨g, i * 8, none⟩ = some (.int .i64 df) := (hb_w2.cell lX).trans kX
        have mw21 : w2.cell? ⟨g, i * 8 + 1, none⟩ = some (.int .i64 dp) := (hb_w2.cell lX).trans kX
        have mw22 : w2.cell? ⟨g, i * 8 + 2, none⟩ = some (.int .i64 dz) := (hb_w2.cell lX).trans kX
        have mw23 : w2.cell? ⟨g, i * 8 + 3, none⟩ = some (.int .i64 dan) := (hb_w2.cell lX).trans kX
        have mw24 : w2.cell? ⟨g, i * 8 + 4, none⟩ = some (.slice xA daw.length xca) := (hb_w2.cell lX).trans kX
        have mw25 : w2.cell? ⟨g, i * 8 + 5, none⟩ = some (.int .i64 dmn) := (hb_w2.cell lX).trans kX
        have mw26 : w2.cell? ⟨g, i * 8 + 6, none⟩ = some (.slice xM dmw.length xcm) := (hb_w2.cell lX).trans kX
        have mw27 : w2.cell? ⟨g, i * 8 + 7, none⟩ = some (.bool ds) := (hb_w2.cell lX).trans kX
        try go_wp2_with fail
        refine hK.out _ _ ?_ (fun hHeld => ?_)
        · (try dsimp only); refine ⟨?_, ?_, ?_, ?_, ?_, ?_, ?_, ?_⟩ <;> first | assumption | (simp [go_sem]; done) | exact (World.cell?_alloc_lt _ _ ⟨_, _, _⟩ lX).trans (by assumption) | exact (World.cell?_setCell_other _ ⟨_, _, _⟩ ⟨_, _, _⟩ _ (fun e2 => hbg (by injection e2))).trans (by assumption)
        clear hK K
        try simp only [Act.put, qZ]
        refine wpAnyH_ready (rs := [11]) (by kernel_rfl) (by simp) ?_
        refine AllReadyH.cons rfl (fun K hK => ?_) AllReadyH.nil
        try simp only [qA, qB, qC]
        go_simp
        go_at_call 160
        refine (HCk.out _ _ _ (hAr.later bX)).mono ?_
        rintro e w3 ⟨A3, c3', rfl, ⟨o3, hc3⟩, hb_w3⟩
        have hs_w3 : w2.heap.size ≤ w3.heap.size := hb_w3.size
        have p3 : w3.cell? ⟨b, 0, none⟩ = some (.slice A' Wk.length ca') := (hb_w3.cell lX).trans kY
        have q3 : w3.frozen? ⟨b, 0, none⟩ = false := ((bcell hb_w3).2 _ _ lX).trans kY
        have mw30 : w3.cell? ⟨g, i * 8, none⟩ = some (.int .i64 df) := (hb_w3.cell lX).trans kX
        have mw31 : w3.cell? ⟨g, i * 8 + 1, none⟩ = some (.int .i64 dp) := (hb_w3.cell lX).trans kX
        have mw32 : w3.cell? ⟨g, i * 8 + 2, none⟩ = some (.int .i64 dz) := (hb_w3.cell lX).trans kX
        have mw33 : w3.cell? ⟨g, i * 8 + 3, none⟩ = some (.int .i64 dan) := (hb_w3.cell lX).trans kX
        have mw34 : w3.cell? ⟨g, i * 8 + 4, none⟩ = some (.slice xA daw.length xca) := (hb_w3.cell lX).trans kX
        have mw35 : w3.cell? ⟨g, i * 8 + 5, none⟩ = some (.int .i64 dmn) := (hb_w3.cell lX).trans kX
        have mw36 : w3.cell? ⟨g, i * 8 + 6, none⟩ = some (.slice xM dmw.length xcm) := (hb_w3.cell lX).trans kX
        have mw37 : w3.cell? ⟨g, i * 8 + 7, none⟩ = some (.bool ds) := (hb_w3.cell lX).trans kX
        try go_wp2_with fail
        refine hK.out _ _ ?_ (fun hHeld => ?_)
        · (try dsimp only); refine ⟨?_, ?_, ?_, ?_, ?_, ?_, ?_, ?_⟩ <;> first | assumption | (simp [go_sem]; done) | exact (World.cell?_alloc_lt _ _ ⟨_, _, _⟩ lX).trans (by assumption) | exact (World.cell?_setCell_other _ ⟨_, _, _⟩ ⟨_, _, _⟩ _ (fun e2 => hbg (by injection e2))).trans (by assumption)
        clear hK K
        try simp only [Act.put, qZ]
        refine tY 12 ?_
        try simp only [Act.put, qZ]
        refine tY 13 ?_
        try simp only [Act.put, qZ]
        refine tY 14 ?_
        try simp only [Act.put, qZ]
        refine tY 15 ?_
        try simp only [Act.put, qZ]
        refine tY 16 ?_
        try simp only [Act.put, qZ]
        refine tY 17 ?_
        try simp only [Act.put, qZ]
        refine wpAnyH_ready (rs := [18]) (by kernel_rfl) (by simp) ?_
        refine AllReadyH.cons rfl (fun K hK => ?_) AllReadyH.nil
        try simp only [qA, qB, qC]
        go_simp
        try go_wp2_with fail
        refine hK.out _ _ ?_ (fun hHeld => ?_)
        · (try dsimp only); refine ⟨?_, ?_, ?_, ?_, ?_, ?_, ?_, ?_⟩ <;> first | assumption | (simp [go_sem]; done) | exact (World.cell?_alloc_lt _ _ ⟨_, _, _⟩ lX).trans (by assumption) | exact (World.cell?_setCell_other _ ⟨_, _, _⟩ ⟨_, _, _⟩ _ (fun e2 => hbg (by injection e2))).trans (by assumption)
        clear hK K
        try simp only [Act.put, qZ]
        refine wpAnyH_done (by kernel_rfl) ?_ _
        have hbw3 : Below wr.heap.size wr w3 := bX
        have hm4 := (HMR.out.later hbw3).setA (ca := c3') (o3.mono (B' := B) (by first | omega | (simp only [zN, zD, zA]; omega))) (o3.apt (b := b) (by first | omega | (simp only [zN, zD, zA]; omega)))
        have h84 := (H8R.out.later hbw3).far (p := ⟨b, 0, none⟩) hbg (.slice A3 (overTo Wk ak (fun _ => 0) z).length c3')
        have hO4 := (HOR.out.later hbw3).far2 (p := ⟨b, 0, none⟩) hbl (.slice A3 (overTo Wk ak (fun _ => 0) z).length c3')
        have hb4 : Below B w (w3.setCell ⟨b, 0, none⟩ (.slice A3 (overTo Wk ak (fun _ => 0) z).length c3')) := (HBR.out.trans (hbw3.mono (by omega))).setCell (p := ⟨b, 0, none⟩) hle _
        have hs4 : w.heap.size ≤ (w3.setCell ⟨b, 0, none⟩ (.slice A3 (overTo Wk ak (fun _ => 0) z).length c3')).heap.size := by rw [World.size_setCell]; omega
        rw [← HW1.out] at hm4 h84 hO4 hb4 hs4
        have R4 := Lib.hid (And.intro hm4 (And.intro h84 (And.intro hO4 (And.intro hs4 hb4))))
        clear hm4 h84 hO4 hs4 hb4 o3 hHeld
        rw [← HW1.out]
        have hk100 : k ≤ 100 := (by have := hul.out; omega)
        go_wp2
        go_roundw
        case rel => exact ⟨k + 1, A3, c3', by go_num, HK1.out, R4.out⟩
        case measure => (have hk1 := HK1.out; simp [intOf]; omega)
      · try simp only [qA, qB, qC]
        go_simp
        go_at_call 161
        refine (HSW.out _ _ _ _ _).mono ?_
        rintro e w2 ⟨rfl, hb_w2⟩
        have hs_w2 : wr.heap.size ≤ w2.heap.size := hb_w2.size
        have p2 : w2.cell? ⟨b, 0, none⟩ = some (.slice A' Wk.length ca') := (hb_w2.cell lX).trans kY
        have q2 : w2.frozen? ⟨b, 0, none⟩ = false := ((bcell hb_w2).2 _ _ lX).trans kY
        have mw20 : w2.cell? ⟨g, i * 8, none⟩ = some (.int .i64 df) := (hb_w2.cell lX).trans kX
        have mw21 : w2.cell? ⟨g, i * 8 + 1, none⟩ = some (.int .i64 dp) := (hb_w2.cell lX).trans kX
        have mw22 : w2.cell? ⟨g, i * 8 + 2, none⟩ = some (.int .i64 dz) := (hb_w2.cell lX).trans kX
        have mw23 : w2.cell? ⟨g, i * 8 + 3, none⟩ = some (.int .i64 dan) := (hb_w2.cell lX).trans kX
        have mw24 : w2.cell? ⟨g, i * 8 + 4, none⟩ = some (.slice xA daw.length xca) := (hb_w2.cell lX).trans kX
        have mw25 : w2.cell? ⟨g, i * 8 + 5, none⟩ = some (.int .i64 dmn) := (hb_w2.cell lX).trans kX
        have mw26 : w2.cell? ⟨g, i * 8 + 6, none⟩ = some (.slice xM dmw.length xcm) := (hb_w2.cell lX).trans kX
        have mw27 : w2.cell? ⟨g, i * 8 + 7, none⟩ = some (.bool ds) := (hb_w2.cell lX).trans kX
        try go_wp2_with fail
        refine hK.out _ _ ?_ (fun hHeld => ?_)
        · (try dsimp only); refine ⟨?_, ?_, ?_, ?_, ?_, ?_, ?_, ?_⟩ <;> first | assumption | (simp [go_sem]; done) | exact (World.cell?_alloc_lt _ _ ⟨_, _, _⟩ lX).trans (by assumption) | exact (World.cell?_setCell_other _ ⟨_, _, _⟩ ⟨_, _, _⟩ _ (fun e2 => hbg (by injection e2))).trans (by assumption)
        clear hK K
        try simp only [Act.put, qZ]
        refine wpAnyH_ready (rs := [5]) (by kernel_rfl) (by simp) ?_
        refine AllReadyH.cons rfl (fun K hK => ?_) AllReadyH.nil
        try simp only [qA, qB, qC]
        go_simp
        try go_wp2_with fail
        refine hK.out _ _ ?_ (fun hHeld => ?_)
        · (try dsimp only); refine ⟨?_, ?_, ?_, ?_, ?_, ?_, ?_, ?_⟩ <;> first | assumption | (simp [go_sem]; done) | exact (World.cell?_alloc_lt _ _ ⟨_, _, _⟩ lX).trans (by assumption) | exact (World.cell?_setCell_other _ ⟨_, _, _⟩ ⟨_, _, _⟩ _ (fun e2 => hbg (by injection e2))).trans (by assumption)
        clear hK K
        try simp only [Act.put, qZ]
        refine wpAnyH_ready (rs := [11]) (by kernel_rfl) (by simp) ?_
        refine AllReadyH.cons rfl (fun K hK => ?_) AllReadyH.nil
        try simp only [qA, qB, qC]
        go_simp
        go_at_call 160
        refine (HCk.out _ _ _ (hAr.later bX)).mono ?_
        rintro e w3 ⟨A3, c3', rfl, ⟨o3, hc3⟩, hb_w3⟩
        have hs_w3 : w2.heap.size ≤ w3.heap.size := hb_w3.size
        have p3 : w3.cell? ⟨b, 0, none⟩ = some (.slice A' Wk.length ca') := (hb_w3.cell lX).trans kY
        have q3 : w3.frozen? ⟨b, 0, none⟩ = false := ((bcell hb_w3).2 _ _ lX).trans kY
        have mw30 : w3.cell? ⟨g, i * 8, none⟩ = some (.int .i64 df) := (hb_w3.cell lX).trans kX
        have mw31 : w3.cell? ⟨g, i * 8 + 1, none⟩ = some (.int .i64 dp) := (hb_w3.cell lX).trans kX
        have mw32 : w3.cell? ⟨g, i * 8 + 2, none⟩ = some (.int .i64 dz) := (hb_w3.cell lX).trans kX
        have mw33 : w3.cell? ⟨g, i * 8 + 3, none⟩ = some (.int .i64 dan) := (hb_w3.cell lX).trans kX
        have mw34 : w3.cell? ⟨g, i * 8 + 4, none⟩ = some (.slice xA daw.length xca) := (hb_w3.cell lX).trans kX
        have mw35 : w3.cell? ⟨g, i * 8 + 5, none⟩ = some (.int .i64 dmn) := (hb_w3.cell lX).trans kX
        have mw36 : w3.cell? ⟨g, i * 8 + 6, none⟩ = some (.slice xM dmw.length xcm) := (hb_w3.cell lX).trans kX
        have mw37 : w3.cell? ⟨g, i * 8 + 7, none⟩ = some (.bool ds) := (hb_w3.cell lX).trans kX
        try go_wp2_with fail
        refine hK.out _ _ ?_ (fun hHeld => ?_)
        · (try dsimp only); refine ⟨?_, ?_, ?_, ?_, ?_, ?_, ?_, ?_⟩ <;> first | assumption | (simp [go_sem]; done) | exact (World.cell?_alloc_lt _ _ ⟨_, _, _⟩ lX).trans (by assumption) | exact (World.cell?_setCell_other _ ⟨_, _, _⟩ ⟨_, _, _⟩ _ (fun e2 => hbg (by injection e2))).trans (by assumption)
        clear hK K
        try simp only [Act.put, qZ]
        refine tY 12 ?_
        try simp only [Act.put, qZ]
        refine tY 13 ?_
        try simp only [Act.put, qZ]
        refine tY 14 ?_
        try simp only [Act.put, qZ]
        refine tY 15 ?_
        try simp only [Act.put, qZ]
        refine tY 16 ?_
        try simp only [Act.put, qZ]
        refine tY 17 ?_
        try simp only [Act.put, qZ]
        refine wpAnyH_ready (rs := [18]) (by kernel_rfl) (by simp) ?_
        refine AllReadyH.cons rfl (fun K hK => ?_) AllReadyH.nil
        try simp only [qA, qB, qC]
        go_simp
        try go_wp2_with fail
        refine hK.out _ _ ?_ (fun hHeld => ?_)
        · (try dsimp only); refine ⟨?_, ?_, ?_, ?_, ?_, ?_, ?_, ?_⟩ <;> first | assumption | (simp [go_sem]; done) | exact (World.cell?_alloc_lt _ _ ⟨_, _, _⟩ lX).trans (by assumption) | exact (World.cell?_setCell_other _ ⟨_, _, _⟩ ⟨_, _, _⟩ _ (fun e2 => hbg (by injection e2))).trans (by assumption)
        clear hK K
        try simp only [Act.put, qZ]
        refine wpAnyH_done (by kernel_rfl) ?_ _
        have hbw3 : Below wr.heap.size wr w3 := bX
        have hm4 := (HMR.out.later hbw3).setA (ca := c3') (o3.mono (B' := B) (by first | omega | (simp only [zN, zD, zA]; omega))) (o3.apt (b := b) (by first | omega | (simp only [zN, zD, zA]; omega)))
        have h84 := (H8R.out.later hbw3).far (p := ⟨b, 0, none⟩) hbg (.slice A3 (overTo Wk ak (fun _ => 0) z).length c3')
        have hO4 := (HOR.out.later hbw3).far2 (p := ⟨b, 0, none⟩) hbl (.slice A3 (overTo Wk ak (fun _ => 0) z).length c3')
        have hb4 : Below B w (w3.setCell ⟨b, 0, none⟩ (.slice A3 (overTo Wk ak (fun _ => 0) z).length c3')) := (HBR.out.trans (hbw3.mono (by omega))).setCell (p := ⟨b, 0, none⟩) hle _
        have hs4 : w.heap.size ≤ (w3.setCell ⟨b, 0, none⟩ (.slice A3 (overTo Wk ak (fun _ => 0) z).length c3')).heap.size := by rw [World.size_setCell]; omega
        rw [← HW1.out] at hm4 h84 hO4 hb4 hs4
        have R4 := Lib.hid (And.intro hm4 (And.intro h84 (And.intro hO4 (And.intro hs4 hb4))))
        clear hm4 h84 hO4 hs4 hb4 o3 hHeld
        rw [← HW1.out]
        have hk100 : k ≤ 100 := (by have := hul.out; omega)
        go_wp2
        go_roundw
        case rel => exact ⟨k + 1, A3, c3', by go_num, HK1.out, R4.out⟩
        case measure => (have hk1 := HK1.out; simp [intOf]; omega)
    · obtain rfl : k = us.length := by omega
      clear h8r
      obtain ⟨g2, A2, ca2, M2, cm2, hV2, _, hgl2, hbg2, s8, oA, oM, fz, f00, hf00⟩ := hmr.span hi
      obtain rfl : g2 = g := by
        have := hV2.symm.trans HV.out
        injection this with this
        injection this with this
      have hD : Hid (nth h.l i = ⟨df, dp, dz, dan, daw, dmn, dmw, ds⟩) := hdd
      simp only at s8 oA oM
      rw [hD.out] at s8 oA oM
      obtain rfl : dmn = dan := HMN.out
      obtain ⟨c0, c1, c2, c3, c4, c5, c6, c7⟩ := id s8
      simp only at oA oM c0 c1 c2 c3 c4 c5 c6 c7
      have hA2 := oA.row
      have hM2 := oM.row
      have q3 := fz (i * 8 + 3)
      have q4 := fz (i * 8 + 4)
      have q7 := fz (i * 8 + 7)
      have HW := Lib.hid hmr
      have HO := Lib.hid hOr
      have HBr := Lib.hid hbr
      clear hmr hOr hbr s8 hf00 c0 c1 c2 c7 q7
      obtain ⟨bt, hbt⟩ : ∃ x, Hid (bothTo daw dmw dmw.length = x) := ⟨_, Lib.hid rfl⟩
      rw [hbt.out] at HBO HCT HDR HCN HCE HL0
      unfold spv at HDR
      simp only at HDR
      go_wp2_with fail
      go_region_with (go_at_call 162; refine (HBO.out _ _ _ _ _ (hA2.later bX) (hM2.later bX)).mono ?_; rintro e w5 ⟨A5, ca5, rfl, o5, hb_w5⟩; have p3 : w5.cell? ⟨g2, i * 8 + 3, none⟩ = some (.int .i64 dmn) := (hb_w5.cell lX).trans kX; have q3 : w5.frozen? ⟨g2, i * 8 + 3, none⟩ = false := ((bcell hb_w5).2 _ _ lX).trans (by first | assumption | (simp [go_sem]; done) | exact (World.frozen?_alloc_past _ _ _ lX).trans (by assumption)); have p4 : w5.cell? ⟨g2, i * 8 + 4, none⟩ = some (.slice A2 daw.length ca2) := (hb_w5.cell lX).trans kX; have q4 : w5.frozen? ⟨g2, i * 8 + 4, none⟩ = false := ((bcell hb_w5).2 _ _ lX).trans (by first | assumption | (simp [go_sem]; done) | exact (World.frozen?_alloc_past _ _ _ lX).trans (by assumption)))
      all_goals
        have hbw : Below wr.heap.size wr w5 := bX
        have m5 := HW.out.later hbw
        have hs5 := hbw.size
        have o5' : Own w5 B A5 bt := o5.mono (by first | omega | (simp only [zN, zD, zA]; omega))
        have m6 := m5.setL_ (ca' := ca5) hV2 (i := i) hi o5' (o5.apt (b := b) (by first | omega | (simp only [zN, zD, zA]; omega))) (o5.apt (b := g2) (by first | omega | (simp only [zN, zD, zA]; omega))) HL0.out
        simp only at m6
        rw [hD.out] at m6
        simp only at m6
        have hO6 := ((HO.out.later hbw).far2 (p := ⟨g2, i * 8 + 3, none⟩) hgl (.int .i64 dmn)).far2 (p := ⟨g2, i * 8 + 4, none⟩) hgl (.slice A5 bt.length ca5)
        have hb6 : Below B w ((w5.setCell ⟨g2, i * 8 + 3, none⟩ (.int .i64 dmn)).setCell ⟨g2, i * 8 + 4, none⟩ (.slice A5 bt.length ca5)) := ((HBr.out.trans (hbw.mono (by omega))).setCell (p := ⟨g2, i * 8 + 3, none⟩) hgB (.int .i64 dmn)).setCell (p := ⟨g2, i * 8 + 4, none⟩) hgB (.slice A5 bt.length ca5)
        have hs6 : w.heap.size ≤ ((w5.setCell ⟨g2, i * 8 + 3, none⟩ (.int .i64 dmn)).setCell ⟨g2, i * 8 + 4, none⟩ (.slice A5 bt.length ca5)).heap.size := by simp only [zS]; omega
        clear hbw m5 hs5 o5 o5' hb_w5 p3 p4 q3 q4 c3 c4 c5 c6 hA2 hM2 oA oM fz
        have m6' : WB ((w5.setCell ⟨g2, i * 8 + 3, none⟩ (.int .i64 dmn)).setCell ⟨g2, i * 8 + 3 + 1, none⟩ (.slice A5 bt.length ca5)) B b _ _ := m6
        have hO6' : OwnsN ((w5.setCell ⟨g2, i * 8 + 3, none⟩ (.int .i64 dmn)).setCell ⟨g2, i * 8 + 3 + 1, none⟩ (.slice A5 bt.length ca5)) w.heap.size L us.length c us := hO6
        have hb6' : Below B w ((w5.setCell ⟨g2, i * 8 + 3, none⟩ (.int .i64 dmn)).setCell ⟨g2, i * 8 + 3 + 1, none⟩ (.slice A5 bt.length ca5)) := hb6
        have hs6' : w.heap.size ≤ ((w5.setCell ⟨g2, i * 8 + 3, none⟩ (.int .i64 dmn)).setCell ⟨g2, i * 8 + 3 + 1, none⟩ (.slice A5 bt.length ca5)).heap.size := hs6
        clear m6 hO6 hb6 hs6
        generalize ((w5.setCell ⟨g2, i * 8 + 3, none⟩ (.int .i64 dmn)).setCell ⟨g2, i * 8 + 3 + 1, none⟩ (.slice A5 bt.length ca5)) = w6 at *
        have hi6 : i < (h.l.set i ⟨df, dp, dz, dmn, bt, dmn, dmw, ds⟩).length := by rw [List.length_set]; exact hi
        obtain ⟨g3, A3, ca3, M3, cm3, hV3, _, hgl3, hbg3, s3, oA3, oM3, fz3, f03, hf03⟩ := m6'.span hi6
        obtain rfl : g3 = g2 := by
          have := hV3.symm.trans hV2
          injection this with this
          injection this with this
        have en3 : nth (h.l.set i ⟨df, dp, dz, dmn, bt, dmn, dmw, ds⟩) i = ⟨df, dp, dz, dmn, bt, dmn, dmw, ds⟩ := by rw [nth_set _ _ _ _ hi, if_pos rfl]
        have m7 := m6'.set8 hV2 (i := i) (j := 7) (u := .bool true) hi6 (by omega) ⟨df, dp, dz, dmn, bt, dmn, dmw, true⟩ (by show bt = _; unfold setL; simp only; rw [en3]) (by show dmw = _; unfold setL; simp only; rw [en3]) (fun A ca M cm => by unfold setL; simp only; rw [en3]; rfl)
        unfold setL at m7 s3 oA3 oM3
        simp only at m7 s3 oA3 oM3
        rw [en3] at s3 oA3 oM3
        rw [List.set_set, ← HCE.out] at m7
        obtain ⟨c0, c1, c2, c3, c4, c5, c6, c7⟩ := id s3
        simp only at oA3 oM3 c0 c1 c2 c3 c4 c5 c6 c7
        have q7 := fz3 (i * 8 + 7)
        have oA7 := (oA3.oth (p := ⟨g3, i * 8 + 7, none⟩) (oA3.apt_span hf03) (.bool true)).row
        have O7 := hO6'.far2 (p := ⟨g3, i * 8 + 7, none⟩) hgl (.bool true)
        have b7 : Below B w (w6.setCell ⟨g3, i * 8 + 7, none⟩ (.bool true)) := hb6'.setCell (p := ⟨g3, i * 8 + 7, none⟩) hgB _
        have s7 : w.heap.size ≤ (w6.setCell ⟨g3, i * 8 + 7, none⟩ (.bool true)).heap.size := by rw [World.size_setCell]; exact hs6'
        have HI7 : Hid (i < (cl1H h i).l.length) := Lib.hid (by rw [HCE.out]; show i < (h.l.set i _).length; rw [List.length_set]; exact hi)
        have HE7 : Hid (nth (cl1H h i).l i = ⟨df, dp, dz, dmn, bt, dmn, dmw, true⟩) := Lib.hid (by rw [HCE.out]; show nth (h.l.set i _) i = _; rw [nth_set _ _ _ _ hi, if_pos rfl])
        have M7 := Lib.hid m7
        clear m6' hO6' hb6' s3 oA3 oM3 fz3 f03 hf03 en3 m7 HBO HCE
        go_wp2_with fail
        go_at_call 102
        refine (HCT.out _ _ _ (by exact oA7)).mono ?_
        rintro e w8 ⟨rfl, hb_w8⟩
        have m8 := M7.out.later hb_w8
        have O8 := O7.later hb_w8
        have b8 : Below B w w8 := b7.trans (hb_w8.mono (by omega))
        have hs8 := hb_w8.size
        clear M7 O7 oA7 c0 c1 c2 c3 c4 c5 c6 c7 q7
        by_cases hc0 : countTo bt dmn.toNat = 0
        · have d0 : (((countTo bt dmn.toNat : Nat) : Int) == 0) = true := by rw [hc0]; rfl
          have HC0 := Lib.hid hc0
          clear hc0
          obtain ⟨g8, A8, ca8, M8, cm8, hV8, _, _, _, s8, _, _, _, _, _⟩ := m8.span HI7.out
          obtain rfl : g8 = g3 := by
            have := hV8.symm.trans hV2
            injection this with this
            injection this with this
          rw [HE7.out] at s8
          obtain ⟨c0, c1, c2, c3, c4, c5, c6, c7⟩ := id s8
          simp only at c0 c1 c2 c3 c4 c5 c6 c7
          go_wp2_with fail
          go_at_call 163
          refine (HDR.out _ _ _ _ (by exact m8) A8 M8 ca8 cm8).mono ?_
          rintro e w9 ⟨rfl, ⟨v9, m9⟩, hb_w9, hg9⟩
          have O9 := O8.grownLt hg9 hbl
          have b9 : Below B w w9 := b8.trans hb_w9
          go_wp2
          go_ret
          exact ⟨_, _, rfl, O9, (by rw [HCN.out.1 HC0.out]; exact ⟨_, m9⟩), b9⟩
        · have d0 : (((countTo bt dmn.toNat : Nat) : Int) == 0) = false := by simp; omega
          have HC0 := Lib.hid hc0
          clear hc0
          go_wp2
          go_ret
          exact ⟨_, _, rfl, O8, (by rw [HCN.out.2 HC0.out]; exact ⟨_, m8⟩), b8⟩
set_option maxRecDepth 100000

def FreshHw (w : World) (h : Hp) (t : List Nat) (y : Int) (e : Ending) (w' : World) : Prop := ∃ v A c, e = .returned (.tuple #[hpV v h, .slice A t.length c, .int .i64 y]) ∧ OwnsH w' w.heap.size v h ∧ OwnsN w' w.heap.size A t.length c t ∧ Below w.heap.size w w'
theorem OwnsN.all {w : World} {B b n cap : Nat} {A : Option Addr} {t : List Nat} (o : OwnsN w B A n cap t) (hb : b < B) (u0 u1 u2 u3 : Value) : OwnsN ((((w.setCell ⟨b, 0, none⟩ u0).setCell ⟨b, 1, none⟩ u1).setCell ⟨b, 2, none⟩ u2).setCell ⟨b, 3, none⟩ u3) B A n cap t :=
  (((o.far2 (p := ⟨b, 0, none⟩) hb u0).far2 (p := ⟨b, 1, none⟩) hb u1).far2 (p := ⟨b, 2, none⟩) hb u2).far2 (p := ⟨b, 3, none⟩) hb u3
section
variable {w : World} {v : Hv} {h : Hp}
set_option maxHeartbeats 4000000 in
theorem zcleanH_any (hz : Sizes w) (hM : HM w w.heap.size v h) (hl : h.l.length ≤ 17592186044416) (hw : h.ws.length ≤ 17592186044416) (hnil : v.V = none → v.cv = 0) (f : Int) (h' : Hp) (t : List Nat) (y : Int) (hE : ClnE h f h' t y) :
    Calls Tryz.prog 40 #[hpV v h, .int .i64 f] w fun e w' => FreshHw w h' t y e w' := by
  rcases hE with ⟨hk, rfl, rfl, rfl⟩ | ⟨hk, hI, he, rfl, rfl⟩ | ⟨i, hk, hI, hs, he, rfl, rfl⟩ | ⟨i, hk, hI, hs, rfl, rfl, rfl⟩
  · have HR := Lib.hid fun (w : World) z m => zread_bad (w := w) (v := v) (h := h) z m hl hw hk
    clear hk
    unfold hpV hpv at HR
    unfold FreshHw hpV hpv
    go_enter Tryz.func40, Tryz.ntmps40
    go_wp2_with fail
    go_at_call 52
    refine (HR.out _ (hz.later bX) (hM.later bX)).mono ?_
    rintro e w1 ⟨rfl, hb_w1⟩
    obtain ⟨hc_w1, hf_w1⟩ := bcell hb_w1; have hz_w1_w_0 : w.heap.size < w1.heap.size := (lY hb_w1.size); have hz_w1_w_1 : w.heap.size + 1 < w1.heap.size := (lY hb_w1.size); have hs_w1 := hb_w1.size; (try simp only [zA, zS, zD, zN] at hs_w1)
    have hR := (B4.new (w.alloc (.cells #[.slice v.A h.ws.length v.ca, .int .i64 h.n, .slice v.U h.us.length v.cu, .slice v.V h.l.length v.cv] 31)) (.slice none 0 0) (.int .i64 0) (.slice none 0 0) (.slice none 0 0) 31).later hb_w1
    simp only [zA] at hR
    obtain ⟨r0, r1, r2, r3, z0, z1, z2, z3⟩ := id hR
    have hb1 : Below w.heap.size w w1 := bX
    clear hc_w1 hf_w1
    go_wp2
    exact bodyPost_ret (res_hp3 rfl rfl (hR.all _ _ _ _)) rfl ⟨hv0, none, 0, rfl, OwnsH.zero _ _, OwnsN.nil _ _, below_all hb1 (by omega) _ _ _ _⟩
  · subst h'
    have HR := Lib.hid fun (w : World) z m => zread_ok (w := w) (v := v) (h := h) z m hk
    have HTW := Lib.hid fun (w : World) m => ztwin_any (w := w) (v := v) (h := h) m hk.framed hnil
    have hl256 := hk.framed.spans.1
    have HSP := Lib.hid fun (w : World) (V : Option Addr) (A U : Option Addr) (na ca nu cu cv : Nat) (hv : SRow w w.heap.size V h.l) => zspanat_any (w := w) (n := h.n) (A := A) (U := U) (V := V) (l := h.l) na ca nu cu cv hv (by omega) f (-1) hI
    clear hk hI
    unfold hpv at HSP
    unfold hpV hpv at HR HTW
    unfold FreshHw hpV hpv
    go_enter Tryz.func40, Tryz.ntmps40
    go_wp2_with fail
    go_at_call 52
    refine (HR.out _ (hz.later bX) (hM.later bX)).mono ?_
    rintro e w1 ⟨g, L, N, rfl, hg, hRd, hq, hb_w1⟩
    obtain ⟨hc_w1, hf_w1⟩ := bcell hb_w1; have hz_w1_w_0 : w.heap.size < w1.heap.size := (lY hb_w1.size); have hz_w1_w_1 : w.heap.size + 1 < w1.heap.size := (lY hb_w1.size); have hs_w1 := hb_w1.size; (try simp only [zA, zS, zD, zN] at hs_w1)
    have hR := (B4.new (w.alloc (.cells #[.slice v.A h.ws.length v.ca, .int .i64 h.n, .slice v.U h.us.length v.cu, .slice v.V h.l.length v.cv] 31)) (.slice none 0 0) (.int .i64 0) (.slice none 0 0) (.slice none 0 0) 31).later hb_w1
    simp only [zA] at hR hg
    have hb1 : Below w.heap.size w w1 := bX
    have hs1 := hR.lt
    have hg1 := hRd.rd.lt
    obtain ⟨m0, m1, m2, m3⟩ := id hRd.rd.hb
    clear hc_w1 hf_w1
    go_wp2_with fail
    go_at_call 53
    refine (HTW.out _ (hRd.rd.mem.more (by omega))).mono ?_
    rintro e w2 ⟨v2, rfl, oH, hb_w2⟩
    have hR2 := hR.later hb_w2
    have hRd2 := hRd.later hb_w2
    have hb2 : Below w.heap.size w w2 := hb1.trans (hb_w2.mono hb1.size)
    have hs2 := hb_w2.size
    have hW := WB.new oH hb_w2.size 93
    have hb3 : Below w2.heap.size w2 (w2.alloc (.cells #[.slice v2.A h.ws.length v2.ca, .int .i64 h.n, .slice v2.U h.us.length v2.cu, .slice v2.V h.l.length v2.cv] 93)) := Below.alloc (Below.refl _ _) (Nat.le_refl _) _
    have hR3 := hR2.later hb3
    have hRd3 := hRd2.later hb3
    have hbb3 : Below w.heap.size w (w2.alloc (.cells #[.slice v2.A h.ws.length v2.ca, .int .i64 h.n, .slice v2.U h.us.length v2.cu, .slice v2.V h.l.length v2.cv] 93)) := hb2.alloc hb2.size _
    have hs3 : (w2.alloc (.cells #[.slice v2.A h.ws.length v2.ca, .int .i64 h.n, .slice v2.U h.us.length v2.cu, .slice v2.V h.l.length v2.cv] 93)).heap.size = w2.heap.size + 1 := World.size_alloc _ _
    clear hb_w1 hb_w2 m0 m1 m2 m3 hR hRd oH hR2 hRd2 hb1 hb2 hb3
    obtain ⟨c0, c1, c2, c3, f0, f1, f2, f3⟩ := id hW.box
    go_wp2_with fail
    go_at_call 95
    refine (HSP.out _ v2.V v2.A v2.U h.ws.length v2.ca h.us.length v2.cu v2.cv hW.hm.v).mono ?_
    rintro e w4 ⟨rfl, hb_w4⟩
    have hW4 := hW.later hb_w4
    have hR4 := hR3.later hb_w4
    have hs4 := hb_w4.size
    rw [hs3] at hs4
    have hb4 : Below w.heap.size w w4 := hbb3.trans (hb_w4.mono hbb3.size)
    clear c0 c1 c2 c3 f0 f1 f2 f3
    obtain ⟨c0, c1, c2, c3, f0, f1, f2, f3⟩ := id hW4.box
    obtain ⟨r0, r1, r2, r3, z0, z1, z2, z3⟩ := id hR4
    go_wp2
    exact bodyPost_ret (res_hp3 rfl rfl (hR4.all _ _ _ _)) rfl ⟨v2, none, 0, rfl, (hW4.owns.all (by omega) _ _ _ _).mono (by omega), OwnsN.nil _ _, below_all hb4 (by omega) _ _ _ _⟩
  · subst h'
    have HR := Lib.hid fun (w : World) z m => zread_ok (w := w) (v := v) (h := h) z m hk
    have HTW := Lib.hid fun (w : World) m => ztwin_any (w := w) (v := v) (h := h) m hk.framed hnil
    have hl256 := hk.framed.spans.1
    have HSP := Lib.hid fun (w : World) (V : Option Addr) (A U : Option Addr) (na ca nu cu cv : Nat) (hv : SRow w w.heap.size V h.l) => zspanat_any (w := w) (n := h.n) (A := A) (U := U) (V := V) (l := h.l) na ca nu cu cv hv (by omega) f (i : Int) hI
    have HI := Lib.hid hI.lt
    have HSW := Lib.hid hs
    clear hk hI hs
    unfold hpv at HSP
    unfold hpV hpv at HR HTW
    unfold FreshHw hpV hpv
    go_enter Tryz.func40, Tryz.ntmps40
    go_wp2_with fail
    go_at_call 52
    refine (HR.out _ (hz.later bX) (hM.later bX)).mono ?_
    rintro e w1 ⟨g, L, N, rfl, hg, hRd, hq, hb_w1⟩
    obtain ⟨hc_w1, hf_w1⟩ := bcell hb_w1; have hz_w1_w_0 : w.heap.size < w1.heap.size := (lY hb_w1.size); have hz_w1_w_1 : w.heap.size + 1 < w1.heap.size := (lY hb_w1.size); have hs_w1 := hb_w1.size; (try simp only [zA, zS, zD, zN] at hs_w1)
    have hR := (B4.new (w.alloc (.cells #[.slice v.A h.ws.length v.ca, .int .i64 h.n, .slice v.U h.us.length v.cu, .slice v.V h.l.length v.cv] 31)) (.slice none 0 0) (.int .i64 0) (.slice none 0 0) (.slice none 0 0) 31).later hb_w1
    simp only [zA] at hR hg
    have hb1 : Below w.heap.size w w1 := bX
    have hs1 := hR.lt
    have hg1 := hRd.rd.lt
    obtain ⟨m0, m1, m2, m3⟩ := id hRd.rd.hb
    clear hc_w1 hf_w1
    go_wp2_with fail
    go_at_call 53
    refine (HTW.out _ (hRd.rd.mem.more (by omega))).mono ?_
    rintro e w2 ⟨v2, rfl, oH, hb_w2⟩
    have hR2 := hR.later hb_w2
    have hRd2 := hRd.later hb_w2
    have hb2 : Below w.heap.size w w2 := hb1.trans (hb_w2.mono hb1.size)
    have hs2 := hb_w2.size
    have hW := WB.new oH hb_w2.size 93
    have hb3 : Below w2.heap.size w2 (w2.alloc (.cells #[.slice v2.A h.ws.length v2.ca, .int .i64 h.n, .slice v2.U h.us.length v2.cu, .slice v2.V h.l.length v2.cv] 93)) := Below.alloc (Below.refl _ _) (Nat.le_refl _) _
    have hR3 := hR2.later hb3
    have hRd3 := hRd2.later hb3
    have hbb3 : Below w.heap.size w (w2.alloc (.cells #[.slice v2.A h.ws.length v2.ca, .int .i64 h.n, .slice v2.U h.us.length v2.cu, .slice v2.V h.l.length v2.cv] 93)) := hb2.alloc hb2.size _
    have hs3 : (w2.alloc (.cells #[.slice v2.A h.ws.length v2.ca, .int .i64 h.n, .slice v2.U h.us.length v2.cu, .slice v2.V h.l.length v2.cv] 93)).heap.size = w2.heap.size + 1 := World.size_alloc _ _
    clear hb_w1 hb_w2 m0 m1 m2 m3 hR hRd oH hR2 hRd2 hb1 hb2 hb3
    obtain ⟨c0, c1, c2, c3, f0, f1, f2, f3⟩ := id hW.box
    go_wp2_with fail
    go_at_call 95
    refine (HSP.out _ v2.V v2.A v2.U h.ws.length v2.ca h.us.length v2.cu v2.cv hW.hm.v).mono ?_
    rintro e w4 ⟨rfl, hb_w4⟩
    have hW4 := hW.later hb_w4
    have hR4 := hR3.later hb_w4
    have hs4 := hb_w4.size
    rw [hs3] at hs4
    have hb4 : Below w.heap.size w w4 := hbb3.trans (hb_w4.mono hbb3.size)
    clear c0 c1 c2 c3 f0 f1 f2 f3
    obtain ⟨g4, A4, ca4, M4, cm4, hV4, hgB4, hgl4, hbg4, s8, oA4, oM4, fz4, f04, hf04⟩ := hW4.span HI.out
    have i0 : (0 : Int) ≤ (i : Int) := by omega
    have i1 : (i : Int) < (h.l.length : Int) := by have := HI.out; omega
    have s7 := s8.c7
    rw [HSW.out] at s7
    have hV4' := Lib.hid hV4
    clear s8 oA4 oM4 fz4 hf04
    obtain ⟨V0, V1, V2, V3, V4, V5⟩ := v2
    simp only at hV4
    subst hV4
    obtain ⟨c0, c1, c2, c3, f0, f1, f2, f3⟩ := id hW4.box
    obtain ⟨r0, r1, r2, r3, z0, z1, z2, z3⟩ := id hR4
    go_wp2
    exact bodyPost_ret (res_hp3 rfl rfl (hR4.all _ _ _ _)) rfl ⟨⟨V0, V1, V2, V3, (some ⟨g4, 0, none⟩), V5⟩, none, 0, rfl, (hW4.owns.all (by omega) _ _ _ _).mono (by omega), OwnsN.nil _ _, below_all hb4 (by omega) _ _ _ _⟩
  · have HR := Lib.hid fun (w : World) z m => zread_ok (w := w) (v := v) (h := h) z m hk
    have HTW := Lib.hid fun (w : World) m => ztwin_any (w := w) (v := v) (h := h) m hk.framed hnil
    have hl256 := hk.framed.spans.1
    have HSP := Lib.hid fun (w : World) (V : Option Addr) (A U : Option Addr) (na ca nu cu cv : Nat) (hv : SRow w w.heap.size V h.l) => zspanat_any (w := w) (n := h.n) (A := A) (U := U) (V := V) (l := h.l) na ca nu cu cv hv (by omega) f (i : Int) hI
    have HI := Lib.hid hI.lt
    have HSW := Lib.hid hs
    have HCL := Lib.hid fun (w : World) (B b : Nat) (v : Hv) (mm : WB w B b v h) => zclean_any mm hk hI.lt hs
    clear hk hI hs
    unfold hpv at HSP
    unfold hpV hpv at HR HTW
    unfold FreshHw hpV hpv
    go_enter Tryz.func40, Tryz.ntmps40
    go_wp2_with fail
    go_at_call 52
    refine (HR.out _ (hz.later bX) (hM.later bX)).mono ?_
    rintro e w1 ⟨g, L, N, rfl, hg, hRd, hq, hb_w1⟩
    obtain ⟨hc_w1, hf_w1⟩ := bcell hb_w1; have hz_w1_w_0 : w.heap.size < w1.heap.size := (lY hb_w1.size); have hz_w1_w_1 : w.heap.size + 1 < w1.heap.size := (lY hb_w1.size); have hs_w1 := hb_w1.size; (try simp only [zA, zS, zD, zN] at hs_w1)
    have hR := (B4.new (w.alloc (.cells #[.slice v.A h.ws.length v.ca, .int .i64 h.n, .slice v.U h.us.length v.cu, .slice v.V h.l.length v.cv] 31)) (.slice none 0 0) (.int .i64 0) (.slice none 0 0) (.slice none 0 0) 31).later hb_w1
    simp only [zA] at hR hg
    have hb1 : Below w.heap.size w w1 := bX
    have hs1 := hR.lt
    have hg1 := hRd.rd.lt
    obtain ⟨m0, m1, m2, m3⟩ := id hRd.rd.hb
    clear hc_w1 hf_w1
    go_wp2_with fail
    go_at_call 53
    refine (HTW.out _ (hRd.rd.mem.more (by omega))).mono ?_
    rintro e w2 ⟨v2, rfl, oH, hb_w2⟩
    have hR2 := hR.later hb_w2
    have hRd2 := hRd.later hb_w2
    have hb2 : Below w.heap.size w w2 := hb1.trans (hb_w2.mono hb1.size)
    have hs2 := hb_w2.size
    have hW := WB.new oH hb_w2.size 93
    have hb3 : Below w2.heap.size w2 (w2.alloc (.cells #[.slice v2.A h.ws.length v2.ca, .int .i64 h.n, .slice v2.U h.us.length v2.cu, .slice v2.V h.l.length v2.cv] 93)) := Below.alloc (Below.refl _ _) (Nat.le_refl _) _
    have hR3 := hR2.later hb3
    have hRd3 := hRd2.later hb3
    have hbb3 : Below w.heap.size w (w2.alloc (.cells #[.slice v2.A h.ws.length v2.ca, .int .i64 h.n, .slice v2.U h.us.length v2.cu, .slice v2.V h.l.length v2.cv] 93)) := hb2.alloc hb2.size _
    have hs3 : (w2.alloc (.cells #[.slice v2.A h.ws.length v2.ca, .int .i64 h.n, .slice v2.U h.us.length v2.cu, .slice v2.V h.l.length v2.cv] 93)).heap.size = w2.heap.size + 1 := World.size_alloc _ _
    clear hb_w1 hb_w2 m0 m1 m2 m3 hR hRd oH hR2 hRd2 hb1 hb2 hb3
    obtain ⟨c0, c1, c2, c3, f0, f1, f2, f3⟩ := id hW.box
    go_wp2_with fail
    go_at_call 95
    refine (HSP.out _ v2.V v2.A v2.U h.ws.length v2.ca h.us.length v2.cu v2.cv hW.hm.v).mono ?_
    rintro e w4 ⟨rfl, hb_w4⟩
    have hW4 := hW.later hb_w4
    have hR4 := hR3.later hb_w4
    have hs4 := hb_w4.size
    rw [hs3] at hs4
    have hb4 : Below w.heap.size w w4 := hbb3.trans (hb_w4.mono hbb3.size)
    clear c0 c1 c2 c3 f0 f1 f2 f3
    obtain ⟨g4, A4, ca4, M4, cm4, hV4, hgB4, hgl4, hbg4, s8, oA4, oM4, fz4, f04, hf04⟩ := hW4.span HI.out
    have i0 : (0 : Int) ≤ (i : Int) := by omega
    have i1 : (i : Int) < (h.l.length : Int) := by have := HI.out; omega
    have s7 := s8.c7
    rw [HSW.out] at s7
    have hV4' := Lib.hid hV4
    clear s8 oA4 oM4 fz4 hf04
    obtain ⟨c0, c1, c2, c3, f0, f1, f2, f3⟩ := id hW4.box
    rw [hV4] at c3
    go_wp2_with fail
    go_at_call 96
    refine (HCL.out _ _ _ _ hW4).mono ?_
    rintro e w5 ⟨L5, c5, rfl, o5, ⟨v5, hW5⟩, hb_w5⟩
    clear c0 c1 c2 c3 f0 f1 f2 f3
    clear s7
    have hR5 := hR4.below hb_w5 (by omega)
    have hs5 := hb_w5.size
    have hb5 : Below w.heap.size w w5 := hb4.trans (hb_w5.mono (by omega))
    obtain ⟨c0, c1, c2, c3, f0, f1, f2, f3⟩ := id hW5.box
    obtain ⟨r0, r1, r2, r3, z0, z1, z2, z3⟩ := id hR5
    go_wp2
    exact bodyPost_ret (res_hp3 rfl rfl (hR5.all _ _ _ _)) rfl ⟨v5, L5, c5, rfl, (hW5.owns.all (by omega) _ _ _ _).mono (by omega), (o5.all (b := w.heap.size + 1) (by omega) _ _ _ _).mono (by omega), below_all hb5 (by omega) _ _ _ _⟩
end
set_option maxRecDepth 100000

def lh0 : Hp := mkH 4
def lh1 : Hp := plcH (groH lh0 1 1 4 0) 0 0 2 1 false
def lh2 : Hp := plcH (groH lh1 2 1 2 1) 1 0 1 0 false
def lh3 : Hp := stoH lh2 17 32
def lh4 : Hp := marH lh3 1 0
def lh5 : Hp := trnH lh4
def lh6 : Hp := clnH lh5 0
theorem lk0 : OkH lh0 := mkH_ok (by decide) (by decide)
theorem lmake : MakE 4 lh0 0 := .inr ⟨by decide, rfl, rfl⟩
theorem lnew1 : NewE lh0 2 1 false lh1 16 0 := by
  refine .inr (.inr (.inr ⟨lk0, by decide, rfl, 0, 0, groH lh0 1 1 4 0, .inr (.inl ⟨by decide, .inr (.inl ⟨lk0.framed.spans, .inl ⟨rfl, fun i hi => absurd hi (Nat.not_lt_zero i)⟩, rfl, rfl, rfl⟩), ?_, rfl⟩), rfl, by decide +kernel⟩))
  have e1 : pgOf (2 + 1) = 1 := by decide
  have e2 : szn 2 = 4 := by decide
  rw [e1, e2]
  refine .inr (.inr ⟨1, 0, .inl ⟨rfl, 1, by decide, by decide +kernel, fun j hj => ?_, by decide⟩, by decide, .inl ⟨.inl ⟨rfl, fun i hi => absurd hi (Nat.not_lt_zero i)⟩, rfl⟩, rfl, rfl, rfl⟩)
  obtain rfl | rfl : j = 0 ∨ j = 1 := by omega
  · decide +kernel
  · decide +kernel
theorem lk1 : OkH lh1 := lnew1.made.2.1
theorem lnew2 : NewE lh1 1 0 false lh2 32 0 := by
  refine .inr (.inr (.inr ⟨lk1, by decide, rfl, 1, 0, groH lh1 2 1 2 1, .inr (.inl ⟨by decide, .inr (.inl ⟨lk1.framed.spans, .inl ⟨rfl, fun i hi => ?_⟩, rfl, rfl, rfl⟩), ?_, rfl⟩), rfl, by decide +kernel⟩))
  · have hi : i < 1 := hi
    obtain rfl : i = 0 := by omega
    decide +kernel
  have e1 : pgOf (1 + 1) = 1 := by decide
  have e2 : szn 1 = 2 := by decide
  rw [e1, e2]
  refine .inr (.inr ⟨2, 1, .inl ⟨rfl, 2, by decide, by decide +kernel, fun j hj => ?_, by decide⟩, by decide, .inl ⟨.inl ⟨rfl, fun i hi => ?_⟩, rfl⟩, rfl, rfl, rfl⟩)
  · obtain rfl | rfl | rfl : j = 0 ∨ j = 1 ∨ j = 2 := by omega
    · decide +kernel
    · decide +kernel
    · decide +kernel
  · have hi : i < 1 := hi
    obtain rfl : i = 0 := by omega
    decide +kernel
theorem lk2 : OkH lh2 := lnew2.made.2.1
theorem lsto1 : StoE lh2 16 0 32 true lh3 0 := .inr (.inr ⟨lk2, .inr (.inr (.inr (.inr ⟨by decide +kernel, by decide +kernel, by decide +kernel, fun _ => by decide +kernel, rfl⟩))), rfl, rfl⟩)
theorem lk3 : OkH lh3 := lsto1.ok lk2
theorem lload : LoadE lh3 16 0 32 true 0 := .inr (.inr (.inr ⟨lk3, by decide +kernel, by decide +kernel, by decide +kernel, by decide +kernel, rfl⟩))
theorem lsto2 : StoE lh3 16 1 32 true lh3 8 := .inr (.inl ⟨lk3, .inr (.inr (.inl ⟨by decide +kernel, by decide +kernel, by decide +kernel, rfl⟩)), by decide, rfl⟩)
theorem lmark : MarE lh3 32 lh4 false 0 := by
  have e1 : (fnO lh3 32).i = 1 := by decide +kernel
  have e2 : (fnO lh3 32).k = 0 := by decide +kernel
  have e3 : (fnO lh3 32).b = false := by decide +kernel
  exact .inr (.inr ⟨lk3, by decide +kernel, by rw [e1, e2]; rfl, e3.symm, rfl⟩)
theorem lk4 : OkH lh4 := lmark.ok lk3
theorem lturn : TrnE lh4 lh5 0 := by
  have hs : SweptH lh4 := fun j hj => by
    have hj : j < 2 := hj
    obtain rfl | rfl : j = 0 ∨ j = 1 := by omega
    · decide +kernel
    · decide +kernel
  exact .inr (.inr (.inr ⟨lk4, hs, (closedH_iff lk4 hs).1 (by decide +kernel), rfl, rfl⟩))
theorem lk5 : OkH lh5 := lturn.ok lk4
theorem lclean : ClnE lh5 1 lh6 [16] 0 := .inr (.inr (.inr ⟨0, lk5, .inr ⟨0, rfl, by decide +kernel, by decide +kernel, fun j hj => absurd hj (Nat.not_lt_zero j)⟩, by decide +kernel, rfl, by decide +kernel, rfl⟩))
theorem lk6 : OkH lh6 := lclean.ok lk5
theorem lat_ : AtE lh6 16 0 0 10 := .inr ⟨lk6, by decide +kernel, by decide +kernel, by decide +kernel⟩
theorem lobj : ObjE lh6 [32] 0 := .inr ⟨lk6, by decide +kernel, rfl⟩
set_option maxRecDepth 100000

theorem WB.put {w : World} {B B' b : Nat} {x0 x1 x2 x3 : Value} {v : Hv} {h : Hp} (hx : B4 w b x0 x1 x2 x3) (hle : B ≤ b) (o : OwnsH w B' v h) (hb : b < B') (hB : B ≤ B') :
    WB ((((w.setCell ⟨b, 0, none⟩ (.slice v.A h.ws.length v.ca)).setCell ⟨b, 1, none⟩ (.int .i64 h.n)).setCell ⟨b, 2, none⟩ (.slice v.U h.us.length v.cu)).setCell ⟨b, 3, none⟩ (.slice v.V h.l.length v.cv)) B b v h := by
  have o2 := o.all hb (.slice v.A h.ws.length v.ca) (.int .i64 h.n) (.slice v.U h.us.length v.cu) (.slice v.V h.l.length v.cv)
  have o3 := o2.mono hB
  obtain ⟨vs, e, hs⟩ := o2.s
  obtain ⟨vs', e', hs'⟩ := o3.s
  exact ⟨hx.all _ _ _ _, hle, o3.a, o3.u, ⟨vs, e, ⟨hs.len, (hs.mono hB).row_, (hs.mono hB).words, hs.apart⟩, hs.aptS_ge hb⟩, o2.a.apt hb, o2.u.apt hb⟩
theorem OkH.lens {h : Hp} (hk : OkH h) : h.l.length ≤ 17592186044416 ∧ h.ws.length ≤ 17592186044416 := by
  have h1 := hk.framed.spans.1
  have h2 := hk.framed.words
  exact ⟨by omega, by omega⟩
theorem below_put {B b : Nat} {a W w : World} (o : Below B a W) (hb : Below W.heap.size W w) (hB : B ≤ W.heap.size) (hle : B ≤ b) (u0 u1 u2 u3 : Value) : Below B a ((((w.setCell ⟨b, 0, none⟩ u0).setCell ⟨b, 1, none⟩ u1).setCell ⟨b, 2, none⟩ u2).setCell ⟨b, 3, none⟩ u3) :=
  below_all (o.trans (hb.mono hB)) hle u0 u1 u2 u3
set_option maxRecDepth 100000

set_option maxHeartbeats 4000000 in
theorem hlives_gen {h0 h1 h2 h3 h4 h5 h6 : Hp} (k0 : OkH h0) (k1 : OkH h1) (k2 : OkH h2) (k3 : OkH h3) (k4 : OkH h4) (k5 : OkH h5) (k6 : OkH h6)
    (e1 : MakE 4 h0 0) (e2 : NewE h0 2 1 false h1 16 0) (e3 : NewE h1 1 0 false h2 32 0) (e4 : StoE h2 16 0 32 true h3 0) (e5 : LoadE h3 16 0 32 true 0) (e6 : StoE h3 16 1 32 true h3 8) (e7 : MarE h3 32 h4 false 0) (e8 : TrnE h4 h5 0) (e9 : ClnE h5 1 h6 [16] 0) (e10 : AtE h6 16 0 0 10) (e11 : ObjE h6 [32] 0)
    (w : World) (hz : Sizes w) : Calls Tryz.prog 19 #[] w fun e w' => e = .returned (.bool true) ∧ Below w.heap.size w w' := by
  have H1 : Hid (∀ (W : World), Calls Tryz.prog 17 #[.int .i64 4] W fun e W' => ∃ v', e = .returned (.tuple #[hpV v' h0, .int .i64 0]) ∧ OwnsH W' W.heap.size v' h0 ∧ Below W.heap.size W W') := Lib.hid fun W => zmakeH_any W 4 h0 0 e1
  have H2 : Hid (∀ (W : World) (v : Hv), Sizes W → HM W W.heap.size v h0 → (v.V = none → v.cv = 0) → Calls Tryz.prog 15 #[hpV v h0, .agg #[.int .i64 2, .int .u64 1], .bool false] W fun e W' => ∃ v', e = .returned (.tuple #[hpV v' h1, .int .u64 16, .int .i64 0]) ∧ OwnsH W' W.heap.size v' h1 ∧ Below W.heap.size W W') := Lib.hid fun W v z m n => znewH_any z m k0.lens.1 k0.lens.2 n 2 1 (by decide) false h1 16 0 e2
  have H3 : Hid (∀ (W : World) (v : Hv), Sizes W → HM W W.heap.size v h1 → (v.V = none → v.cv = 0) → Calls Tryz.prog 15 #[hpV v h1, .agg #[.int .i64 1, .int .u64 0], .bool false] W fun e W' => ∃ v', e = .returned (.tuple #[hpV v' h2, .int .u64 32, .int .i64 0]) ∧ OwnsH W' W.heap.size v' h2 ∧ Below W.heap.size W W') := Lib.hid fun W v z m n => znewH_any z m k1.lens.1 k1.lens.2 n 1 0 (by decide) false h2 32 0 e3
  have H4 : Hid (∀ (W : World) (v : Hv), Sizes W → HM W W.heap.size v h2 → (v.V = none → v.cv = 0) → Calls Tryz.prog 27 #[hpV v h2, .int .u64 16, .int .i64 0, .int .u64 32, .bool true] W fun e W' => ∃ v', e = .returned (.tuple #[hpV v' h3, .int .i64 0]) ∧ OwnsH W' W.heap.size v' h3 ∧ Below W.heap.size W W') := Lib.hid fun W v z m n => zstoreH_any z m k2.lens.1 k2.lens.2 n 16 (by decide) 0 32 (by decide) true h3 0 e4
  have H5 : Hid (∀ (W : World) (v : Hv), Sizes W → HM W W.heap.size v h3 → (v.V = none → v.cv = 0) → Calls Tryz.prog 25 #[hpV v h3, .int .u64 16, .int .i64 0] W fun e W' =>  e = .returned (.tuple #[.int .u64 32, .bool true, .int .i64 0]) ∧ Below W.heap.size W W') := Lib.hid fun W v z m n => zload_any z m k3.lens.1 k3.lens.2 16 (by decide) 0 32 true 0 e5
  have H6 : Hid (∀ (W : World) (v : Hv), Sizes W → HM W W.heap.size v h3 → (v.V = none → v.cv = 0) → Calls Tryz.prog 27 #[hpV v h3, .int .u64 16, .int .i64 1, .int .u64 32, .bool true] W fun e W' => ∃ v', e = .returned (.tuple #[hpV v' h3, .int .i64 8]) ∧ OwnsH W' W.heap.size v' h3 ∧ Below W.heap.size W W') := Lib.hid fun W v z m n => zstoreH_any z m k3.lens.1 k3.lens.2 n 16 (by decide) 1 32 (by decide) true h3 8 e6
  have H7 : Hid (∀ (W : World) (v : Hv), Sizes W → HM W W.heap.size v h3 → (v.V = none → v.cv = 0) → Calls Tryz.prog 29 #[hpV v h3, .int .u64 32] W fun e W' => ∃ v', e = .returned (.tuple #[hpV v' h4, .bool false, .int .i64 0]) ∧ OwnsH W' W.heap.size v' h4 ∧ Below W.heap.size W W') := Lib.hid fun W v z m n => zmarkH_any z m k3.lens.1 k3.lens.2 n 32 (by decide) h4 false 0 e7
  have H8 : Hid (∀ (W : World) (v : Hv), Sizes W → HM W W.heap.size v h4 → (v.V = none → v.cv = 0) → Calls Tryz.prog 38 #[hpV v h4] W fun e W' => ∃ v', e = .returned (.tuple #[hpV v' h5, .int .i64 0]) ∧ OwnsH W' W.heap.size v' h5 ∧ Below W.heap.size W W') := Lib.hid fun W v z m n => zturnH_any z m k4.lens.1 k4.lens.2 n h5 0 e8
  have H9 : Hid (∀ (W : World) (v : Hv), Sizes W → HM W W.heap.size v h5 → (v.V = none → v.cv = 0) → Calls Tryz.prog 40 #[hpV v h5, .int .i64 1] W fun e W' => ∃ v' A c, e = .returned (.tuple #[hpV v' h6, .slice A 1 c, .int .i64 0]) ∧ OwnsH W' W.heap.size v' h6 ∧ OwnsN W' W.heap.size A 1 c [16] ∧ Below W.heap.size W W') := Lib.hid fun W v z m n => zcleanH_any z m k5.lens.1 k5.lens.2 n 1 h6 [16] 0 e9
  have H10 : Hid (∀ (W : World) (v : Hv), Sizes W → HM W W.heap.size v h6 → (v.V = none → v.cv = 0) → Calls Tryz.prog 23 #[hpV v h6, .int .u64 16] W fun e W' =>  e = .returned (.tuple #[.agg #[.int .i64 0, .int .u64 0], .int .i64 10]) ∧ Below W.heap.size W W') := Lib.hid fun W v z m n => zat_any z m k6.lens.1 k6.lens.2 16 (by decide) 0 0 10 e10
  have H11 : Hid (∀ (W : World) (v : Hv), Sizes W → HM W W.heap.size v h6 → (v.V = none → v.cv = 0) → Calls Tryz.prog 35 #[hpV v h6] W fun e W' => ∃ A c, e = .returned (.tuple #[.slice A 1 c, .int .i64 0]) ∧ OwnsN W' W.heap.size A 1 c [32] ∧ Below W.heap.size W W') := Lib.hid fun W v z m n => zobjH_any z m k6.lens.1 k6.lens.2 [32] 0 e11
  clear k0 k1 k2 k3 k4 k5 k6 e1 e2 e3 e4 e5 e6 e7 e8 e9 e10 e11
  unfold hpV hpv at H1 H2 H3 H4 H5 H6 H7 H8 H9 H10 H11
  go_enter Tryz.func19, Tryz.ntmps19
  go_wp2_with fail
  go_at_call 17
  refine (H1.out _).mono ?_
  rintro e w1 ⟨v1, rfl, o1, hb_w1⟩
  obtain ⟨hc_w1, hf_w1⟩ := bcell hb_w1; have hs_w1 := hb_w1.size; (try simp only [zA, zS, zD, zN] at hs_w1)
  have s1 := hb_w1.size
  have m1 := WB.new o1 s1 31
  have B1 : Below w.heap.size w (w1.alloc (.cells #[.slice v1.A h0.ws.length v1.ca, .int .i64 h0.n, .slice v1.U h0.us.length v1.cu, .slice v1.V h0.l.length v1.cv] 31)) := hb_w1.alloc s1 _
  obtain ⟨c0, c1, c2, c3, f0, f1, f2, f3⟩ := id m1.box
  clear hc_w1 hf_w1 o1
  go_wp2_with fail
  go_at_call 15
  refine (H2.out _ _ (hz.later (by exact B1)) (by exact m1.hm) m1.owns.nil).mono ?_
  rintro e w2 ⟨v2, rfl, o2, hb_w2⟩
  clear c0 c1 c2 c3 f0 f1 f2 f3
  have x2 := m1.box.later hb_w2
  have l1 := m1.lt
  have s2 := B1.size
  have m2 := WB.put x2 m1.le o2 l1 s2
  have B2 := below_put B1 hb_w2 s2 m1.le (.slice v2.A h1.ws.length v2.ca) (.int .i64 h1.n) (.slice v2.U h1.us.length v2.cu) (.slice v2.V h1.l.length v2.cv)
  obtain ⟨c0, c1, c2, c3, f0, f1, f2, f3⟩ := id x2
  clear m1 B1 x2 o2
  go_wp2_with fail
  go_at_call 15
  refine (H3.out _ _ (hz.later (by exact B2)) (by exact m2.hm) m2.owns.nil).mono ?_
  rintro e w3 ⟨v3, rfl, o3, hb_w3⟩
  clear c0 c1 c2 c3 f0 f1 f2 f3
  have x3 := m2.box.later hb_w3
  have l2 := m2.lt
  have s3 := B2.size
  have m3 := WB.put x3 m2.le o3 l2 s3
  have B3 := below_put B2 hb_w3 s3 m2.le (.slice v3.A h2.ws.length v3.ca) (.int .i64 h2.n) (.slice v3.U h2.us.length v3.cu) (.slice v3.V h2.l.length v3.cv)
  obtain ⟨c0, c1, c2, c3, f0, f1, f2, f3⟩ := id x3
  clear m2 B2 x3 o3
  go_wp2_with fail
  go_at_call 27
  refine (H4.out _ _ (hz.later (by exact B3)) (by exact m3.hm) m3.owns.nil).mono ?_
  rintro e w4 ⟨v4, rfl, o4, hb_w4⟩
  clear c0 c1 c2 c3 f0 f1 f2 f3
  have x4 := m3.box.later hb_w4
  have l3 := m3.lt
  have s4 := B3.size
  have m4 := WB.put x4 m3.le o4 l3 s4
  have B4 := below_put B3 hb_w4 s4 m3.le (.slice v4.A h3.ws.length v4.ca) (.int .i64 h3.n) (.slice v4.U h3.us.length v4.cu) (.slice v4.V h3.l.length v4.cv)
  obtain ⟨c0, c1, c2, c3, f0, f1, f2, f3⟩ := id x4
  clear m3 B3 x4 o4
  go_wp2_with fail
  go_at_call 25
  refine (H5.out _ _ (hz.later (by exact B4)) (by exact m4.hm) m4.owns.nil).mono ?_
  rintro e w5 ⟨rfl, hb_w5⟩
  clear c0 c1 c2 c3 f0 f1 f2 f3
  have m5 := m4.later hb_w5
  have B5 := B4.trans (hb_w5.mono B4.size)
  obtain ⟨c0, c1, c2, c3, f0, f1, f2, f3⟩ := id m5.box
  clear m4 B4
  go_wp2_with fail
  go_at_call 27
  refine (H6.out _ _ (hz.later (by exact B5)) (by exact m5.hm) m5.owns.nil).mono ?_
  rintro e w6 ⟨v6, rfl, o6, hb_w6⟩
  clear c0 c1 c2 c3 f0 f1 f2 f3
  have m6 := m5.later hb_w6
  have B6 := B5.trans (hb_w6.mono B5.size)
  have a6 : Below w6.heap.size w6 (w6.alloc (.cells #[.slice v6.A h3.ws.length v6.ca, .int .i64 h3.n, .slice v6.U h3.us.length v6.cu, .slice v6.V h3.l.length v6.cv] 31)) := Below.alloc (Below.refl _ _) (Nat.le_refl _) _
  have m6 := m6.later a6
  have B6 := B6.trans (a6.mono B6.size)
  obtain ⟨c0, c1, c2, c3, f0, f1, f2, f3⟩ := id m6.box
  clear m5 B5
  clear o6
  go_wp2_with fail
  go_at_call 29
  refine (H7.out _ _ (hz.later (by exact B6)) (by exact m6.hm) m6.owns.nil).mono ?_
  rintro e w7 ⟨v7, rfl, o7, hb_w7⟩
  clear c0 c1 c2 c3 f0 f1 f2 f3
  have x7 := m6.box.later hb_w7
  have l6 := m6.lt
  have s7 := B6.size
  have m7 := WB.put x7 m6.le o7 l6 s7
  have B7 := below_put B6 hb_w7 s7 m6.le (.slice v7.A h4.ws.length v7.ca) (.int .i64 h4.n) (.slice v7.U h4.us.length v7.cu) (.slice v7.V h4.l.length v7.cv)
  obtain ⟨c0, c1, c2, c3, f0, f1, f2, f3⟩ := id x7
  clear m6 B6 x7 o7
  go_wp2_with fail
  go_at_call 38
  refine (H8.out _ _ (hz.later (by exact B7)) (by exact m7.hm) m7.owns.nil).mono ?_
  rintro e w8 ⟨v8, rfl, o8, hb_w8⟩
  clear c0 c1 c2 c3 f0 f1 f2 f3
  have x8 := m7.box.later hb_w8
  have l7 := m7.lt
  have s8 := B7.size
  have m8 := WB.put x8 m7.le o8 l7 s8
  have B8 := below_put B7 hb_w8 s8 m7.le (.slice v8.A h5.ws.length v8.ca) (.int .i64 h5.n) (.slice v8.U h5.us.length v8.cu) (.slice v8.V h5.l.length v8.cv)
  obtain ⟨c0, c1, c2, c3, f0, f1, f2, f3⟩ := id x8
  clear m7 B7 x8 o8
  go_wp2_with fail
  go_at_call 40
  refine (H9.out _ _ (hz.later (by exact B8)) (by exact m8.hm) m8.owns.nil).mono ?_
  rintro e w9 ⟨v9, A9, c9, rfl, o9, n9, hb_w9⟩
  clear c0 c1 c2 c3 f0 f1 f2 f3
  have x9 := m8.box.later hb_w9
  have l8 := m8.lt
  have s9 := B8.size
  have m9 := WB.put x9 m8.le o9 l8 s9
  have B9 := below_put B8 hb_w9 s9 m8.le (.slice v9.A h6.ws.length v9.ca) (.int .i64 h6.n) (.slice v9.U h6.us.length v9.cu) (.slice v9.V h6.l.length v9.cv)
  have n10 := n9.all (b := w1.heap.size) l8 (.slice v9.A h6.ws.length v9.ca) (.int .i64 h6.n) (.slice v9.U h6.us.length v9.cu) (.slice v9.V h6.l.length v9.cv)
  obtain ⟨c0, c1, c2, c3, f0, f1, f2, f3⟩ := id x9
  clear m8 B8 x9 o9
  go_wp2_with fail
  go_at_call 23
  refine (H10.out _ _ (hz.later (by exact B9)) (by exact m9.hm) m9.owns.nil).mono ?_
  rintro e w10 ⟨rfl, hb_w10⟩
  clear c0 c1 c2 c3 f0 f1 f2 f3
  have m10 := m9.later hb_w10
  have B10 := B9.trans (hb_w10.mono B9.size)
  have a10 : Below w10.heap.size w10 (w10.alloc (.cells #[.int .i64 0, .int .u64 0] 34)) := Below.alloc (Below.refl _ _) (Nat.le_refl _) _
  have m10 := m10.later a10
  have B10 := B10.trans (a10.mono B10.size)
  obtain ⟨c0, c1, c2, c3, f0, f1, f2, f3⟩ := id m10.box
  clear m9 B9
  have n11 := (n10.later hb_w10).later a10
  go_wp2_with fail
  go_at_call 35
  refine (H11.out _ _ (hz.later (by exact B10)) (by exact m10.hm) m10.owns.nil).mono ?_
  rintro e w11 ⟨A11, c11, rfl, n12, hb_w11⟩
  clear c0 c1 c2 c3 f0 f1 f2 f3
  have m11 := m10.later hb_w11
  have B11 := B10.trans (hb_w11.mono B10.size)
  obtain ⟨c0, c1, c2, c3, f0, f1, f2, f3⟩ := id m11.box
  clear m10 B10
  have n13 := n11.later hb_w11
  obtain ⟨g9, rfl, _, gl9, q9⟩ := n13.own.at_ (by decide)
  obtain ⟨g11, rfl, _, gl11, q11⟩ := n12.own.at_ (by decide)
  have r9 := (q9 0 (by decide)).1
  have r11 := (q11 0 (by decide)).1
  have r9 : w11.cell? ⟨g9, 0, none⟩ = some (.int .u64 16) := r9
  have r11 : w11.cell? ⟨g11, 0, none⟩ = some (.int .u64 32) := r11
  clear n9 n10 n11 n12 n13 q9 q11
  clear c0 c1 c2 c3 f0 f1 f2 f3
  go_wp2
  go_ret
  exact ⟨rfl, B11⟩
theorem hlives_any (w : World) (hz : Sizes w) : Calls Tryz.prog 19 #[] w fun e w' => e = .returned (.bool true) ∧ Below w.heap.size w w' :=
  hlives_gen lk0 lk1 lk2 lk3 lk4 lk5 lk6 lmake lnew1 lnew2 lsto1 lload lsto2 lmark lturn lclean lat_ lobj w hz
end Go.Proofs.YtfhiibohgjbmbaaGreatDoor

