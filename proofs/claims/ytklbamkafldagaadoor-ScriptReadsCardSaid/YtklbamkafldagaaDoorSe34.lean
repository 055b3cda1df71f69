/- Contracts of the document's package: read. -/
import Derived.Test.YtklbamkafldagaaDoorSe33
namespace Go.Proofs.YtklbamkafldagaaDoor
open Go.RowKit
set_option linter.unusedVariables false
set_option linter.unusedSimpArgs false
/-- that a head doesn't fit a line -/
def NoFit (s : List UInt8) (x : Ev) : Prop := s ≠ nmE x ∧ ¬ (s.length > (nmE x).length + 3 ∧ s.take ((nmE x).length + 3) = nmE x ++ star)
theorem hds_ok (k : Nat) (hk : k < 16) : nthE hds k ∈ sgl := by
  rw [← hds_iff]
  exact nthE_mem hds k hk
theorem hds_mem {x : Ev} (hx : x ∈ sgl) : ∃ k, k < 16 ∧ nthE hds k = x := by
  rw [← hds_iff] at hx
  obtain ⟨k, hk, rfl⟩ := List.getElem_of_mem hx
  exact ⟨k, hk, nthE_get _ _ hk⟩
theorem sgl_line {x : Ev} (hx : x ∈ sgl) : lineE x = nmE x := by unfold lineE; rw [if_pos (sgl_ok x hx).2]
theorem fz_later {w w' : World} {g : Nat} (h : ∀ o, w.frozen? ⟨g, o, none⟩ = false) (hb : Below w.heap.size w w') (hg : g < w.heap.size) : ∀ o, w'.frozen? ⟨g, o, none⟩ = false := fun o => (hb.frozen (p := ⟨g, o, none⟩) hg).trans (h o)
theorem fz_new (w : World) (cs : Array Value) (t : TypeId) : ∀ o, (w.alloc (.cells cs t)).frozen? ⟨w.heap.size, o, none⟩ = false := fun o => by simp [go_sem]
theorem fz_old {w : World} {g : Nat} (h : ∀ o, w.frozen? ⟨g, o, none⟩ = false) (hg : g < w.heap.size) (cs : Array Value) (t : TypeId) : ∀ o, (w.alloc (.cells cs t)).frozen? ⟨g, o, none⟩ = false := fz_later h (Below.alloc (Below.refl _ _) (Nat.le_refl _) _) hg
theorem ext_toList (s : ByteArray) (k : Nat) : (s.extract 0 k).toList = s.data.toList.take k := by
  rw [ByteArray.toList_eq, ByteArray.data_extract]
  simp
theorem fit_split {s : List UInt8} {N : List UInt8} (h : s.take (N.length + 3) = N ++ star) : s = N ++ star ++ s.drop (N.length + 3) := by
  rw [← h, List.take_append_drop]
theorem cell_set5 {W : World} {g g' o : Nat} (s : Ev) (h : g' ≠ g) : (((((W.setCell ⟨g, 0, none⟩ (.bool s.th)).setCell ⟨g, 1, none⟩ (.int .i64 s.who)).setCell ⟨g, 2, none⟩ (.int .u8 s.k)).setCell ⟨g, 3, none⟩ (.int .i64 s.tw)).setCell ⟨g, 4, none⟩ (.int .i64 s.n)).cell? ⟨g', o, none⟩ = W.cell? ⟨g', o, none⟩ := by simp [go_sem, h, h.symm]
theorem ev5_drew {W : World} {g o : Nat} {s : Ev} (h : Ev5 W g o s) : Ev5 W.drew g o s := ⟨h.c0, h.c1, h.c2, h.c3, h.c4⟩
theorem sgl_kind : ∀ e ∈ sgl, 0 ≤ e.k := by decide
section
variable {w : World}
set_option maxRecDepth 100000 in
set_option maxHeartbeats 40000000 in
theorem xread_any (s : ByteArray) (hs : s.size ≤ 65536) : Calls Tryd.prog 25 #[.string s] w fun e w' => ParR w s e w' := by
  unfold ParR
  have hlen : s.data.toList.length = s.size := Array.length_toList
  go_enter Tryd.func25, Tryd.ntmps25
  go_wp2_with fail
  go_at_call 40
  refine (xheads_any).mono ?_
  rintro e w1 ⟨H, hcap, rfl, oH, hb_w1⟩
  obtain ⟨hc_w1, hf_w1⟩ := bcell hb_w1; have hz_w1_w_0 : w.heap.size < w1.heap.size := (by have hzz := hb_w1.size; (try simp only [World.size_alloc, World.size_setCell, World.size_drew, World.heap_drewN] at hzz); omega); have hs_w1 := hb_w1.size; (try simp only [World.size_alloc, World.size_setCell, World.size_drew, World.heap_drewN] at hs_w1)
  have rH : ERow w1 w1.heap.size H hds := ERow.of_owns (cap := hcap) (show OwnsE w1 (w.heap.size + 1) (.slice H hds.length hcap) hds from (by have h9 := oH; simp only [World.size_alloc] at h9; exact h9))
  have e5 : Ev5 w1 w.heap.size 0 ev0 := (Ev5.new w ev0 41).later hb_w1
  have hs1 : w.heap.size < w1.heap.size := e5.lt
  have b1 : Below w.heap.size w w1 := (by repeat (first | exact Below.refl _ _ | assumption | (refine below_drewN ?_ _) | (refine Below.drew ?_) | (refine Below.alloc ?_ (by first | omega | (simp; omega) | simp) _) | (refine Below.setCell ?_ (by first | omega | (simp; omega) | simp) _) | (refine below_trans ?_ (by assumption) (by first | omega | (simp; omega) | simp))))
  clear oH
  have HF1 := Lib.hid (fz_later (fz_new w #[.bool false, .int .i64 0, .int .u8 0, .int .i64 0, .int .i64 0] 41) hb_w1 (by simp))
  go_wp2_with fail
  go_loopw [11] (fun ii wr => ∃ k : Nat, ii = .int .i64 (k : Nat) ∧ k ≤ 16 ∧ Hid (∀ j, j < k → NoFit s.data.toList (nthE hds j)) ∧ Ev5 wr w.heap.size 0 ev0 ∧ Hid (∀ o, wr.frozen? ⟨w.heap.size, o, none⟩ = false) ∧ Below w1.heap.size w1 wr) (fun ii _ => 16 - (intOf ii).toNat)
  case atStart => exact ⟨0, rfl, Nat.zero_le _, Lib.hid (fun j hj => by omega), e5, HF1, (by repeat (first | exact Below.refl _ _ | assumption | (refine below_drewN ?_ _) | (refine Below.drew ?_) | (refine Below.alloc ?_ (by first | omega | (simp; omega) | simp) _) | (refine Below.setCell ?_ (by first | omega | (simp; omega) | simp) _) | (refine below_trans ?_ (by assumption) (by first | omega | (simp; omega) | simp))))⟩
  case round =>
    clear e5 HF1
    obtain ⟨k, rfl, hk, HA, e5, HF, hb_wr⟩ := hrel
    have hsr := hb_wr.size
    have HE5 := Lib.hid e5
    clear e5
    by_cases hlt : k < 16
    · obtain ⟨b, off, rfl, hbb, hc⟩ := (rH.later hb_wr).at_ (by decide)
      have c5 := hc k hlt
      clear hc
      have hx : Hid (nthE hds k ∈ sgl) := Lib.hid (hds_ok k hlt)
      have hk0 : (0 : Int) ≤ (k : Int) := by omega
      have hk1 : (k : Int) < 16 := by omega
      have hk17 : k + 1 ≤ 16 := hlt
      have hx1 := (sgl_ok _ hx.out).2
      have HLN := Lib.hid fun (w : World) => xline_any (w := w) (nthE hds k) (sgl_ok _ hx.out).1
      rw [sgl_line hx.out] at HLN
      have hnl := (sgl_plain _ hx.out).2.2.2.2
      clear hlt
      generalize hX : nthE hds k = x at *
      have HX := Lib.hid hX
      clear hX
      obtain ⟨x1, x2, x3, x4, x5⟩ := x
      obtain ⟨c0, c1, c2, c3, c4⟩ := c5
      simp only at c0 c1 c2 c3 c4 hx1
      subst hx1
      unfold evv at HLN
      simp only at HLN
      generalize hN : nmE ⟨x1, x2, x3, x4, 1⟩ = N at *
      have HN := Lib.hid hN
      clear hN
      go_wp2_with fail
      go_at_call 29
      refine (HLN.out _).mono ?_
      rintro e w2 ⟨rfl, hb_w2⟩
      obtain ⟨hc_w2, hf_w2⟩ := bcell hb_w2; have hz_w2_wr_0 : wr.heap.size < w2.heap.size := (by have hzz := hb_w2.size; (try simp only [World.size_alloc, World.size_setCell, World.size_drew, World.heap_drewN] at hzz); omega); have hs_w2 := hb_w2.size; (try simp only [World.size_alloc, World.size_setCell, World.size_drew, World.heap_drewN] at hs_w2)
      have f5 : Ev5 w2 wr.heap.size 0 ⟨x1, x2, x3, x4, 1⟩ := (Ev5.new wr ⟨x1, x2, x3, x4, 1⟩ 41).later hb_w2
      have b3 : Below wr.heap.size wr w2 := below_trans (Below.alloc (Below.refl wr.heap.size wr) (Nat.le_refl _) _) hb_w2 (by simp)
      have b12 : Below w1.heap.size w1 w2 := below_trans hb_wr b3 hsr
      have e52 : Ev5 w2 w.heap.size 0 ev0 := HE5.out.later b3
      obtain ⟨p0, p1, p2, p3, p4⟩ := id f5
      obtain ⟨r0, r1, r2, r3, r4⟩ := id e52
      simp only [Nat.zero_add, ev0] at p0 p1 p2 p3 p4 r0 r1 r2 r3 r4
      have hf2 := fz_later (fz_old HF.out HE5.out.lt #[.bool x1, .int .i64 x2, .int .u8 x3, .int .i64 x4, .int .i64 1] 41) hb_w2 (by simp; have := HE5.out.lt; omega)
      have hg2 := fz_later (fz_new wr #[.bool x1, .int .i64 x2, .int .u8 x3, .int .i64 x4, .int .i64 1] 41) hb_w2 (by simp)
      have z0 := hf2 0
      have z1 := hf2 1
      have z2 := hf2 2
      have z3 := hf2 3
      have z4 := hf2 4
      have y4 := hg2 4
      have b2 : Below w.heap.size w w2 := below_trans b1 b12 (by omega)
      have hbs : (bs N).data.toList = N := bs_data N
      have hbz : (bs N).size = N.length := bs_size N
      by_cases hq : s.data.toList = N
      · have he : (s.toList == (bs N).toList) = true := by
          rw [ByteArray.toList_eq, ByteArray.toList_eq, hbs, beq_iff_eq]
          exact hq
        have HR : Hid (read1 s.data.toList = some ⟨x1, x2, x3, x4, 1⟩) := Lib.hid (read1_some (sgl_ok _ hx.out).1 (by rw [sgl_line hx.out, HN.out]; exact hq))
        go_wp2
        refine bodyPost_ret (res_ev2 rfl rfl (s := ⟨x1, x2, x3, x4, 1⟩) (e52.set5 ⟨x1, x2, x3, x4, 1⟩)) rfl ⟨⟨x1, x2, x3, x4, 1⟩, true, rfl, HR.out, below_set5 ⟨x1, x2, x3, x4, 1⟩ b2 (Nat.le_refl _)⟩
      · have he : (s.toList == (bs N).toList) = false := by
          rw [ByteArray.toList_eq, ByteArray.toList_eq, hbs, beq_eq_false_iff_ne]
          exact hq
        by_cases hsh : s.size ≤ N.length + 3
        · have d1 : decide ((s.size : Int) ≤ ((bs N).size : Int) + 3) = true := decide_eq_true (by omega)
          have HNF : Hid (∀ j, j < k + 1 → NoFit s.data.toList (nthE hds j)) := Lib.hid fun j hj => by
            by_cases e : j = k
            · rw [e, HX.out]
              refine ⟨by rw [HN.out]; exact hq, fun h => ?_⟩
              rw [HN.out] at h
              omega
            · exact HA.out j (by omega)
          go_wp2
          go_roundw
          case rel => exact ⟨k + 1, by go_num, hk17, HNF, e52, Lib.hid hf2, b12⟩
          case measure => simp [intOf]; omega
        · have d1 : decide ((s.size : Int) ≤ ((bs N).size : Int) + 3) = false := decide_eq_false (by omega)
          have hst : (bs N ++ ⟨#[32, 42, 32]⟩ : ByteArray).toList = N ++ star := by
            rw [show (⟨#[32, 42, 32]⟩ : ByteArray) = bs star from rfl, bs_append, ByteArray.toList_eq, bs_data]
          by_cases hft : s.data.toList.take (N.length + 3) = N ++ star
          · have hx3 : ((s.extract 0 (N.length + 3)).toList == (bs N ++ ⟨#[32, 42, 32]⟩ : ByteArray).toList) = true := by
              rw [ext_toList, hst, beq_iff_eq]
              exact hft
            obtain ⟨d, hd⟩ : ∃ d, Hid (s.data.toList = N ++ star ++ d) := ⟨_, Lib.hid (fit_split hft)⟩
            have hdl : s.size = N.length + 3 + d.length := by
              rw [← hlen, hd.out]
              simp [star]
              omega
            clear hft hst hq
            generalize hwA : wr = wA at *
            clear hwA
            go_wp2_with fail
            go_loopw [7, 8] (fun nn ii wr => ∃ j : Nat, ii = .int .i64 ((N.length + 3 + j : Nat) : Int) ∧ j ≤ d.length ∧ nn = .int .i64 ((valL (d.take j) : Nat) : Int) ∧ valL (d.take j) ≤ 50000 ∧ wr = w2) (fun nn ii _ => s.size - (intOf ii).toNat)
            case atStart => exact ⟨0, by go_num, Nat.zero_le _, rfl, by simp [valL], rfl⟩
            case round =>
              obtain ⟨j, rfl, hj, rfl, hv, rfl⟩ := hrel
              have HSN : j < d.length → Hid (valL (d.take (j + 1)) = 10 * valL (d.take j) + ((d.getD j 0).toNat - 48)) := fun h => Lib.hid (by
                rw [List.take_add_one, List.getElem?_eq_getElem h]
                simp only [Option.toList_some]
                rw [valL_snoc]
                simp [List.getD_eq_getElem?_getD, h])
              have HT9 := Lib.hid fun h => bad_number (d := d) hx.out j h
              have HB9 := Lib.hid fun (h : j < d.length) hb => bad_digit (d := d) hx.out j h hb
              have hgd : j < d.length → s.data[N.length + 3 + j]? = some (d.getD j 0) := fun h => by
                have e9 : s.data.toList[N.length + 3 + j]? = d[j]? := by
                  rw [hd.out, List.getElem?_append_right (by simp [star])]
                  simp [star]
                rw [← Array.getElem?_toList, e9, List.getElem?_eq_getElem h]
                simp [List.getD_eq_getElem?_getD, h]
              rw [HN.out] at HT9 HB9
              rw [← hd.out] at HT9 HB9
              generalize valL (d.take j) = v at *
              by_cases hjl : j < d.length
              · replace HSN := HSN hjl
                replace hgd := hgd hjl
                have hj9 : N.length + 3 + j < s.size := by omega
                have i0 : (0 : Int) ≤ ((N.length + 3 + j : Nat) : Int) := by omega
                have i1 : ((N.length + 3 + j : Nat) : Int) < (s.size : Int) := by omega
                have hge : s.data[N.length + 3 + j]'hj9 = d.getD j 0 := by
                  have := Array.getElem?_eq_getElem (xs := s.data) (i := N.length + 3 + j) hj9
                  rw [this] at hgd
                  exact Option.some.inj hgd
                have hHD := HSN
                have hSNc := HSN
                obtain ⟨c, hCD⟩ : ∃ c, d.getD j 0 = c := ⟨_, rfl⟩
                rw [hCD] at hge HSN
                generalize hp : N.length + 3 + j = p at *
                by_cases hvm : v ≤ 4096
                · have d2 : decide ((v : Int) ≤ 4096) = true := decide_eq_true (by omega)
                  have hC : (s[p]'hj9).toNat = c.toNat := by rw [← hge]; rfl
                  by_cases hlo : c.toNat < 48
                  · have d5 : decide ((c.toNat : Int) < 48) = true := decide_eq_true (by omega)
                    have HR : Hid (read1 s.data.toList = none) := Lib.hid (HB9.out hjl (by
                      have e9 : d.getD j 0 = d[j] := by simp [List.getD_eq_getElem?_getD, hjl]
                      rw [hCD] at e9
                      rw [← e9]
                      unfold digC
                      omega))
                    clear hHD
                    go_wp2
                    refine bodyPost_ret (res_ev2 rfl rfl (s := ⟨x1, x2, x3, x4, 1⟩) (e52.set5 ⟨x1, x2, x3, x4, 1⟩)) rfl ⟨⟨x1, x2, x3, x4, 1⟩, false, rfl, HR.out, below_set5 ⟨x1, x2, x3, x4, 1⟩ b2 (Nat.le_refl _)⟩
                  · by_cases hhi : 57 < c.toNat
                    · have d5 : decide ((c.toNat : Int) < 48) = false := decide_eq_false (by omega)
                      have d6 : decide (57 < (c.toNat : Int)) = true := decide_eq_true (by omega)
                      have HR : Hid (read1 s.data.toList = none) := Lib.hid (HB9.out hjl (by
                        have e9 : d.getD j 0 = d[j] := by simp [List.getD_eq_getElem?_getD, hjl]
                        rw [hCD] at e9
                        rw [← e9]
                        unfold digC
                        omega))
                      clear hHD
                      go_wp2
                      refine bodyPost_ret (res_ev2 rfl rfl (s := ⟨x1, x2, x3, x4, 1⟩) (e52.set5 ⟨x1, x2, x3, x4, 1⟩)) rfl ⟨⟨x1, x2, x3, x4, 1⟩, false, rfl, HR.out, below_set5 ⟨x1, x2, x3, x4, 1⟩ b2 (Nat.le_refl _)⟩
                    · have d5 : decide ((c.toNat : Int) < 48) = false := decide_eq_false (by omega)
                      have d6 : decide (57 < (c.toNat : Int)) = false := decide_eq_false (by omega)
                      clear hHD
                      go_wp2
                      go_roundw
                      case rel => exact ⟨j + 1, by rw [show ((N.length + 3 + (j + 1) : Nat) : Int) = (p : Int) + 1 by omega], by omega, by rw [HSN.out, show ((10 * v + (c.toNat - 48) : Nat) : Int) = 10 * (v : Int) + ((c.toNat : Int) - 48) by omega], by rw [HSN.out]; omega, trivial⟩
                      case measure => simp [intOf]; omega
                · have d2 : decide ((v : Int) ≤ 4096) = false := decide_eq_false (by omega)
                  have hex : 4096 < v ∨ d.length ≤ j := .inl (by omega)
                  clear hgd hge hSNc hHD
                  have hne : wA.heap.size ≠ w.heap.size := by have := HE5.out.lt; omega
                  have HNO := Lib.hid (HT9.out hex)
                  clear HT9 HB9 hex
                  have hk3 := sgl_kind _ hx.out
                  simp only at hk3
                  have f6 : Ev5 (wr.setCell ⟨wA.heap.size, 4, none⟩ (.int .i64 (v : Int))) wA.heap.size 0 ⟨x1, x2, x3, x4, (v : Int)⟩ := by constructor <;> simp [go_sem, p0, p1, p2, p3, p4]
                  have e6 : Ev5 (wr.setCell ⟨wA.heap.size, 4, none⟩ (.int .i64 (v : Int))) w.heap.size 0 ev0 := by constructor <;> simp [go_sem, ev0, hne, hne.symm, r0, r1, r2, r3, r4]
                  have z6 : ∀ o, (wr.setCell ⟨wA.heap.size, 4, none⟩ (.int .i64 (v : Int))).frozen? ⟨w.heap.size, o, none⟩ = false := fun o => by simp [go_sem, hf2]
                  have b6 : Below w.heap.size w (wr.setCell ⟨wA.heap.size, 4, none⟩ (.int .i64 (v : Int))) := Below.setCell b2 (show w.heap.size ≤ wA.heap.size by omega) _
                  have e9 : tms ⟨x1, x2, x3, x4, 1⟩ (v : Int) = ⟨x1, x2, x3, x4, (v : Int)⟩ := rfl
                  rw [e9] at HNO
                  clear e9
                  go_wp2_with fail
                  generalize wr.setCell ⟨wA.heap.size, 4, none⟩ (.int .i64 (v : Int)) = W5 at *
                  obtain ⟨m0, m1, m2, m3, m4⟩ := id f6
                  simp only [Nat.zero_add] at m0 m1 m2 m3 m4
                  clear p0 p1 p2 p3 p4 r0 r1 r2 r3 r4
                  have hlt6 := f6.lt
                  by_cases hv1 : v = 1
                  · have v1 : ((v : Int) == 1) = true := by simp; omega
                    have v2 : ((v : Int) != 1) = false := by simp; omega
                    have v3 : (v == 1) = true := by simp; omega
                    have v4 : (v != 1) = false := by simp; omega
                    have HR : Hid (read1 s.data.toList = none) := Lib.hid (HNO.out (fun h => h.1 hv1))
                    clear hv1
                    refine wp_region_held_drew (S := (fun X : World => X.cell? ⟨wA.heap.size, 0, none⟩ = some (.bool x1) ∧ X.cell? ⟨wA.heap.size, 1, none⟩ = some (.int .i64 x2) ∧ X.cell? ⟨wA.heap.size, 2, none⟩ = some (.int .u8 x3) ∧ X.cell? ⟨wA.heap.size, 3, none⟩ = some (.int .i64 x4) ∧ X.cell? ⟨wA.heap.size, 4, none⟩ = some (.int .i64 (v : Int)))) (by kernel_rfl) ?_ (fun hHeld => ?_)
                    · (try dsimp only); refine ⟨?_, ?_, ?_, ?_, ?_⟩ <;> first | assumption | (simp [go_sem]; done) | exact (World.cell?_alloc_lt _ _ ⟨_, _, _⟩ (by first | omega | (simp; omega) | simp)).trans (by assumption)
                    refine wpAnyH_take (i := 0) (v := ?_) rfl (by kernel_rfl) (by kernel_rfl) (by kernel_rfl) (fun _ _ _ h => h) (Or.inl ⟨by rfl, ?_⟩) (by assumption) ?_
                    rotate_left
                    · (intro w hSw; (try dsimp only at hSw); go_simp; first | done | with_reducible rfl)
                    try simp only [Act.put, List.getElem_toArray, List.getElem_cons_zero, List.getElem_cons_succ, List.setIfInBounds_toArray, List.set_cons_zero, List.set_cons_succ]
                    refine wpAnyH_take (i := 1) (v := ?_) rfl (by kernel_rfl) (by kernel_rfl) (by kernel_rfl) (fun _ _ _ h => h) (Or.inl ⟨by rfl, ?_⟩) (by assumption) ?_
                    rotate_left
                    · (intro w hSw; (try dsimp only at hSw); go_simp; first | done | with_reducible rfl)
                    try simp only [Act.put, List.getElem_toArray, List.getElem_cons_zero, List.getElem_cons_succ, List.setIfInBounds_toArray, List.set_cons_zero, List.set_cons_succ]
                    refine wpAnyH_take (i := 2) (v := ?_) rfl (by kernel_rfl) (by kernel_rfl) (by kernel_rfl) (fun _ _ _ h => h) (Or.inl ⟨by rfl, ?_⟩) (by assumption) ?_
                    rotate_left
                    · (intro w hSw; (try dsimp only at hSw); go_simp; first | done | with_reducible rfl)
                    try simp only [Act.put, List.getElem_toArray, List.getElem_cons_zero, List.getElem_cons_succ, List.setIfInBounds_toArray, List.set_cons_zero, List.set_cons_succ]
                    refine wpAnyH_take (i := 3) (v := ?_) rfl (by kernel_rfl) (by kernel_rfl) (by kernel_rfl) (fun _ _ _ h => h) (Or.inl ⟨by rfl, ?_⟩) (by assumption) ?_
                    rotate_left
                    · (intro w hSw; (try dsimp only at hSw); go_simp; first | done | with_reducible rfl)
                    try simp only [Act.put, List.getElem_toArray, List.getElem_cons_zero, List.getElem_cons_succ, List.setIfInBounds_toArray, List.set_cons_zero, List.set_cons_succ]
                    refine wpAnyH_take (i := 4) (v := undef) rfl (by kernel_rfl) (by kernel_rfl) (by kernel_rfl) (fun _ _ _ h => h) (Or.inr ⟨by rfl, rfl⟩) (by assumption) ?_
                    try simp only [Act.put, List.getElem_toArray, List.getElem_cons_zero, List.getElem_cons_succ, List.setIfInBounds_toArray, List.set_cons_zero, List.set_cons_succ]
                    refine wpAnyH_take (i := 5) (v := undef) rfl (by kernel_rfl) (by kernel_rfl) (by kernel_rfl) (fun _ _ _ h => h) (Or.inr ⟨by rfl, rfl⟩) (by assumption) ?_
                    try simp only [Act.put, List.getElem_toArray, List.getElem_cons_zero, List.getElem_cons_succ, List.setIfInBounds_toArray, List.set_cons_zero, List.set_cons_succ]
                    refine wpAnyH_ready (rs := [6]) (by kernel_rfl) (by simp) ?_
                    refine AllReadyH.cons rfl (fun K hK => ?_) AllReadyH.nil
                    try simp only [List.getElem_toArray, List.getElem_cons_zero, List.getElem_cons_succ]
                    go_simp
                    refine hK.out _ _ ?_ (fun hHeld => ?_)
                    · (try dsimp only); refine ⟨?_, ?_, ?_, ?_, ?_⟩ <;> first | assumption | (simp [go_sem]; done) | exact (World.cell?_alloc_lt _ _ ⟨_, _, _⟩ (by first | omega | (simp; omega) | simp)).trans (by assumption)
                    clear hK K
                    try simp only [Act.put, List.getElem_toArray, List.getElem_cons_zero, List.getElem_cons_succ, List.setIfInBounds_toArray, List.set_cons_zero, List.set_cons_succ]
                    refine wpAnyH_take (i := 7) (v := ?_) rfl (by kernel_rfl) (by kernel_rfl) (by kernel_rfl) (fun _ _ _ h => h) (Or.inl ⟨by rfl, ?_⟩) (by assumption) ?_
                    rotate_left
                    · (intro w hSw; (try dsimp only at hSw); go_simp; first | done | with_reducible rfl)
                    try simp only [Act.put, List.getElem_toArray, List.getElem_cons_zero, List.getElem_cons_succ, List.setIfInBounds_toArray, List.set_cons_zero, List.set_cons_succ]
                    refine wpAnyH_take (i := 8) (v := undef) rfl (by kernel_rfl) (by kernel_rfl) (by kernel_rfl) (fun _ _ _ h => h) (Or.inr ⟨by rfl, rfl⟩) (by assumption) ?_
                    try simp only [Act.put, List.getElem_toArray, List.getElem_cons_zero, List.getElem_cons_succ, List.setIfInBounds_toArray, List.set_cons_zero, List.set_cons_succ]
                    refine wpAnyH_take (i := 10) (v := undef) rfl (by kernel_rfl) (by kernel_rfl) (by kernel_rfl) (fun _ _ _ h => h) (Or.inr ⟨by rfl, rfl⟩) (by assumption) ?_
                    try simp only [Act.put, List.getElem_toArray, List.getElem_cons_zero, List.getElem_cons_succ, List.setIfInBounds_toArray, List.set_cons_zero, List.set_cons_succ]
                    refine wpAnyH_take (i := 9) (v := undef) rfl (by kernel_rfl) (by kernel_rfl) (by kernel_rfl) (fun _ _ _ h => h) (Or.inr ⟨by rfl, rfl⟩) (by assumption) ?_
                    try simp only [Act.put, List.getElem_toArray, List.getElem_cons_zero, List.getElem_cons_succ, List.setIfInBounds_toArray, List.set_cons_zero, List.set_cons_succ]
                    refine wpAnyH_take (i := 11) (v := undef) rfl (by kernel_rfl) (by kernel_rfl) (by kernel_rfl) (fun _ _ _ h => h) (Or.inr ⟨by rfl, rfl⟩) (by assumption) ?_
                    try simp only [Act.put, List.getElem_toArray, List.getElem_cons_zero, List.getElem_cons_succ, List.setIfInBounds_toArray, List.set_cons_zero, List.set_cons_succ]
                    refine wpAnyH_take (i := 12) (v := ?_) rfl (by kernel_rfl) (by kernel_rfl) (by kernel_rfl) (fun _ _ _ h => h) (Or.inl ⟨by rfl, ?_⟩) (by assumption) ?_
                    rotate_left
                    · (intro w hSw; (try dsimp only at hSw); go_simp; first | done | with_reducible rfl)
                    try simp only [Act.put, List.getElem_toArray, List.getElem_cons_zero, List.getElem_cons_succ, List.setIfInBounds_toArray, List.set_cons_zero, List.set_cons_succ]
                    obtain ⟨t0, t1, t2, t3, t4⟩ := id e6
                    simp only [Nat.zero_add, ev0] at t0 t1 t2 t3 t4
                    have s0 := z6 0
                    have s1 := z6 1
                    have s2 := z6 2
                    have s3 := z6 3
                    have s4 := z6 4
                    refine wpAnyH_ready (rs := [13]) (by kernel_rfl) (by simp) ?_
                    refine AllReadyH.cons rfl (fun K hK => ?_) AllReadyH.nil
                    try simp only [List.getElem_toArray, List.getElem_cons_zero, List.getElem_cons_succ]
                    go_simp
                    refine hK.out _ _ ?_ (fun hHeld => ?_)
                    · (try dsimp only); refine ⟨?_, ?_, ?_, ?_, ?_⟩ <;> (simp [go_sem, hne, hne.symm]; assumption)
                    clear hK K
                    try simp only [Act.put, List.getElem_toArray, List.getElem_cons_zero, List.getElem_cons_succ, List.setIfInBounds_toArray, List.set_cons_zero, List.set_cons_succ]
                    refine wpAnyH_take (i := 14) (v := ?_) rfl (by kernel_rfl) (by kernel_rfl) (by kernel_rfl) (fun _ _ _ h => h) (Or.inl ⟨by rfl, ?_⟩) (by assumption) ?_
                    rotate_left
                    · (intro w hSw; (try dsimp only at hSw); go_simp; first | done | with_reducible rfl)
                    try simp only [Act.put, List.getElem_toArray, List.getElem_cons_zero, List.getElem_cons_succ, List.setIfInBounds_toArray, List.set_cons_zero, List.set_cons_succ]
                    refine wpAnyH_done (by kernel_rfl) ?_ _
                    go_wp2
                    refine bodyPost_ret (res_ev2 rfl rfl (s := ⟨x1, x2, x3, x4, (v : Int)⟩) (ev5_drew (Ev5.set5 ⟨x1, x2, x3, x4, (v : Int)⟩ e6))) rfl ⟨⟨x1, x2, x3, x4, (v : Int)⟩, false, rfl, HR.out, Below.drew (below_set5 ⟨x1, x2, x3, x4, (v : Int)⟩ (b6) (Nat.le_refl _))⟩
                  · have v1 : ((v : Int) == 1) = false := by simp; omega
                    have v2 : ((v : Int) != 1) = true := by simp; omega
                    have v3 : (v == 1) = false := by simp; omega
                    have v4 : (v != 1) = true := by simp; omega
                    rcases hok : okE ⟨x1, x2, x3, x4, (v : Int)⟩ with _ | _
                    · have HRT := Lib.hid fun (w : World) => right_agg (w := w) x1 x2 x3 x4 (v : Int) hk3 false hok
                      have HR : Hid (read1 s.data.toList = none) := Lib.hid (HNO.out (fun h => by rw [hok] at h; exact absurd h.2.1 (by simp)))
                      refine wp_region_held_drew (S := (fun X : World => X.cell? ⟨wA.heap.size, 0, none⟩ = some (.bool x1) ∧ X.cell? ⟨wA.heap.size, 1, none⟩ = some (.int .i64 x2) ∧ X.cell? ⟨wA.heap.size, 2, none⟩ = some (.int .u8 x3) ∧ X.cell? ⟨wA.heap.size, 3, none⟩ = some (.int .i64 x4) ∧ X.cell? ⟨wA.heap.size, 4, none⟩ = some (.int .i64 (v : Int)))) (by kernel_rfl) ?_ (fun hHeld => ?_)
                      · (try dsimp only); refine ⟨?_, ?_, ?_, ?_, ?_⟩ <;> first | assumption | (simp [go_sem]; done) | exact (World.cell?_alloc_lt _ _ ⟨_, _, _⟩ (by first | omega | (simp; omega) | simp)).trans (by assumption)
                      refine wpAnyH_take (i := 0) (v := ?_) rfl (by kernel_rfl) (by kernel_rfl) (by kernel_rfl) (fun _ _ _ h => h) (Or.inl ⟨by rfl, ?_⟩) (by assumption) ?_
                      rotate_left
                      · (intro w hSw; (try dsimp only at hSw); go_simp; first | done | with_reducible rfl)
                      try simp only [Act.put, List.getElem_toArray, List.getElem_cons_zero, List.getElem_cons_succ, List.setIfInBounds_toArray, List.set_cons_zero, List.set_cons_succ]
                      refine wpAnyH_take (i := 1) (v := ?_) rfl (by kernel_rfl) (by kernel_rfl) (by kernel_rfl) (fun _ _ _ h => h) (Or.inl ⟨by rfl, ?_⟩) (by assumption) ?_
                      rotate_left
                      · (intro w hSw; (try dsimp only at hSw); go_simp; first | done | with_reducible rfl)
                      try simp only [Act.put, List.getElem_toArray, List.getElem_cons_zero, List.getElem_cons_succ, List.setIfInBounds_toArray, List.set_cons_zero, List.set_cons_succ]
                      refine wpAnyH_take (i := 2) (v := ?_) rfl (by kernel_rfl) (by kernel_rfl) (by kernel_rfl) (fun _ _ _ h => h) (Or.inl ⟨by rfl, ?_⟩) (by assumption) ?_
                      rotate_left
                      · (intro w hSw; (try dsimp only at hSw); go_simp; first | done | with_reducible rfl)
                      try simp only [Act.put, List.getElem_toArray, List.getElem_cons_zero, List.getElem_cons_succ, List.setIfInBounds_toArray, List.set_cons_zero, List.set_cons_succ]
                      refine wpAnyH_take (i := 3) (v := ?_) rfl (by kernel_rfl) (by kernel_rfl) (by kernel_rfl) (fun _ _ _ h => h) (Or.inl ⟨by rfl, ?_⟩) (by assumption) ?_
                      rotate_left
                      · (intro w hSw; (try dsimp only at hSw); go_simp; first | done | with_reducible rfl)
                      try simp only [Act.put, List.getElem_toArray, List.getElem_cons_zero, List.getElem_cons_succ, List.setIfInBounds_toArray, List.set_cons_zero, List.set_cons_succ]
                      refine wpAnyH_take (i := 4) (v := ?_) rfl (by kernel_rfl) (by kernel_rfl) (by kernel_rfl) (fun _ _ _ h => h) (Or.inl ⟨by rfl, ?_⟩) (by assumption) ?_
                      rotate_left
                      · (intro w hSw; (try dsimp only at hSw); go_simp; first | done | with_reducible rfl)
                      try simp only [Act.put, List.getElem_toArray, List.getElem_cons_zero, List.getElem_cons_succ, List.setIfInBounds_toArray, List.set_cons_zero, List.set_cons_succ]
                      refine wpAnyH_ready (rs := [5]) (by kernel_rfl) (by simp) ?_
                      refine AllReadyH.cons rfl (fun K hK => ?_) AllReadyH.nil
                      try simp only [List.getElem_toArray, List.getElem_cons_zero, List.getElem_cons_succ]
                      go_simp
                      go_at_call 35
                      refine (HRT.out _).mono ?_
                      rintro e w3 ⟨rfl, hb_w3⟩
                      have hs_w3 : W5.heap.size ≤ w3.heap.size := (by have := hb_w3.size; (try simp only [World.size_drew, World.heap_drewN, World.size_alloc] at this); omega)
                      have hb53 : Below W5.heap.size W5 w3 := below_trans (Below.drew (Below.refl W5.heap.size W5)) hb_w3 (Nat.le_refl _)
                      have e63 := e6.later hb53
                      have z63 := fz_later z6 hb53 e6.lt
                      have mw30 : w3.cell? ⟨wA.heap.size, 0, none⟩ = some (.bool x1) := (hb_w3.cell (p := ⟨wA.heap.size, 0, none⟩) (by first | omega | (simp; omega) | simp)).trans (by first | assumption | (simp [go_sem]; done) | exact (World.cell?_alloc_lt _ _ ⟨_, _, _⟩ (by first | omega | (simp; omega) | simp)).trans (by assumption))
                      have mw31 : w3.cell? ⟨wA.heap.size, 1, none⟩ = some (.int .i64 x2) := (hb_w3.cell (p := ⟨wA.heap.size, 1, none⟩) (by first | omega | (simp; omega) | simp)).trans (by first | assumption | (simp [go_sem]; done) | exact (World.cell?_alloc_lt _ _ ⟨_, _, _⟩ (by first | omega | (simp; omega) | simp)).trans (by assumption))
                      have mw32 : w3.cell? ⟨wA.heap.size, 2, none⟩ = some (.int .u8 x3) := (hb_w3.cell (p := ⟨wA.heap.size, 2, none⟩) (by first | omega | (simp; omega) | simp)).trans (by first | assumption | (simp [go_sem]; done) | exact (World.cell?_alloc_lt _ _ ⟨_, _, _⟩ (by first | omega | (simp; omega) | simp)).trans (by assumption))
                      have mw33 : w3.cell? ⟨wA.heap.size, 3, none⟩ = some (.int .i64 x4) := (hb_w3.cell (p := ⟨wA.heap.size, 3, none⟩) (by first | omega | (simp; omega) | simp)).trans (by first | assumption | (simp [go_sem]; done) | exact (World.cell?_alloc_lt _ _ ⟨_, _, _⟩ (by first | omega | (simp; omega) | simp)).trans (by assumption))
                      have mw34 : w3.cell? ⟨wA.heap.size, 4, none⟩ = some (.int .i64 (v : Int)) := (hb_w3.cell (p := ⟨wA.heap.size, 4, none⟩) (by first | omega | (simp; omega) | simp)).trans (by first | assumption | (simp [go_sem]; done) | exact (World.cell?_alloc_lt _ _ ⟨_, _, _⟩ (by first | omega | (simp; omega) | simp)).trans (by assumption))
                      try go_wp2_with fail
                      refine hK.out _ _ ?_ (fun hHeld => ?_)
                      · (try dsimp only); refine ⟨?_, ?_, ?_, ?_, ?_⟩ <;> first | assumption | (simp [go_sem]; done) | exact (World.cell?_alloc_lt _ _ ⟨_, _, _⟩ (by first | omega | (simp; omega) | simp)).trans (by assumption)
                      clear hK K
                      try simp only [Act.put, List.getElem_toArray, List.getElem_cons_zero, List.getElem_cons_succ, List.setIfInBounds_toArray, List.set_cons_zero, List.set_cons_succ]
                      refine wpAnyH_ready (rs := [6]) (by kernel_rfl) (by simp) ?_
                      refine AllReadyH.cons rfl (fun K hK => ?_) AllReadyH.nil
                      try simp only [List.getElem_toArray, List.getElem_cons_zero, List.getElem_cons_succ]
                      go_simp
                      refine hK.out _ _ ?_ (fun hHeld => ?_)
                      · (try dsimp only); refine ⟨?_, ?_, ?_, ?_, ?_⟩ <;> first | assumption | (simp [go_sem]; done) | exact (World.cell?_alloc_lt _ _ ⟨_, _, _⟩ (by first | omega | (simp; omega) | simp)).trans (by assumption)
                      clear hK K
                      try simp only [Act.put, List.getElem_toArray, List.getElem_cons_zero, List.getElem_cons_succ, List.setIfInBounds_toArray, List.set_cons_zero, List.set_cons_succ]
                      refine wpAnyH_take (i := 7) (v := ?_) rfl (by kernel_rfl) (by kernel_rfl) (by kernel_rfl) (fun _ _ _ h => h) (Or.inl ⟨by rfl, ?_⟩) (by assumption) ?_
                      rotate_left
                      · (intro w hSw; (try dsimp only at hSw); go_simp; first | done | with_reducible rfl)
                      try simp only [Act.put, List.getElem_toArray, List.getElem_cons_zero, List.getElem_cons_succ, List.setIfInBounds_toArray, List.set_cons_zero, List.set_cons_succ]
                      refine wpAnyH_take (i := 8) (v := undef) rfl (by kernel_rfl) (by kernel_rfl) (by kernel_rfl) (fun _ _ _ h => h) (Or.inr ⟨by rfl, rfl⟩) (by assumption) ?_
                      try simp only [Act.put, List.getElem_toArray, List.getElem_cons_zero, List.getElem_cons_succ, List.setIfInBounds_toArray, List.set_cons_zero, List.set_cons_succ]
                      refine wpAnyH_take (i := 10) (v := undef) rfl (by kernel_rfl) (by kernel_rfl) (by kernel_rfl) (fun _ _ _ h => h) (Or.inr ⟨by rfl, rfl⟩) (by assumption) ?_
                      try simp only [Act.put, List.getElem_toArray, List.getElem_cons_zero, List.getElem_cons_succ, List.setIfInBounds_toArray, List.set_cons_zero, List.set_cons_succ]
                      refine wpAnyH_take (i := 9) (v := undef) rfl (by kernel_rfl) (by kernel_rfl) (by kernel_rfl) (fun _ _ _ h => h) (Or.inr ⟨by rfl, rfl⟩) (by assumption) ?_
                      try simp only [Act.put, List.getElem_toArray, List.getElem_cons_zero, List.getElem_cons_succ, List.setIfInBounds_toArray, List.set_cons_zero, List.set_cons_succ]
                      refine wpAnyH_take (i := 11) (v := undef) rfl (by kernel_rfl) (by kernel_rfl) (by kernel_rfl) (fun _ _ _ h => h) (Or.inr ⟨by rfl, rfl⟩) (by assumption) ?_
                      try simp only [Act.put, List.getElem_toArray, List.getElem_cons_zero, List.getElem_cons_succ, List.setIfInBounds_toArray, List.set_cons_zero, List.set_cons_succ]
                      refine wpAnyH_take (i := 12) (v := ?_) rfl (by kernel_rfl) (by kernel_rfl) (by kernel_rfl) (fun _ _ _ h => h) (Or.inl ⟨by rfl, ?_⟩) (by assumption) ?_
                      rotate_left
                      · (intro w hSw; (try dsimp only at hSw); go_simp; first | done | with_reducible rfl)
                      try simp only [Act.put, List.getElem_toArray, List.getElem_cons_zero, List.getElem_cons_succ, List.setIfInBounds_toArray, List.set_cons_zero, List.set_cons_succ]
                      obtain ⟨t0, t1, t2, t3, t4⟩ := id e63
                      simp only [Nat.zero_add, ev0] at t0 t1 t2 t3 t4
                      have s0 := z63 0
                      have s1 := z63 1
                      have s2 := z63 2
                      have s3 := z63 3
                      have s4 := z63 4
                      refine wpAnyH_ready (rs := [13]) (by kernel_rfl) (by simp) ?_
                      refine AllReadyH.cons rfl (fun K hK => ?_) AllReadyH.nil
                      try simp only [List.getElem_toArray, List.getElem_cons_zero, List.getElem_cons_succ]
                      go_simp
                      refine hK.out _ _ ?_ (fun hHeld => ?_)
                      · (try dsimp only); refine ⟨?_, ?_, ?_, ?_, ?_⟩ <;> (simp [go_sem, hne, hne.symm]; assumption)
                      clear hK K
                      try simp only [Act.put, List.getElem_toArray, List.getElem_cons_zero, List.getElem_cons_succ, List.setIfInBounds_toArray, List.set_cons_zero, List.set_cons_succ]
                      refine wpAnyH_take (i := 14) (v := ?_) rfl (by kernel_rfl) (by kernel_rfl) (by kernel_rfl) (fun _ _ _ h => h) (Or.inl ⟨by rfl, ?_⟩) (by assumption) ?_
                      rotate_left
                      · (intro w hSw; (try dsimp only at hSw); go_simp; first | done | with_reducible rfl)
                      try simp only [Act.put, List.getElem_toArray, List.getElem_cons_zero, List.getElem_cons_succ, List.setIfInBounds_toArray, List.set_cons_zero, List.set_cons_succ]
                      refine wpAnyH_done (by kernel_rfl) ?_ _
                      go_wp2
                      refine bodyPost_ret (res_ev2 rfl rfl (s := ⟨x1, x2, x3, x4, (v : Int)⟩) ((Ev5.set5 ⟨x1, x2, x3, x4, (v : Int)⟩ e63))) rfl ⟨⟨x1, x2, x3, x4, (v : Int)⟩, false, rfl, HR.out, (below_set5 ⟨x1, x2, x3, x4, (v : Int)⟩ (below_trans b6 hb53 (by omega)) (Nat.le_refl _))⟩
                    · have HRT := Lib.hid fun (w : World) => right_agg (w := w) x1 x2 x3 x4 (v : Int) hk3 true hok
                      have HLX := Lib.hid fun (w : World) => xline_agg (w := w) x1 x2 x3 x4 (v : Int) hok
                      by_cases hls : lineE ⟨x1, x2, x3, x4, (v : Int)⟩ = s.data.toList
                      · have HR : Hid (read1 s.data.toList = some ⟨x1, x2, x3, x4, (v : Int)⟩) := Lib.hid (read1_some hok hls.symm)
                        have he9 : ((bs (lineE ⟨x1, x2, x3, x4, (v : Int)⟩)).toList == s.toList) = true := by rw [ByteArray.toList_eq, ByteArray.toList_eq, bs_data, beq_iff_eq]; exact hls
                        clear hls
                        generalize lineE ⟨x1, x2, x3, x4, (v : Int)⟩ = LX at *
                        refine wp_region_held_drew (S := (fun X : World => X.cell? ⟨wA.heap.size, 0, none⟩ = some (.bool x1) ∧ X.cell? ⟨wA.heap.size, 1, none⟩ = some (.int .i64 x2) ∧ X.cell? ⟨wA.heap.size, 2, none⟩ = some (.int .u8 x3) ∧ X.cell? ⟨wA.heap.size, 3, none⟩ = some (.int .i64 x4) ∧ X.cell? ⟨wA.heap.size, 4, none⟩ = some (.int .i64 (v : Int)))) (by kernel_rfl) ?_ (fun hHeld => ?_)
                        · (try dsimp only); refine ⟨?_, ?_, ?_, ?_, ?_⟩ <;> first | assumption | (simp [go_sem]; done) | exact (World.cell?_alloc_lt _ _ ⟨_, _, _⟩ (by first | omega | (simp; omega) | simp)).trans (by assumption)
                        refine wpAnyH_take (i := 0) (v := ?_) rfl (by kernel_rfl) (by kernel_rfl) (by kernel_rfl) (fun _ _ _ h => h) (Or.inl ⟨by rfl, ?_⟩) (by assumption) ?_
                        rotate_left
                        · (intro w hSw; (try dsimp only at hSw); go_simp; first | done | with_reducible rfl)
                        try simp only [Act.put, List.getElem_toArray, List.getElem_cons_zero, List.getElem_cons_succ, List.setIfInBounds_toArray, List.set_cons_zero, List.set_cons_succ]
                        refine wpAnyH_take (i := 1) (v := ?_) rfl (by kernel_rfl) (by kernel_rfl) (by kernel_rfl) (fun _ _ _ h => h) (Or.inl ⟨by rfl, ?_⟩) (by assumption) ?_
                        rotate_left
                        · (intro w hSw; (try dsimp only at hSw); go_simp; first | done | with_reducible rfl)
                        try simp only [Act.put, List.getElem_toArray, List.getElem_cons_zero, List.getElem_cons_succ, List.setIfInBounds_toArray, List.set_cons_zero, List.set_cons_succ]
                        refine wpAnyH_take (i := 2) (v := ?_) rfl (by kernel_rfl) (by kernel_rfl) (by kernel_rfl) (fun _ _ _ h => h) (Or.inl ⟨by rfl, ?_⟩) (by assumption) ?_
                        rotate_left
                        · (intro w hSw; (try dsimp only at hSw); go_simp; first | done | with_reducible rfl)
                        try simp only [Act.put, List.getElem_toArray, List.getElem_cons_zero, List.getElem_cons_succ, List.setIfInBounds_toArray, List.set_cons_zero, List.set_cons_succ]
                        refine wpAnyH_take (i := 3) (v := ?_) rfl (by kernel_rfl) (by kernel_rfl) (by kernel_rfl) (fun _ _ _ h => h) (Or.inl ⟨by rfl, ?_⟩) (by assumption) ?_
                        rotate_left
                        · (intro w hSw; (try dsimp only at hSw); go_simp; first | done | with_reducible rfl)
                        try simp only [Act.put, List.getElem_toArray, List.getElem_cons_zero, List.getElem_cons_succ, List.setIfInBounds_toArray, List.set_cons_zero, List.set_cons_succ]
                        refine wpAnyH_take (i := 4) (v := ?_) rfl (by kernel_rfl) (by kernel_rfl) (by kernel_rfl) (fun _ _ _ h => h) (Or.inl ⟨by rfl, ?_⟩) (by assumption) ?_
                        rotate_left
                        · (intro w hSw; (try dsimp only at hSw); go_simp; first | done | with_reducible rfl)
                        try simp only [Act.put, List.getElem_toArray, List.getElem_cons_zero, List.getElem_cons_succ, List.setIfInBounds_toArray, List.set_cons_zero, List.set_cons_succ]
                        refine wpAnyH_ready (rs := [5]) (by kernel_rfl) (by simp) ?_
                        refine AllReadyH.cons rfl (fun K hK => ?_) AllReadyH.nil
                        try simp only [List.getElem_toArray, List.getElem_cons_zero, List.getElem_cons_succ]
                        go_simp
                        go_at_call 35
                        refine (HRT.out _).mono ?_
                        rintro e w3 ⟨rfl, hb_w3⟩
                        have hs_w3 : W5.heap.size ≤ w3.heap.size := (by have := hb_w3.size; (try simp only [World.size_drew, World.heap_drewN, World.size_alloc] at this); omega)
                        have hb53 : Below W5.heap.size W5 w3 := below_trans (Below.drew (Below.refl W5.heap.size W5)) hb_w3 (Nat.le_refl _)
                        have e63 := e6.later hb53
                        have z63 := fz_later z6 hb53 e6.lt
                        have mw30 : w3.cell? ⟨wA.heap.size, 0, none⟩ = some (.bool x1) := (hb_w3.cell (p := ⟨wA.heap.size, 0, none⟩) (by first | omega | (simp; omega) | simp)).trans (by first | assumption | (simp [go_sem]; done) | exact (World.cell?_alloc_lt _ _ ⟨_, _, _⟩ (by first | omega | (simp; omega) | simp)).trans (by assumption))
                        have mw31 : w3.cell? ⟨wA.heap.size, 1, none⟩ = some (.int .i64 x2) := (hb_w3.cell (p := ⟨wA.heap.size, 1, none⟩) (by first | omega | (simp; omega) | simp)).trans (by first | assumption | (simp [go_sem]; done) | exact (World.cell?_alloc_lt _ _ ⟨_, _, _⟩ (by first | omega | (simp; omega) | simp)).trans (by assumption))
                        have mw32 : w3.cell? ⟨wA.heap.size, 2, none⟩ = some (.int .u8 x3) := (hb_w3.cell (p := ⟨wA.heap.size, 2, none⟩) (by first | omega | (simp; omega) | simp)).trans (by first | assumption | (simp [go_sem]; done) | exact (World.cell?_alloc_lt _ _ ⟨_, _, _⟩ (by first | omega | (simp; omega) | simp)).trans (by assumption))
                        have mw33 : w3.cell? ⟨wA.heap.size, 3, none⟩ = some (.int .i64 x4) := (hb_w3.cell (p := ⟨wA.heap.size, 3, none⟩) (by first | omega | (simp; omega) | simp)).trans (by first | assumption | (simp [go_sem]; done) | exact (World.cell?_alloc_lt _ _ ⟨_, _, _⟩ (by first | omega | (simp; omega) | simp)).trans (by assumption))
                        have mw34 : w3.cell? ⟨wA.heap.size, 4, none⟩ = some (.int .i64 (v : Int)) := (hb_w3.cell (p := ⟨wA.heap.size, 4, none⟩) (by first | omega | (simp; omega) | simp)).trans (by first | assumption | (simp [go_sem]; done) | exact (World.cell?_alloc_lt _ _ ⟨_, _, _⟩ (by first | omega | (simp; omega) | simp)).trans (by assumption))
                        try go_wp2_with fail
                        refine hK.out _ _ ?_ (fun hHeld => ?_)
                        · (try dsimp only); refine ⟨?_, ?_, ?_, ?_, ?_⟩ <;> first | assumption | (simp [go_sem]; done) | exact (World.cell?_alloc_lt _ _ ⟨_, _, _⟩ (by first | omega | (simp; omega) | simp)).trans (by assumption)
                        clear hK K
                        try simp only [Act.put, List.getElem_toArray, List.getElem_cons_zero, List.getElem_cons_succ, List.setIfInBounds_toArray, List.set_cons_zero, List.set_cons_succ]
                        refine wpAnyH_ready (rs := [6]) (by kernel_rfl) (by simp) ?_
                        refine AllReadyH.cons rfl (fun K hK => ?_) AllReadyH.nil
                        try simp only [List.getElem_toArray, List.getElem_cons_zero, List.getElem_cons_succ]
                        go_simp
                        refine hK.out _ _ ?_ (fun hHeld => ?_)
                        · (try dsimp only); refine ⟨?_, ?_, ?_, ?_, ?_⟩ <;> first | assumption | (simp [go_sem]; done) | exact (World.cell?_alloc_lt _ _ ⟨_, _, _⟩ (by first | omega | (simp; omega) | simp)).trans (by assumption)
                        clear hK K
                        try simp only [Act.put, List.getElem_toArray, List.getElem_cons_zero, List.getElem_cons_succ, List.setIfInBounds_toArray, List.set_cons_zero, List.set_cons_succ]
                        refine wpAnyH_take (i := 7) (v := ?_) rfl (by kernel_rfl) (by kernel_rfl) (by kernel_rfl) (fun _ _ _ h => h) (Or.inl ⟨by rfl, ?_⟩) (by assumption) ?_
                        rotate_left
                        · (intro w hSw; (try dsimp only at hSw); go_simp; first | done | with_reducible rfl)
                        try simp only [Act.put, List.getElem_toArray, List.getElem_cons_zero, List.getElem_cons_succ, List.setIfInBounds_toArray, List.set_cons_zero, List.set_cons_succ]
                        refine wpAnyH_take (i := 8) (v := ?_) rfl (by kernel_rfl) (by kernel_rfl) (by kernel_rfl) (fun _ _ _ h => h) (Or.inl ⟨by rfl, ?_⟩) (by assumption) ?_
                        rotate_left
                        · (intro w hSw; (try dsimp only at hSw); go_simp; first | done | with_reducible rfl)
                        try simp only [Act.put, List.getElem_toArray, List.getElem_cons_zero, List.getElem_cons_succ, List.setIfInBounds_toArray, List.set_cons_zero, List.set_cons_succ]
                        refine wpAnyH_take (i := 10) (v := ?_) rfl (by kernel_rfl) (by kernel_rfl) (by kernel_rfl) (fun _ _ _ h => h) (Or.inl ⟨by rfl, ?_⟩) (by assumption) ?_
                        rotate_left
                        · (intro w hSw; (try dsimp only at hSw); go_simp; first | done | with_reducible rfl)
                        try simp only [Act.put, List.getElem_toArray, List.getElem_cons_zero, List.getElem_cons_succ, List.setIfInBounds_toArray, List.set_cons_zero, List.set_cons_succ]
                        refine wpAnyH_ready (rs := [9]) (by kernel_rfl) (by simp) ?_
                        refine AllReadyH.cons rfl (fun K hK => ?_) AllReadyH.nil
                        try simp only [List.getElem_toArray, List.getElem_cons_zero, List.getElem_cons_succ]
                        go_simp
                        go_at_call 29
                        refine (HLX.out _).mono ?_
                        rintro e w4 ⟨rfl, hb_w4⟩
                        have hs_w4 : w3.heap.size ≤ w4.heap.size := (by have := hb_w4.size; (try simp only [World.size_drew, World.heap_drewN, World.size_alloc] at this); omega)
                        have hb34 : Below w3.heap.size w3 w4 := hb_w4
                        have e64 := e63.later hb34
                        have z64 := fz_later z63 hb34 e63.lt
                        have mw40 : w4.cell? ⟨wA.heap.size, 0, none⟩ = some (.bool x1) := (hb_w4.cell (p := ⟨wA.heap.size, 0, none⟩) (by first | omega | (simp; omega) | simp)).trans (by first | assumption | (simp [go_sem]; done) | exact (World.cell?_alloc_lt _ _ ⟨_, _, _⟩ (by first | omega | (simp; omega) | simp)).trans (by assumption))
                        have mw41 : w4.cell? ⟨wA.heap.size, 1, none⟩ = some (.int .i64 x2) := (hb_w4.cell (p := ⟨wA.heap.size, 1, none⟩) (by first | omega | (simp; omega) | simp)).trans (by first | assumption | (simp [go_sem]; done) | exact (World.cell?_alloc_lt _ _ ⟨_, _, _⟩ (by first | omega | (simp; omega) | simp)).trans (by assumption))
                        have mw42 : w4.cell? ⟨wA.heap.size, 2, none⟩ = some (.int .u8 x3) := (hb_w4.cell (p := ⟨wA.heap.size, 2, none⟩) (by first | omega | (simp; omega) | simp)).trans (by first | assumption | (simp [go_sem]; done) | exact (World.cell?_alloc_lt _ _ ⟨_, _, _⟩ (by first | omega | (simp; omega) | simp)).trans (by assumption))
                        have mw43 : w4.cell? ⟨wA.heap.size, 3, none⟩ = some (.int .i64 x4) := (hb_w4.cell (p := ⟨wA.heap.size, 3, none⟩) (by first | omega | (simp; omega) | simp)).trans (by first | assumption | (simp [go_sem]; done) | exact (World.cell?_alloc_lt _ _ ⟨_, _, _⟩ (by first | omega | (simp; omega) | simp)).trans (by assumption))
                        have mw44 : w4.cell? ⟨wA.heap.size, 4, none⟩ = some (.int .i64 (v : Int)) := (hb_w4.cell (p := ⟨wA.heap.size, 4, none⟩) (by first | omega | (simp; omega) | simp)).trans (by first | assumption | (simp [go_sem]; done) | exact (World.cell?_alloc_lt _ _ ⟨_, _, _⟩ (by first | omega | (simp; omega) | simp)).trans (by assumption))
                        try go_wp2_with fail
                        refine hK.out _ _ ?_ (fun hHeld => ?_)
                        · (try dsimp only); refine ⟨?_, ?_, ?_, ?_, ?_⟩ <;> first | assumption | (simp [go_sem]; done) | exact (World.cell?_alloc_lt _ _ ⟨_, _, _⟩ (by first | omega | (simp; omega) | simp)).trans (by assumption)
                        clear hK K
                        try simp only [Act.put, List.getElem_toArray, List.getElem_cons_zero, List.getElem_cons_succ, List.setIfInBounds_toArray, List.set_cons_zero, List.set_cons_succ]
                        refine wpAnyH_take (i := 11) (v := ?_) rfl (by kernel_rfl) (by kernel_rfl) (by kernel_rfl) (fun _ _ _ h => h) (Or.inl ⟨by rfl, ?_⟩) (by assumption) ?_
                        rotate_left
                        · (intro w hSw; (try dsimp only at hSw); go_simp; first | done | with_reducible rfl)
                        try simp only [Act.put, List.getElem_toArray, List.getElem_cons_zero, List.getElem_cons_succ, List.setIfInBounds_toArray, List.set_cons_zero, List.set_cons_succ]
                        refine wpAnyH_take (i := 12) (v := ?_) rfl (by kernel_rfl) (by kernel_rfl) (by kernel_rfl) (fun _ _ _ h => h) (Or.inl ⟨by rfl, ?_⟩) (by assumption) ?_
                        rotate_left
                        · (intro w hSw; (try dsimp only at hSw); go_simp; first | done | with_reducible rfl)
                        try simp only [Act.put, List.getElem_toArray, List.getElem_cons_zero, List.getElem_cons_succ, List.setIfInBounds_toArray, List.set_cons_zero, List.set_cons_succ]
                        obtain ⟨t0, t1, t2, t3, t4⟩ := id e64
                        simp only [Nat.zero_add, ev0] at t0 t1 t2 t3 t4
                        have s0 := z64 0
                        have s1 := z64 1
                        have s2 := z64 2
                        have s3 := z64 3
                        have s4 := z64 4
                        refine wpAnyH_ready (rs := [13]) (by kernel_rfl) (by simp) ?_
                        refine AllReadyH.cons rfl (fun K hK => ?_) AllReadyH.nil
                        try simp only [List.getElem_toArray, List.getElem_cons_zero, List.getElem_cons_succ]
                        go_simp
                        refine hK.out _ _ ?_ (fun hHeld => ?_)
                        · (try dsimp only); refine ⟨?_, ?_, ?_, ?_, ?_⟩ <;> (simp [go_sem, hne, hne.symm]; assumption)
                        clear hK K
                        try simp only [Act.put, List.getElem_toArray, List.getElem_cons_zero, List.getElem_cons_succ, List.setIfInBounds_toArray, List.set_cons_zero, List.set_cons_succ]
                        refine wpAnyH_take (i := 14) (v := ?_) rfl (by kernel_rfl) (by kernel_rfl) (by kernel_rfl) (fun _ _ _ h => h) (Or.inl ⟨by rfl, ?_⟩) (by assumption) ?_
                        rotate_left
                        · (intro w hSw; (try dsimp only at hSw); go_simp; first | done | with_reducible rfl)
                        try simp only [Act.put, List.getElem_toArray, List.getElem_cons_zero, List.getElem_cons_succ, List.setIfInBounds_toArray, List.set_cons_zero, List.set_cons_succ]
                        refine wpAnyH_done (by kernel_rfl) ?_ _
                        go_wp2
                        refine bodyPost_ret (res_ev2 rfl rfl (s := ⟨x1, x2, x3, x4, (v : Int)⟩) ((Ev5.set5 ⟨x1, x2, x3, x4, (v : Int)⟩ e64))) rfl ⟨⟨x1, x2, x3, x4, (v : Int)⟩, true, rfl, HR.out, (below_set5 ⟨x1, x2, x3, x4, (v : Int)⟩ (below_trans b6 (below_trans hb53 hb34 (by omega)) (by omega)) (Nat.le_refl _))⟩
                      · have HR : Hid (read1 s.data.toList = none) := Lib.hid (HNO.out (fun h => hls h.2.2))
                        have he9 : ((bs (lineE ⟨x1, x2, x3, x4, (v : Int)⟩)).toList == s.toList) = false := by rw [ByteArray.toList_eq, ByteArray.toList_eq, bs_data, beq_eq_false_iff_ne]; exact hls
                        clear hls HNO
                        generalize lineE ⟨x1, x2, x3, x4, (v : Int)⟩ = LX at *
                        refine wp_region_held_drew (S := (fun X : World => X.cell? ⟨wA.heap.size, 0, none⟩ = some (.bool x1) ∧ X.cell? ⟨wA.heap.size, 1, none⟩ = some (.int .i64 x2) ∧ X.cell? ⟨wA.heap.size, 2, none⟩ = some (.int .u8 x3) ∧ X.cell? ⟨wA.heap.size, 3, none⟩ = some (.int .i64 x4) ∧ X.cell? ⟨wA.heap.size, 4, none⟩ = some (.int .i64 (v : Int)))) (by kernel_rfl) ?_ (fun hHeld => ?_)
                        · (try dsimp only); refine ⟨?_, ?_, ?_, ?_, ?_⟩ <;> first | assumption | (simp [go_sem]; done) | exact (World.cell?_alloc_lt _ _ ⟨_, _, _⟩ (by first | omega | (simp; omega) | simp)).trans (by assumption)
                        refine wpAnyH_take (i := 0) (v := ?_) rfl (by kernel_rfl) (by kernel_rfl) (by kernel_rfl) (fun _ _ _ h => h) (Or.inl ⟨by rfl, ?_⟩) (by assumption) ?_
                        rotate_left
                        · (intro w hSw; (try dsimp only at hSw); go_simp; first | done | with_reducible rfl)
                        try simp only [Act.put, List.getElem_toArray, List.getElem_cons_zero, List.getElem_cons_succ, List.setIfInBounds_toArray, List.set_cons_zero, List.set_cons_succ]
                        refine wpAnyH_take (i := 1) (v := ?_) rfl (by kernel_rfl) (by kernel_rfl) (by kernel_rfl) (fun _ _ _ h => h) (Or.inl ⟨by rfl, ?_⟩) (by assumption) ?_
                        rotate_left
                        · (intro w hSw; (try dsimp only at hSw); go_simp; first | done | with_reducible rfl)
                        try simp only [Act.put, List.getElem_toArray, List.getElem_cons_zero, List.getElem_cons_succ, List.setIfInBounds_toArray, List.set_cons_zero, List.set_cons_succ]
                        refine wpAnyH_take (i := 2) (v := ?_) rfl (by kernel_rfl) (by kernel_rfl) (by kernel_rfl) (fun _ _ _ h => h) (Or.inl ⟨by rfl, ?_⟩) (by assumption) ?_
                        rotate_left
                        · (intro w hSw; (try dsimp only at hSw); go_simp; first | done | with_reducible rfl)
                        try simp only [Act.put, List.getElem_toArray, List.getElem_cons_zero, List.getElem_cons_succ, List.setIfInBounds_toArray, List.set_cons_zero, List.set_cons_succ]
                        refine wpAnyH_take (i := 3) (v := ?_) rfl (by kernel_rfl) (by kernel_rfl) (by kernel_rfl) (fun _ _ _ h => h) (Or.inl ⟨by rfl, ?_⟩) (by assumption) ?_
                        rotate_left
                        · (intro w hSw; (try dsimp only at hSw); go_simp; first | done | with_reducible rfl)
                        try simp only [Act.put, List.getElem_toArray, List.getElem_cons_zero, List.getElem_cons_succ, List.setIfInBounds_toArray, List.set_cons_zero, List.set_cons_succ]
                        refine wpAnyH_take (i := 4) (v := ?_) rfl (by kernel_rfl) (by kernel_rfl) (by kernel_rfl) (fun _ _ _ h => h) (Or.inl ⟨by rfl, ?_⟩) (by assumption) ?_
                        rotate_left
                        · (intro w hSw; (try dsimp only at hSw); go_simp; first | done | with_reducible rfl)
                        try simp only [Act.put, List.getElem_toArray, List.getElem_cons_zero, List.getElem_cons_succ, List.setIfInBounds_toArray, List.set_cons_zero, List.set_cons_succ]
                        refine wpAnyH_ready (rs := [5]) (by kernel_rfl) (by simp) ?_
                        refine AllReadyH.cons rfl (fun K hK => ?_) AllReadyH.nil
                        try simp only [List.getElem_toArray, List.getElem_cons_zero, List.getElem_cons_succ]
                        go_simp
                        go_at_call 35
                        refine (HRT.out _).mono ?_
                        rintro e w3 ⟨rfl, hb_w3⟩
                        have hs_w3 : W5.heap.size ≤ w3.heap.size := (by have := hb_w3.size; (try simp only [World.size_drew, World.heap_drewN, World.size_alloc] at this); omega)
                        have hb53 : Below W5.heap.size W5 w3 := below_trans (Below.drew (Below.refl W5.heap.size W5)) hb_w3 (Nat.le_refl _)
                        have e63 := e6.later hb53
                        have z63 := fz_later z6 hb53 e6.lt
                        have mw30 : w3.cell? ⟨wA.heap.size, 0, none⟩ = some (.bool x1) := (hb_w3.cell (p := ⟨wA.heap.size, 0, none⟩) (by first | omega | (simp; omega) | simp)).trans (by first | assumption | (simp [go_sem]; done) | exact (World.cell?_alloc_lt _ _ ⟨_, _, _⟩ (by first | omega | (simp; omega) | simp)).trans (by assumption))
                        have mw31 : w3.cell? ⟨wA.heap.size, 1, none⟩ = some (.int .i64 x2) := (hb_w3.cell (p := ⟨wA.heap.size, 1, none⟩) (by first | omega | (simp; omega) | simp)).trans (by first | assumption | (simp [go_sem]; done) | exact (World.cell?_alloc_lt _ _ ⟨_, _, _⟩ (by first | omega | (simp; omega) | simp)).trans (by assumption))
                        have mw32 : w3.cell? ⟨wA.heap.size, 2, none⟩ = some (.int .u8 x3) := (hb_w3.cell (p := ⟨wA.heap.size, 2, none⟩) (by first | omega | (simp; omega) | simp)).trans (by first | assumption | (simp [go_sem]; done) | exact (World.cell?_alloc_lt _ _ ⟨_, _, _⟩ (by first | omega | (simp; omega) | simp)).trans (by assumption))
                        have mw33 : w3.cell? ⟨wA.heap.size, 3, none⟩ = some (.int .i64 x4) := (hb_w3.cell (p := ⟨wA.heap.size, 3, none⟩) (by first | omega | (simp; omega) | simp)).trans (by first | assumption | (simp [go_sem]; done) | exact (World.cell?_alloc_lt _ _ ⟨_, _, _⟩ (by first | omega | (simp; omega) | simp)).trans (by assumption))
                        have mw34 : w3.cell? ⟨wA.heap.size, 4, none⟩ = some (.int .i64 (v : Int)) := (hb_w3.cell (p := ⟨wA.heap.size, 4, none⟩) (by first | omega | (simp; omega) | simp)).trans (by first | assumption | (simp [go_sem]; done) | exact (World.cell?_alloc_lt _ _ ⟨_, _, _⟩ (by first | omega | (simp; omega) | simp)).trans (by assumption))
                        try go_wp2_with fail
                        refine hK.out _ _ ?_ (fun hHeld => ?_)
                        · (try dsimp only); refine ⟨?_, ?_, ?_, ?_, ?_⟩ <;> first | assumption | (simp [go_sem]; done) | exact (World.cell?_alloc_lt _ _ ⟨_, _, _⟩ (by first | omega | (simp; omega) | simp)).trans (by assumption)
                        clear hK K
                        try simp only [Act.put, List.getElem_toArray, List.getElem_cons_zero, List.getElem_cons_succ, List.setIfInBounds_toArray, List.set_cons_zero, List.set_cons_succ]
                        refine wpAnyH_ready (rs := [6]) (by kernel_rfl) (by simp) ?_
                        refine AllReadyH.cons rfl (fun K hK => ?_) AllReadyH.nil
                        try simp only [List.getElem_toArray, List.getElem_cons_zero, List.getElem_cons_succ]
                        go_simp
                        refine hK.out _ _ ?_ (fun hHeld => ?_)
                        · (try dsimp only); refine ⟨?_, ?_, ?_, ?_, ?_⟩ <;> first | assumption | (simp [go_sem]; done) | exact (World.cell?_alloc_lt _ _ ⟨_, _, _⟩ (by first | omega | (simp; omega) | simp)).trans (by assumption)
                        clear hK K
                        try simp only [Act.put, List.getElem_toArray, List.getElem_cons_zero, List.getElem_cons_succ, List.setIfInBounds_toArray, List.set_cons_zero, List.set_cons_succ]
                        refine wpAnyH_take (i := 7) (v := ?_) rfl (by kernel_rfl) (by kernel_rfl) (by kernel_rfl) (fun _ _ _ h => h) (Or.inl ⟨by rfl, ?_⟩) (by assumption) ?_
                        rotate_left
                        · (intro w hSw; (try dsimp only at hSw); go_simp; first | done | with_reducible rfl)
                        try simp only [Act.put, List.getElem_toArray, List.getElem_cons_zero, List.getElem_cons_succ, List.setIfInBounds_toArray, List.set_cons_zero, List.set_cons_succ]
                        refine wpAnyH_take (i := 8) (v := ?_) rfl (by kernel_rfl) (by kernel_rfl) (by kernel_rfl) (fun _ _ _ h => h) (Or.inl ⟨by rfl, ?_⟩) (by assumption) ?_
                        rotate_left
                        · (intro w hSw; (try dsimp only at hSw); go_simp; first | done | with_reducible rfl)
                        try simp only [Act.put, List.getElem_toArray, List.getElem_cons_zero, List.getElem_cons_succ, List.setIfInBounds_toArray, List.set_cons_zero, List.set_cons_succ]
                        refine wpAnyH_take (i := 10) (v := ?_) rfl (by kernel_rfl) (by kernel_rfl) (by kernel_rfl) (fun _ _ _ h => h) (Or.inl ⟨by rfl, ?_⟩) (by assumption) ?_
                        rotate_left
                        · (intro w hSw; (try dsimp only at hSw); go_simp; first | done | with_reducible rfl)
                        try simp only [Act.put, List.getElem_toArray, List.getElem_cons_zero, List.getElem_cons_succ, List.setIfInBounds_toArray, List.set_cons_zero, List.set_cons_succ]
                        refine wpAnyH_ready (rs := [9]) (by kernel_rfl) (by simp) ?_
                        refine AllReadyH.cons rfl (fun K hK => ?_) AllReadyH.nil
                        try simp only [List.getElem_toArray, List.getElem_cons_zero, List.getElem_cons_succ]
                        go_simp
                        go_at_call 29
                        refine (HLX.out _).mono ?_
                        rintro e w4 ⟨rfl, hb_w4⟩
                        have hs_w4 : w3.heap.size ≤ w4.heap.size := (by have := hb_w4.size; (try simp only [World.size_drew, World.heap_drewN, World.size_alloc] at this); omega)
                        have hb34 : Below w3.heap.size w3 w4 := hb_w4
                        have e64 := e63.later hb34
                        have z64 := fz_later z63 hb34 e63.lt
                        have mw40 : w4.cell? ⟨wA.heap.size, 0, none⟩ = some (.bool x1) := (hb_w4.cell (p := ⟨wA.heap.size, 0, none⟩) (by first | omega | (simp; omega) | simp)).trans (by first | assumption | (simp [go_sem]; done) | exact (World.cell?_alloc_lt _ _ ⟨_, _, _⟩ (by first | omega | (simp; omega) | simp)).trans (by assumption))
                        have mw41 : w4.cell? ⟨wA.heap.size, 1, none⟩ = some (.int .i64 x2) := (hb_w4.cell (p := ⟨wA.heap.size, 1, none⟩) (by first | omega | (simp; omega) | simp)).trans (by first | assumption | (simp [go_sem]; done) | exact (World.cell?_alloc_lt _ _ ⟨_, _, _⟩ (by first | omega | (simp; omega) | simp)).trans (by assumption))
                        have mw42 : w4.cell? ⟨wA.heap.size, 2, none⟩ = some (.int .u8 x3) := (hb_w4.cell (p := ⟨wA.heap.size, 2, none⟩) (by first | omega | (simp; omega) | simp)).trans (by first | assumption | (simp [go_sem]; done) | exact (World.cell?_alloc_lt _ _ ⟨_, _, _⟩ (by first | omega | (simp; omega) | simp)).trans (by assumption))
                        have mw43 : w4.cell? ⟨wA.heap.size, 3, none⟩ = some (.int .i64 x4) := (hb_w4.cell (p := ⟨wA.heap.size, 3, none⟩) (by first | omega | (simp; omega) | simp)).trans (by first | assumption | (simp [go_sem]; done) | exact (World.cell?_alloc_lt _ _ ⟨_, _, _⟩ (by first | omega | (simp; omega) | simp)).trans (by assumption))
                        have mw44 : w4.cell? ⟨wA.heap.size, 4, none⟩ = some (.int .i64 (v : Int)) := (hb_w4.cell (p := ⟨wA.heap.size, 4, none⟩) (by first | omega | (simp; omega) | simp)).trans (by first | assumption | (simp [go_sem]; done) | exact (World.cell?_alloc_lt _ _ ⟨_, _, _⟩ (by first | omega | (simp; omega) | simp)).trans (by assumption))
                        try go_wp2_with fail
                        refine hK.out _ _ ?_ (fun hHeld => ?_)
                        · (try dsimp only); refine ⟨?_, ?_, ?_, ?_, ?_⟩ <;> first | assumption | (simp [go_sem]; done) | exact (World.cell?_alloc_lt _ _ ⟨_, _, _⟩ (by first | omega | (simp; omega) | simp)).trans (by assumption)
                        clear hK K
                        try simp only [Act.put, List.getElem_toArray, List.getElem_cons_zero, List.getElem_cons_succ, List.setIfInBounds_toArray, List.set_cons_zero, List.set_cons_succ]
                        refine wpAnyH_take (i := 11) (v := ?_) rfl (by kernel_rfl) (by kernel_rfl) (by kernel_rfl) (fun _ _ _ h => h) (Or.inl ⟨by rfl, ?_⟩) (by assumption) ?_
                        rotate_left
                        · (intro w hSw; (try dsimp only at hSw); go_simp; first | done | with_reducible rfl)
                        try simp only [Act.put, List.getElem_toArray, List.getElem_cons_zero, List.getElem_cons_succ, List.setIfInBounds_toArray, List.set_cons_zero, List.set_cons_succ]
                        refine wpAnyH_take (i := 12) (v := ?_) rfl (by kernel_rfl) (by kernel_rfl) (by kernel_rfl) (fun _ _ _ h => h) (Or.inl ⟨by rfl, ?_⟩) (by assumption) ?_
                        rotate_left
                        · (intro w hSw; (try dsimp only at hSw); go_simp; first | done | with_reducible rfl)
                        try simp only [Act.put, List.getElem_toArray, List.getElem_cons_zero, List.getElem_cons_succ, List.setIfInBounds_toArray, List.set_cons_zero, List.set_cons_succ]
                        obtain ⟨t0, t1, t2, t3, t4⟩ := id e64
                        simp only [Nat.zero_add, ev0] at t0 t1 t2 t3 t4
                        have s0 := z64 0
                        have s1 := z64 1
                        have s2 := z64 2
                        have s3 := z64 3
                        have s4 := z64 4
                        refine wpAnyH_ready (rs := [13]) (by kernel_rfl) (by simp) ?_
                        refine AllReadyH.cons rfl (fun K hK => ?_) AllReadyH.nil
                        try simp only [List.getElem_toArray, List.getElem_cons_zero, List.getElem_cons_succ]
                        go_simp
                        refine hK.out _ _ ?_ (fun hHeld => ?_)
                        · (try dsimp only); refine ⟨?_, ?_, ?_, ?_, ?_⟩ <;> (simp [go_sem, hne, hne.symm]; assumption)
                        clear hK K
                        try simp only [Act.put, List.getElem_toArray, List.getElem_cons_zero, List.getElem_cons_succ, List.setIfInBounds_toArray, List.set_cons_zero, List.set_cons_succ]
                        refine wpAnyH_take (i := 14) (v := ?_) rfl (by kernel_rfl) (by kernel_rfl) (by kernel_rfl) (fun _ _ _ h => h) (Or.inl ⟨by rfl, ?_⟩) (by assumption) ?_
                        rotate_left
                        · (intro w hSw; (try dsimp only at hSw); go_simp; first | done | with_reducible rfl)
                        try simp only [Act.put, List.getElem_toArray, List.getElem_cons_zero, List.getElem_cons_succ, List.setIfInBounds_toArray, List.set_cons_zero, List.set_cons_succ]
                        refine wpAnyH_done (by kernel_rfl) ?_ _
                        go_wp2
                        refine bodyPost_ret (res_ev2 rfl rfl (s := ⟨x1, x2, x3, x4, (v : Int)⟩) ((Ev5.set5 ⟨x1, x2, x3, x4, (v : Int)⟩ e64))) rfl ⟨⟨x1, x2, x3, x4, (v : Int)⟩, false, rfl, HR.out, (below_set5 ⟨x1, x2, x3, x4, (v : Int)⟩ (below_trans b6 (below_trans hb53 hb34 (by omega)) (by omega)) (Nat.le_refl _))⟩
              · have hex : 4096 < v ∨ d.length ≤ j := .inr (by omega)
                clear hgd HSN
                have hj9 : N.length + 3 + j = s.size := by omega
                have i1 : decide (((N.length + 3 + j : Nat) : Int) < (s.size : Int)) = false := decide_eq_false (by omega)
                generalize hp : N.length + 3 + j = p at *
                have hne : wA.heap.size ≠ w.heap.size := by have := HE5.out.lt; omega
                have HNO := Lib.hid (HT9.out hex)
                clear HT9 HB9 hex
                have hk3 := sgl_kind _ hx.out
                simp only at hk3
                have f6 : Ev5 (wr.setCell ⟨wA.heap.size, 4, none⟩ (.int .i64 (v : Int))) wA.heap.size 0 ⟨x1, x2, x3, x4, (v : Int)⟩ := by constructor <;> simp [go_sem, p0, p1, p2, p3, p4]
                have e6 : Ev5 (wr.setCell ⟨wA.heap.size, 4, none⟩ (.int .i64 (v : Int))) w.heap.size 0 ev0 := by constructor <;> simp [go_sem, ev0, hne, hne.symm, r0, r1, r2, r3, r4]
                have z6 : ∀ o, (wr.setCell ⟨wA.heap.size, 4, none⟩ (.int .i64 (v : Int))).frozen? ⟨w.heap.size, o, none⟩ = false := fun o => by simp [go_sem, hf2]
                have b6 : Below w.heap.size w (wr.setCell ⟨wA.heap.size, 4, none⟩ (.int .i64 (v : Int))) := Below.setCell b2 (show w.heap.size ≤ wA.heap.size by omega) _
                have e9 : tms ⟨x1, x2, x3, x4, 1⟩ (v : Int) = ⟨x1, x2, x3, x4, (v : Int)⟩ := rfl
                rw [e9] at HNO
                clear e9
                go_wp2_with fail
                generalize wr.setCell ⟨wA.heap.size, 4, none⟩ (.int .i64 (v : Int)) = W5 at *
                obtain ⟨m0, m1, m2, m3, m4⟩ := id f6
                simp only [Nat.zero_add] at m0 m1 m2 m3 m4
                clear p0 p1 p2 p3 p4 r0 r1 r2 r3 r4
                have hlt6 := f6.lt
                by_cases hv1 : v = 1
                · have v1 : ((v : Int) == 1) = true := by simp; omega
                  have v2 : ((v : Int) != 1) = false := by simp; omega
                  have v3 : (v == 1) = true := by simp; omega
                  have v4 : (v != 1) = false := by simp; omega
                  have HR : Hid (read1 s.data.toList = none) := Lib.hid (HNO.out (fun h => h.1 hv1))
                  clear hv1
                  refine wp_region_held_drew (S := (fun X : World => X.cell? ⟨wA.heap.size, 0, none⟩ = some (.bool x1) ∧ X.cell? ⟨wA.heap.size, 1, none⟩ = some (.int .i64 x2) ∧ X.cell? ⟨wA.heap.size, 2, none⟩ = some (.int .u8 x3) ∧ X.cell? ⟨wA.heap.size, 3, none⟩ = some (.int .i64 x4) ∧ X.cell? ⟨wA.heap.size, 4, none⟩ = some (.int .i64 (v : Int)))) (by kernel_rfl) ?_ (fun hHeld => ?_)
                  · (try dsimp only); refine ⟨?_, ?_, ?_, ?_, ?_⟩ <;> first | assumption | (simp [go_sem]; done) | exact (World.cell?_alloc_lt _ _ ⟨_, _, _⟩ (by first | omega | (simp; omega) | simp)).trans (by assumption)
                  refine wpAnyH_take (i := 0) (v := ?_) rfl (by kernel_rfl) (by kernel_rfl) (by kernel_rfl) (fun _ _ _ h => h) (Or.inl ⟨by rfl, ?_⟩) (by assumption) ?_
                  rotate_left
                  · (intro w hSw; (try dsimp only at hSw); go_simp; first | done | with_reducible rfl)
                  try simp only [Act.put, List.getElem_toArray, List.getElem_cons_zero, List.getElem_cons_succ, List.setIfInBounds_toArray, List.set_cons_zero, List.set_cons_succ]
                  refine wpAnyH_take (i := 1) (v := ?_) rfl (by kernel_rfl) (by kernel_rfl) (by kernel_rfl) (fun _ _ _ h => h) (Or.inl ⟨by rfl, ?_⟩) (by assumption) ?_
                  rotate_left
                  · (intro w hSw; (try dsimp only at hSw); go_simp; first | done | with_reducible rfl)
                  try simp only [Act.put, List.getElem_toArray, List.getElem_cons_zero, List.getElem_cons_succ, List.setIfInBounds_toArray, List.set_cons_zero, List.set_cons_succ]
                  refine wpAnyH_take (i := 2) (v := ?_) rfl (by kernel_rfl) (by kernel_rfl) (by kernel_rfl) (fun _ _ _ h => h) (Or.inl ⟨by rfl, ?_⟩) (by assumption) ?_
                  rotate_left
                  · (intro w hSw; (try dsimp only at hSw); go_simp; first | done | with_reducible rfl)
                  try simp only [Act.put, List.getElem_toArray, List.getElem_cons_zero, List.getElem_cons_succ, List.setIfInBounds_toArray, List.set_cons_zero, List.set_cons_succ]
                  refine wpAnyH_take (i := 3) (v := ?_) rfl (by kernel_rfl) (by kernel_rfl) (by kernel_rfl) (fun _ _ _ h => h) (Or.inl ⟨by rfl, ?_⟩) (by assumption) ?_
                  rotate_left
                  · (intro w hSw; (try dsimp only at hSw); go_simp; first | done | with_reducible rfl)
                  try simp only [Act.put, List.getElem_toArray, List.getElem_cons_zero, List.getElem_cons_succ, List.setIfInBounds_toArray, List.set_cons_zero, List.set_cons_succ]
                  refine wpAnyH_take (i := 4) (v := undef) rfl (by kernel_rfl) (by kernel_rfl) (by kernel_rfl) (fun _ _ _ h => h) (Or.inr ⟨by rfl, rfl⟩) (by assumption) ?_
                  try simp only [Act.put, List.getElem_toArray, List.getElem_cons_zero, List.getElem_cons_succ, List.setIfInBounds_toArray, List.set_cons_zero, List.set_cons_succ]
                  refine wpAnyH_take (i := 5) (v := undef) rfl (by kernel_rfl) (by kernel_rfl) (by kernel_rfl) (fun _ _ _ h => h) (Or.inr ⟨by rfl, rfl⟩) (by assumption) ?_
                  try simp only [Act.put, List.getElem_toArray, List.getElem_cons_zero, List.getElem_cons_succ, List.setIfInBounds_toArray, List.set_cons_zero, List.set_cons_succ]
                  refine wpAnyH_ready (rs := [6]) (by kernel_rfl) (by simp) ?_
                  refine AllReadyH.cons rfl (fun K hK => ?_) AllReadyH.nil
                  try simp only [List.getElem_toArray, List.getElem_cons_zero, List.getElem_cons_succ]
                  go_simp
                  refine hK.out _ _ ?_ (fun hHeld => ?_)
                  · (try dsimp only); refine ⟨?_, ?_, ?_, ?_, ?_⟩ <;> first | assumption | (simp [go_sem]; done) | exact (World.cell?_alloc_lt _ _ ⟨_, _, _⟩ (by first | omega | (simp; omega) | simp)).trans (by assumption)
                  clear hK K
                  try simp only [Act.put, List.getElem_toArray, List.getElem_cons_zero, List.getElem_cons_succ, List.setIfInBounds_toArray, List.set_cons_zero, List.set_cons_succ]
                  refine wpAnyH_take (i := 7) (v := ?_) rfl (by kernel_rfl) (by kernel_rfl) (by kernel_rfl) (fun _ _ _ h => h) (Or.inl ⟨by rfl, ?_⟩) (by assumption) ?_
                  rotate_left
                  · (intro w hSw; (try dsimp only at hSw); go_simp; first | done | with_reducible rfl)
                  try simp only [Act.put, List.getElem_toArray, List.getElem_cons_zero, List.getElem_cons_succ, List.setIfInBounds_toArray, List.set_cons_zero, List.set_cons_succ]
                  refine wpAnyH_take (i := 8) (v := undef) rfl (by kernel_rfl) (by kernel_rfl) (by kernel_rfl) (fun _ _ _ h => h) (Or.inr ⟨by rfl, rfl⟩) (by assumption) ?_
                  try simp only [Act.put, List.getElem_toArray, List.getElem_cons_zero, List.getElem_cons_succ, List.setIfInBounds_toArray, List.set_cons_zero, List.set_cons_succ]
                  refine wpAnyH_take (i := 10) (v := undef) rfl (by kernel_rfl) (by kernel_rfl) (by kernel_rfl) (fun _ _ _ h => h) (Or.inr ⟨by rfl, rfl⟩) (by assumption) ?_
                  try simp only [Act.put, List.getElem_toArray, List.getElem_cons_zero, List.getElem_cons_succ, List.setIfInBounds_toArray, List.set_cons_zero, List.set_cons_succ]
                  refine wpAnyH_take (i := 9) (v := undef) rfl (by kernel_rfl) (by kernel_rfl) (by kernel_rfl) (fun _ _ _ h => h) (Or.inr ⟨by rfl, rfl⟩) (by assumption) ?_
                  try simp only [Act.put, List.getElem_toArray, List.getElem_cons_zero, List.getElem_cons_succ, List.setIfInBounds_toArray, List.set_cons_zero, List.set_cons_succ]
                  refine wpAnyH_take (i := 11) (v := undef) rfl (by kernel_rfl) (by kernel_rfl) (by kernel_rfl) (fun _ _ _ h => h) (Or.inr ⟨by rfl, rfl⟩) (by assumption) ?_
                  try simp only [Act.put, List.getElem_toArray, List.getElem_cons_zero, List.getElem_cons_succ, List.setIfInBounds_toArray, List.set_cons_zero, List.set_cons_succ]
                  refine wpAnyH_take (i := 12) (v := ?_) rfl (by kernel_rfl) (by kernel_rfl) (by kernel_rfl) (fun _ _ _ h => h) (Or.inl ⟨by rfl, ?_⟩) (by assumption) ?_
                  rotate_left
                  · (intro w hSw; (try dsimp only at hSw); go_simp; first | done | with_reducible rfl)
                  try simp only [Act.put, List.getElem_toArray, List.getElem_cons_zero, List.getElem_cons_succ, List.setIfInBounds_toArray, List.set_cons_zero, List.set_cons_succ]
                  obtain ⟨t0, t1, t2, t3, t4⟩ := id e6
                  simp only [Nat.zero_add, ev0] at t0 t1 t2 t3 t4
                  have s0 := z6 0
                  have s1 := z6 1
                  have s2 := z6 2
                  have s3 := z6 3
                  have s4 := z6 4
                  refine wpAnyH_ready (rs := [13]) (by kernel_rfl) (by simp) ?_
                  refine AllReadyH.cons rfl (fun K hK => ?_) AllReadyH.nil
                  try simp only [List.getElem_toArray, List.getElem_cons_zero, List.getElem_cons_succ]
                  go_simp
                  refine hK.out _ _ ?_ (fun hHeld => ?_)
                  · (try dsimp only); refine ⟨?_, ?_, ?_, ?_, ?_⟩ <;> (simp [go_sem, hne, hne.symm]; assumption)
                  clear hK K
                  try simp only [Act.put, List.getElem_toArray, List.getElem_cons_zero, List.getElem_cons_succ, List.setIfInBounds_toArray, List.set_cons_zero, List.set_cons_succ]
                  refine wpAnyH_take (i := 14) (v := ?_) rfl (by kernel_rfl) (by kernel_rfl) (by kernel_rfl) (fun _ _ _ h => h) (Or.inl ⟨by rfl, ?_⟩) (by assumption) ?_
                  rotate_left
                  · (intro w hSw; (try dsimp only at hSw); go_simp; first | done | with_reducible rfl)
                  try simp only [Act.put, List.getElem_toArray, List.getElem_cons_zero, List.getElem_cons_succ, List.setIfInBounds_toArray, List.set_cons_zero, List.set_cons_succ]
                  refine wpAnyH_done (by kernel_rfl) ?_ _
                  go_wp2
                  refine bodyPost_ret (res_ev2 rfl rfl (s := ⟨x1, x2, x3, x4, (v : Int)⟩) (ev5_drew (Ev5.set5 ⟨x1, x2, x3, x4, (v : Int)⟩ e6))) rfl ⟨⟨x1, x2, x3, x4, (v : Int)⟩, false, rfl, HR.out, Below.drew (below_set5 ⟨x1, x2, x3, x4, (v : Int)⟩ (b6) (Nat.le_refl _))⟩
                · have v1 : ((v : Int) == 1) = false := by simp; omega
                  have v2 : ((v : Int) != 1) = true := by simp; omega
                  have v3 : (v == 1) = false := by simp; omega
                  have v4 : (v != 1) = true := by simp; omega
                  rcases hok : okE ⟨x1, x2, x3, x4, (v : Int)⟩ with _ | _
                  · have HRT := Lib.hid fun (w : World) => right_agg (w := w) x1 x2 x3 x4 (v : Int) hk3 false hok
                    have HR : Hid (read1 s.data.toList = none) := Lib.hid (HNO.out (fun h => by rw [hok] at h; exact absurd h.2.1 (by simp)))
                    refine wp_region_held_drew (S := (fun X : World => X.cell? ⟨wA.heap.size, 0, none⟩ = some (.bool x1) ∧ X.cell? ⟨wA.heap.size, 1, none⟩ = some (.int .i64 x2) ∧ X.cell? ⟨wA.heap.size, 2, none⟩ = some (.int .u8 x3) ∧ X.cell? ⟨wA.heap.size, 3, none⟩ = some (.int .i64 x4) ∧ X.cell? ⟨wA.heap.size, 4, none⟩ = some (.int .i64 (v : Int)))) (by kernel_rfl) ?_ (fun hHeld => ?_)
                    · (try dsimp only); refine ⟨?_, ?_, ?_, ?_, ?_⟩ <;> first | assumption | (simp [go_sem]; done) | exact (World.cell?_alloc_lt _ _ ⟨_, _, _⟩ (by first | omega | (simp; omega) | simp)).trans (by assumption)
                    refine wpAnyH_take (i := 0) (v := ?_) rfl (by kernel_rfl) (by kernel_rfl) (by kernel_rfl) (fun _ _ _ h => h) (Or.inl ⟨by rfl, ?_⟩) (by assumption) ?_
                    rotate_left
                    · (intro w hSw; (try dsimp only at hSw); go_simp; first | done | with_reducible rfl)
                    try simp only [Act.put, List.getElem_toArray, List.getElem_cons_zero, List.getElem_cons_succ, List.setIfInBounds_toArray, List.set_cons_zero, List.set_cons_succ]
                    refine wpAnyH_take (i := 1) (v := ?_) rfl (by kernel_rfl) (by kernel_rfl) (by kernel_rfl) (fun _ _ _ h => h) (Or.inl ⟨by rfl, ?_⟩) (by assumption) ?_
                    rotate_left
                    · (intro w hSw; (try dsimp only at hSw); go_simp; first | done | with_reducible rfl)
                    try simp only [Act.put, List.getElem_toArray, List.getElem_cons_zero, List.getElem_cons_succ, List.setIfInBounds_toArray, List.set_cons_zero, List.set_cons_succ]
                    refine wpAnyH_take (i := 2) (v := ?_) rfl (by kernel_rfl) (by kernel_rfl) (by kernel_rfl) (fun _ _ _ h => h) (Or.inl ⟨by rfl, ?_⟩) (by assumption) ?_
                    rotate_left
                    · (intro w hSw; (try dsimp only at hSw); go_simp; first | done | with_reducible rfl)
                    try simp only [Act.put, List.getElem_toArray, List.getElem_cons_zero, List.getElem_cons_succ, List.setIfInBounds_toArray, List.set_cons_zero, List.set_cons_succ]
                    refine wpAnyH_take (i := 3) (v := ?_) rfl (by kernel_rfl) (by kernel_rfl) (by kernel_rfl) (fun _ _ _ h => h) (Or.inl ⟨by rfl, ?_⟩) (by assumption) ?_
                    rotate_left
                    · (intro w hSw; (try dsimp only at hSw); go_simp; first | done | with_reducible rfl)
                    try simp only [Act.put, List.getElem_toArray, List.getElem_cons_zero, List.getElem_cons_succ, List.setIfInBounds_toArray, List.set_cons_zero, List.set_cons_succ]
                    refine wpAnyH_take (i := 4) (v := ?_) rfl (by kernel_rfl) (by kernel_rfl) (by kernel_rfl) (fun _ _ _ h => h) (Or.inl ⟨by rfl, ?_⟩) (by assumption) ?_
                    rotate_left
                    · (intro w hSw; (try dsimp only at hSw); go_simp; first | done | with_reducible rfl)
                    try simp only [Act.put, List.getElem_toArray, List.getElem_cons_zero, List.getElem_cons_succ, List.setIfInBounds_toArray, List.set_cons_zero, List.set_cons_succ]
                    refine wpAnyH_ready (rs := [5]) (by kernel_rfl) (by simp) ?_
                    refine AllReadyH.cons rfl (fun K hK => ?_) AllReadyH.nil
                    try simp only [List.getElem_toArray, List.getElem_cons_zero, List.getElem_cons_succ]
                    go_simp
                    go_at_call 35
                    refine (HRT.out _).mono ?_
                    rintro e w3 ⟨rfl, hb_w3⟩
                    have hs_w3 : W5.heap.size ≤ w3.heap.size := (by have := hb_w3.size; (try simp only [World.size_drew, World.heap_drewN, World.size_alloc] at this); omega)
                    have hb53 : Below W5.heap.size W5 w3 := below_trans (Below.drew (Below.refl W5.heap.size W5)) hb_w3 (Nat.le_refl _)
                    have e63 := e6.later hb53
                    have z63 := fz_later z6 hb53 e6.lt
                    have mw30 : w3.cell? ⟨wA.heap.size, 0, none⟩ = some (.bool x1) := (hb_w3.cell (p := ⟨wA.heap.size, 0, none⟩) (by first | omega | (simp; omega) | simp)).trans (by first | assumption | (simp [go_sem]; done) | exact (World.cell?_alloc_lt _ _ ⟨_, _, _⟩ (by first | omega | (simp; omega) | simp)).trans (by assumption))
                    have mw31 : w3.cell? ⟨wA.heap.size, 1, none⟩ = some (.int .i64 x2) := (hb_w3.cell (p := ⟨wA.heap.size, 1, none⟩) (by first | omega | (simp; omega) | simp)).trans (by first | assumption | (simp [go_sem]; done) | exact (World.cell?_alloc_lt _ _ ⟨_, _, _⟩ (by first | omega | (simp; omega) | simp)).trans (by assumption))
                    have mw32 : w3.cell? ⟨wA.heap.size, 2, none⟩ = some (.int .u8 x3) := (hb_w3.cell (p := ⟨wA.heap.size, 2, none⟩) (by first | omega | (simp; omega) | simp)).trans (by first | assumption | (simp [go_sem]; done) | exact (World.cell?_alloc_lt _ _ ⟨_, _, _⟩ (by first | omega | (simp; omega) | simp)).trans (by assumption))
                    have mw33 : w3.cell? ⟨wA.heap.size, 3, none⟩ = some (.int .i64 x4) := (hb_w3.cell (p := ⟨wA.heap.size, 3, none⟩) (by first | omega | (simp; omega) | simp)).trans (by first | assumption | (simp [go_sem]; done) | exact (World.cell?_alloc_lt _ _ ⟨_, _, _⟩ (by first | omega | (simp; omega) | simp)).trans (by assumption))
                    have mw34 : w3.cell? ⟨wA.heap.size, 4, none⟩ = some (.int .i64 (v : Int)) := (hb_w3.cell (p := ⟨wA.heap.size, 4, none⟩) (by first | omega | (simp; omega) | simp)).trans (by first | assumption | (simp [go_sem]; done) | exact (World.cell?_alloc_lt _ _ ⟨_, _, _⟩ (by first | omega | (simp; omega) | simp)).trans (by assumption))
                    try go_wp2_with fail
                    refine hK.out _ _ ?_ (fun hHeld => ?_)
                    · (try dsimp only); refine ⟨?_, ?_, ?_, ?_, ?_⟩ <;> first | assumption | (simp [go_sem]; done) | exact (World.cell?_alloc_lt _ _ ⟨_, _, _⟩ (by first | omega | (simp; omega) | simp)).trans (by assumption)
                    clear hK K
                    try simp only [Act.put, List.getElem_toArray, List.getElem_cons_zero, List.getElem_cons_succ, List.setIfInBounds_toArray, List.set_cons_zero, List.set_cons_succ]
                    refine wpAnyH_ready (rs := [6]) (by kernel_rfl) (by simp) ?_
                    refine AllReadyH.cons rfl (fun K hK => ?_) AllReadyH.nil
                    try simp only [List.getElem_toArray, List.getElem_cons_zero, List.getElem_cons_succ]
                    go_simp
                    refine hK.out _ _ ?_ (fun hHeld => ?_)
                    · (try dsimp only); refine ⟨?_, ?_, ?_, ?_, ?_⟩ <;> first | assumption | (simp [go_sem]; done) | exact (World.cell?_alloc_lt _ _ ⟨_, _, _⟩ (by first | omega | (simp; omega) | simp)).trans (by assumption)
                    clear hK K
                    try simp only [Act.put, List.getElem_toArray, List.getElem_cons_zero, List.getElem_cons_succ, List.setIfInBounds_toArray, List.set_cons_zero, List.set_cons_succ]
                    refine wpAnyH_take (i := 7) (v := ?_) rfl (by kernel_rfl) (by kernel_rfl) (by kernel_rfl) (fun _ _ _ h => h) (Or.inl ⟨by rfl, ?_⟩) (by assumption) ?_
                    rotate_left
                    · (intro w hSw; (try dsimp only at hSw); go_simp; first | done | with_reducible rfl)
                    try simp only [Act.put, List.getElem_toArray, List.getElem_cons_zero, List.getElem_cons_succ, List.setIfInBounds_toArray, List.set_cons_zero, List.set_cons_succ]
                    refine wpAnyH_take (i := 8) (v := undef) rfl (by kernel_rfl) (by kernel_rfl) (by kernel_rfl) (fun _ _ _ h => h) (Or.inr ⟨by rfl, rfl⟩) (by assumption) ?_
                    try simp only [Act.put, List.getElem_toArray, List.getElem_cons_zero, List.getElem_cons_succ, List.setIfInBounds_toArray, List.set_cons_zero, List.set_cons_succ]
                    refine wpAnyH_take (i := 10) (v := undef) rfl (by kernel_rfl) (by kernel_rfl) (by kernel_rfl) (fun _ _ _ h => h) (Or.inr ⟨by rfl, rfl⟩) (by assumption) ?_
                    try simp only [Act.put, List.getElem_toArray, List.getElem_cons_zero, List.getElem_cons_succ, List.setIfInBounds_toArray, List.set_cons_zero, List.set_cons_succ]
                    refine wpAnyH_take (i := 9) (v := undef) rfl (by kernel_rfl) (by kernel_rfl) (by kernel_rfl) (fun _ _ _ h => h) (Or.inr ⟨by rfl, rfl⟩) (by assumption) ?_
                    try simp only [Act.put, List.getElem_toArray, List.getElem_cons_zero, List.getElem_cons_succ, List.setIfInBounds_toArray, List.set_cons_zero, List.set_cons_succ]
                    refine wpAnyH_take (i := 11) (v := undef) rfl (by kernel_rfl) (by kernel_rfl) (by kernel_rfl) (fun _ _ _ h => h) (Or.inr ⟨by rfl, rfl⟩) (by assumption) ?_
                    try simp only [Act.put, List.getElem_toArray, List.getElem_cons_zero, List.getElem_cons_succ, List.setIfInBounds_toArray, List.set_cons_zero, List.set_cons_succ]
                    refine wpAnyH_take (i := 12) (v := ?_) rfl (by kernel_rfl) (by kernel_rfl) (by kernel_rfl) (fun _ _ _ h => h) (Or.inl ⟨by rfl, ?_⟩) (by assumption) ?_
                    rotate_left
                    · (intro w hSw; (try dsimp only at hSw); go_simp; first | done | with_reducible rfl)
                    try simp only [Act.put, List.getElem_toArray, List.getElem_cons_zero, List.getElem_cons_succ, List.setIfInBounds_toArray, List.set_cons_zero, List.set_cons_succ]
                    obtain ⟨t0, t1, t2, t3, t4⟩ := id e63
                    simp only [Nat.zero_add, ev0] at t0 t1 t2 t3 t4
                    have s0 := z63 0
                    have s1 := z63 1
                    have s2 := z63 2
                    have s3 := z63 3
                    have s4 := z63 4
                    refine wpAnyH_ready (rs := [13]) (by kernel_rfl) (by simp) ?_
                    refine AllReadyH.cons rfl (fun K hK => ?_) AllReadyH.nil
                    try simp only [List.getElem_toArray, List.getElem_cons_zero, List.getElem_cons_succ]
                    go_simp
                    refine hK.out _ _ ?_ (fun hHeld => ?_)
                    · (try dsimp only); refine ⟨?_, ?_, ?_, ?_, ?_⟩ <;> (simp [go_sem, hne, hne.symm]; assumption)
                    clear hK K
                    try simp only [Act.put, List.getElem_toArray, List.getElem_cons_zero, List.getElem_cons_succ, List.setIfInBounds_toArray, List.set_cons_zero, List.set_cons_succ]
                    refine wpAnyH_take (i := 14) (v := ?_) rfl (by kernel_rfl) (by kernel_rfl) (by kernel_rfl) (fun _ _ _ h => h) (Or.inl ⟨by rfl, ?_⟩) (by assumption) ?_
                    rotate_left
                    · (intro w hSw; (try dsimp only at hSw); go_simp; first | done | with_reducible rfl)
                    try simp only [Act.put, List.getElem_toArray, List.getElem_cons_zero, List.getElem_cons_succ, List.setIfInBounds_toArray, List.set_cons_zero, List.set_cons_succ]
                    refine wpAnyH_done (by kernel_rfl) ?_ _
                    go_wp2
                    refine bodyPost_ret (res_ev2 rfl rfl (s := ⟨x1, x2, x3, x4, (v : Int)⟩) ((Ev5.set5 ⟨x1, x2, x3, x4, (v : Int)⟩ e63))) rfl ⟨⟨x1, x2, x3, x4, (v : Int)⟩, false, rfl, HR.out, (below_set5 ⟨x1, x2, x3, x4, (v : Int)⟩ (below_trans b6 hb53 (by omega)) (Nat.le_refl _))⟩
                  · have HRT := Lib.hid fun (w : World) => right_agg (w := w) x1 x2 x3 x4 (v : Int) hk3 true hok
                    have HLX := Lib.hid fun (w : World) => xline_agg (w := w) x1 x2 x3 x4 (v : Int) hok
                    by_cases hls : lineE ⟨x1, x2, x3, x4, (v : Int)⟩ = s.data.toList
                    · have HR : Hid (read1 s.data.toList = some ⟨x1, x2, x3, x4, (v : Int)⟩) := Lib.hid (read1_some hok hls.symm)
                      have he9 : ((bs (lineE ⟨x1, x2, x3, x4, (v : Int)⟩)).toList == s.toList) = true := by rw [ByteArray.toList_eq, ByteArray.toList_eq, bs_data, beq_iff_eq]; exact hls
                      clear hls
                      generalize lineE ⟨x1, x2, x3, x4, (v : Int)⟩ = LX at *
                      refine wp_region_held_drew (S := (fun X : World => X.cell? ⟨wA.heap.size, 0, none⟩ = some (.bool x1) ∧ X.cell? ⟨wA.heap.size, 1, none⟩ = some (.int .i64 x2) ∧ X.cell? ⟨wA.heap.size, 2, none⟩ = some (.int .u8 x3) ∧ X.cell? ⟨wA.heap.size, 3, none⟩ = some (.int .i64 x4) ∧ X.cell? ⟨wA.heap.size, 4, none⟩ = some (.int .i64 (v : Int)))) (by kernel_rfl) ?_ (fun hHeld => ?_)
                      · (try dsimp only); refine ⟨?_, ?_, ?_, ?_, ?_⟩ <;> first | assumption | (simp [go_sem]; done) | exact (World.cell?_alloc_lt _ _ ⟨_, _, _⟩ (by first | omega | (simp; omega) | simp)).trans (by assumption)
                      refine wpAnyH_take (i := 0) (v := ?_) rfl (by kernel_rfl) (by kernel_rfl) (by kernel_rfl) (fun _ _ _ h => h) (Or.inl ⟨by rfl, ?_⟩) (by assumption) ?_
                      rotate_left
                      · (intro w hSw; (try dsimp only at hSw); go_simp; first | done | with_reducible rfl)
                      try simp only [Act.put, List.getElem_toArray, List.getElem_cons_zero, List.getElem_cons_succ, List.setIfInBounds_toArray, List.set_cons_zero, List.set_cons_succ]
                      refine wpAnyH_take (i := 1) (v := ?_) rfl (by kernel_rfl) (by kernel_rfl) (by kernel_rfl) (fun _ _ _ h => h) (Or.inl ⟨by rfl, ?_⟩) (by assumption) ?_
                      rotate_left
                      · (intro w hSw; (try dsimp only at hSw); go_simp; first | done | with_reducible rfl)
                      try simp only [Act.put, List.getElem_toArray, List.getElem_cons_zero, List.getElem_cons_succ, List.setIfInBounds_toArray, List.set_cons_zero, List.set_cons_succ]
                      refine wpAnyH_take (i := 2) (v := ?_) rfl (by kernel_rfl) (by kernel_rfl) (by kernel_rfl) (fun _ _ _ h => h) (Or.inl ⟨by rfl, ?_⟩) (by assumption) ?_
                      rotate_left
                      · (intro w hSw; (try dsimp only at hSw); go_simp; first | done | with_reducible rfl)
                      try simp only [Act.put, List.getElem_toArray, List.getElem_cons_zero, List.getElem_cons_succ, List.setIfInBounds_toArray, List.set_cons_zero, List.set_cons_succ]
                      refine wpAnyH_take (i := 3) (v := ?_) rfl (by kernel_rfl) (by kernel_rfl) (by kernel_rfl) (fun _ _ _ h => h) (Or.inl ⟨by rfl, ?_⟩) (by assumption) ?_
                      rotate_left
                      · (intro w hSw; (try dsimp only at hSw); go_simp; first | done | with_reducible rfl)
                      try simp only [Act.put, List.getElem_toArray, List.getElem_cons_zero, List.getElem_cons_succ, List.setIfInBounds_toArray, List.set_cons_zero, List.set_cons_succ]
                      refine wpAnyH_take (i := 4) (v := ?_) rfl (by kernel_rfl) (by kernel_rfl) (by kernel_rfl) (fun _ _ _ h => h) (Or.inl ⟨by rfl, ?_⟩) (by assumption) ?_
                      rotate_left
                      · (intro w hSw; (try dsimp only at hSw); go_simp; first | done | with_reducible rfl)
                      try simp only [Act.put, List.getElem_toArray, List.getElem_cons_zero, List.getElem_cons_succ, List.setIfInBounds_toArray, List.set_cons_zero, List.set_cons_succ]
                      refine wpAnyH_ready (rs := [5]) (by kernel_rfl) (by simp) ?_
                      refine AllReadyH.cons rfl (fun K hK => ?_) AllReadyH.nil
                      try simp only [List.getElem_toArray, List.getElem_cons_zero, List.getElem_cons_succ]
                      go_simp
                      go_at_call 35
                      refine (HRT.out _).mono ?_
                      rintro e w3 ⟨rfl, hb_w3⟩
                      have hs_w3 : W5.heap.size ≤ w3.heap.size := (by have := hb_w3.size; (try simp only [World.size_drew, World.heap_drewN, World.size_alloc] at this); omega)
                      have hb53 : Below W5.heap.size W5 w3 := below_trans (Below.drew (Below.refl W5.heap.size W5)) hb_w3 (Nat.le_refl _)
                      have e63 := e6.later hb53
                      have z63 := fz_later z6 hb53 e6.lt
                      have mw30 : w3.cell? ⟨wA.heap.size, 0, none⟩ = some (.bool x1) := (hb_w3.cell (p := ⟨wA.heap.size, 0, none⟩) (by first | omega | (simp; omega) | simp)).trans (by first | assumption | (simp [go_sem]; done) | exact (World.cell?_alloc_lt _ _ ⟨_, _, _⟩ (by first | omega | (simp; omega) | simp)).trans (by assumption))
                      have mw31 : w3.cell? ⟨wA.heap.size, 1, none⟩ = some (.int .i64 x2) := (hb_w3.cell (p := ⟨wA.heap.size, 1, none⟩) (by first | omega | (simp; omega) | simp)).trans (by first | assumption | (simp [go_sem]; done) | exact (World.cell?_alloc_lt _ _ ⟨_, _, _⟩ (by first | omega | (simp; omega) | simp)).trans (by assumption))
                      have mw32 : w3.cell? ⟨wA.heap.size, 2, none⟩ = some (.int .u8 x3) := (hb_w3.cell (p := ⟨wA.heap.size, 2, none⟩) (by first | omega | (simp; omega) | simp)).trans (by first | assumption | (simp [go_sem]; done) | exact (World.cell?_alloc_lt _ _ ⟨_, _, _⟩ (by first | omega | (simp; omega) | simp)).trans (by assumption))
                      have mw33 : w3.cell? ⟨wA.heap.size, 3, none⟩ = some (.int .i64 x4) := (hb_w3.cell (p := ⟨wA.heap.size, 3, none⟩) (by first | omega | (simp; omega) | simp)).trans (by first | assumption | (simp [go_sem]; done) | exact (World.cell?_alloc_lt _ _ ⟨_, _, _⟩ (by first | omega | (simp; omega) | simp)).trans (by assumption))
                      have mw34 : w3.cell? ⟨wA.heap.size, 4, none⟩ = some (.int .i64 (v : Int)) := (hb_w3.cell (p := ⟨wA.heap.size, 4, none⟩) (by first | omega | (simp; omega) | simp)).trans (by first | assumption | (simp [go_sem]; done) | exact (World.cell?_alloc_lt _ _ ⟨_, _, _⟩ (by first | omega | (simp; omega) | simp)).trans (by assumption))
                      try go_wp2_with fail
                      refine hK.out _ _ ?_ (fun hHeld => ?_)
                      · (try dsimp only); refine ⟨?_, ?_, ?_, ?_, ?_⟩ <;> first | assumption | (simp [go_sem]; done) | exact (World.cell?_alloc_lt _ _ ⟨_, _, _⟩ (by first | omega | (simp; omega) | simp)).trans (by assumption)
                      clear hK K
                      try simp only [Act.put, List.getElem_toArray, List.getElem_cons_zero, List.getElem_cons_succ, List.setIfInBounds_toArray, List.set_cons_zero, List.set_cons_succ]
                      refine wpAnyH_ready (rs := [6]) (by kernel_rfl) (by simp) ?_
                      refine AllReadyH.cons rfl (fun K hK => ?_) AllReadyH.nil
                      try simp only [List.getElem_toArray, List.getElem_cons_zero, List.getElem_cons_succ]
                      go_simp
                      refine hK.out _ _ ?_ (fun hHeld => ?_)
                      · (try dsimp only); refine ⟨?_, ?_, ?_, ?_, ?_⟩ <;> first | assumption | (simp [go_sem]; done) | exact (World.cell?_alloc_lt _ _ ⟨_, _, _⟩ (by first | omega | (simp; omega) | simp)).trans (by assumption)
                      clear hK K
                      try simp only [Act.put, List.getElem_toArray, List.getElem_cons_zero, List.getElem_cons_succ, List.setIfInBounds_toArray, List.set_cons_zero, List.set_cons_succ]
                      refine wpAnyH_take (i := 7) (v := ?_) rfl (by kernel_rfl) (by kernel_rfl) (by kernel_rfl) (fun _ _ _ h => h) (Or.inl ⟨by rfl, ?_⟩) (by assumption) ?_
                      rotate_left
                      · (intro w hSw; (try dsimp only at hSw); go_simp; first | done | with_reducible rfl)
                      try simp only [Act.put, List.getElem_toArray, List.getElem_cons_zero, List.getElem_cons_succ, List.setIfInBounds_toArray, List.set_cons_zero, List.set_cons_succ]
                      refine wpAnyH_take (i := 8) (v := ?_) rfl (by kernel_rfl) (by kernel_rfl) (by kernel_rfl) (fun _ _ _ h => h) (Or.inl ⟨by rfl, ?_⟩) (by assumption) ?_
                      rotate_left
                      · (intro w hSw; (try dsimp only at hSw); go_simp; first | done | with_reducible rfl)
                      try simp only [Act.put, List.getElem_toArray, List.getElem_cons_zero, List.getElem_cons_succ, List.setIfInBounds_toArray, List.set_cons_zero, List.set_cons_succ]
                      refine wpAnyH_take (i := 10) (v := ?_) rfl (by kernel_rfl) (by kernel_rfl) (by kernel_rfl) (fun _ _ _ h => h) (Or.inl ⟨by rfl, ?_⟩) (by assumption) ?_
                      rotate_left
                      · (intro w hSw; (try dsimp only at hSw); go_simp; first | done | with_reducible rfl)
                      try simp only [Act.put, List.getElem_toArray, List.getElem_cons_zero, List.getElem_cons_succ, List.setIfInBounds_toArray, List.set_cons_zero, List.set_cons_succ]
                      refine wpAnyH_ready (rs := [9]) (by kernel_rfl) (by simp) ?_
                      refine AllReadyH.cons rfl (fun K hK => ?_) AllReadyH.nil
                      try simp only [List.getElem_toArray, List.getElem_cons_zero, List.getElem_cons_succ]
                      go_simp
                      go_at_call 29
                      refine (HLX.out _).mono ?_
                      rintro e w4 ⟨rfl, hb_w4⟩
                      have hs_w4 : w3.heap.size ≤ w4.heap.size := (by have := hb_w4.size; (try simp only [World.size_drew, World.heap_drewN, World.size_alloc] at this); omega)
                      have hb34 : Below w3.heap.size w3 w4 := hb_w4
                      have e64 := e63.later hb34
                      have z64 := fz_later z63 hb34 e63.lt
                      have mw40 : w4.cell? ⟨wA.heap.size, 0, none⟩ = some (.bool x1) := (hb_w4.cell (p := ⟨wA.heap.size, 0, none⟩) (by first | omega | (simp; omega) | simp)).trans (by first | assumption | (simp [go_sem]; done) | exact (World.cell?_alloc_lt _ _ ⟨_, _, _⟩ (by first | omega | (simp; omega) | simp)).trans (by assumption))
                      have mw41 : w4.cell? ⟨wA.heap.size, 1, none⟩ = some (.int .i64 x2) := (hb_w4.cell (p := ⟨wA.heap.size, 1, none⟩) (by first | omega | (simp; omega) | simp)).trans (by first | assumption | (simp [go_sem]; done) | exact (World.cell?_alloc_lt _ _ ⟨_, _, _⟩ (by first | omega | (simp; omega) | simp)).trans (by assumption))
                      have mw42 : w4.cell? ⟨wA.heap.size, 2, none⟩ = some (.int .u8 x3) := (hb_w4.cell (p := ⟨wA.heap.size, 2, none⟩) (by first | omega | (simp; omega) | simp)).trans (by first | assumption | (simp [go_sem]; done) | exact (World.cell?_alloc_lt _ _ ⟨_, _, _⟩ (by first | omega | (simp; omega) | simp)).trans (by assumption))
                      have mw43 : w4.cell? ⟨wA.heap.size, 3, none⟩ = some (.int .i64 x4) := (hb_w4.cell (p := ⟨wA.heap.size, 3, none⟩) (by first | omega | (simp; omega) | simp)).trans (by first | assumption | (simp [go_sem]; done) | exact (World.cell?_alloc_lt _ _ ⟨_, _, _⟩ (by first | omega | (simp; omega) | simp)).trans (by assumption))
                      have mw44 : w4.cell? ⟨wA.heap.size, 4, none⟩ = some (.int .i64 (v : Int)) := (hb_w4.cell (p := ⟨wA.heap.size, 4, none⟩) (by first | omega | (simp; omega) | simp)).trans (by first | assumption | (simp [go_sem]; done) | exact (World.cell?_alloc_lt _ _ ⟨_, _, _⟩ (by first | omega | (simp; omega) | simp)).trans (by assumption))
                      try go_wp2_with fail
                      refine hK.out _ _ ?_ (fun hHeld => ?_)
                      · (try dsimp only); refine ⟨?_, ?_, ?_, ?_, ?_⟩ <;> first | assumption | (simp [go_sem]; done) | exact (World.cell?_alloc_lt _ _ ⟨_, _, _⟩ (by first | omega | (simp; omega) | simp)).trans (by assumption)
                      clear hK K
                      try simp only [Act.put, List.getElem_toArray, List.getElem_cons_zero, List.getElem_cons_succ, List.setIfInBounds_toArray, List.set_cons_zero, List.set_cons_succ]
                      refine wpAnyH_take (i := 11) (v := ?_) rfl (by kernel_rfl) (by kernel_rfl) (by kernel_rfl) (fun _ _ _ h => h) (Or.inl ⟨by rfl, ?_⟩) (by assumption) ?_
                      rotate_left
                      · (intro w hSw; (try dsimp only at hSw); go_simp; first | done | with_reducible rfl)
                      try simp only [Act.put, List.getElem_toArray, List.getElem_cons_zero, List.getElem_cons_succ, List.setIfInBounds_toArray, List.set_cons_zero, List.set_cons_succ]
                      refine wpAnyH_take (i := 12) (v := ?_) rfl (by kernel_rfl) (by kernel_rfl) (by kernel_rfl) (fun _ _ _ h => h) (Or.inl ⟨by rfl, ?_⟩) (by assumption) ?_
                      rotate_left
                      · (intro w hSw; (try dsimp only at hSw); go_simp; first | done | with_reducible rfl)
                      try simp only [Act.put, List.getElem_toArray, List.getElem_cons_zero, List.getElem_cons_succ, List.setIfInBounds_toArray, List.set_cons_zero, List.set_cons_succ]
                      obtain ⟨t0, t1, t2, t3, t4⟩ := id e64
                      simp only [Nat.zero_add, ev0] at t0 t1 t2 t3 t4
                      have s0 := z64 0
                      have s1 := z64 1
                      have s2 := z64 2
                      have s3 := z64 3
                      have s4 := z64 4
                      refine wpAnyH_ready (rs := [13]) (by kernel_rfl) (by simp) ?_
                      refine AllReadyH.cons rfl (fun K hK => ?_) AllReadyH.nil
                      try simp only [List.getElem_toArray, List.getElem_cons_zero, List.getElem_cons_succ]
                      go_simp
                      refine hK.out _ _ ?_ (fun hHeld => ?_)
                      · (try dsimp only); refine ⟨?_, ?_, ?_, ?_, ?_⟩ <;> (simp [go_sem, hne, hne.symm]; assumption)
                      clear hK K
                      try simp only [Act.put, List.getElem_toArray, List.getElem_cons_zero, List.getElem_cons_succ, List.setIfInBounds_toArray, List.set_cons_zero, List.set_cons_succ]
                      refine wpAnyH_take (i := 14) (v := ?_) rfl (by kernel_rfl) (by kernel_rfl) (by kernel_rfl) (fun _ _ _ h => h) (Or.inl ⟨by rfl, ?_⟩) (by assumption) ?_
                      rotate_left
                      · (intro w hSw; (try dsimp only at hSw); go_simp; first | done | with_reducible rfl)
                      try simp only [Act.put, List.getElem_toArray, List.getElem_cons_zero, List.getElem_cons_succ, List.setIfInBounds_toArray, List.set_cons_zero, List.set_cons_succ]
                      refine wpAnyH_done (by kernel_rfl) ?_ _
                      go_wp2
                      refine bodyPost_ret (res_ev2 rfl rfl (s := ⟨x1, x2, x3, x4, (v : Int)⟩) ((Ev5.set5 ⟨x1, x2, x3, x4, (v : Int)⟩ e64))) rfl ⟨⟨x1, x2, x3, x4, (v : Int)⟩, true, rfl, HR.out, (below_set5 ⟨x1, x2, x3, x4, (v : Int)⟩ (below_trans b6 (below_trans hb53 hb34 (by omega)) (by omega)) (Nat.le_refl _))⟩
                    · have HR : Hid (read1 s.data.toList = none) := Lib.hid (HNO.out (fun h => hls h.2.2))
                      have he9 : ((bs (lineE ⟨x1, x2, x3, x4, (v : Int)⟩)).toList == s.toList) = false := by rw [ByteArray.toList_eq, ByteArray.toList_eq, bs_data, beq_eq_false_iff_ne]; exact hls
                      clear hls HNO
                      generalize lineE ⟨x1, x2, x3, x4, (v : Int)⟩ = LX at *
                      refine wp_region_held_drew (S := (fun X : World => X.cell? ⟨wA.heap.size, 0, none⟩ = some (.bool x1) ∧ X.cell? ⟨wA.heap.size, 1, none⟩ = some (.int .i64 x2) ∧ X.cell? ⟨wA.heap.size, 2, none⟩ = some (.int .u8 x3) ∧ X.cell? ⟨wA.heap.size, 3, none⟩ = some (.int .i64 x4) ∧ X.cell? ⟨wA.heap.size, 4, none⟩ = some (.int .i64 (v : Int)))) (by kernel_rfl) ?_ (fun hHeld => ?_)
                      · (try dsimp only); refine ⟨?_, ?_, ?_, ?_, ?_⟩ <;> first | assumption | (simp [go_sem]; done) | exact (World.cell?_alloc_lt _ _ ⟨_, _, _⟩ (by first | omega | (simp; omega) | simp)).trans (by assumption)
                      refine wpAnyH_take (i := 0) (v := ?_) rfl (by kernel_rfl) (by kernel_rfl) (by kernel_rfl) (fun _ _ _ h => h) (Or.inl ⟨by rfl, ?_⟩) (by assumption) ?_
                      rotate_left
                      · (intro w hSw; (try dsimp only at hSw); go_simp; first | done | with_reducible rfl)
                      try simp only [Act.put, List.getElem_toArray, List.getElem_cons_zero, List.getElem_cons_succ, List.setIfInBounds_toArray, List.set_cons_zero, List.set_cons_succ]
                      refine wpAnyH_take (i := 1) (v := ?_) rfl (by kernel_rfl) (by kernel_rfl) (by kernel_rfl) (fun _ _ _ h => h) (Or.inl ⟨by rfl, ?_⟩) (by assumption) ?_
                      rotate_left
                      · (intro w hSw; (try dsimp only at hSw); go_simp; first | done | with_reducible rfl)
                      try simp only [Act.put, List.getElem_toArray, List.getElem_cons_zero, List.getElem_cons_succ, List.setIfInBounds_toArray, List.set_cons_zero, List.set_cons_succ]
                      refine wpAnyH_take (i := 2) (v := ?_) rfl (by kernel_rfl) (by kernel_rfl) (by kernel_rfl) (fun _ _ _ h => h) (Or.inl ⟨by rfl, ?_⟩) (by assumption) ?_
                      rotate_left
                      · (intro w hSw; (try dsimp only at hSw); go_simp; first | done | with_reducible rfl)
                      try simp only [Act.put, List.getElem_toArray, List.getElem_cons_zero, List.getElem_cons_succ, List.setIfInBounds_toArray, List.set_cons_zero, List.set_cons_succ]
                      refine wpAnyH_take (i := 3) (v := ?_) rfl (by kernel_rfl) (by kernel_rfl) (by kernel_rfl) (fun _ _ _ h => h) (Or.inl ⟨by rfl, ?_⟩) (by assumption) ?_
                      rotate_left
                      · (intro w hSw; (try dsimp only at hSw); go_simp; first | done | with_reducible rfl)
                      try simp only [Act.put, List.getElem_toArray, List.getElem_cons_zero, List.getElem_cons_succ, List.setIfInBounds_toArray, List.set_cons_zero, List.set_cons_succ]
                      refine wpAnyH_take (i := 4) (v := ?_) rfl (by kernel_rfl) (by kernel_rfl) (by kernel_rfl) (fun _ _ _ h => h) (Or.inl ⟨by rfl, ?_⟩) (by assumption) ?_
                      rotate_left
                      · (intro w hSw; (try dsimp only at hSw); go_simp; first | done | with_reducible rfl)
                      try simp only [Act.put, List.getElem_toArray, List.getElem_cons_zero, List.getElem_cons_succ, List.setIfInBounds_toArray, List.set_cons_zero, List.set_cons_succ]
                      refine wpAnyH_ready (rs := [5]) (by kernel_rfl) (by simp) ?_
                      refine AllReadyH.cons rfl (fun K hK => ?_) AllReadyH.nil
                      try simp only [List.getElem_toArray, List.getElem_cons_zero, List.getElem_cons_succ]
                      go_simp
                      go_at_call 35
                      refine (HRT.out _).mono ?_
                      rintro e w3 ⟨rfl, hb_w3⟩
                      have hs_w3 : W5.heap.size ≤ w3.heap.size := (by have := hb_w3.size; (try simp only [World.size_drew, World.heap_drewN, World.size_alloc] at this); omega)
                      have hb53 : Below W5.heap.size W5 w3 := below_trans (Below.drew (Below.refl W5.heap.size W5)) hb_w3 (Nat.le_refl _)
                      have e63 := e6.later hb53
                      have z63 := fz_later z6 hb53 e6.lt
                      have mw30 : w3.cell? ⟨wA.heap.size, 0, none⟩ = some (.bool x1) := (hb_w3.cell (p := ⟨wA.heap.size, 0, none⟩) (by first | omega | (simp; omega) | simp)).trans (by first | assumption | (simp [go_sem]; done) | exact (World.cell?_alloc_lt _ _ ⟨_, _, _⟩ (by first | omega | (simp; omega) | simp)).trans (by assumption))
                      have mw31 : w3.cell? ⟨wA.heap.size, 1, none⟩ = some (.int .i64 x2) := (hb_w3.cell (p := ⟨wA.heap.size, 1, none⟩) (by first | omega | (simp; omega) | simp)).trans (by first | assumption | (simp [go_sem]; done) | exact (World.cell?_alloc_lt _ _ ⟨_, _, _⟩ (by first | omega | (simp; omega) | simp)).trans (by assumption))
                      have mw32 : w3.cell? ⟨wA.heap.size, 2, none⟩ = some (.int .u8 x3) := (hb_w3.cell (p := ⟨wA.heap.size, 2, none⟩) (by first | omega | (simp; omega) | simp)).trans (by first | assumption | (simp [go_sem]; done) | exact (World.cell?_alloc_lt _ _ ⟨_, _, _⟩ (by first | omega | (simp; omega) | simp)).trans (by assumption))
                      have mw33 : w3.cell? ⟨wA.heap.size, 3, none⟩ = some (.int .i64 x4) := (hb_w3.cell (p := ⟨wA.heap.size, 3, none⟩) (by first | omega | (simp; omega) | simp)).trans (by first | assumption | (simp [go_sem]; done) | exact (World.cell?_alloc_lt _ _ ⟨_, _, _⟩ (by first | omega | (simp; omega) | simp)).trans (by assumption))
                      have mw34 : w3.cell? ⟨wA.heap.size, 4, none⟩ = some (.int .i64 (v : Int)) := (hb_w3.cell (p := ⟨wA.heap.size, 4, none⟩) (by first | omega | (simp; omega) | simp)).trans (by first | assumption | (simp [go_sem]; done) | exact (World.cell?_alloc_lt _ _ ⟨_, _, _⟩ (by first | omega | (simp; omega) | simp)).trans (by assumption))
                      try go_wp2_with fail
                      refine hK.out _ _ ?_ (fun hHeld => ?_)
                      · (try dsimp only); refine ⟨?_, ?_, ?_, ?_, ?_⟩ <;> first | assumption | (simp [go_sem]; done) | exact (World.cell?_alloc_lt _ _ ⟨_, _, _⟩ (by first | omega | (simp; omega) | simp)).trans (by assumption)
                      clear hK K
                      try simp only [Act.put, List.getElem_toArray, List.getElem_cons_zero, List.getElem_cons_succ, List.setIfInBounds_toArray, List.set_cons_zero, List.set_cons_succ]
                      refine wpAnyH_ready (rs := [6]) (by kernel_rfl) (by simp) ?_
                      refine AllReadyH.cons rfl (fun K hK => ?_) AllReadyH.nil
                      try simp only [List.getElem_toArray, List.getElem_cons_zero, List.getElem_cons_succ]
                      go_simp
                      refine hK.out _ _ ?_ (fun hHeld => ?_)
                      · (try dsimp only); refine ⟨?_, ?_, ?_, ?_, ?_⟩ <;> first | assumption | (simp [go_sem]; done) | exact (World.cell?_alloc_lt _ _ ⟨_, _, _⟩ (by first | omega | (simp; omega) | simp)).trans (by assumption)
                      clear hK K
                      try simp only [Act.put, List.getElem_toArray, List.getElem_cons_zero, List.getElem_cons_succ, List.setIfInBounds_toArray, List.set_cons_zero, List.set_cons_succ]
                      refine wpAnyH_take (i := 7) (v := ?_) rfl (by kernel_rfl) (by kernel_rfl) (by kernel_rfl) (fun _ _ _ h => h) (Or.inl ⟨by rfl, ?_⟩) (by assumption) ?_
                      rotate_left
                      · (intro w hSw; (try dsimp only at hSw); go_simp; first | done | with_reducible rfl)
                      try simp only [Act.put, List.getElem_toArray, List.getElem_cons_zero, List.getElem_cons_succ, List.setIfInBounds_toArray, List.set_cons_zero, List.set_cons_succ]
                      refine wpAnyH_take (i := 8) (v := ?_) rfl (by kernel_rfl) (by kernel_rfl) (by kernel_rfl) (fun _ _ _ h => h) (Or.inl ⟨by rfl, ?_⟩) (by assumption) ?_
                      rotate_left
                      · (intro w hSw; (try dsimp only at hSw); go_simp; first | done | with_reducible rfl)
                      try simp only [Act.put, List.getElem_toArray, List.getElem_cons_zero, List.getElem_cons_succ, List.setIfInBounds_toArray, List.set_cons_zero, List.set_cons_succ]
                      refine wpAnyH_take (i := 10) (v := ?_) rfl (by kernel_rfl) (by kernel_rfl) (by kernel_rfl) (fun _ _ _ h => h) (Or.inl ⟨by rfl, ?_⟩) (by assumption) ?_
                      rotate_left
                      · (intro w hSw; (try dsimp only at hSw); go_simp; first | done | with_reducible rfl)
                      try simp only [Act.put, List.getElem_toArray, List.getElem_cons_zero, List.getElem_cons_succ, List.setIfInBounds_toArray, List.set_cons_zero, List.set_cons_succ]
                      refine wpAnyH_ready (rs := [9]) (by kernel_rfl) (by simp) ?_
                      refine AllReadyH.cons rfl (fun K hK => ?_) AllReadyH.nil
                      try simp only [List.getElem_toArray, List.getElem_cons_zero, List.getElem_cons_succ]
                      go_simp
                      go_at_call 29
                      refine (HLX.out _).mono ?_
                      rintro e w4 ⟨rfl, hb_w4⟩
                      have hs_w4 : w3.heap.size ≤ w4.heap.size := (by have := hb_w4.size; (try simp only [World.size_drew, World.heap_drewN, World.size_alloc] at this); omega)
                      have hb34 : Below w3.heap.size w3 w4 := hb_w4
                      have e64 := e63.later hb34
                      have z64 := fz_later z63 hb34 e63.lt
                      have mw40 : w4.cell? ⟨wA.heap.size, 0, none⟩ = some (.bool x1) := (hb_w4.cell (p := ⟨wA.heap.size, 0, none⟩) (by first | omega | (simp; omega) | simp)).trans (by first | assumption | (simp [go_sem]; done) | exact (World.cell?_alloc_lt _ _ ⟨_, _, _⟩ (by first | omega | (simp; omega) | simp)).trans (by assumption))
                      have mw41 : w4.cell? ⟨wA.heap.size, 1, none⟩ = some (.int .i64 x2) := (hb_w4.cell (p := ⟨wA.heap.size, 1, none⟩) (by first | omega | (simp; omega) | simp)).trans (by first | assumption | (simp [go_sem]; done) | exact (World.cell?_alloc_lt _ _ ⟨_, _, _⟩ (by first | omega | (simp; omega) | simp)).trans (by assumption))
                      have mw42 : w4.cell? ⟨wA.heap.size, 2, none⟩ = some (.int .u8 x3) := (hb_w4.cell (p := ⟨wA.heap.size, 2, none⟩) (by first | omega | (simp; omega) | simp)).trans (by first | assumption | (simp [go_sem]; done) | exact (World.cell?_alloc_lt _ _ ⟨_, _, _⟩ (by first | omega | (simp; omega) | simp)).trans (by assumption))
                      have mw43 : w4.cell? ⟨wA.heap.size, 3, none⟩ = some (.int .i64 x4) := (hb_w4.cell (p := ⟨wA.heap.size, 3, none⟩) (by first | omega | (simp; omega) | simp)).trans (by first | assumption | (simp [go_sem]; done) | exact (World.cell?_alloc_lt _ _ ⟨_, _, _⟩ (by first | omega | (simp; omega) | simp)).trans (by assumption))
                      have mw44 : w4.cell? ⟨wA.heap.size, 4, none⟩ = some (.int .i64 (v : Int)) := (hb_w4.cell (p := ⟨wA.heap.size, 4, none⟩) (by first | omega | (simp; omega) | simp)).trans (by first | assumption | (simp [go_sem]; done) | exact (World.cell?_alloc_lt _ _ ⟨_, _, _⟩ (by first | omega | (simp; omega) | simp)).trans (by assumption))
                      try go_wp2_with fail
                      refine hK.out _ _ ?_ (fun hHeld => ?_)
                      · (try dsimp only); refine ⟨?_, ?_, ?_, ?_, ?_⟩ <;> first | assumption | (simp [go_sem]; done) | exact (World.cell?_alloc_lt _ _ ⟨_, _, _⟩ (by first | omega | (simp; omega) | simp)).trans (by assumption)
                      clear hK K
                      try simp only [Act.put, List.getElem_toArray, List.getElem_cons_zero, List.getElem_cons_succ, List.setIfInBounds_toArray, List.set_cons_zero, List.set_cons_succ]
                      refine wpAnyH_take (i := 11) (v := ?_) rfl (by kernel_rfl) (by kernel_rfl) (by kernel_rfl) (fun _ _ _ h => h) (Or.inl ⟨by rfl, ?_⟩) (by assumption) ?_
                      rotate_left
                      · (intro w hSw; (try dsimp only at hSw); go_simp; first | done | with_reducible rfl)
                      try simp only [Act.put, List.getElem_toArray, List.getElem_cons_zero, List.getElem_cons_succ, List.setIfInBounds_toArray, List.set_cons_zero, List.set_cons_succ]
                      refine wpAnyH_take (i := 12) (v := ?_) rfl (by kernel_rfl) (by kernel_rfl) (by kernel_rfl) (fun _ _ _ h => h) (Or.inl ⟨by rfl, ?_⟩) (by assumption) ?_
                      rotate_left
                      · (intro w hSw; (try dsimp only at hSw); go_simp; first | done | with_reducible rfl)
                      try simp only [Act.put, List.getElem_toArray, List.getElem_cons_zero, List.getElem_cons_succ, List.setIfInBounds_toArray, List.set_cons_zero, List.set_cons_succ]
                      obtain ⟨t0, t1, t2, t3, t4⟩ := id e64
                      simp only [Nat.zero_add, ev0] at t0 t1 t2 t3 t4
                      have s0 := z64 0
                      have s1 := z64 1
                      have s2 := z64 2
                      have s3 := z64 3
                      have s4 := z64 4
                      refine wpAnyH_ready (rs := [13]) (by kernel_rfl) (by simp) ?_
                      refine AllReadyH.cons rfl (fun K hK => ?_) AllReadyH.nil
                      try simp only [List.getElem_toArray, List.getElem_cons_zero, List.getElem_cons_succ]
                      go_simp
                      refine hK.out _ _ ?_ (fun hHeld => ?_)
                      · (try dsimp only); refine ⟨?_, ?_, ?_, ?_, ?_⟩ <;> (simp [go_sem, hne, hne.symm]; assumption)
                      clear hK K
                      try simp only [Act.put, List.getElem_toArray, List.getElem_cons_zero, List.getElem_cons_succ, List.setIfInBounds_toArray, List.set_cons_zero, List.set_cons_succ]
                      refine wpAnyH_take (i := 14) (v := ?_) rfl (by kernel_rfl) (by kernel_rfl) (by kernel_rfl) (fun _ _ _ h => h) (Or.inl ⟨by rfl, ?_⟩) (by assumption) ?_
                      rotate_left
                      · (intro w hSw; (try dsimp only at hSw); go_simp; first | done | with_reducible rfl)
                      try simp only [Act.put, List.getElem_toArray, List.getElem_cons_zero, List.getElem_cons_succ, List.setIfInBounds_toArray, List.set_cons_zero, List.set_cons_succ]
                      refine wpAnyH_done (by kernel_rfl) ?_ _
                      go_wp2
                      refine bodyPost_ret (res_ev2 rfl rfl (s := ⟨x1, x2, x3, x4, (v : Int)⟩) ((Ev5.set5 ⟨x1, x2, x3, x4, (v : Int)⟩ e64))) rfl ⟨⟨x1, x2, x3, x4, (v : Int)⟩, false, rfl, HR.out, (below_set5 ⟨x1, x2, x3, x4, (v : Int)⟩ (below_trans b6 (below_trans hb53 hb34 (by omega)) (by omega)) (Nat.le_refl _))⟩
          · have hx3 : ((s.extract 0 (N.length + 3)).toList == (bs N ++ ⟨#[32, 42, 32]⟩ : ByteArray).toList) = false := by
              rw [ext_toList, hst, beq_eq_false_iff_ne]
              exact hft
            have HNF : Hid (∀ j, j < k + 1 → NoFit s.data.toList (nthE hds j)) := Lib.hid fun j hj => by
              by_cases e : j = k
              · rw [e, HX.out]
                refine ⟨by rw [HN.out]; exact hq, fun h => ?_⟩
                rw [HN.out] at h
                exact hft h.2
              · exact HA.out j (by omega)
            clear hst hft hq
            go_wp2
            go_roundw
            case rel => exact ⟨k + 1, by go_num, hk17, HNF, e52, Lib.hid hf2, b12⟩
            case measure => simp [intOf]; omega
    · obtain rfl : k = 16 := by omega
      have HR : Hid (read1 s.data.toList = none) := Lib.hid (no_head fun x hx => by
        obtain ⟨j, hj, rfl⟩ := hds_mem hx
        exact HA.out j hj)
      have e5 := HE5.out
      obtain ⟨r0, r1, r2, r3, r4⟩ := id e5
      simp only [Nat.zero_add, ev0] at r0 r1 r2 r3 r4
      have z0 := HF.out 0
      have z1 := HF.out 1
      have z2 := HF.out 2
      have z3 := HF.out 3
      have z4 := HF.out 4
      have b2 : Below w.heap.size w wr := (by repeat (first | exact Below.refl _ _ | assumption | (refine below_drewN ?_ _) | (refine Below.drew ?_) | (refine Below.alloc ?_ (by first | omega | (simp; omega) | simp) _) | (refine Below.setCell ?_ (by first | omega | (simp; omega) | simp) _) | (refine below_trans ?_ (by assumption) (by first | omega | (simp; omega) | simp))))
      go_wp2
      refine bodyPost_ret (res_ev2 rfl rfl (s := ev0) (e5.set5 ev0)) rfl ⟨ev0, false, rfl, HR.out, below_set5 ev0 b2 (Nat.le_refl _)⟩
end
end Go.Proofs.YtklbamkafldagaaDoor
