/- The walk of the law EphemMap. -/
import Derived.Test.YtkjpimhjmeigeaaDoorY24
namespace Go.Proofs.YtkjpimhjmeigeaaDoor
open Go.RowKit
set_option linter.unusedVariables false
set_option linter.unusedSimpArgs false

/-- a step: is a key deleted, which, else its value -/
structure Stp where
  d : Bool
  k : Nat
  v : Nat
def nthP (l : List Stp) (i : Nat) : Stp := l.getD i ⟨false, 0, 0⟩
def StpRow (w : World) (B : Nat) (A : Option Addr) (l : List Stp) : Prop :=
  0 < l.length → ∃ b off, A = some ⟨b, off, none⟩ ∧ b < B ∧ ∀ i, i < l.length → (nthP l i).k < W64 ∧ (nthP l i).v < W64 ∧ w.cell? ⟨b, off + i * 3, none⟩ = some (.bool (nthP l i).d) ∧ w.cell? ⟨b, off + i * 3 + 1, none⟩ = some (.int .u64 ((nthP l i).k : Nat)) ∧ w.cell? ⟨b, off + i * 3 + 2, none⟩ = some (.int .u64 ((nthP l i).v : Nat))
theorem StpRow.later {w w' : World} {A : Option Addr} {l : List Stp} (h : StpRow w w.heap.size A l) (hb : Below w.heap.size w w') : StpRow w' w'.heap.size A l := fun hl => by
  obtain ⟨b, off, e, hbb, hc⟩ := h hl
  refine ⟨b, off, e, Nat.lt_of_lt_of_le hbb hb.size, fun i hi => ?_⟩
  obtain ⟨a0, a1, c0, c1, c2⟩ := hc i hi
  exact ⟨a0, a1, ((bcell hb).1 _ _ hbb).trans c0, ((bcell hb).1 _ _ hbb).trans c1, ((bcell hb).1 _ _ hbb).trans c2⟩
/-- the box of a step -/
structure Sx (w : World) (b : Nat) (d : Bool) (k v : Nat) : Prop where
  c0 : w.cell? ⟨b, 0, none⟩ = some (.bool d)
  c1 : w.cell? ⟨b, 1, none⟩ = some (.int .u64 (k : Nat))
  c2 : w.cell? ⟨b, 2, none⟩ = some (.int .u64 (v : Nat))
theorem Sx.lt {w : World} {b k v : Nat} {d : Bool} (h : Sx w b d k v) : b < w.heap.size := World.block_lt_of_cell? w _ h.c0
theorem Sx.later {w w' : World} {b k v : Nat} {d : Bool} (h : Sx w b d k v) (hb : Below w.heap.size w w') : Sx w' b d k v := ⟨((bcell hb).1 _ _ h.lt).trans h.c0, ((bcell hb).1 _ _ h.lt).trans h.c1, ((bcell hb).1 _ _ h.lt).trans h.c2⟩
theorem Sx.new (w : World) (d : Bool) (k v : Nat) (t : TypeId) : Sx (w.alloc (.cells #[.bool d, .int .u64 (k : Nat), .int .u64 (v : Nat)] t)) w.heap.size d k v := ⟨by simp [go_sem], by simp [go_sem], by simp [go_sem]⟩
theorem Sx.alloc {w : World} {b k v : Nat} {d : Bool} (h : Sx w b d k v) (o : Obj) : Sx (w.alloc o) b d k v := h.later ((Below.refl _ _).alloc (Nat.le_refl _) _)
theorem getT_congr {l r : List Es} {key x : Nat} {y : Int} (hl : OkT l) (hr : OkT r) (h : ∀ v, Has r key v ↔ Has l key v) (hG : GetT l key x y) : GetT r key x y := by
  rcases hG.has hl with ⟨rfl, h2⟩ | ⟨h1, rfl, h3⟩
  · exact .of_has hr ((h _).2 h2)
  · rcases h1 with ⟨rfl, h0⟩ | ⟨rfl, h0⟩
    · exact .of_no hr h0 fun ⟨v, hv⟩ => h3 ⟨v, (h v).1 hv⟩
    · exact .inr (.inl ⟨hr, h0, rfl, rfl⟩)
theorem eall_len {w : World} {A : Option Addr} {l : List Es} (cap u : Nat) (hu : useds l = u) (hT : Tz w) (hr : ERow w w.heap.size A l) (hl : l.length ≤ 5864062014805) (hn : A = none → cap = 0) (hok : OkT l) :
    Calls Tryd.prog 19 #[eph A l.length cap] w fun e w' => ∃ (K V : Option Addr) (ck cv : Nat), e = .returned (.tuple #[.slice K u ck, .slice V u cv, .int .i64 0]) ∧ Below w.heap.size w w' := by
  refine (eall_rows cap hT hr hl hn hok).mono ?_
  rintro e w' ⟨vs, K, V, ck, cv, _, h, rfl, _, _, hb⟩
  exact ⟨K, V, ck, cv, by rw [h, hu], hb⟩
set_option maxHeartbeats 16000000 in
set_option maxRecDepth 100000 in
theorem ephemMap_walk (K : Option Addr) (ck : Nat) (ss : List Stp) (key : Nat) (w : World) (hT : Tz w) (hq : StpRow w w.heap.size K ss) (hkl : ss.length ≤ 17592186044416) (hkey : key < W64) :
    Calls Tryd.prog 5 #[.slice K ss.length ck, .int .u64 (key : Nat)] w fun e w' => e = .returned (.bool true) ∧ Below w.heap.size w w' := by
  have HP := Lib.hid fun (w : World) (A : Option Addr) (cap : Nat) (l : List Es) (key val : Nat) (r : List Es) (y : Int) hT hr hl hn hkey hval hE => eput_any (w := w) (A := A) (l := l) cap hT hr hl hn key val hkey hval r y hE
  have HD := Lib.hid fun (w : World) (A K : Option Addr) (cap : Nat) (l : List Es) (key : Nat) (r : List Es) (n : Nat) (y : Int) hT hr hl hn hq hE => edel_any (w := w) (A := A) (K := K) (l := l) (ks := [key]) cap 1 hT hr hl hn hq (by simp) r n y hE
  have HG := Lib.hid fun (w : World) (A : Option Addr) (cap : Nat) (l : List Es) (key v : Nat) (y : Int) hT hr hl hn hE => eget_any (w := w) (A := A) (l := l) cap hT hr hl hn key v y hE
  have HA := Lib.hid fun (w : World) (A : Option Addr) (cap : Nat) (l : List Es) (u : Nat) hu hT hr hl hn hok => eall_len (w := w) (A := A) (l := l) cap u hu hT hr hl hn hok
  have HC := Lib.hid fun (w : World) (A : Option Addr) (cap : Nat) (l : List Es) hT hr hl hn (hok : OkT l) => echeck_any (w := w) (A := A) (l := l) cap hT hr hl hn 0 (.inl ⟨hok, rfl⟩)
  have HN := Lib.hid fun (w : World) (g x : Nat) hg hx => row_oneG w g x hg hx
  unfold PutR at HP
  unfold DelR at HD
  simp only [List.length_cons, List.length_nil, Nat.zero_add] at HD
  unfold eph at *
  by_cases hz : key = 0
  · have HZ := Lib.hid hz
    have f0 : ((key : Int) == 0) = true := by rw [hz]; rfl
    have f9 : ((key : Int) != 0) = false := by rw [hz]; rfl
    have HG0 : Hid (GetT [] key 0 7) := Lib.hid (.inr (.inl ⟨okT_nil, hz, rfl, rfl⟩))
    clear hz
    go_enter Tryd.func5, Tryd.ntmps5
    go_wp2_with fail
    go_at_call 15
    refine (elives_any _ (hT.later (by repeat (first | exact Below.refl _ _ | assumption | (refine below_drewN ?_ _) | (refine Below.drew ?_) | (refine Below.alloc ?_ (by first | omega | (simp; omega) | simp) _) | (refine Below.setCell ?_ (by first | omega | (simp; omega) | simp) _) | (refine below_trans ?_ (by assumption) (by first | omega | (simp; omega) | simp)))))).mono ?_
    rintro e w1 ⟨rfl, hb_w1⟩
    obtain ⟨hc_w1, hf_w1⟩ := bcell hb_w1; have hs_w1 := hb_w1.size; (try simp only [World.size_alloc, World.size_setCell, World.size_drew, World.heap_drewN] at hs_w1)
    have b1 : Below w.heap.size w w1 := (by repeat (first | exact Below.refl _ _ | assumption | (refine below_drewN ?_ _) | (refine Below.drew ?_) | (refine Below.alloc ?_ (by first | omega | (simp; omega) | simp) _) | (refine Below.setCell ?_ (by first | omega | (simp; omega) | simp) _) | (refine below_trans ?_ (by assumption) (by first | omega | (simp; omega) | simp))))
    have P' := Lib.hid (Bx.new w1 (.slice none 0 0) 24)
    clear hc_w1 hf_w1
    go_wp2_with fail
    go_loopw [6, 7, 8, 30] (fun ww yy mm ii wr => ∃ (k : Nat) (A : Option Addr) (cap : Nat) (l : List Es) (x : Nat) (y : Int) (u : Nat), ii = .int .i64 (k : Nat) ∧ ww = .int .u64 (x : Nat) ∧ yy = .int .i64 y ∧ mm = .int .i64 (u : Nat) ∧ k ≤ ss.length ∧ k ≤ 60 ∧ ETab wr (w1.heap.size + 1) A cap l ∧ OkT l ∧ GetT l key x y ∧ Hid (useds l = u) ∧ Bx wr w1.heap.size (.slice A l.length cap) ∧ w1.heap.size + 1 ≤ wr.heap.size ∧ Below w.heap.size w wr) (fun ww yy mm ii _ => ss.length - (intOf ii).toNat)
    case atStart => exact ⟨0, none, 0, [], 0, 7, 0, rfl, rfl, rfl, rfl, Nat.zero_le _, Nat.zero_le _, ETab.nil _ _, okT_nil, HG0.out, Lib.hid rfl, P'.out, (by first | omega | (simp; omega) | simp), (by repeat (first | exact Below.refl _ _ | assumption | (refine below_drewN ?_ _) | (refine Below.drew ?_) | (refine Below.alloc ?_ (by first | omega | (simp; omega) | simp) _) | (refine Below.setCell ?_ (by first | omega | (simp; omega) | simp) _) | (refine below_trans ?_ (by assumption) (by first | omega | (simp; omega) | simp))))⟩
    case round =>
      clear P' hb_w1
      obtain ⟨k, A, cap, l, x, y, u, rfl, rfl, rfl, rfl, hk, hk60, eo, hok, hGl, hu, P, hsz, hb_wr⟩ := hrel
      have hsr := hb_wr.size
      have hl64 := hok.le
      have HU0 := Lib.hid hok
      have hnil := Lib.hid eo.nil_
      have er := Lib.hid eo.row
      have EO := Lib.hid eo
      have hGl := Lib.hid hGl
      have hu64 : u ≤ 64 := by have := useds_le l; have := hu.out; omega
      obtain ⟨p0, p1⟩ := id P
      have PH := Lib.hid P
      have pl := P.lt
      clear P eo hok
      have n1 : ¬ (w1.heap.size = wr.heap.size) := by omega
      have n2 : ¬ (wr.heap.size = w1.heap.size) := by omega
      by_cases hgo : k < ss.length ∧ k ≠ 60
      · obtain ⟨hlt, hne⟩ := hgo
        obtain ⟨b, off, rfl, hbb, hcc⟩ := (hq.later hb_wr) (by omega)
        obtain ⟨hsk, hsv, s0, s1, s2⟩ := hcc k hlt
        have i1 : (k : Int) < (ss.length : Int) := by omega
        have i2 : (0 : Int) ≤ (k : Int) := by omega
        have f60 : ((k : Int) == 60) = false := by rw [beq_eq_false_iff_ne]; omega
        clear hcc
        have HNE := Lib.hid hne
        clear hne
        generalize nthP ss k = sx at *
        obtain ⟨sd, sk, sv⟩ := sx
        simp only at hsk hsv s0 s1 s2
        cases sd with
        | true =>
          obtain ⟨r, m, y1, hE⟩ := DelT.ex l [sk]
          obtain ⟨hd, rfl⟩ := hE.ok HU0.out
          have HDK := Lib.hid fun (w : World) (A K : Option Addr) (cap : Nat) hT hr hn hq => HD.out w A K cap l sk r m 0 hT hr (by omega) hn hq hE
          have HOK := Lib.hid hd.okr
          have hm : (m = 1 ∧ ∃ u', u = u' + 1 ∧ Hid (useds r = u')) ∨ (m = 0 ∧ Hid (useds r = u)) := by
            by_cases hh : ∃ v, Has l sk v
            · obtain ⟨a, b⟩ := hd.hit hh
              exact .inl ⟨a, useds r, by have := hu.out; omega, Lib.hid rfl⟩
            · obtain ⟨a, b⟩ := hd.miss hh
              exact .inr ⟨a, Lib.hid (by have := hu.out; omega)⟩
          have hcase : (((sk : Int) == (key : Int)) = true ∧ Hid (GetT r key x y)) ∨ (((sk : Int) == (key : Int)) = false ∧ Hid (GetT r key x y)) := by
            by_cases he : sk = key
            · subst he
              refine .inl ⟨by simp, Lib.hid (getT_congr HU0.out hd.okr (fun v => ⟨fun h => absurd HZ.out (hd.okr.hk0 h), fun h => absurd HZ.out (HU0.out.hk0 h)⟩) hGl.out)⟩
            · exact .inr ⟨by rw [beq_eq_false_iff_ne]; omega, Lib.hid (getT_congr HU0.out hd.okr (fun v => by rw [hd.has]; exact ⟨fun h => h.2, fun h => ⟨fun e => he e.symm, h⟩⟩) hGl.out)⟩
          clear hE hd
          rcases hm with ⟨rfl, un, rfl, hun⟩ | ⟨rfl, hun⟩
          · rcases hcase with ⟨f1, hGn⟩ | ⟨f1, hGn⟩
            · skip
              go_wp2_with fail
              go_at_call 13
              refine (HDK.out _ _ _ _ (hT.later (by repeat (first | exact Below.refl _ _ | assumption | (refine below_drewN ?_ _) | (refine Below.drew ?_) | (refine Below.alloc ?_ (by first | omega | (simp; omega) | simp) _) | (refine Below.setCell ?_ (by first | omega | (simp; omega) | simp) _) | (refine below_trans ?_ (by assumption) (by first | omega | (simp; omega) | simp))))) (er.out.later (by repeat (first | exact Below.refl _ _ | assumption | (refine below_drewN ?_ _) | (refine Below.drew ?_) | (refine Below.alloc ?_ (by first | omega | (simp; omega) | simp) _) | (refine Below.setCell ?_ (by first | omega | (simp; omega) | simp) _) | (refine below_trans ?_ (by assumption) (by first | omega | (simp; omega) | simp))))) hnil.out (by exact HN.out _ _ _ (by simp) hsk)).mono ?_
              rintro e w3 ⟨B2, c2, rfl, o2, hb_w3⟩
              obtain ⟨hc_w3, hf_w3⟩ := bcell hb_w3; have hz_w3_wr_0 : wr.heap.size < w3.heap.size := (by have hzz := hb_w3.size; (try simp only [World.size_alloc, World.size_setCell, World.size_drew, World.heap_drewN] at hzz); omega); have hz_w3_wr_1 : wr.heap.size + 1 < w3.heap.size := (by have hzz := hb_w3.size; (try simp only [World.size_alloc, World.size_setCell, World.size_drew, World.heap_drewN] at hzz); omega); have hs_w3 := hb_w3.size; (try simp only [World.size_alloc, World.size_setCell, World.size_drew, World.heap_drewN] at hs_w3)
              have b3 : Below wr.heap.size wr w3 := (by repeat (first | exact Below.refl _ _ | assumption | (refine below_drewN ?_ _) | (refine Below.drew ?_) | (refine Below.alloc ?_ (by first | omega | (simp; omega) | simp) _) | (refine Below.setCell ?_ (by first | omega | (simp; omega) | simp) _) | (refine below_trans ?_ (by assumption) (by first | omega | (simp; omega) | simp))))
              have P3 := (PH.out.later b3 : Bx w3 _ _)
              have S3 := (((Sx.new wr true sk sv 47).alloc _).later hb_w3 : Sx w3 _ _ _ _)
              have p3l := P3.lt
              have s3l := S3.lt
              have P9 := Lib.hid ((P3.set (.slice B2 r.length c2)).alloc (.cells #[.slice B2 r.length c2] 24))
              have O9 := Lib.hid (((o2.mono (B' := w1.heap.size + 1) (by first | omega | (simp; omega))).far (p := ⟨w1.heap.size, 0, none⟩) (by show w1.heap.size < _; omega) (.slice B2 r.length c2)).later ((Below.refl _ _).alloc (Nat.le_refl _) (.cells #[.slice B2 r.length c2] 24)))
              obtain ⟨p30, p31⟩ := P3
              obtain ⟨s30, s31, s32⟩ := S3
              clear hc_w3 hf_w3 o2
              have hlr : r.length ≤ 64 := HOK.out.le
              have HGN := Lib.hid fun (w : World) (A : Option Addr) (cap : Nat) hT hr hn => HG.out w A cap r key x y hT hr (by omega) hn hGn.out
              have HAN := Lib.hid fun (w : World) (A : Option Addr) (cap : Nat) hT hr hn => HA.out w A cap r un hun.out hT hr (by omega) hn HOK.out
              have HCN := Lib.hid fun (w : World) (A : Option Addr) (cap : Nat) hT hr hn => HC.out w A cap r hT hr (by omega) hn HOK.out
              have hn9 := Lib.hid O9.out.nil_
              have p90 := P9.out.c
              go_wp2_with fail
              go_at_call 17
              refine (HGN.out _ _ _ (hT.later (by repeat (first | exact Below.refl _ _ | assumption | (refine below_drewN ?_ _) | (refine Below.drew ?_) | (refine Below.alloc ?_ (by first | omega | (simp; omega) | simp) _) | (refine Below.setCell ?_ (by first | omega | (simp; omega) | simp) _) | (refine below_trans ?_ (by assumption) (by first | omega | (simp; omega) | simp))))) (O9.out.row.later (by repeat (first | exact Below.refl _ _ | assumption | (refine below_drewN ?_ _) | (refine Below.drew ?_) | (refine Below.alloc ?_ (by first | omega | (simp; omega) | simp) _) | (refine Below.setCell ?_ (by first | omega | (simp; omega) | simp) _) | (refine below_trans ?_ (by assumption) (by first | omega | (simp; omega) | simp))))) hn9.out).mono ?_
              rintro e w5 ⟨rfl, hb_w5⟩
              obtain ⟨hc_w5, hf_w5⟩ := bcell hb_w5; have hz_w5_w3_0 : w3.heap.size < w5.heap.size := (by have hzz := hb_w5.size; (try simp only [World.size_alloc, World.size_setCell, World.size_drew, World.heap_drewN] at hzz); omega); have hs_w5 := hb_w5.size; (try simp only [World.size_alloc, World.size_setCell, World.size_drew, World.heap_drewN] at hs_w5)
              have P5 := Lib.hid (P9.out.later hb_w5 : Bx w5 _ _)
              have O5 := Lib.hid (O9.out.later hb_w5)
              have p50 := P5.out.c
              clear hc_w5 hf_w5
              go_wp2_with fail
              go_at_call 19
              refine (HAN.out _ _ _ (hT.later (by repeat (first | exact Below.refl _ _ | assumption | (refine below_drewN ?_ _) | (refine Below.drew ?_) | (refine Below.alloc ?_ (by first | omega | (simp; omega) | simp) _) | (refine Below.setCell ?_ (by first | omega | (simp; omega) | simp) _) | (refine below_trans ?_ (by assumption) (by first | omega | (simp; omega) | simp))))) (O5.out.row.later (by repeat (first | exact Below.refl _ _ | assumption | (refine below_drewN ?_ _) | (refine Below.drew ?_) | (refine Below.alloc ?_ (by first | omega | (simp; omega) | simp) _) | (refine Below.setCell ?_ (by first | omega | (simp; omega) | simp) _) | (refine below_trans ?_ (by assumption) (by first | omega | (simp; omega) | simp))))) hn9.out).mono ?_
              rintro e w6 ⟨Kk, Vv, ck2, cv2, rfl, hb_w6⟩
              obtain ⟨hc_w6, hf_w6⟩ := bcell hb_w6; have hs_w6 := hb_w6.size; (try simp only [World.size_alloc, World.size_setCell, World.size_drew, World.heap_drewN] at hs_w6)
              have P6 := Lib.hid (P5.out.later hb_w6 : Bx w6 _ _)
              have O6 := Lib.hid (O5.out.later hb_w6)
              have p60 := P6.out.c
              clear hc_w6 hf_w6
              go_wp2_with fail
              go_at_call 24
              refine (HCN.out _ _ _ (hT.later (by repeat (first | exact Below.refl _ _ | assumption | (refine below_drewN ?_ _) | (refine Below.drew ?_) | (refine Below.alloc ?_ (by first | omega | (simp; omega) | simp) _) | (refine Below.setCell ?_ (by first | omega | (simp; omega) | simp) _) | (refine below_trans ?_ (by assumption) (by first | omega | (simp; omega) | simp))))) (O6.out.row.later (by repeat (first | exact Below.refl _ _ | assumption | (refine below_drewN ?_ _) | (refine Below.drew ?_) | (refine Below.alloc ?_ (by first | omega | (simp; omega) | simp) _) | (refine Below.setCell ?_ (by first | omega | (simp; omega) | simp) _) | (refine below_trans ?_ (by assumption) (by first | omega | (simp; omega) | simp))))) hn9.out).mono ?_
              rintro e w7 ⟨rfl, hb_w7⟩
              obtain ⟨hc_w7, hf_w7⟩ := bcell hb_w7; have hs_w7 := hb_w7.size; (try simp only [World.size_alloc, World.size_setCell, World.size_drew, World.heap_drewN] at hs_w7)
              have P7 := Lib.hid (P6.out.later hb_w7 : Bx w7 _ _)
              have O7 := Lib.hid (O6.out.later hb_w7)
              clear hc_w7 hf_w7
              go_wp2
              go_roundw
              case rel => exact ⟨k + 1, B2, c2, r, x, y, un, by go_num, rfl, rfl, by first | rfl | go_num, by omega, by have := HNE.out; omega, O7.out, HOK.out, hGn.out, Lib.hid hun.out, P7.out, (by first | omega | (simp; omega) | simp), (by repeat (first | exact Below.refl _ _ | assumption | (refine below_drewN ?_ _) | (refine Below.drew ?_) | (refine Below.alloc ?_ (by first | omega | (simp; omega) | simp) _) | (refine Below.setCell ?_ (by first | omega | (simp; omega) | simp) _) | (refine below_trans ?_ (by assumption) (by first | omega | (simp; omega) | simp))))⟩
              case measure => simp [intOf]; omega
            · skip
              go_wp2_with fail
              go_at_call 13
              refine (HDK.out _ _ _ _ (hT.later (by repeat (first | exact Below.refl _ _ | assumption | (refine below_drewN ?_ _) | (refine Below.drew ?_) | (refine Below.alloc ?_ (by first | omega | (simp; omega) | simp) _) | (refine Below.setCell ?_ (by first | omega | (simp; omega) | simp) _) | (refine below_trans ?_ (by assumption) (by first | omega | (simp; omega) | simp))))) (er.out.later (by repeat (first | exact Below.refl _ _ | assumption | (refine below_drewN ?_ _) | (refine Below.drew ?_) | (refine Below.alloc ?_ (by first | omega | (simp; omega) | simp) _) | (refine Below.setCell ?_ (by first | omega | (simp; omega) | simp) _) | (refine below_trans ?_ (by assumption) (by first | omega | (simp; omega) | simp))))) hnil.out (by exact HN.out _ _ _ (by simp) hsk)).mono ?_
              rintro e w3 ⟨B2, c2, rfl, o2, hb_w3⟩
              obtain ⟨hc_w3, hf_w3⟩ := bcell hb_w3; have hz_w3_wr_0 : wr.heap.size < w3.heap.size := (by have hzz := hb_w3.size; (try simp only [World.size_alloc, World.size_setCell, World.size_drew, World.heap_drewN] at hzz); omega); have hz_w3_wr_1 : wr.heap.size + 1 < w3.heap.size := (by have hzz := hb_w3.size; (try simp only [World.size_alloc, World.size_setCell, World.size_drew, World.heap_drewN] at hzz); omega); have hs_w3 := hb_w3.size; (try simp only [World.size_alloc, World.size_setCell, World.size_drew, World.heap_drewN] at hs_w3)
              have b3 : Below wr.heap.size wr w3 := (by repeat (first | exact Below.refl _ _ | assumption | (refine below_drewN ?_ _) | (refine Below.drew ?_) | (refine Below.alloc ?_ (by first | omega | (simp; omega) | simp) _) | (refine Below.setCell ?_ (by first | omega | (simp; omega) | simp) _) | (refine below_trans ?_ (by assumption) (by first | omega | (simp; omega) | simp))))
              have P3 := (PH.out.later b3 : Bx w3 _ _)
              have S3 := (((Sx.new wr true sk sv 47).alloc _).later hb_w3 : Sx w3 _ _ _ _)
              have p3l := P3.lt
              have s3l := S3.lt
              have P9 := Lib.hid ((P3.set (.slice B2 r.length c2)).alloc (.cells #[.slice B2 r.length c2] 24))
              have O9 := Lib.hid (((o2.mono (B' := w1.heap.size + 1) (by first | omega | (simp; omega))).far (p := ⟨w1.heap.size, 0, none⟩) (by show w1.heap.size < _; omega) (.slice B2 r.length c2)).later ((Below.refl _ _).alloc (Nat.le_refl _) (.cells #[.slice B2 r.length c2] 24)))
              obtain ⟨p30, p31⟩ := P3
              obtain ⟨s30, s31, s32⟩ := S3
              clear hc_w3 hf_w3 o2
              have hlr : r.length ≤ 64 := HOK.out.le
              have HGN := Lib.hid fun (w : World) (A : Option Addr) (cap : Nat) hT hr hn => HG.out w A cap r key x y hT hr (by omega) hn hGn.out
              have HAN := Lib.hid fun (w : World) (A : Option Addr) (cap : Nat) hT hr hn => HA.out w A cap r un hun.out hT hr (by omega) hn HOK.out
              have HCN := Lib.hid fun (w : World) (A : Option Addr) (cap : Nat) hT hr hn => HC.out w A cap r hT hr (by omega) hn HOK.out
              have hn9 := Lib.hid O9.out.nil_
              have p90 := P9.out.c
              go_wp2_with fail
              go_at_call 17
              refine (HGN.out _ _ _ (hT.later (by repeat (first | exact Below.refl _ _ | assumption | (refine below_drewN ?_ _) | (refine Below.drew ?_) | (refine Below.alloc ?_ (by first | omega | (simp; omega) | simp) _) | (refine Below.setCell ?_ (by first | omega | (simp; omega) | simp) _) | (refine below_trans ?_ (by assumption) (by first | omega | (simp; omega) | simp))))) (O9.out.row.later (by repeat (first | exact Below.refl _ _ | assumption | (refine below_drewN ?_ _) | (refine Below.drew ?_) | (refine Below.alloc ?_ (by first | omega | (simp; omega) | simp) _) | (refine Below.setCell ?_ (by first | omega | (simp; omega) | simp) _) | (refine below_trans ?_ (by assumption) (by first | omega | (simp; omega) | simp))))) hn9.out).mono ?_
              rintro e w5 ⟨rfl, hb_w5⟩
              obtain ⟨hc_w5, hf_w5⟩ := bcell hb_w5; have hz_w5_w3_0 : w3.heap.size < w5.heap.size := (by have hzz := hb_w5.size; (try simp only [World.size_alloc, World.size_setCell, World.size_drew, World.heap_drewN] at hzz); omega); have hs_w5 := hb_w5.size; (try simp only [World.size_alloc, World.size_setCell, World.size_drew, World.heap_drewN] at hs_w5)
              have P5 := Lib.hid (P9.out.later hb_w5 : Bx w5 _ _)
              have O5 := Lib.hid (O9.out.later hb_w5)
              have p50 := P5.out.c
              clear hc_w5 hf_w5
              go_wp2_with fail
              go_at_call 19
              refine (HAN.out _ _ _ (hT.later (by repeat (first | exact Below.refl _ _ | assumption | (refine below_drewN ?_ _) | (refine Below.drew ?_) | (refine Below.alloc ?_ (by first | omega | (simp; omega) | simp) _) | (refine Below.setCell ?_ (by first | omega | (simp; omega) | simp) _) | (refine below_trans ?_ (by assumption) (by first | omega | (simp; omega) | simp))))) (O5.out.row.later (by repeat (first | exact Below.refl _ _ | assumption | (refine below_drewN ?_ _) | (refine Below.drew ?_) | (refine Below.alloc ?_ (by first | omega | (simp; omega) | simp) _) | (refine Below.setCell ?_ (by first | omega | (simp; omega) | simp) _) | (refine below_trans ?_ (by assumption) (by first | omega | (simp; omega) | simp))))) hn9.out).mono ?_
              rintro e w6 ⟨Kk, Vv, ck2, cv2, rfl, hb_w6⟩
              obtain ⟨hc_w6, hf_w6⟩ := bcell hb_w6; have hs_w6 := hb_w6.size; (try simp only [World.size_alloc, World.size_setCell, World.size_drew, World.heap_drewN] at hs_w6)
              have P6 := Lib.hid (P5.out.later hb_w6 : Bx w6 _ _)
              have O6 := Lib.hid (O5.out.later hb_w6)
              have p60 := P6.out.c
              clear hc_w6 hf_w6
              go_wp2_with fail
              go_at_call 24
              refine (HCN.out _ _ _ (hT.later (by repeat (first | exact Below.refl _ _ | assumption | (refine below_drewN ?_ _) | (refine Below.drew ?_) | (refine Below.alloc ?_ (by first | omega | (simp; omega) | simp) _) | (refine Below.setCell ?_ (by first | omega | (simp; omega) | simp) _) | (refine below_trans ?_ (by assumption) (by first | omega | (simp; omega) | simp))))) (O6.out.row.later (by repeat (first | exact Below.refl _ _ | assumption | (refine below_drewN ?_ _) | (refine Below.drew ?_) | (refine Below.alloc ?_ (by first | omega | (simp; omega) | simp) _) | (refine Below.setCell ?_ (by first | omega | (simp; omega) | simp) _) | (refine below_trans ?_ (by assumption) (by first | omega | (simp; omega) | simp))))) hn9.out).mono ?_
              rintro e w7 ⟨rfl, hb_w7⟩
              obtain ⟨hc_w7, hf_w7⟩ := bcell hb_w7; have hs_w7 := hb_w7.size; (try simp only [World.size_alloc, World.size_setCell, World.size_drew, World.heap_drewN] at hs_w7)
              have P7 := Lib.hid (P6.out.later hb_w7 : Bx w7 _ _)
              have O7 := Lib.hid (O6.out.later hb_w7)
              clear hc_w7 hf_w7
              go_wp2
              go_roundw
              case rel => exact ⟨k + 1, B2, c2, r, x, y, un, by go_num, rfl, rfl, by first | rfl | go_num, by omega, by have := HNE.out; omega, O7.out, HOK.out, hGn.out, Lib.hid hun.out, P7.out, (by first | omega | (simp; omega) | simp), (by repeat (first | exact Below.refl _ _ | assumption | (refine below_drewN ?_ _) | (refine Below.drew ?_) | (refine Below.alloc ?_ (by first | omega | (simp; omega) | simp) _) | (refine Below.setCell ?_ (by first | omega | (simp; omega) | simp) _) | (refine below_trans ?_ (by assumption) (by first | omega | (simp; omega) | simp))))⟩
              case measure => simp [intOf]; omega
          · rcases hcase with ⟨f1, hGn⟩ | ⟨f1, hGn⟩
            · skip
              go_wp2_with fail
              go_at_call 13
              refine (HDK.out _ _ _ _ (hT.later (by repeat (first | exact Below.refl _ _ | assumption | (refine below_drewN ?_ _) | (refine Below.drew ?_) | (refine Below.alloc ?_ (by first | omega | (simp; omega) | simp) _) | (refine Below.setCell ?_ (by first | omega | (simp; omega) | simp) _) | (refine below_trans ?_ (by assumption) (by first | omega | (simp; omega) | simp))))) (er.out.later (by repeat (first | exact Below.refl _ _ | assumption | (refine below_drewN ?_ _) | (refine Below.drew ?_) | (refine Below.alloc ?_ (by first | omega | (simp; omega) | simp) _) | (refine Below.setCell ?_ (by first | omega | (simp; omega) | simp) _) | (refine below_trans ?_ (by assumption) (by first | omega | (simp; omega) | simp))))) hnil.out (by exact HN.out _ _ _ (by simp) hsk)).mono ?_
              rintro e w3 ⟨B2, c2, rfl, o2, hb_w3⟩
              obtain ⟨hc_w3, hf_w3⟩ := bcell hb_w3; have hz_w3_wr_0 : wr.heap.size < w3.heap.size := (by have hzz := hb_w3.size; (try simp only [World.size_alloc, World.size_setCell, World.size_drew, World.heap_drewN] at hzz); omega); have hz_w3_wr_1 : wr.heap.size + 1 < w3.heap.size := (by have hzz := hb_w3.size; (try simp only [World.size_alloc, World.size_setCell, World.size_drew, World.heap_drewN] at hzz); omega); have hs_w3 := hb_w3.size; (try simp only [World.size_alloc, World.size_setCell, World.size_drew, World.heap_drewN] at hs_w3)
              have b3 : Below wr.heap.size wr w3 := (by repeat (first | exact Below.refl _ _ | assumption | (refine below_drewN ?_ _) | (refine Below.drew ?_) | (refine Below.alloc ?_ (by first | omega | (simp; omega) | simp) _) | (refine Below.setCell ?_ (by first | omega | (simp; omega) | simp) _) | (refine below_trans ?_ (by assumption) (by first | omega | (simp; omega) | simp))))
              have P3 := (PH.out.later b3 : Bx w3 _ _)
              have S3 := (((Sx.new wr true sk sv 47).alloc _).later hb_w3 : Sx w3 _ _ _ _)
              have p3l := P3.lt
              have s3l := S3.lt
              have P9 := Lib.hid ((P3.set (.slice B2 r.length c2)).alloc (.cells #[.slice B2 r.length c2] 24))
              have O9 := Lib.hid (((o2.mono (B' := w1.heap.size + 1) (by first | omega | (simp; omega))).far (p := ⟨w1.heap.size, 0, none⟩) (by show w1.heap.size < _; omega) (.slice B2 r.length c2)).later ((Below.refl _ _).alloc (Nat.le_refl _) (.cells #[.slice B2 r.length c2] 24)))
              obtain ⟨p30, p31⟩ := P3
              obtain ⟨s30, s31, s32⟩ := S3
              clear hc_w3 hf_w3 o2
              have hlr : r.length ≤ 64 := HOK.out.le
              have HGN := Lib.hid fun (w : World) (A : Option Addr) (cap : Nat) hT hr hn => HG.out w A cap r key x y hT hr (by omega) hn hGn.out
              have HAN := Lib.hid fun (w : World) (A : Option Addr) (cap : Nat) hT hr hn => HA.out w A cap r u hun.out hT hr (by omega) hn HOK.out
              have HCN := Lib.hid fun (w : World) (A : Option Addr) (cap : Nat) hT hr hn => HC.out w A cap r hT hr (by omega) hn HOK.out
              have hn9 := Lib.hid O9.out.nil_
              have p90 := P9.out.c
              go_wp2_with fail
              go_at_call 17
              refine (HGN.out _ _ _ (hT.later (by repeat (first | exact Below.refl _ _ | assumption | (refine below_drewN ?_ _) | (refine Below.drew ?_) | (refine Below.alloc ?_ (by first | omega | (simp; omega) | simp) _) | (refine Below.setCell ?_ (by first | omega | (simp; omega) | simp) _) | (refine below_trans ?_ (by assumption) (by first | omega | (simp; omega) | simp))))) (O9.out.row.later (by repeat (first | exact Below.refl _ _ | assumption | (refine below_drewN ?_ _) | (refine Below.drew ?_) | (refine Below.alloc ?_ (by first | omega | (simp; omega) | simp) _) | (refine Below.setCell ?_ (by first | omega | (simp; omega) | simp) _) | (refine below_trans ?_ (by assumption) (by first | omega | (simp; omega) | simp))))) hn9.out).mono ?_
              rintro e w5 ⟨rfl, hb_w5⟩
              obtain ⟨hc_w5, hf_w5⟩ := bcell hb_w5; have hz_w5_w3_0 : w3.heap.size < w5.heap.size := (by have hzz := hb_w5.size; (try simp only [World.size_alloc, World.size_setCell, World.size_drew, World.heap_drewN] at hzz); omega); have hs_w5 := hb_w5.size; (try simp only [World.size_alloc, World.size_setCell, World.size_drew, World.heap_drewN] at hs_w5)
              have P5 := Lib.hid (P9.out.later hb_w5 : Bx w5 _ _)
              have O5 := Lib.hid (O9.out.later hb_w5)
              have p50 := P5.out.c
              clear hc_w5 hf_w5
              go_wp2_with fail
              go_at_call 19
              refine (HAN.out _ _ _ (hT.later (by repeat (first | exact Below.refl _ _ | assumption | (refine below_drewN ?_ _) | (refine Below.drew ?_) | (refine Below.alloc ?_ (by first | omega | (simp; omega) | simp) _) | (refine Below.setCell ?_ (by first | omega | (simp; omega) | simp) _) | (refine below_trans ?_ (by assumption) (by first | omega | (simp; omega) | simp))))) (O5.out.row.later (by repeat (first | exact Below.refl _ _ | assumption | (refine below_drewN ?_ _) | (refine Below.drew ?_) | (refine Below.alloc ?_ (by first | omega | (simp; omega) | simp) _) | (refine Below.setCell ?_ (by first | omega | (simp; omega) | simp) _) | (refine below_trans ?_ (by assumption) (by first | omega | (simp; omega) | simp))))) hn9.out).mono ?_
              rintro e w6 ⟨Kk, Vv, ck2, cv2, rfl, hb_w6⟩
              obtain ⟨hc_w6, hf_w6⟩ := bcell hb_w6; have hs_w6 := hb_w6.size; (try simp only [World.size_alloc, World.size_setCell, World.size_drew, World.heap_drewN] at hs_w6)
              have P6 := Lib.hid (P5.out.later hb_w6 : Bx w6 _ _)
              have O6 := Lib.hid (O5.out.later hb_w6)
              have p60 := P6.out.c
              clear hc_w6 hf_w6
              go_wp2_with fail
              go_at_call 24
              refine (HCN.out _ _ _ (hT.later (by repeat (first | exact Below.refl _ _ | assumption | (refine below_drewN ?_ _) | (refine Below.drew ?_) | (refine Below.alloc ?_ (by first | omega | (simp; omega) | simp) _) | (refine Below.setCell ?_ (by first | omega | (simp; omega) | simp) _) | (refine below_trans ?_ (by assumption) (by first | omega | (simp; omega) | simp))))) (O6.out.row.later (by repeat (first | exact Below.refl _ _ | assumption | (refine below_drewN ?_ _) | (refine Below.drew ?_) | (refine Below.alloc ?_ (by first | omega | (simp; omega) | simp) _) | (refine Below.setCell ?_ (by first | omega | (simp; omega) | simp) _) | (refine below_trans ?_ (by assumption) (by first | omega | (simp; omega) | simp))))) hn9.out).mono ?_
              rintro e w7 ⟨rfl, hb_w7⟩
              obtain ⟨hc_w7, hf_w7⟩ := bcell hb_w7; have hs_w7 := hb_w7.size; (try simp only [World.size_alloc, World.size_setCell, World.size_drew, World.heap_drewN] at hs_w7)
              have P7 := Lib.hid (P6.out.later hb_w7 : Bx w7 _ _)
              have O7 := Lib.hid (O6.out.later hb_w7)
              clear hc_w7 hf_w7
              go_wp2
              go_roundw
              case rel => exact ⟨k + 1, B2, c2, r, x, y, u, by go_num, rfl, rfl, by first | rfl | go_num, by omega, by have := HNE.out; omega, O7.out, HOK.out, hGn.out, Lib.hid hun.out, P7.out, (by first | omega | (simp; omega) | simp), (by repeat (first | exact Below.refl _ _ | assumption | (refine below_drewN ?_ _) | (refine Below.drew ?_) | (refine Below.alloc ?_ (by first | omega | (simp; omega) | simp) _) | (refine Below.setCell ?_ (by first | omega | (simp; omega) | simp) _) | (refine below_trans ?_ (by assumption) (by first | omega | (simp; omega) | simp))))⟩
              case measure => simp [intOf]; omega
            · skip
              go_wp2_with fail
              go_at_call 13
              refine (HDK.out _ _ _ _ (hT.later (by repeat (first | exact Below.refl _ _ | assumption | (refine below_drewN ?_ _) | (refine Below.drew ?_) | (refine Below.alloc ?_ (by first | omega | (simp; omega) | simp) _) | (refine Below.setCell ?_ (by first | omega | (simp; omega) | simp) _) | (refine below_trans ?_ (by assumption) (by first | omega | (simp; omega) | simp))))) (er.out.later (by repeat (first | exact Below.refl _ _ | assumption | (refine below_drewN ?_ _) | (refine Below.drew ?_) | (refine Below.alloc ?_ (by first | omega | (simp; omega) | simp) _) | (refine Below.setCell ?_ (by first | omega | (simp; omega) | simp) _) | (refine below_trans ?_ (by assumption) (by first | omega | (simp; omega) | simp))))) hnil.out (by exact HN.out _ _ _ (by simp) hsk)).mono ?_
              rintro e w3 ⟨B2, c2, rfl, o2, hb_w3⟩
              obtain ⟨hc_w3, hf_w3⟩ := bcell hb_w3; have hz_w3_wr_0 : wr.heap.size < w3.heap.size := (by have hzz := hb_w3.size; (try simp only [World.size_alloc, World.size_setCell, World.size_drew, World.heap_drewN] at hzz); omega); have hz_w3_wr_1 : wr.heap.size + 1 < w3.heap.size := (by have hzz := hb_w3.size; (try simp only [World.size_alloc, World.size_setCell, World.size_drew, World.heap_drewN] at hzz); omega); have hs_w3 := hb_w3.size; (try simp only [World.size_alloc, World.size_setCell, World.size_drew, World.heap_drewN] at hs_w3)
              have b3 : Below wr.heap.size wr w3 := (by repeat (first | exact Below.refl _ _ | assumption | (refine below_drewN ?_ _) | (refine Below.drew ?_) | (refine Below.alloc ?_ (by first | omega | (simp; omega) | simp) _) | (refine Below.setCell ?_ (by first | omega | (simp; omega) | simp) _) | (refine below_trans ?_ (by assumption) (by first | omega | (simp; omega) | simp))))
              have P3 := (PH.out.later b3 : Bx w3 _ _)
              have S3 := (((Sx.new wr true sk sv 47).alloc _).later hb_w3 : Sx w3 _ _ _ _)
              have p3l := P3.lt
              have s3l := S3.lt
              have P9 := Lib.hid ((P3.set (.slice B2 r.length c2)).alloc (.cells #[.slice B2 r.length c2] 24))
              have O9 := Lib.hid (((o2.mono (B' := w1.heap.size + 1) (by first | omega | (simp; omega))).far (p := ⟨w1.heap.size, 0, none⟩) (by show w1.heap.size < _; omega) (.slice B2 r.length c2)).later ((Below.refl _ _).alloc (Nat.le_refl _) (.cells #[.slice B2 r.length c2] 24)))
              obtain ⟨p30, p31⟩ := P3
              obtain ⟨s30, s31, s32⟩ := S3
              clear hc_w3 hf_w3 o2
              have hlr : r.length ≤ 64 := HOK.out.le
              have HGN := Lib.hid fun (w : World) (A : Option Addr) (cap : Nat) hT hr hn => HG.out w A cap r key x y hT hr (by omega) hn hGn.out
              have HAN := Lib.hid fun (w : World) (A : Option Addr) (cap : Nat) hT hr hn => HA.out w A cap r u hun.out hT hr (by omega) hn HOK.out
              have HCN := Lib.hid fun (w : World) (A : Option Addr) (cap : Nat) hT hr hn => HC.out w A cap r hT hr (by omega) hn HOK.out
              have hn9 := Lib.hid O9.out.nil_
              have p90 := P9.out.c
              go_wp2_with fail
              go_at_call 17
              refine (HGN.out _ _ _ (hT.later (by repeat (first | exact Below.refl _ _ | assumption | (refine below_drewN ?_ _) | (refine Below.drew ?_) | (refine Below.alloc ?_ (by first | omega | (simp; omega) | simp) _) | (refine Below.setCell ?_ (by first | omega | (simp; omega) | simp) _) | (refine below_trans ?_ (by assumption) (by first | omega | (simp; omega) | simp))))) (O9.out.row.later (by repeat (first | exact Below.refl _ _ | assumption | (refine below_drewN ?_ _) | (refine Below.drew ?_) | (refine Below.alloc ?_ (by first | omega | (simp; omega) | simp) _) | (refine Below.setCell ?_ (by first | omega | (simp; omega) | simp) _) | (refine below_trans ?_ (by assumption) (by first | omega | (simp; omega) | simp))))) hn9.out).mono ?_
              rintro e w5 ⟨rfl, hb_w5⟩
              obtain ⟨hc_w5, hf_w5⟩ := bcell hb_w5; have hz_w5_w3_0 : w3.heap.size < w5.heap.size := (by have hzz := hb_w5.size; (try simp only [World.size_alloc, World.size_setCell, World.size_drew, World.heap_drewN] at hzz); omega); have hs_w5 := hb_w5.size; (try simp only [World.size_alloc, World.size_setCell, World.size_drew, World.heap_drewN] at hs_w5)
              have P5 := Lib.hid (P9.out.later hb_w5 : Bx w5 _ _)
              have O5 := Lib.hid (O9.out.later hb_w5)
              have p50 := P5.out.c
              clear hc_w5 hf_w5
              go_wp2_with fail
              go_at_call 19
              refine (HAN.out _ _ _ (hT.later (by repeat (first | exact Below.refl _ _ | assumption | (refine below_drewN ?_ _) | (refine Below.drew ?_) | (refine Below.alloc ?_ (by first | omega | (simp; omega) | simp) _) | (refine Below.setCell ?_ (by first | omega | (simp; omega) | simp) _) | (refine below_trans ?_ (by assumption) (by first | omega | (simp; omega) | simp))))) (O5.out.row.later (by repeat (first | exact Below.refl _ _ | assumption | (refine below_drewN ?_ _) | (refine Below.drew ?_) | (refine Below.alloc ?_ (by first | omega | (simp; omega) | simp) _) | (refine Below.setCell ?_ (by first | omega | (simp; omega) | simp) _) | (refine below_trans ?_ (by assumption) (by first | omega | (simp; omega) | simp))))) hn9.out).mono ?_
              rintro e w6 ⟨Kk, Vv, ck2, cv2, rfl, hb_w6⟩
              obtain ⟨hc_w6, hf_w6⟩ := bcell hb_w6; have hs_w6 := hb_w6.size; (try simp only [World.size_alloc, World.size_setCell, World.size_drew, World.heap_drewN] at hs_w6)
              have P6 := Lib.hid (P5.out.later hb_w6 : Bx w6 _ _)
              have O6 := Lib.hid (O5.out.later hb_w6)
              have p60 := P6.out.c
              clear hc_w6 hf_w6
              go_wp2_with fail
              go_at_call 24
              refine (HCN.out _ _ _ (hT.later (by repeat (first | exact Below.refl _ _ | assumption | (refine below_drewN ?_ _) | (refine Below.drew ?_) | (refine Below.alloc ?_ (by first | omega | (simp; omega) | simp) _) | (refine Below.setCell ?_ (by first | omega | (simp; omega) | simp) _) | (refine below_trans ?_ (by assumption) (by first | omega | (simp; omega) | simp))))) (O6.out.row.later (by repeat (first | exact Below.refl _ _ | assumption | (refine below_drewN ?_ _) | (refine Below.drew ?_) | (refine Below.alloc ?_ (by first | omega | (simp; omega) | simp) _) | (refine Below.setCell ?_ (by first | omega | (simp; omega) | simp) _) | (refine below_trans ?_ (by assumption) (by first | omega | (simp; omega) | simp))))) hn9.out).mono ?_
              rintro e w7 ⟨rfl, hb_w7⟩
              obtain ⟨hc_w7, hf_w7⟩ := bcell hb_w7; have hs_w7 := hb_w7.size; (try simp only [World.size_alloc, World.size_setCell, World.size_drew, World.heap_drewN] at hs_w7)
              have P7 := Lib.hid (P6.out.later hb_w7 : Bx w7 _ _)
              have O7 := Lib.hid (O6.out.later hb_w7)
              clear hc_w7 hf_w7
              go_wp2
              go_roundw
              case rel => exact ⟨k + 1, B2, c2, r, x, y, u, by go_num, rfl, rfl, by first | rfl | go_num, by omega, by have := HNE.out; omega, O7.out, HOK.out, hGn.out, Lib.hid hun.out, P7.out, (by first | omega | (simp; omega) | simp), (by repeat (first | exact Below.refl _ _ | assumption | (refine below_drewN ?_ _) | (refine Below.drew ?_) | (refine Below.alloc ?_ (by first | omega | (simp; omega) | simp) _) | (refine Below.setCell ?_ (by first | omega | (simp; omega) | simp) _) | (refine below_trans ?_ (by assumption) (by first | omega | (simp; omega) | simp))))⟩
              case measure => simp [intOf]; omega
        | false =>
          obtain ⟨x0, y0, hG0⟩ := GetT.ex l sk
          obtain ⟨r, y1, hE⟩ := PutT.ex l sk sv
          have HGK := Lib.hid fun (w : World) (A : Option Addr) (cap : Nat) hT hr hn => HG.out w A cap l sk x0 y0 hT hr (by omega) hn hG0
          have HPK := Lib.hid fun (w : World) (A : Option Addr) (cap : Nat) hT hr hn => HP.out w A cap l sk sv r y1 hT hr (by omega) hn hsk hsv hE
          by_cases hy : y1 = 0
          · have hp := hE.ok hy
            have HOK := Lib.hid hp.okr
            have hm : (y0 = 3 ∧ Hid (useds r = u + 1)) ∨ (y0 = 0 ∧ Hid (useds r = u)) := by
              rcases hG0.has HU0.out with ⟨a, b⟩ | ⟨a, _, c⟩
              · exact .inr ⟨a, Lib.hid (by rw [hp.old ⟨_, b⟩]; exact hu.out)⟩
              · rcases a with ⟨a, _⟩ | ⟨_, a⟩
                · exact .inl ⟨a, Lib.hid (by rw [hp.new c, hu.out])⟩
                · exact absurd a hp.k0
            have hcase : (((sk : Int) == (key : Int)) = true ∧ Hid (GetT r key sv 0)) ∨ (((sk : Int) == (key : Int)) = false ∧ Hid (GetT r key x y)) := by
              by_cases he : sk = key
              · subst he
                exact .inl ⟨by simp, Lib.hid (.of_has hp.okr ((hp.has _ _).2 (.inl ⟨rfl, rfl⟩)))⟩
              · exact .inr ⟨by rw [beq_eq_false_iff_ne]; omega, Lib.hid (getT_congr HU0.out hp.okr (fun v => by rw [hp.has]; exact ⟨fun h => h.elim (fun h => absurd h.1.symm he) (fun h => h.2), fun h => .inr ⟨fun e => he e.symm, h⟩⟩) hGl.out)⟩
            subst hy
            clear hE hp hG0
            rcases hm with ⟨rfl, hun⟩ | ⟨rfl, hun⟩
            · rcases hcase with ⟨f1, hGn⟩ | ⟨f1, hGn⟩
              · skip
                go_wp2_with fail
                go_at_call 17
                refine (HGK.out _ _ _ (hT.later (by repeat (first | exact Below.refl _ _ | assumption | (refine below_drewN ?_ _) | (refine Below.drew ?_) | (refine Below.alloc ?_ (by first | omega | (simp; omega) | simp) _) | (refine Below.setCell ?_ (by first | omega | (simp; omega) | simp) _) | (refine below_trans ?_ (by assumption) (by first | omega | (simp; omega) | simp))))) (er.out.later (by repeat (first | exact Below.refl _ _ | assumption | (refine below_drewN ?_ _) | (refine Below.drew ?_) | (refine Below.alloc ?_ (by first | omega | (simp; omega) | simp) _) | (refine Below.setCell ?_ (by first | omega | (simp; omega) | simp) _) | (refine below_trans ?_ (by assumption) (by first | omega | (simp; omega) | simp))))) hnil.out).mono ?_
                rintro e w3 ⟨rfl, hb_w3⟩
                obtain ⟨hc_w3, hf_w3⟩ := bcell hb_w3; have hz_w3_wr_0 : wr.heap.size < w3.heap.size := (by have hzz := hb_w3.size; (try simp only [World.size_alloc, World.size_setCell, World.size_drew, World.heap_drewN] at hzz); omega); have hs_w3 := hb_w3.size; (try simp only [World.size_alloc, World.size_setCell, World.size_drew, World.heap_drewN] at hs_w3)
                have b3 : Below wr.heap.size wr w3 := (by repeat (first | exact Below.refl _ _ | assumption | (refine below_drewN ?_ _) | (refine Below.drew ?_) | (refine Below.alloc ?_ (by first | omega | (simp; omega) | simp) _) | (refine Below.setCell ?_ (by first | omega | (simp; omega) | simp) _) | (refine below_trans ?_ (by assumption) (by first | omega | (simp; omega) | simp))))
                have P3 := (PH.out.later b3 : Bx w3 _ _)
                have S3 := ((Sx.new wr false sk sv 47).later hb_w3 : Sx w3 _ _ _ _)
                have P3H := Lib.hid P3
                have S3H := Lib.hid S3
                obtain ⟨p30, p31⟩ := P3
                obtain ⟨s30, s31, s32⟩ := S3
                clear hc_w3 hf_w3
                go_wp2_with fail
                go_at_call 11
                refine (HPK.out _ _ _ (hT.later (by repeat (first | exact Below.refl _ _ | assumption | (refine below_drewN ?_ _) | (refine Below.drew ?_) | (refine Below.alloc ?_ (by first | omega | (simp; omega) | simp) _) | (refine Below.setCell ?_ (by first | omega | (simp; omega) | simp) _) | (refine below_trans ?_ (by assumption) (by first | omega | (simp; omega) | simp))))) ((er.out.later b3).later (by repeat (first | exact Below.refl _ _ | assumption | (refine below_drewN ?_ _) | (refine Below.drew ?_) | (refine Below.alloc ?_ (by first | omega | (simp; omega) | simp) _) | (refine Below.setCell ?_ (by first | omega | (simp; omega) | simp) _) | (refine below_trans ?_ (by assumption) (by first | omega | (simp; omega) | simp))))) hnil.out).mono ?_
                rintro e w4 ⟨B2, c2, rfl, o2, hb_w4⟩
                obtain ⟨hc_w4, hf_w4⟩ := bcell hb_w4; have hs_w4 := hb_w4.size; (try simp only [World.size_alloc, World.size_setCell, World.size_drew, World.heap_drewN] at hs_w4)
                have P4 := (P3H.out.later hb_w4 : Bx w4 _ _)
                have S4 := (S3H.out.later hb_w4 : Sx w4 _ _ _ _)
                have p4l := P4.lt
                have s4l := S4.lt
                have P9 := Lib.hid ((P4.set (.slice B2 r.length c2)).alloc (.cells #[.slice B2 r.length c2] 24))
                have O9 := Lib.hid (((o2.mono (B' := w1.heap.size + 1) (by first | omega | (simp; omega))).far (p := ⟨w1.heap.size, 0, none⟩) (by show w1.heap.size < _; omega) (.slice B2 r.length c2)).later ((Below.refl _ _).alloc (Nat.le_refl _) (.cells #[.slice B2 r.length c2] 24)))
                obtain ⟨p40, p41⟩ := P4
                obtain ⟨s40, s41, s42⟩ := S4
                clear hc_w4 hf_w4 o2
                have hlr : r.length ≤ 64 := HOK.out.le
                have HGN := Lib.hid fun (w : World) (A : Option Addr) (cap : Nat) hT hr hn => HG.out w A cap r key sv 0 hT hr (by omega) hn hGn.out
                have HAN := Lib.hid fun (w : World) (A : Option Addr) (cap : Nat) hT hr hn => HA.out w A cap r (u + 1) hun.out hT hr (by omega) hn HOK.out
                have HCN := Lib.hid fun (w : World) (A : Option Addr) (cap : Nat) hT hr hn => HC.out w A cap r hT hr (by omega) hn HOK.out
                have hn9 := Lib.hid O9.out.nil_
                have p90 := P9.out.c
                go_wp2_with fail
                go_at_call 17
                refine (HGN.out _ _ _ (hT.later (by repeat (first | exact Below.refl _ _ | assumption | (refine below_drewN ?_ _) | (refine Below.drew ?_) | (refine Below.alloc ?_ (by first | omega | (simp; omega) | simp) _) | (refine Below.setCell ?_ (by first | omega | (simp; omega) | simp) _) | (refine below_trans ?_ (by assumption) (by first | omega | (simp; omega) | simp))))) (O9.out.row.later (by repeat (first | exact Below.refl _ _ | assumption | (refine below_drewN ?_ _) | (refine Below.drew ?_) | (refine Below.alloc ?_ (by first | omega | (simp; omega) | simp) _) | (refine Below.setCell ?_ (by first | omega | (simp; omega) | simp) _) | (refine below_trans ?_ (by assumption) (by first | omega | (simp; omega) | simp))))) hn9.out).mono ?_
                rintro e w5 ⟨rfl, hb_w5⟩
                obtain ⟨hc_w5, hf_w5⟩ := bcell hb_w5; have hz_w5_w4_0 : w4.heap.size < w5.heap.size := (by have hzz := hb_w5.size; (try simp only [World.size_alloc, World.size_setCell, World.size_drew, World.heap_drewN] at hzz); omega); have hs_w5 := hb_w5.size; (try simp only [World.size_alloc, World.size_setCell, World.size_drew, World.heap_drewN] at hs_w5)
                have P5 := Lib.hid (P9.out.later hb_w5 : Bx w5 _ _)
                have O5 := Lib.hid (O9.out.later hb_w5)
                have p50 := P5.out.c
                clear hc_w5 hf_w5
                go_wp2_with fail
                go_at_call 19
                refine (HAN.out _ _ _ (hT.later (by repeat (first | exact Below.refl _ _ | assumption | (refine below_drewN ?_ _) | (refine Below.drew ?_) | (refine Below.alloc ?_ (by first | omega | (simp; omega) | simp) _) | (refine Below.setCell ?_ (by first | omega | (simp; omega) | simp) _) | (refine below_trans ?_ (by assumption) (by first | omega | (simp; omega) | simp))))) (O5.out.row.later (by repeat (first | exact Below.refl _ _ | assumption | (refine below_drewN ?_ _) | (refine Below.drew ?_) | (refine Below.alloc ?_ (by first | omega | (simp; omega) | simp) _) | (refine Below.setCell ?_ (by first | omega | (simp; omega) | simp) _) | (refine below_trans ?_ (by assumption) (by first | omega | (simp; omega) | simp))))) hn9.out).mono ?_
                rintro e w6 ⟨Kk, Vv, ck2, cv2, rfl, hb_w6⟩
                obtain ⟨hc_w6, hf_w6⟩ := bcell hb_w6; have hs_w6 := hb_w6.size; (try simp only [World.size_alloc, World.size_setCell, World.size_drew, World.heap_drewN] at hs_w6)
                have P6 := Lib.hid (P5.out.later hb_w6 : Bx w6 _ _)
                have O6 := Lib.hid (O5.out.later hb_w6)
                have p60 := P6.out.c
                clear hc_w6 hf_w6
                go_wp2_with fail
                go_at_call 24
                refine (HCN.out _ _ _ (hT.later (by repeat (first | exact Below.refl _ _ | assumption | (refine below_drewN ?_ _) | (refine Below.drew ?_) | (refine Below.alloc ?_ (by first | omega | (simp; omega) | simp) _) | (refine Below.setCell ?_ (by first | omega | (simp; omega) | simp) _) | (refine below_trans ?_ (by assumption) (by first | omega | (simp; omega) | simp))))) (O6.out.row.later (by repeat (first | exact Below.refl _ _ | assumption | (refine below_drewN ?_ _) | (refine Below.drew ?_) | (refine Below.alloc ?_ (by first | omega | (simp; omega) | simp) _) | (refine Below.setCell ?_ (by first | omega | (simp; omega) | simp) _) | (refine below_trans ?_ (by assumption) (by first | omega | (simp; omega) | simp))))) hn9.out).mono ?_
                rintro e w7 ⟨rfl, hb_w7⟩
                obtain ⟨hc_w7, hf_w7⟩ := bcell hb_w7; have hs_w7 := hb_w7.size; (try simp only [World.size_alloc, World.size_setCell, World.size_drew, World.heap_drewN] at hs_w7)
                have P7 := Lib.hid (P6.out.later hb_w7 : Bx w7 _ _)
                have O7 := Lib.hid (O6.out.later hb_w7)
                clear hc_w7 hf_w7
                go_wp2
                go_roundw
                case rel => exact ⟨k + 1, B2, c2, r, sv, 0, (u + 1), by go_num, rfl, rfl, by first | rfl | go_num, by omega, by have := HNE.out; omega, O7.out, HOK.out, hGn.out, Lib.hid hun.out, P7.out, (by first | omega | (simp; omega) | simp), (by repeat (first | exact Below.refl _ _ | assumption | (refine below_drewN ?_ _) | (refine Below.drew ?_) | (refine Below.alloc ?_ (by first | omega | (simp; omega) | simp) _) | (refine Below.setCell ?_ (by first | omega | (simp; omega) | simp) _) | (refine below_trans ?_ (by assumption) (by first | omega | (simp; omega) | simp))))⟩
                case measure => simp [intOf]; omega
              · skip
                go_wp2_with fail
                go_at_call 17
                refine (HGK.out _ _ _ (hT.later (by repeat (first | exact Below.refl _ _ | assumption | (refine below_drewN ?_ _) | (refine Below.drew ?_) | (refine Below.alloc ?_ (by first | omega | (simp; omega) | simp) _) | (refine Below.setCell ?_ (by first | omega | (simp; omega) | simp) _) | (refine below_trans ?_ (by assumption) (by first | omega | (simp; omega) | simp))))) (er.out.later (by repeat (first | exact Below.refl _ _ | assumption | (refine below_drewN ?_ _) | (refine Below.drew ?_) | (refine Below.alloc ?_ (by first | omega | (simp; omega) | simp) _) | (refine Below.setCell ?_ (by first | omega | (simp; omega) | simp) _) | (refine below_trans ?_ (by assumption) (by first | omega | (simp; omega) | simp))))) hnil.out).mono ?_
                rintro e w3 ⟨rfl, hb_w3⟩
                obtain ⟨hc_w3, hf_w3⟩ := bcell hb_w3; have hz_w3_wr_0 : wr.heap.size < w3.heap.size := (by have hzz := hb_w3.size; (try simp only [World.size_alloc, World.size_setCell, World.size_drew, World.heap_drewN] at hzz); omega); have hs_w3 := hb_w3.size; (try simp only [World.size_alloc, World.size_setCell, World.size_drew, World.heap_drewN] at hs_w3)
                have b3 : Below wr.heap.size wr w3 := (by repeat (first | exact Below.refl _ _ | assumption | (refine below_drewN ?_ _) | (refine Below.drew ?_) | (refine Below.alloc ?_ (by first | omega | (simp; omega) | simp) _) | (refine Below.setCell ?_ (by first | omega | (simp; omega) | simp) _) | (refine below_trans ?_ (by assumption) (by first | omega | (simp; omega) | simp))))
                have P3 := (PH.out.later b3 : Bx w3 _ _)
                have S3 := ((Sx.new wr false sk sv 47).later hb_w3 : Sx w3 _ _ _ _)
                have P3H := Lib.hid P3
                have S3H := Lib.hid S3
                obtain ⟨p30, p31⟩ := P3
                obtain ⟨s30, s31, s32⟩ := S3
                clear hc_w3 hf_w3
                go_wp2_with fail
                go_at_call 11
                refine (HPK.out _ _ _ (hT.later (by repeat (first | exact Below.refl _ _ | assumption | (refine below_drewN ?_ _) | (refine Below.drew ?_) | (refine Below.alloc ?_ (by first | omega | (simp; omega) | simp) _) | (refine Below.setCell ?_ (by first | omega | (simp; omega) | simp) _) | (refine below_trans ?_ (by assumption) (by first | omega | (simp; omega) | simp))))) ((er.out.later b3).later (by repeat (first | exact Below.refl _ _ | assumption | (refine below_drewN ?_ _) | (refine Below.drew ?_) | (refine Below.alloc ?_ (by first | omega | (simp; omega) | simp) _) | (refine Below.setCell ?_ (by first | omega | (simp; omega) | simp) _) | (refine below_trans ?_ (by assumption) (by first | omega | (simp; omega) | simp))))) hnil.out).mono ?_
                rintro e w4 ⟨B2, c2, rfl, o2, hb_w4⟩
                obtain ⟨hc_w4, hf_w4⟩ := bcell hb_w4; have hs_w4 := hb_w4.size; (try simp only [World.size_alloc, World.size_setCell, World.size_drew, World.heap_drewN] at hs_w4)
                have P4 := (P3H.out.later hb_w4 : Bx w4 _ _)
                have S4 := (S3H.out.later hb_w4 : Sx w4 _ _ _ _)
                have p4l := P4.lt
                have s4l := S4.lt
                have P9 := Lib.hid ((P4.set (.slice B2 r.length c2)).alloc (.cells #[.slice B2 r.length c2] 24))
                have O9 := Lib.hid (((o2.mono (B' := w1.heap.size + 1) (by first | omega | (simp; omega))).far (p := ⟨w1.heap.size, 0, none⟩) (by show w1.heap.size < _; omega) (.slice B2 r.length c2)).later ((Below.refl _ _).alloc (Nat.le_refl _) (.cells #[.slice B2 r.length c2] 24)))
                obtain ⟨p40, p41⟩ := P4
                obtain ⟨s40, s41, s42⟩ := S4
                clear hc_w4 hf_w4 o2
                have hlr : r.length ≤ 64 := HOK.out.le
                have HGN := Lib.hid fun (w : World) (A : Option Addr) (cap : Nat) hT hr hn => HG.out w A cap r key x y hT hr (by omega) hn hGn.out
                have HAN := Lib.hid fun (w : World) (A : Option Addr) (cap : Nat) hT hr hn => HA.out w A cap r (u + 1) hun.out hT hr (by omega) hn HOK.out
                have HCN := Lib.hid fun (w : World) (A : Option Addr) (cap : Nat) hT hr hn => HC.out w A cap r hT hr (by omega) hn HOK.out
                have hn9 := Lib.hid O9.out.nil_
                have p90 := P9.out.c
                go_wp2_with fail
                go_at_call 17
                refine (HGN.out _ _ _ (hT.later (by repeat (first | exact Below.refl _ _ | assumption | (refine below_drewN ?_ _) | (refine Below.drew ?_) | (refine Below.alloc ?_ (by first | omega | (simp; omega) | simp) _) | (refine Below.setCell ?_ (by first | omega | (simp; omega) | simp) _) | (refine below_trans ?_ (by assumption) (by first | omega | (simp; omega) | simp))))) (O9.out.row.later (by repeat (first | exact Below.refl _ _ | assumption | (refine below_drewN ?_ _) | (refine Below.drew ?_) | (refine Below.alloc ?_ (by first | omega | (simp; omega) | simp) _) | (refine Below.setCell ?_ (by first | omega | (simp; omega) | simp) _) | (refine below_trans ?_ (by assumption) (by first | omega | (simp; omega) | simp))))) hn9.out).mono ?_
                rintro e w5 ⟨rfl, hb_w5⟩
                obtain ⟨hc_w5, hf_w5⟩ := bcell hb_w5; have hz_w5_w4_0 : w4.heap.size < w5.heap.size := (by have hzz := hb_w5.size; (try simp only [World.size_alloc, World.size_setCell, World.size_drew, World.heap_drewN] at hzz); omega); have hs_w5 := hb_w5.size; (try simp only [World.size_alloc, World.size_setCell, World.size_drew, World.heap_drewN] at hs_w5)
                have P5 := Lib.hid (P9.out.later hb_w5 : Bx w5 _ _)
                have O5 := Lib.hid (O9.out.later hb_w5)
                have p50 := P5.out.c
                clear hc_w5 hf_w5
                go_wp2_with fail
                go_at_call 19
                refine (HAN.out _ _ _ (hT.later (by repeat (first | exact Below.refl _ _ | assumption | (refine below_drewN ?_ _) | (refine Below.drew ?_) | (refine Below.alloc ?_ (by first | omega | (simp; omega) | simp) _) | (refine Below.setCell ?_ (by first | omega | (simp; omega) | simp) _) | (refine below_trans ?_ (by assumption) (by first | omega | (simp; omega) | simp))))) (O5.out.row.later (by repeat (first | exact Below.refl _ _ | assumption | (refine below_drewN ?_ _) | (refine Below.drew ?_) | (refine Below.alloc ?_ (by first | omega | (simp; omega) | simp) _) | (refine Below.setCell ?_ (by first | omega | (simp; omega) | simp) _) | (refine below_trans ?_ (by assumption) (by first | omega | (simp; omega) | simp))))) hn9.out).mono ?_
                rintro e w6 ⟨Kk, Vv, ck2, cv2, rfl, hb_w6⟩
                obtain ⟨hc_w6, hf_w6⟩ := bcell hb_w6; have hs_w6 := hb_w6.size; (try simp only [World.size_alloc, World.size_setCell, World.size_drew, World.heap_drewN] at hs_w6)
                have P6 := Lib.hid (P5.out.later hb_w6 : Bx w6 _ _)
                have O6 := Lib.hid (O5.out.later hb_w6)
                have p60 := P6.out.c
                clear hc_w6 hf_w6
                go_wp2_with fail
                go_at_call 24
                refine (HCN.out _ _ _ (hT.later (by repeat (first | exact Below.refl _ _ | assumption | (refine below_drewN ?_ _) | (refine Below.drew ?_) | (refine Below.alloc ?_ (by first | omega | (simp; omega) | simp) _) | (refine Below.setCell ?_ (by first | omega | (simp; omega) | simp) _) | (refine below_trans ?_ (by assumption) (by first | omega | (simp; omega) | simp))))) (O6.out.row.later (by repeat (first | exact Below.refl _ _ | assumption | (refine below_drewN ?_ _) | (refine Below.drew ?_) | (refine Below.alloc ?_ (by first | omega | (simp; omega) | simp) _) | (refine Below.setCell ?_ (by first | omega | (simp; omega) | simp) _) | (refine below_trans ?_ (by assumption) (by first | omega | (simp; omega) | simp))))) hn9.out).mono ?_
                rintro e w7 ⟨rfl, hb_w7⟩
                obtain ⟨hc_w7, hf_w7⟩ := bcell hb_w7; have hs_w7 := hb_w7.size; (try simp only [World.size_alloc, World.size_setCell, World.size_drew, World.heap_drewN] at hs_w7)
                have P7 := Lib.hid (P6.out.later hb_w7 : Bx w7 _ _)
                have O7 := Lib.hid (O6.out.later hb_w7)
                clear hc_w7 hf_w7
                go_wp2
                go_roundw
                case rel => exact ⟨k + 1, B2, c2, r, x, y, (u + 1), by go_num, rfl, rfl, by first | rfl | go_num, by omega, by have := HNE.out; omega, O7.out, HOK.out, hGn.out, Lib.hid hun.out, P7.out, (by first | omega | (simp; omega) | simp), (by repeat (first | exact Below.refl _ _ | assumption | (refine below_drewN ?_ _) | (refine Below.drew ?_) | (refine Below.alloc ?_ (by first | omega | (simp; omega) | simp) _) | (refine Below.setCell ?_ (by first | omega | (simp; omega) | simp) _) | (refine below_trans ?_ (by assumption) (by first | omega | (simp; omega) | simp))))⟩
                case measure => simp [intOf]; omega
            · rcases hcase with ⟨f1, hGn⟩ | ⟨f1, hGn⟩
              · skip
                go_wp2_with fail
                go_at_call 17
                refine (HGK.out _ _ _ (hT.later (by repeat (first | exact Below.refl _ _ | assumption | (refine below_drewN ?_ _) | (refine Below.drew ?_) | (refine Below.alloc ?_ (by first | omega | (simp; omega) | simp) _) | (refine Below.setCell ?_ (by first | omega | (simp; omega) | simp) _) | (refine below_trans ?_ (by assumption) (by first | omega | (simp; omega) | simp))))) (er.out.later (by repeat (first | exact Below.refl _ _ | assumption | (refine below_drewN ?_ _) | (refine Below.drew ?_) | (refine Below.alloc ?_ (by first | omega | (simp; omega) | simp) _) | (refine Below.setCell ?_ (by first | omega | (simp; omega) | simp) _) | (refine below_trans ?_ (by assumption) (by first | omega | (simp; omega) | simp))))) hnil.out).mono ?_
                rintro e w3 ⟨rfl, hb_w3⟩
                obtain ⟨hc_w3, hf_w3⟩ := bcell hb_w3; have hz_w3_wr_0 : wr.heap.size < w3.heap.size := (by have hzz := hb_w3.size; (try simp only [World.size_alloc, World.size_setCell, World.size_drew, World.heap_drewN] at hzz); omega); have hs_w3 := hb_w3.size; (try simp only [World.size_alloc, World.size_setCell, World.size_drew, World.heap_drewN] at hs_w3)
                have b3 : Below wr.heap.size wr w3 := (by repeat (first | exact Below.refl _ _ | assumption | (refine below_drewN ?_ _) | (refine Below.drew ?_) | (refine Below.alloc ?_ (by first | omega | (simp; omega) | simp) _) | (refine Below.setCell ?_ (by first | omega | (simp; omega) | simp) _) | (refine below_trans ?_ (by assumption) (by first | omega | (simp; omega) | simp))))
                have P3 := (PH.out.later b3 : Bx w3 _ _)
                have S3 := ((Sx.new wr false sk sv 47).later hb_w3 : Sx w3 _ _ _ _)
                have P3H := Lib.hid P3
                have S3H := Lib.hid S3
                obtain ⟨p30, p31⟩ := P3
                obtain ⟨s30, s31, s32⟩ := S3
                clear hc_w3 hf_w3
                go_wp2_with fail
                go_at_call 11
                refine (HPK.out _ _ _ (hT.later (by repeat (first | exact Below.refl _ _ | assumption | (refine below_drewN ?_ _) | (refine Below.drew ?_) | (refine Below.alloc ?_ (by first | omega | (simp; omega) | simp) _) | (refine Below.setCell ?_ (by first | omega | (simp; omega) | simp) _) | (refine below_trans ?_ (by assumption) (by first | omega | (simp; omega) | simp))))) ((er.out.later b3).later (by repeat (first | exact Below.refl _ _ | assumption | (refine below_drewN ?_ _) | (refine Below.drew ?_) | (refine Below.alloc ?_ (by first | omega | (simp; omega) | simp) _) | (refine Below.setCell ?_ (by first | omega | (simp; omega) | simp) _) | (refine below_trans ?_ (by assumption) (by first | omega | (simp; omega) | simp))))) hnil.out).mono ?_
                rintro e w4 ⟨B2, c2, rfl, o2, hb_w4⟩
                obtain ⟨hc_w4, hf_w4⟩ := bcell hb_w4; have hs_w4 := hb_w4.size; (try simp only [World.size_alloc, World.size_setCell, World.size_drew, World.heap_drewN] at hs_w4)
                have P4 := (P3H.out.later hb_w4 : Bx w4 _ _)
                have S4 := (S3H.out.later hb_w4 : Sx w4 _ _ _ _)
                have p4l := P4.lt
                have s4l := S4.lt
                have P9 := Lib.hid ((P4.set (.slice B2 r.length c2)).alloc (.cells #[.slice B2 r.length c2] 24))
                have O9 := Lib.hid (((o2.mono (B' := w1.heap.size + 1) (by first | omega | (simp; omega))).far (p := ⟨w1.heap.size, 0, none⟩) (by show w1.heap.size < _; omega) (.slice B2 r.length c2)).later ((Below.refl _ _).alloc (Nat.le_refl _) (.cells #[.slice B2 r.length c2] 24)))
                obtain ⟨p40, p41⟩ := P4
                obtain ⟨s40, s41, s42⟩ := S4
                clear hc_w4 hf_w4 o2
                have hlr : r.length ≤ 64 := HOK.out.le
                have HGN := Lib.hid fun (w : World) (A : Option Addr) (cap : Nat) hT hr hn => HG.out w A cap r key sv 0 hT hr (by omega) hn hGn.out
                have HAN := Lib.hid fun (w : World) (A : Option Addr) (cap : Nat) hT hr hn => HA.out w A cap r u hun.out hT hr (by omega) hn HOK.out
                have HCN := Lib.hid fun (w : World) (A : Option Addr) (cap : Nat) hT hr hn => HC.out w A cap r hT hr (by omega) hn HOK.out
                have hn9 := Lib.hid O9.out.nil_
                have p90 := P9.out.c
                go_wp2_with fail
                go_at_call 17
                refine (HGN.out _ _ _ (hT.later (by repeat (first | exact Below.refl _ _ | assumption | (refine below_drewN ?_ _) | (refine Below.drew ?_) | (refine Below.alloc ?_ (by first | omega | (simp; omega) | simp) _) | (refine Below.setCell ?_ (by first | omega | (simp; omega) | simp) _) | (refine below_trans ?_ (by assumption) (by first | omega | (simp; omega) | simp))))) (O9.out.row.later (by repeat (first | exact Below.refl _ _ | assumption | (refine below_drewN ?_ _) | (refine Below.drew ?_) | (refine Below.alloc ?_ (by first | omega | (simp; omega) | simp) _) | (refine Below.setCell ?_ (by first | omega | (simp; omega) | simp) _) | (refine below_trans ?_ (by assumption) (by first | omega | (simp; omega) | simp))))) hn9.out).mono ?_
                rintro e w5 ⟨rfl, hb_w5⟩
                obtain ⟨hc_w5, hf_w5⟩ := bcell hb_w5; have hz_w5_w4_0 : w4.heap.size < w5.heap.size := (by have hzz := hb_w5.size; (try simp only [World.size_alloc, World.size_setCell, World.size_drew, World.heap_drewN] at hzz); omega); have hs_w5 := hb_w5.size; (try simp only [World.size_alloc, World.size_setCell, World.size_drew, World.heap_drewN] at hs_w5)
                have P5 := Lib.hid (P9.out.later hb_w5 : Bx w5 _ _)
                have O5 := Lib.hid (O9.out.later hb_w5)
                have p50 := P5.out.c
                clear hc_w5 hf_w5
                go_wp2_with fail
                go_at_call 19
                refine (HAN.out _ _ _ (hT.later (by repeat (first | exact Below.refl _ _ | assumption | (refine below_drewN ?_ _) | (refine Below.drew ?_) | (refine Below.alloc ?_ (by first | omega | (simp; omega) | simp) _) | (refine Below.setCell ?_ (by first | omega | (simp; omega) | simp) _) | (refine below_trans ?_ (by assumption) (by first | omega | (simp; omega) | simp))))) (O5.out.row.later (by repeat (first | exact Below.refl _ _ | assumption | (refine below_drewN ?_ _) | (refine Below.drew ?_) | (refine Below.alloc ?_ (by first | omega | (simp; omega) | simp) _) | (refine Below.setCell ?_ (by first | omega | (simp; omega) | simp) _) | (refine below_trans ?_ (by assumption) (by first | omega | (simp; omega) | simp))))) hn9.out).mono ?_
                rintro e w6 ⟨Kk, Vv, ck2, cv2, rfl, hb_w6⟩
                obtain ⟨hc_w6, hf_w6⟩ := bcell hb_w6; have hs_w6 := hb_w6.size; (try simp only [World.size_alloc, World.size_setCell, World.size_drew, World.heap_drewN] at hs_w6)
                have P6 := Lib.hid (P5.out.later hb_w6 : Bx w6 _ _)
                have O6 := Lib.hid (O5.out.later hb_w6)
                have p60 := P6.out.c
                clear hc_w6 hf_w6
                go_wp2_with fail
                go_at_call 24
                refine (HCN.out _ _ _ (hT.later (by repeat (first | exact Below.refl _ _ | assumption | (refine below_drewN ?_ _) | (refine Below.drew ?_) | (refine Below.alloc ?_ (by first | omega | (simp; omega) | simp) _) | (refine Below.setCell ?_ (by first | omega | (simp; omega) | simp) _) | (refine below_trans ?_ (by assumption) (by first | omega | (simp; omega) | simp))))) (O6.out.row.later (by repeat (first | exact Below.refl _ _ | assumption | (refine below_drewN ?_ _) | (refine Below.drew ?_) | (refine Below.alloc ?_ (by first | omega | (simp; omega) | simp) _) | (refine Below.setCell ?_ (by first | omega | (simp; omega) | simp) _) | (refine below_trans ?_ (by assumption) (by first | omega | (simp; omega) | simp))))) hn9.out).mono ?_
                rintro e w7 ⟨rfl, hb_w7⟩
                obtain ⟨hc_w7, hf_w7⟩ := bcell hb_w7; have hs_w7 := hb_w7.size; (try simp only [World.size_alloc, World.size_setCell, World.size_drew, World.heap_drewN] at hs_w7)
                have P7 := Lib.hid (P6.out.later hb_w7 : Bx w7 _ _)
                have O7 := Lib.hid (O6.out.later hb_w7)
                clear hc_w7 hf_w7
                go_wp2
                go_roundw
                case rel => exact ⟨k + 1, B2, c2, r, sv, 0, u, by go_num, rfl, rfl, by first | rfl | go_num, by omega, by have := HNE.out; omega, O7.out, HOK.out, hGn.out, Lib.hid hun.out, P7.out, (by first | omega | (simp; omega) | simp), (by repeat (first | exact Below.refl _ _ | assumption | (refine below_drewN ?_ _) | (refine Below.drew ?_) | (refine Below.alloc ?_ (by first | omega | (simp; omega) | simp) _) | (refine Below.setCell ?_ (by first | omega | (simp; omega) | simp) _) | (refine below_trans ?_ (by assumption) (by first | omega | (simp; omega) | simp))))⟩
                case measure => simp [intOf]; omega
              · skip
                go_wp2_with fail
                go_at_call 17
                refine (HGK.out _ _ _ (hT.later (by repeat (first | exact Below.refl _ _ | assumption | (refine below_drewN ?_ _) | (refine Below.drew ?_) | (refine Below.alloc ?_ (by first | omega | (simp; omega) | simp) _) | (refine Below.setCell ?_ (by first | omega | (simp; omega) | simp) _) | (refine below_trans ?_ (by assumption) (by first | omega | (simp; omega) | simp))))) (er.out.later (by repeat (first | exact Below.refl _ _ | assumption | (refine below_drewN ?_ _) | (refine Below.drew ?_) | (refine Below.alloc ?_ (by first | omega | (simp; omega) | simp) _) | (refine Below.setCell ?_ (by first | omega | (simp; omega) | simp) _) | (refine below_trans ?_ (by assumption) (by first | omega | (simp; omega) | simp))))) hnil.out).mono ?_
                rintro e w3 ⟨rfl, hb_w3⟩
                obtain ⟨hc_w3, hf_w3⟩ := bcell hb_w3; have hz_w3_wr_0 : wr.heap.size < w3.heap.size := (by have hzz := hb_w3.size; (try simp only [World.size_alloc, World.size_setCell, World.size_drew, World.heap_drewN] at hzz); omega); have hs_w3 := hb_w3.size; (try simp only [World.size_alloc, World.size_setCell, World.size_drew, World.heap_drewN] at hs_w3)
                have b3 : Below wr.heap.size wr w3 := (by repeat (first | exact Below.refl _ _ | assumption | (refine below_drewN ?_ _) | (refine Below.drew ?_) | (refine Below.alloc ?_ (by first | omega | (simp; omega) | simp) _) | (refine Below.setCell ?_ (by first | omega | (simp; omega) | simp) _) | (refine below_trans ?_ (by assumption) (by first | omega | (simp; omega) | simp))))
                have P3 := (PH.out.later b3 : Bx w3 _ _)
                have S3 := ((Sx.new wr false sk sv 47).later hb_w3 : Sx w3 _ _ _ _)
                have P3H := Lib.hid P3
                have S3H := Lib.hid S3
                obtain ⟨p30, p31⟩ := P3
                obtain ⟨s30, s31, s32⟩ := S3
                clear hc_w3 hf_w3
                go_wp2_with fail
                go_at_call 11
                refine (HPK.out _ _ _ (hT.later (by repeat (first | exact Below.refl _ _ | assumption | (refine below_drewN ?_ _) | (refine Below.drew ?_) | (refine Below.alloc ?_ (by first | omega | (simp; omega) | simp) _) | (refine Below.setCell ?_ (by first | omega | (simp; omega) | simp) _) | (refine below_trans ?_ (by assumption) (by first | omega | (simp; omega) | simp))))) ((er.out.later b3).later (by repeat (first | exact Below.refl _ _ | assumption | (refine below_drewN ?_ _) | (refine Below.drew ?_) | (refine Below.alloc ?_ (by first | omega | (simp; omega) | simp) _) | (refine Below.setCell ?_ (by first | omega | (simp; omega) | simp) _) | (refine below_trans ?_ (by assumption) (by first | omega | (simp; omega) | simp))))) hnil.out).mono ?_
                rintro e w4 ⟨B2, c2, rfl, o2, hb_w4⟩
                obtain ⟨hc_w4, hf_w4⟩ := bcell hb_w4; have hs_w4 := hb_w4.size; (try simp only [World.size_alloc, World.size_setCell, World.size_drew, World.heap_drewN] at hs_w4)
                have P4 := (P3H.out.later hb_w4 : Bx w4 _ _)
                have S4 := (S3H.out.later hb_w4 : Sx w4 _ _ _ _)
                have p4l := P4.lt
                have s4l := S4.lt
                have P9 := Lib.hid ((P4.set (.slice B2 r.length c2)).alloc (.cells #[.slice B2 r.length c2] 24))
                have O9 := Lib.hid (((o2.mono (B' := w1.heap.size + 1) (by first | omega | (simp; omega))).far (p := ⟨w1.heap.size, 0, none⟩) (by show w1.heap.size < _; omega) (.slice B2 r.length c2)).later ((Below.refl _ _).alloc (Nat.le_refl _) (.cells #[.slice B2 r.length c2] 24)))
                obtain ⟨p40, p41⟩ := P4
                obtain ⟨s40, s41, s42⟩ := S4
                clear hc_w4 hf_w4 o2
                have hlr : r.length ≤ 64 := HOK.out.le
                have HGN := Lib.hid fun (w : World) (A : Option Addr) (cap : Nat) hT hr hn => HG.out w A cap r key x y hT hr (by omega) hn hGn.out
                have HAN := Lib.hid fun (w : World) (A : Option Addr) (cap : Nat) hT hr hn => HA.out w A cap r u hun.out hT hr (by omega) hn HOK.out
                have HCN := Lib.hid fun (w : World) (A : Option Addr) (cap : Nat) hT hr hn => HC.out w A cap r hT hr (by omega) hn HOK.out
                have hn9 := Lib.hid O9.out.nil_
                have p90 := P9.out.c
                go_wp2_with fail
                go_at_call 17
                refine (HGN.out _ _ _ (hT.later (by repeat (first | exact Below.refl _ _ | assumption | (refine below_drewN ?_ _) | (refine Below.drew ?_) | (refine Below.alloc ?_ (by first | omega | (simp; omega) | simp) _) | (refine Below.setCell ?_ (by first | omega | (simp; omega) | simp) _) | (refine below_trans ?_ (by assumption) (by first | omega | (simp; omega) | simp))))) (O9.out.row.later (by repeat (first | exact Below.refl _ _ | assumption | (refine below_drewN ?_ _) | (refine Below.drew ?_) | (refine Below.alloc ?_ (by first | omega | (simp; omega) | simp) _) | (refine Below.setCell ?_ (by first | omega | (simp; omega) | simp) _) | (refine below_trans ?_ (by assumption) (by first | omega | (simp; omega) | simp))))) hn9.out).mono ?_
                rintro e w5 ⟨rfl, hb_w5⟩
                obtain ⟨hc_w5, hf_w5⟩ := bcell hb_w5; have hz_w5_w4_0 : w4.heap.size < w5.heap.size := (by have hzz := hb_w5.size; (try simp only [World.size_alloc, World.size_setCell, World.size_drew, World.heap_drewN] at hzz); omega); have hs_w5 := hb_w5.size; (try simp only [World.size_alloc, World.size_setCell, World.size_drew, World.heap_drewN] at hs_w5)
                have P5 := Lib.hid (P9.out.later hb_w5 : Bx w5 _ _)
                have O5 := Lib.hid (O9.out.later hb_w5)
                have p50 := P5.out.c
                clear hc_w5 hf_w5
                go_wp2_with fail
                go_at_call 19
                refine (HAN.out _ _ _ (hT.later (by repeat (first | exact Below.refl _ _ | assumption | (refine below_drewN ?_ _) | (refine Below.drew ?_) | (refine Below.alloc ?_ (by first | omega | (simp; omega) | simp) _) | (refine Below.setCell ?_ (by first | omega | (simp; omega) | simp) _) | (refine below_trans ?_ (by assumption) (by first | omega | (simp; omega) | simp))))) (O5.out.row.later (by repeat (first | exact Below.refl _ _ | assumption | (refine below_drewN ?_ _) | (refine Below.drew ?_) | (refine Below.alloc ?_ (by first | omega | (simp; omega) | simp) _) | (refine Below.setCell ?_ (by first | omega | (simp; omega) | simp) _) | (refine below_trans ?_ (by assumption) (by first | omega | (simp; omega) | simp))))) hn9.out).mono ?_
                rintro e w6 ⟨Kk, Vv, ck2, cv2, rfl, hb_w6⟩
                obtain ⟨hc_w6, hf_w6⟩ := bcell hb_w6; have hs_w6 := hb_w6.size; (try simp only [World.size_alloc, World.size_setCell, World.size_drew, World.heap_drewN] at hs_w6)
                have P6 := Lib.hid (P5.out.later hb_w6 : Bx w6 _ _)
                have O6 := Lib.hid (O5.out.later hb_w6)
                have p60 := P6.out.c
                clear hc_w6 hf_w6
                go_wp2_with fail
                go_at_call 24
                refine (HCN.out _ _ _ (hT.later (by repeat (first | exact Below.refl _ _ | assumption | (refine below_drewN ?_ _) | (refine Below.drew ?_) | (refine Below.alloc ?_ (by first | omega | (simp; omega) | simp) _) | (refine Below.setCell ?_ (by first | omega | (simp; omega) | simp) _) | (refine below_trans ?_ (by assumption) (by first | omega | (simp; omega) | simp))))) (O6.out.row.later (by repeat (first | exact Below.refl _ _ | assumption | (refine below_drewN ?_ _) | (refine Below.drew ?_) | (refine Below.alloc ?_ (by first | omega | (simp; omega) | simp) _) | (refine Below.setCell ?_ (by first | omega | (simp; omega) | simp) _) | (refine below_trans ?_ (by assumption) (by first | omega | (simp; omega) | simp))))) hn9.out).mono ?_
                rintro e w7 ⟨rfl, hb_w7⟩
                obtain ⟨hc_w7, hf_w7⟩ := bcell hb_w7; have hs_w7 := hb_w7.size; (try simp only [World.size_alloc, World.size_setCell, World.size_drew, World.heap_drewN] at hs_w7)
                have P7 := Lib.hid (P6.out.later hb_w7 : Bx w7 _ _)
                have O7 := Lib.hid (O6.out.later hb_w7)
                clear hc_w7 hf_w7
                go_wp2
                go_roundw
                case rel => exact ⟨k + 1, B2, c2, r, x, y, u, by go_num, rfl, rfl, by first | rfl | go_num, by omega, by have := HNE.out; omega, O7.out, HOK.out, hGn.out, Lib.hid hun.out, P7.out, (by first | omega | (simp; omega) | simp), (by repeat (first | exact Below.refl _ _ | assumption | (refine below_drewN ?_ _) | (refine Below.drew ?_) | (refine Below.alloc ?_ (by first | omega | (simp; omega) | simp) _) | (refine Below.setCell ?_ (by first | omega | (simp; omega) | simp) _) | (refine below_trans ?_ (by assumption) (by first | omega | (simp; omega) | simp))))⟩
                case measure => simp [intOf]; omega
          · have f1 : (y1 == 0) = false := beq_eq_false_iff_ne.2 hy
            have HOK := HU0
            have hun := hu
            have hGn := hGl
            clear hE hG0 hy
            go_wp2_with fail
            go_at_call 17
            refine (HGK.out _ _ _ (hT.later (by repeat (first | exact Below.refl _ _ | assumption | (refine below_drewN ?_ _) | (refine Below.drew ?_) | (refine Below.alloc ?_ (by first | omega | (simp; omega) | simp) _) | (refine Below.setCell ?_ (by first | omega | (simp; omega) | simp) _) | (refine below_trans ?_ (by assumption) (by first | omega | (simp; omega) | simp))))) (er.out.later (by repeat (first | exact Below.refl _ _ | assumption | (refine below_drewN ?_ _) | (refine Below.drew ?_) | (refine Below.alloc ?_ (by first | omega | (simp; omega) | simp) _) | (refine Below.setCell ?_ (by first | omega | (simp; omega) | simp) _) | (refine below_trans ?_ (by assumption) (by first | omega | (simp; omega) | simp))))) hnil.out).mono ?_
            rintro e w3 ⟨rfl, hb_w3⟩
            obtain ⟨hc_w3, hf_w3⟩ := bcell hb_w3; have hz_w3_wr_0 : wr.heap.size < w3.heap.size := (by have hzz := hb_w3.size; (try simp only [World.size_alloc, World.size_setCell, World.size_drew, World.heap_drewN] at hzz); omega); have hs_w3 := hb_w3.size; (try simp only [World.size_alloc, World.size_setCell, World.size_drew, World.heap_drewN] at hs_w3)
            have b3 : Below wr.heap.size wr w3 := (by repeat (first | exact Below.refl _ _ | assumption | (refine below_drewN ?_ _) | (refine Below.drew ?_) | (refine Below.alloc ?_ (by first | omega | (simp; omega) | simp) _) | (refine Below.setCell ?_ (by first | omega | (simp; omega) | simp) _) | (refine below_trans ?_ (by assumption) (by first | omega | (simp; omega) | simp))))
            have P3 := (PH.out.later b3 : Bx w3 _ _)
            have S3 := ((Sx.new wr false sk sv 47).later hb_w3 : Sx w3 _ _ _ _)
            have P3H := Lib.hid P3
            have S3H := Lib.hid S3
            obtain ⟨p30, p31⟩ := P3
            obtain ⟨s30, s31, s32⟩ := S3
            clear hc_w3 hf_w3
            go_wp2_with fail
            go_at_call 11
            refine (HPK.out _ _ _ (hT.later (by repeat (first | exact Below.refl _ _ | assumption | (refine below_drewN ?_ _) | (refine Below.drew ?_) | (refine Below.alloc ?_ (by first | omega | (simp; omega) | simp) _) | (refine Below.setCell ?_ (by first | omega | (simp; omega) | simp) _) | (refine below_trans ?_ (by assumption) (by first | omega | (simp; omega) | simp))))) ((er.out.later b3).later (by repeat (first | exact Below.refl _ _ | assumption | (refine below_drewN ?_ _) | (refine Below.drew ?_) | (refine Below.alloc ?_ (by first | omega | (simp; omega) | simp) _) | (refine Below.setCell ?_ (by first | omega | (simp; omega) | simp) _) | (refine below_trans ?_ (by assumption) (by first | omega | (simp; omega) | simp))))) hnil.out).mono ?_
            rintro e w4 ⟨B2, c2, rfl, o2, hb_w4⟩
            obtain ⟨hc_w4, hf_w4⟩ := bcell hb_w4; have hs_w4 := hb_w4.size; (try simp only [World.size_alloc, World.size_setCell, World.size_drew, World.heap_drewN] at hs_w4)
            have P4 := (P3H.out.later hb_w4 : Bx w4 _ _)
            have S4 := (S3H.out.later hb_w4 : Sx w4 _ _ _ _)
            have p4l := P4.lt
            have s4l := S4.lt
            have P9 := Lib.hid (P4.alloc (.cells #[.slice B2 r.length c2] 24))
            have O9 := Lib.hid (EO.out.later (show Below wr.heap.size wr (w4.alloc (.cells #[.slice B2 r.length c2] 24)) from (by repeat (first | exact Below.refl _ _ | assumption | (refine below_drewN ?_ _) | (refine Below.drew ?_) | (refine Below.alloc ?_ (by first | omega | (simp; omega) | simp) _) | (refine Below.setCell ?_ (by first | omega | (simp; omega) | simp) _) | (refine below_trans ?_ (by assumption) (by first | omega | (simp; omega) | simp))))))
            obtain ⟨p40, p41⟩ := P4
            obtain ⟨s40, s41, s42⟩ := S4
            clear hc_w4 hf_w4 o2
            have hlr : l.length ≤ 64 := HOK.out.le
            have HGN := Lib.hid fun (w : World) (A : Option Addr) (cap : Nat) hT hr hn => HG.out w A cap l key x y hT hr (by omega) hn hGn.out
            have HAN := Lib.hid fun (w : World) (A : Option Addr) (cap : Nat) hT hr hn => HA.out w A cap l u hun.out hT hr (by omega) hn HOK.out
            have HCN := Lib.hid fun (w : World) (A : Option Addr) (cap : Nat) hT hr hn => HC.out w A cap l hT hr (by omega) hn HOK.out
            have hn9 := Lib.hid O9.out.nil_
            have p90 := P9.out.c
            go_wp2_with fail
            go_at_call 17
            refine (HGN.out _ _ _ (hT.later (by repeat (first | exact Below.refl _ _ | assumption | (refine below_drewN ?_ _) | (refine Below.drew ?_) | (refine Below.alloc ?_ (by first | omega | (simp; omega) | simp) _) | (refine Below.setCell ?_ (by first | omega | (simp; omega) | simp) _) | (refine below_trans ?_ (by assumption) (by first | omega | (simp; omega) | simp))))) (O9.out.row.later (by repeat (first | exact Below.refl _ _ | assumption | (refine below_drewN ?_ _) | (refine Below.drew ?_) | (refine Below.alloc ?_ (by first | omega | (simp; omega) | simp) _) | (refine Below.setCell ?_ (by first | omega | (simp; omega) | simp) _) | (refine below_trans ?_ (by assumption) (by first | omega | (simp; omega) | simp))))) hn9.out).mono ?_
            rintro e w5 ⟨rfl, hb_w5⟩
            obtain ⟨hc_w5, hf_w5⟩ := bcell hb_w5; have hz_w5_w4_0 : w4.heap.size < w5.heap.size := (by have hzz := hb_w5.size; (try simp only [World.size_alloc, World.size_setCell, World.size_drew, World.heap_drewN] at hzz); omega); have hs_w5 := hb_w5.size; (try simp only [World.size_alloc, World.size_setCell, World.size_drew, World.heap_drewN] at hs_w5)
            have P5 := Lib.hid (P9.out.later hb_w5 : Bx w5 _ _)
            have O5 := Lib.hid (O9.out.later hb_w5)
            have p50 := P5.out.c
            clear hc_w5 hf_w5
            go_wp2_with fail
            go_at_call 19
            refine (HAN.out _ _ _ (hT.later (by repeat (first | exact Below.refl _ _ | assumption | (refine below_drewN ?_ _) | (refine Below.drew ?_) | (refine Below.alloc ?_ (by first | omega | (simp; omega) | simp) _) | (refine Below.setCell ?_ (by first | omega | (simp; omega) | simp) _) | (refine below_trans ?_ (by assumption) (by first | omega | (simp; omega) | simp))))) (O5.out.row.later (by repeat (first | exact Below.refl _ _ | assumption | (refine below_drewN ?_ _) | (refine Below.drew ?_) | (refine Below.alloc ?_ (by first | omega | (simp; omega) | simp) _) | (refine Below.setCell ?_ (by first | omega | (simp; omega) | simp) _) | (refine below_trans ?_ (by assumption) (by first | omega | (simp; omega) | simp))))) hn9.out).mono ?_
            rintro e w6 ⟨Kk, Vv, ck2, cv2, rfl, hb_w6⟩
            obtain ⟨hc_w6, hf_w6⟩ := bcell hb_w6; have hs_w6 := hb_w6.size; (try simp only [World.size_alloc, World.size_setCell, World.size_drew, World.heap_drewN] at hs_w6)
            have P6 := Lib.hid (P5.out.later hb_w6 : Bx w6 _ _)
            have O6 := Lib.hid (O5.out.later hb_w6)
            have p60 := P6.out.c
            clear hc_w6 hf_w6
            go_wp2_with fail
            go_at_call 24
            refine (HCN.out _ _ _ (hT.later (by repeat (first | exact Below.refl _ _ | assumption | (refine below_drewN ?_ _) | (refine Below.drew ?_) | (refine Below.alloc ?_ (by first | omega | (simp; omega) | simp) _) | (refine Below.setCell ?_ (by first | omega | (simp; omega) | simp) _) | (refine below_trans ?_ (by assumption) (by first | omega | (simp; omega) | simp))))) (O6.out.row.later (by repeat (first | exact Below.refl _ _ | assumption | (refine below_drewN ?_ _) | (refine Below.drew ?_) | (refine Below.alloc ?_ (by first | omega | (simp; omega) | simp) _) | (refine Below.setCell ?_ (by first | omega | (simp; omega) | simp) _) | (refine below_trans ?_ (by assumption) (by first | omega | (simp; omega) | simp))))) hn9.out).mono ?_
            rintro e w7 ⟨rfl, hb_w7⟩
            obtain ⟨hc_w7, hf_w7⟩ := bcell hb_w7; have hs_w7 := hb_w7.size; (try simp only [World.size_alloc, World.size_setCell, World.size_drew, World.heap_drewN] at hs_w7)
            have P7 := Lib.hid (P6.out.later hb_w7 : Bx w7 _ _)
            have O7 := Lib.hid (O6.out.later hb_w7)
            clear hc_w7 hf_w7
            go_wp2
            go_roundw
            case rel => exact ⟨k + 1, A, cap, l, x, y, u, by go_num, rfl, rfl, by first | rfl | go_num, by omega, by have := HNE.out; omega, O7.out, HOK.out, hGn.out, Lib.hid hun.out, P7.out, (by first | omega | (simp; omega) | simp), (by repeat (first | exact Below.refl _ _ | assumption | (refine below_drewN ?_ _) | (refine Below.drew ?_) | (refine Below.alloc ?_ (by first | omega | (simp; omega) | simp) _) | (refine Below.setCell ?_ (by first | omega | (simp; omega) | simp) _) | (refine below_trans ?_ (by assumption) (by first | omega | (simp; omega) | simp))))⟩
            case measure => simp [intOf]; omega
      · have hcase : (k = ss.length) ∨ (k < ss.length ∧ k = 60) := by omega
        clear hgo
        rcases hcase with hcase | ⟨hlt, hcase⟩
        · subst hcase
          go_wp2
          go_ret
          exact ⟨rfl, (by repeat (first | exact Below.refl _ _ | assumption | (refine below_drewN ?_ _) | (refine Below.drew ?_) | (refine Below.alloc ?_ (by first | omega | (simp; omega) | simp) _) | (refine Below.setCell ?_ (by first | omega | (simp; omega) | simp) _) | (refine below_trans ?_ (by assumption) (by first | omega | (simp; omega) | simp))))⟩
        · obtain ⟨b, off, rfl, hbb, hcc⟩ := (hq.later hb_wr) (by omega)
          obtain ⟨hsk, hsv, s0, s1, s2⟩ := hcc k hlt
          have i1 : (k : Int) < (ss.length : Int) := by omega
          have i2 : (0 : Int) ≤ (k : Int) := by omega
          have f60 : ((k : Int) == 60) = true := by rw [hcase]; rfl
          clear hcc hcase
          generalize nthP ss k = sx at *
          obtain ⟨sd, sk, sv⟩ := sx
          simp only at hsk hsv s0 s1 s2
          go_wp2
          go_ret
          exact ⟨rfl, (by repeat (first | exact Below.refl _ _ | assumption | (refine below_drewN ?_ _) | (refine Below.drew ?_) | (refine Below.alloc ?_ (by first | omega | (simp; omega) | simp) _) | (refine Below.setCell ?_ (by first | omega | (simp; omega) | simp) _) | (refine below_trans ?_ (by assumption) (by first | omega | (simp; omega) | simp))))⟩
  · have HZ := Lib.hid hz
    have f0 : ((key : Int) == 0) = false := by rw [beq_eq_false_iff_ne]; omega
    have f9 : ((key : Int) != 0) = true := by rw [bne_iff_ne]; omega
    have HG0 : Hid (GetT [] key 0 3) := Lib.hid (.of_no okT_nil hz fun ⟨v, h⟩ => has_nil _ _ h)
    clear hz
    go_enter Tryd.func5, Tryd.ntmps5
    go_wp2_with fail
    go_at_call 15
    refine (elives_any _ (hT.later (by repeat (first | exact Below.refl _ _ | assumption | (refine below_drewN ?_ _) | (refine Below.drew ?_) | (refine Below.alloc ?_ (by first | omega | (simp; omega) | simp) _) | (refine Below.setCell ?_ (by first | omega | (simp; omega) | simp) _) | (refine below_trans ?_ (by assumption) (by first | omega | (simp; omega) | simp)))))).mono ?_
    rintro e w1 ⟨rfl, hb_w1⟩
    obtain ⟨hc_w1, hf_w1⟩ := bcell hb_w1; have hs_w1 := hb_w1.size; (try simp only [World.size_alloc, World.size_setCell, World.size_drew, World.heap_drewN] at hs_w1)
    have b1 : Below w.heap.size w w1 := (by repeat (first | exact Below.refl _ _ | assumption | (refine below_drewN ?_ _) | (refine Below.drew ?_) | (refine Below.alloc ?_ (by first | omega | (simp; omega) | simp) _) | (refine Below.setCell ?_ (by first | omega | (simp; omega) | simp) _) | (refine below_trans ?_ (by assumption) (by first | omega | (simp; omega) | simp))))
    have P' := Lib.hid (Bx.new w1 (.slice none 0 0) 24)
    clear hc_w1 hf_w1
    go_wp2_with fail
    go_loopw [6, 7, 8, 30] (fun ww yy mm ii wr => ∃ (k : Nat) (A : Option Addr) (cap : Nat) (l : List Es) (x : Nat) (y : Int) (u : Nat), ii = .int .i64 (k : Nat) ∧ ww = .int .u64 (x : Nat) ∧ yy = .int .i64 y ∧ mm = .int .i64 (u : Nat) ∧ k ≤ ss.length ∧ k ≤ 60 ∧ ETab wr (w1.heap.size + 1) A cap l ∧ OkT l ∧ GetT l key x y ∧ Hid (useds l = u) ∧ Bx wr w1.heap.size (.slice A l.length cap) ∧ w1.heap.size + 1 ≤ wr.heap.size ∧ Below w.heap.size w wr) (fun ww yy mm ii _ => ss.length - (intOf ii).toNat)
    case atStart => exact ⟨0, none, 0, [], 0, 3, 0, rfl, rfl, rfl, rfl, Nat.zero_le _, Nat.zero_le _, ETab.nil _ _, okT_nil, HG0.out, Lib.hid rfl, P'.out, (by first | omega | (simp; omega) | simp), (by repeat (first | exact Below.refl _ _ | assumption | (refine below_drewN ?_ _) | (refine Below.drew ?_) | (refine Below.alloc ?_ (by first | omega | (simp; omega) | simp) _) | (refine Below.setCell ?_ (by first | omega | (simp; omega) | simp) _) | (refine below_trans ?_ (by assumption) (by first | omega | (simp; omega) | simp))))⟩
    case round =>
      clear P' hb_w1
      obtain ⟨k, A, cap, l, x, y, u, rfl, rfl, rfl, rfl, hk, hk60, eo, hok, hGl, hu, P, hsz, hb_wr⟩ := hrel
      have hsr := hb_wr.size
      have hl64 := hok.le
      have HU0 := Lib.hid hok
      have hnil := Lib.hid eo.nil_
      have er := Lib.hid eo.row
      have EO := Lib.hid eo
      have hGl := Lib.hid hGl
      have hu64 : u ≤ 64 := by have := useds_le l; have := hu.out; omega
      obtain ⟨p0, p1⟩ := id P
      have PH := Lib.hid P
      have pl := P.lt
      clear P eo hok
      have n1 : ¬ (w1.heap.size = wr.heap.size) := by omega
      have n2 : ¬ (wr.heap.size = w1.heap.size) := by omega
      by_cases hgo : k < ss.length ∧ k ≠ 60
      · obtain ⟨hlt, hne⟩ := hgo
        obtain ⟨b, off, rfl, hbb, hcc⟩ := (hq.later hb_wr) (by omega)
        obtain ⟨hsk, hsv, s0, s1, s2⟩ := hcc k hlt
        have i1 : (k : Int) < (ss.length : Int) := by omega
        have i2 : (0 : Int) ≤ (k : Int) := by omega
        have f60 : ((k : Int) == 60) = false := by rw [beq_eq_false_iff_ne]; omega
        clear hcc
        have HNE := Lib.hid hne
        clear hne
        generalize nthP ss k = sx at *
        obtain ⟨sd, sk, sv⟩ := sx
        simp only at hsk hsv s0 s1 s2
        cases sd with
        | true =>
          obtain ⟨r, m, y1, hE⟩ := DelT.ex l [sk]
          obtain ⟨hd, rfl⟩ := hE.ok HU0.out
          have HDK := Lib.hid fun (w : World) (A K : Option Addr) (cap : Nat) hT hr hn hq => HD.out w A K cap l sk r m 0 hT hr (by omega) hn hq hE
          have HOK := Lib.hid hd.okr
          have hm : (m = 1 ∧ ∃ u', u = u' + 1 ∧ Hid (useds r = u')) ∨ (m = 0 ∧ Hid (useds r = u)) := by
            by_cases hh : ∃ v, Has l sk v
            · obtain ⟨a, b⟩ := hd.hit hh
              exact .inl ⟨a, useds r, by have := hu.out; omega, Lib.hid rfl⟩
            · obtain ⟨a, b⟩ := hd.miss hh
              exact .inr ⟨a, Lib.hid (by have := hu.out; omega)⟩
          have hcase : (((sk : Int) == (key : Int)) = true ∧ Hid (GetT r key 0 3)) ∨ (((sk : Int) == (key : Int)) = false ∧ Hid (GetT r key x y)) := by
            by_cases he : sk = key
            · subst he
              refine .inl ⟨by simp, Lib.hid (.of_no hd.okr HZ.out fun ⟨v, h⟩ => ((hd.has _ _).1 h).1 rfl)⟩
            · exact .inr ⟨by rw [beq_eq_false_iff_ne]; omega, Lib.hid (getT_congr HU0.out hd.okr (fun v => by rw [hd.has]; exact ⟨fun h => h.2, fun h => ⟨fun e => he e.symm, h⟩⟩) hGl.out)⟩
          clear hE hd
          rcases hm with ⟨rfl, un, rfl, hun⟩ | ⟨rfl, hun⟩
          · rcases hcase with ⟨f1, hGn⟩ | ⟨f1, hGn⟩
            · skip
              go_wp2_with fail
              go_at_call 13
              refine (HDK.out _ _ _ _ (hT.later (by repeat (first | exact Below.refl _ _ | assumption | (refine below_drewN ?_ _) | (refine Below.drew ?_) | (refine Below.alloc ?_ (by first | omega | (simp; omega) | simp) _) | (refine Below.setCell ?_ (by first | omega | (simp; omega) | simp) _) | (refine below_trans ?_ (by assumption) (by first | omega | (simp; omega) | simp))))) (er.out.later (by repeat (first | exact Below.refl _ _ | assumption | (refine below_drewN ?_ _) | (refine Below.drew ?_) | (refine Below.alloc ?_ (by first | omega | (simp; omega) | simp) _) | (refine Below.setCell ?_ (by first | omega | (simp; omega) | simp) _) | (refine below_trans ?_ (by assumption) (by first | omega | (simp; omega) | simp))))) hnil.out (by exact HN.out _ _ _ (by simp) hsk)).mono ?_
              rintro e w3 ⟨B2, c2, rfl, o2, hb_w3⟩
              obtain ⟨hc_w3, hf_w3⟩ := bcell hb_w3; have hz_w3_wr_0 : wr.heap.size < w3.heap.size := (by have hzz := hb_w3.size; (try simp only [World.size_alloc, World.size_setCell, World.size_drew, World.heap_drewN] at hzz); omega); have hz_w3_wr_1 : wr.heap.size + 1 < w3.heap.size := (by have hzz := hb_w3.size; (try simp only [World.size_alloc, World.size_setCell, World.size_drew, World.heap_drewN] at hzz); omega); have hs_w3 := hb_w3.size; (try simp only [World.size_alloc, World.size_setCell, World.size_drew, World.heap_drewN] at hs_w3)
              have b3 : Below wr.heap.size wr w3 := (by repeat (first | exact Below.refl _ _ | assumption | (refine below_drewN ?_ _) | (refine Below.drew ?_) | (refine Below.alloc ?_ (by first | omega | (simp; omega) | simp) _) | (refine Below.setCell ?_ (by first | omega | (simp; omega) | simp) _) | (refine below_trans ?_ (by assumption) (by first | omega | (simp; omega) | simp))))
              have P3 := (PH.out.later b3 : Bx w3 _ _)
              have S3 := (((Sx.new wr true sk sv 47).alloc _).later hb_w3 : Sx w3 _ _ _ _)
              have p3l := P3.lt
              have s3l := S3.lt
              have P9 := Lib.hid ((P3.set (.slice B2 r.length c2)).alloc (.cells #[.slice B2 r.length c2] 24))
              have O9 := Lib.hid (((o2.mono (B' := w1.heap.size + 1) (by first | omega | (simp; omega))).far (p := ⟨w1.heap.size, 0, none⟩) (by show w1.heap.size < _; omega) (.slice B2 r.length c2)).later ((Below.refl _ _).alloc (Nat.le_refl _) (.cells #[.slice B2 r.length c2] 24)))
              obtain ⟨p30, p31⟩ := P3
              obtain ⟨s30, s31, s32⟩ := S3
              clear hc_w3 hf_w3 o2
              have hlr : r.length ≤ 64 := HOK.out.le
              have HGN := Lib.hid fun (w : World) (A : Option Addr) (cap : Nat) hT hr hn => HG.out w A cap r key 0 3 hT hr (by omega) hn hGn.out
              have HAN := Lib.hid fun (w : World) (A : Option Addr) (cap : Nat) hT hr hn => HA.out w A cap r un hun.out hT hr (by omega) hn HOK.out
              have HCN := Lib.hid fun (w : World) (A : Option Addr) (cap : Nat) hT hr hn => HC.out w A cap r hT hr (by omega) hn HOK.out
              have hn9 := Lib.hid O9.out.nil_
              have p90 := P9.out.c
              go_wp2_with fail
              go_at_call 17
              refine (HGN.out _ _ _ (hT.later (by repeat (first | exact Below.refl _ _ | assumption | (refine below_drewN ?_ _) | (refine Below.drew ?_) | (refine Below.alloc ?_ (by first | omega | (simp; omega) | simp) _) | (refine Below.setCell ?_ (by first | omega | (simp; omega) | simp) _) | (refine below_trans ?_ (by assumption) (by first | omega | (simp; omega) | simp))))) (O9.out.row.later (by repeat (first | exact Below.refl _ _ | assumption | (refine below_drewN ?_ _) | (refine Below.drew ?_) | (refine Below.alloc ?_ (by first | omega | (simp; omega) | simp) _) | (refine Below.setCell ?_ (by first | omega | (simp; omega) | simp) _) | (refine below_trans ?_ (by assumption) (by first | omega | (simp; omega) | simp))))) hn9.out).mono ?_
              rintro e w5 ⟨rfl, hb_w5⟩
              obtain ⟨hc_w5, hf_w5⟩ := bcell hb_w5; have hz_w5_w3_0 : w3.heap.size < w5.heap.size := (by have hzz := hb_w5.size; (try simp only [World.size_alloc, World.size_setCell, World.size_drew, World.heap_drewN] at hzz); omega); have hs_w5 := hb_w5.size; (try simp only [World.size_alloc, World.size_setCell, World.size_drew, World.heap_drewN] at hs_w5)
              have P5 := Lib.hid (P9.out.later hb_w5 : Bx w5 _ _)
              have O5 := Lib.hid (O9.out.later hb_w5)
              have p50 := P5.out.c
              clear hc_w5 hf_w5
              go_wp2_with fail
              go_at_call 19
              refine (HAN.out _ _ _ (hT.later (by repeat (first | exact Below.refl _ _ | assumption | (refine below_drewN ?_ _) | (refine Below.drew ?_) | (refine Below.alloc ?_ (by first | omega | (simp; omega) | simp) _) | (refine Below.setCell ?_ (by first | omega | (simp; omega) | simp) _) | (refine below_trans ?_ (by assumption) (by first | omega | (simp; omega) | simp))))) (O5.out.row.later (by repeat (first | exact Below.refl _ _ | assumption | (refine below_drewN ?_ _) | (refine Below.drew ?_) | (refine Below.alloc ?_ (by first | omega | (simp; omega) | simp) _) | (refine Below.setCell ?_ (by first | omega | (simp; omega) | simp) _) | (refine below_trans ?_ (by assumption) (by first | omega | (simp; omega) | simp))))) hn9.out).mono ?_
              rintro e w6 ⟨Kk, Vv, ck2, cv2, rfl, hb_w6⟩
              obtain ⟨hc_w6, hf_w6⟩ := bcell hb_w6; have hs_w6 := hb_w6.size; (try simp only [World.size_alloc, World.size_setCell, World.size_drew, World.heap_drewN] at hs_w6)
              have P6 := Lib.hid (P5.out.later hb_w6 : Bx w6 _ _)
              have O6 := Lib.hid (O5.out.later hb_w6)
              have p60 := P6.out.c
              clear hc_w6 hf_w6
              go_wp2_with fail
              go_at_call 24
              refine (HCN.out _ _ _ (hT.later (by repeat (first | exact Below.refl _ _ | assumption | (refine below_drewN ?_ _) | (refine Below.drew ?_) | (refine Below.alloc ?_ (by first | omega | (simp; omega) | simp) _) | (refine Below.setCell ?_ (by first | omega | (simp; omega) | simp) _) | (refine below_trans ?_ (by assumption) (by first | omega | (simp; omega) | simp))))) (O6.out.row.later (by repeat (first | exact Below.refl _ _ | assumption | (refine below_drewN ?_ _) | (refine Below.drew ?_) | (refine Below.alloc ?_ (by first | omega | (simp; omega) | simp) _) | (refine Below.setCell ?_ (by first | omega | (simp; omega) | simp) _) | (refine below_trans ?_ (by assumption) (by first | omega | (simp; omega) | simp))))) hn9.out).mono ?_
              rintro e w7 ⟨rfl, hb_w7⟩
              obtain ⟨hc_w7, hf_w7⟩ := bcell hb_w7; have hs_w7 := hb_w7.size; (try simp only [World.size_alloc, World.size_setCell, World.size_drew, World.heap_drewN] at hs_w7)
              have P7 := Lib.hid (P6.out.later hb_w7 : Bx w7 _ _)
              have O7 := Lib.hid (O6.out.later hb_w7)
              clear hc_w7 hf_w7
              go_wp2
              go_roundw
              case rel => exact ⟨k + 1, B2, c2, r, 0, 3, un, by go_num, rfl, rfl, by first | rfl | go_num, by omega, by have := HNE.out; omega, O7.out, HOK.out, hGn.out, Lib.hid hun.out, P7.out, (by first | omega | (simp; omega) | simp), (by repeat (first | exact Below.refl _ _ | assumption | (refine below_drewN ?_ _) | (refine Below.drew ?_) | (refine Below.alloc ?_ (by first | omega | (simp; omega) | simp) _) | (refine Below.setCell ?_ (by first | omega | (simp; omega) | simp) _) | (refine below_trans ?_ (by assumption) (by first | omega | (simp; omega) | simp))))⟩
              case measure => simp [intOf]; omega
            · skip
              go_wp2_with fail
              go_at_call 13
              refine (HDK.out _ _ _ _ (hT.later (by repeat (first | exact Below.refl _ _ | assumption | (refine below_drewN ?_ _) | (refine Below.drew ?_) | (refine Below.alloc ?_ (by first | omega | (simp; omega) | simp) _) | (refine Below.setCell ?_ (by first | omega | (simp; omega) | simp) _) | (refine below_trans ?_ (by assumption) (by first | omega | (simp; omega) | simp))))) (er.out.later (by repeat (first | exact Below.refl _ _ | assumption | (refine below_drewN ?_ _) | (refine Below.drew ?_) | (refine Below.alloc ?_ (by first | omega | (simp; omega) | simp) _) | (refine Below.setCell ?_ (by first | omega | (simp; omega) | simp) _) | (refine below_trans ?_ (by assumption) (by first | omega | (simp; omega) | simp))))) hnil.out (by exact HN.out _ _ _ (by simp) hsk)).mono ?_
              rintro e w3 ⟨B2, c2, rfl, o2, hb_w3⟩
              obtain ⟨hc_w3, hf_w3⟩ := bcell hb_w3; have hz_w3_wr_0 : wr.heap.size < w3.heap.size := (by have hzz := hb_w3.size; (try simp only [World.size_alloc, World.size_setCell, World.size_drew, World.heap_drewN] at hzz); omega); have hz_w3_wr_1 : wr.heap.size + 1 < w3.heap.size := (by have hzz := hb_w3.size; (try simp only [World.size_alloc, World.size_setCell, World.size_drew, World.heap_drewN] at hzz); omega); have hs_w3 := hb_w3.size; (try simp only [World.size_alloc, World.size_setCell, World.size_drew, World.heap_drewN] at hs_w3)
              have b3 : Below wr.heap.size wr w3 := (by repeat (first | exact Below.refl _ _ | assumption | (refine below_drewN ?_ _) | (refine Below.drew ?_) | (refine Below.alloc ?_ (by first | omega | (simp; omega) | simp) _) | (refine Below.setCell ?_ (by first | omega | (simp; omega) | simp) _) | (refine below_trans ?_ (by assumption) (by first | omega | (simp; omega) | simp))))
              have P3 := (PH.out.later b3 : Bx w3 _ _)
              have S3 := (((Sx.new wr true sk sv 47).alloc _).later hb_w3 : Sx w3 _ _ _ _)
              have p3l := P3.lt
              have s3l := S3.lt
              have P9 := Lib.hid ((P3.set (.slice B2 r.length c2)).alloc (.cells #[.slice B2 r.length c2] 24))
              have O9 := Lib.hid (((o2.mono (B' := w1.heap.size + 1) (by first | omega | (simp; omega))).far (p := ⟨w1.heap.size, 0, none⟩) (by show w1.heap.size < _; omega) (.slice B2 r.length c2)).later ((Below.refl _ _).alloc (Nat.le_refl _) (.cells #[.slice B2 r.length c2] 24)))
              obtain ⟨p30, p31⟩ := P3
              obtain ⟨s30, s31, s32⟩ := S3
              clear hc_w3 hf_w3 o2
              have hlr : r.length ≤ 64 := HOK.out.le
              have HGN := Lib.hid fun (w : World) (A : Option Addr) (cap : Nat) hT hr hn => HG.out w A cap r key x y hT hr (by omega) hn hGn.out
              have HAN := Lib.hid fun (w : World) (A : Option Addr) (cap : Nat) hT hr hn => HA.out w A cap r un hun.out hT hr (by omega) hn HOK.out
              have HCN := Lib.hid fun (w : World) (A : Option Addr) (cap : Nat) hT hr hn => HC.out w A cap r hT hr (by omega) hn HOK.out
              have hn9 := Lib.hid O9.out.nil_
              have p90 := P9.out.c
              go_wp2_with fail
              go_at_call 17
              refine (HGN.out _ _ _ (hT.later (by repeat (first | exact Below.refl _ _ | assumption | (refine below_drewN ?_ _) | (refine Below.drew ?_) | (refine Below.alloc ?_ (by first | omega | (simp; omega) | simp) _) | (refine Below.setCell ?_ (by first | omega | (simp; omega) | simp) _) | (refine below_trans ?_ (by assumption) (by first | omega | (simp; omega) | simp))))) (O9.out.row.later (by repeat (first | exact Below.refl _ _ | assumption | (refine below_drewN ?_ _) | (refine Below.drew ?_) | (refine Below.alloc ?_ (by first | omega | (simp; omega) | simp) _) | (refine Below.setCell ?_ (by first | omega | (simp; omega) | simp) _) | (refine below_trans ?_ (by assumption) (by first | omega | (simp; omega) | simp))))) hn9.out).mono ?_
              rintro e w5 ⟨rfl, hb_w5⟩
              obtain ⟨hc_w5, hf_w5⟩ := bcell hb_w5; have hz_w5_w3_0 : w3.heap.size < w5.heap.size := (by have hzz := hb_w5.size; (try simp only [World.size_alloc, World.size_setCell, World.size_drew, World.heap_drewN] at hzz); omega); have hs_w5 := hb_w5.size; (try simp only [World.size_alloc, World.size_setCell, World.size_drew, World.heap_drewN] at hs_w5)
              have P5 := Lib.hid (P9.out.later hb_w5 : Bx w5 _ _)
              have O5 := Lib.hid (O9.out.later hb_w5)
              have p50 := P5.out.c
              clear hc_w5 hf_w5
              go_wp2_with fail
              go_at_call 19
              refine (HAN.out _ _ _ (hT.later (by repeat (first | exact Below.refl _ _ | assumption | (refine below_drewN ?_ _) | (refine Below.drew ?_) | (refine Below.alloc ?_ (by first | omega | (simp; omega) | simp) _) | (refine Below.setCell ?_ (by first | omega | (simp; omega) | simp) _) | (refine below_trans ?_ (by assumption) (by first | omega | (simp; omega) | simp))))) (O5.out.row.later (by repeat (first | exact Below.refl _ _ | assumption | (refine below_drewN ?_ _) | (refine Below.drew ?_) | (refine Below.alloc ?_ (by first | omega | (simp; omega) | simp) _) | (refine Below.setCell ?_ (by first | omega | (simp; omega) | simp) _) | (refine below_trans ?_ (by assumption) (by first | omega | (simp; omega) | simp))))) hn9.out).mono ?_
              rintro e w6 ⟨Kk, Vv, ck2, cv2, rfl, hb_w6⟩
              obtain ⟨hc_w6, hf_w6⟩ := bcell hb_w6; have hs_w6 := hb_w6.size; (try simp only [World.size_alloc, World.size_setCell, World.size_drew, World.heap_drewN] at hs_w6)
              have P6 := Lib.hid (P5.out.later hb_w6 : Bx w6 _ _)
              have O6 := Lib.hid (O5.out.later hb_w6)
              have p60 := P6.out.c
              clear hc_w6 hf_w6
              go_wp2_with fail
              go_at_call 24
              refine (HCN.out _ _ _ (hT.later (by repeat (first | exact Below.refl _ _ | assumption | (refine below_drewN ?_ _) | (refine Below.drew ?_) | (refine Below.alloc ?_ (by first | omega | (simp; omega) | simp) _) | (refine Below.setCell ?_ (by first | omega | (simp; omega) | simp) _) | (refine below_trans ?_ (by assumption) (by first | omega | (simp; omega) | simp))))) (O6.out.row.later (by repeat (first | exact Below.refl _ _ | assumption | (refine below_drewN ?_ _) | (refine Below.drew ?_) | (refine Below.alloc ?_ (by first | omega | (simp; omega) | simp) _) | (refine Below.setCell ?_ (by first | omega | (simp; omega) | simp) _) | (refine below_trans ?_ (by assumption) (by first | omega | (simp; omega) | simp))))) hn9.out).mono ?_
              rintro e w7 ⟨rfl, hb_w7⟩
              obtain ⟨hc_w7, hf_w7⟩ := bcell hb_w7; have hs_w7 := hb_w7.size; (try simp only [World.size_alloc, World.size_setCell, World.size_drew, World.heap_drewN] at hs_w7)
              have P7 := Lib.hid (P6.out.later hb_w7 : Bx w7 _ _)
              have O7 := Lib.hid (O6.out.later hb_w7)
              clear hc_w7 hf_w7
              go_wp2
              go_roundw
              case rel => exact ⟨k + 1, B2, c2, r, x, y, un, by go_num, rfl, rfl, by first | rfl | go_num, by omega, by have := HNE.out; omega, O7.out, HOK.out, hGn.out, Lib.hid hun.out, P7.out, (by first | omega | (simp; omega) | simp), (by repeat (first | exact Below.refl _ _ | assumption | (refine below_drewN ?_ _) | (refine Below.drew ?_) | (refine Below.alloc ?_ (by first | omega | (simp; omega) | simp) _) | (refine Below.setCell ?_ (by first | omega | (simp; omega) | simp) _) | (refine below_trans ?_ (by assumption) (by first | omega | (simp; omega) | simp))))⟩
              case measure => simp [intOf]; omega
          · rcases hcase with ⟨f1, hGn⟩ | ⟨f1, hGn⟩
            · skip
              go_wp2_with fail
              go_at_call 13
              refine (HDK.out _ _ _ _ (hT.later (by repeat (first | exact Below.refl _ _ | assumption | (refine below_drewN ?_ _) | (refine Below.drew ?_) | (refine Below.alloc ?_ (by first | omega | (simp; omega) | simp) _) | (refine Below.setCell ?_ (by first | omega | (simp; omega) | simp) _) | (refine below_trans ?_ (by assumption) (by first | omega | (simp; omega) | simp))))) (er.out.later (by repeat (first | exact Below.refl _ _ | assumption | (refine below_drewN ?_ _) | (refine Below.drew ?_) | (refine Below.alloc ?_ (by first | omega | (simp; omega) | simp) _) | (refine Below.setCell ?_ (by first | omega | (simp; omega) | simp) _) | (refine below_trans ?_ (by assumption) (by first | omega | (simp; omega) | simp))))) hnil.out (by exact HN.out _ _ _ (by simp) hsk)).mono ?_
              rintro e w3 ⟨B2, c2, rfl, o2, hb_w3⟩
              obtain ⟨hc_w3, hf_w3⟩ := bcell hb_w3; have hz_w3_wr_0 : wr.heap.size < w3.heap.size := (by have hzz := hb_w3.size; (try simp only [World.size_alloc, World.size_setCell, World.size_drew, World.heap_drewN] at hzz); omega); have hz_w3_wr_1 : wr.heap.size + 1 < w3.heap.size := (by have hzz := hb_w3.size; (try simp only [World.size_alloc, World.size_setCell, World.size_drew, World.heap_drewN] at hzz); omega); have hs_w3 := hb_w3.size; (try simp only [World.size_alloc, World.size_setCell, World.size_drew, World.heap_drewN] at hs_w3)
              have b3 : Below wr.heap.size wr w3 := (by repeat (first | exact Below.refl _ _ | assumption | (refine below_drewN ?_ _) | (refine Below.drew ?_) | (refine Below.alloc ?_ (by first | omega | (simp; omega) | simp) _) | (refine Below.setCell ?_ (by first | omega | (simp; omega) | simp) _) | (refine below_trans ?_ (by assumption) (by first | omega | (simp; omega) | simp))))
              have P3 := (PH.out.later b3 : Bx w3 _ _)
              have S3 := (((Sx.new wr true sk sv 47).alloc _).later hb_w3 : Sx w3 _ _ _ _)
              have p3l := P3.lt
              have s3l := S3.lt
              have P9 := Lib.hid ((P3.set (.slice B2 r.length c2)).alloc (.cells #[.slice B2 r.length c2] 24))
              have O9 := Lib.hid (((o2.mono (B' := w1.heap.size + 1) (by first | omega | (simp; omega))).far (p := ⟨w1.heap.size, 0, none⟩) (by show w1.heap.size < _; omega) (.slice B2 r.length c2)).later ((Below.refl _ _).alloc (Nat.le_refl _) (.cells #[.slice B2 r.length c2] 24)))
              obtain ⟨p30, p31⟩ := P3
              obtain ⟨s30, s31, s32⟩ := S3
              clear hc_w3 hf_w3 o2
              have hlr : r.length ≤ 64 := HOK.out.le
              have HGN := Lib.hid fun (w : World) (A : Option Addr) (cap : Nat) hT hr hn => HG.out w A cap r key 0 3 hT hr (by omega) hn hGn.out
              have HAN := Lib.hid fun (w : World) (A : Option Addr) (cap : Nat) hT hr hn => HA.out w A cap r u hun.out hT hr (by omega) hn HOK.out
              have HCN := Lib.hid fun (w : World) (A : Option Addr) (cap : Nat) hT hr hn => HC.out w A cap r hT hr (by omega) hn HOK.out
              have hn9 := Lib.hid O9.out.nil_
              have p90 := P9.out.c
              go_wp2_with fail
              go_at_call 17
              refine (HGN.out _ _ _ (hT.later (by repeat (first | exact Below.refl _ _ | assumption | (refine below_drewN ?_ _) | (refine Below.drew ?_) | (refine Below.alloc ?_ (by first | omega | (simp; omega) | simp) _) | (refine Below.setCell ?_ (by first | omega | (simp; omega) | simp) _) | (refine below_trans ?_ (by assumption) (by first | omega | (simp; omega) | simp))))) (O9.out.row.later (by repeat (first | exact Below.refl _ _ | assumption | (refine below_drewN ?_ _) | (refine Below.drew ?_) | (refine Below.alloc ?_ (by first | omega | (simp; omega) | simp) _) | (refine Below.setCell ?_ (by first | omega | (simp; omega) | simp) _) | (refine below_trans ?_ (by assumption) (by first | omega | (simp; omega) | simp))))) hn9.out).mono ?_
              rintro e w5 ⟨rfl, hb_w5⟩
              obtain ⟨hc_w5, hf_w5⟩ := bcell hb_w5; have hz_w5_w3_0 : w3.heap.size < w5.heap.size := (by have hzz := hb_w5.size; (try simp only [World.size_alloc, World.size_setCell, World.size_drew, World.heap_drewN] at hzz); omega); have hs_w5 := hb_w5.size; (try simp only [World.size_alloc, World.size_setCell, World.size_drew, World.heap_drewN] at hs_w5)
              have P5 := Lib.hid (P9.out.later hb_w5 : Bx w5 _ _)
              have O5 := Lib.hid (O9.out.later hb_w5)
              have p50 := P5.out.c
              clear hc_w5 hf_w5
              go_wp2_with fail
              go_at_call 19
              refine (HAN.out _ _ _ (hT.later (by repeat (first | exact Below.refl _ _ | assumption | (refine below_drewN ?_ _) | (refine Below.drew ?_) | (refine Below.alloc ?_ (by first | omega | (simp; omega) | simp) _) | (refine Below.setCell ?_ (by first | omega | (simp; omega) | simp) _) | (refine below_trans ?_ (by assumption) (by first | omega | (simp; omega) | simp))))) (O5.out.row.later (by repeat (first | exact Below.refl _ _ | assumption | (refine below_drewN ?_ _) | (refine Below.drew ?_) | (refine Below.alloc ?_ (by first | omega | (simp; omega) | simp) _) | (refine Below.setCell ?_ (by first | omega | (simp; omega) | simp) _) | (refine below_trans ?_ (by assumption) (by first | omega | (simp; omega) | simp))))) hn9.out).mono ?_
              rintro e w6 ⟨Kk, Vv, ck2, cv2, rfl, hb_w6⟩
              obtain ⟨hc_w6, hf_w6⟩ := bcell hb_w6; have hs_w6 := hb_w6.size; (try simp only [World.size_alloc, World.size_setCell, World.size_drew, World.heap_drewN] at hs_w6)
              have P6 := Lib.hid (P5.out.later hb_w6 : Bx w6 _ _)
              have O6 := Lib.hid (O5.out.later hb_w6)
              have p60 := P6.out.c
              clear hc_w6 hf_w6
              go_wp2_with fail
              go_at_call 24
              refine (HCN.out _ _ _ (hT.later (by repeat (first | exact Below.refl _ _ | assumption | (refine below_drewN ?_ _) | (refine Below.drew ?_) | (refine Below.alloc ?_ (by first | omega | (simp; omega) | simp) _) | (refine Below.setCell ?_ (by first | omega | (simp; omega) | simp) _) | (refine below_trans ?_ (by assumption) (by first | omega | (simp; omega) | simp))))) (O6.out.row.later (by repeat (first | exact Below.refl _ _ | assumption | (refine below_drewN ?_ _) | (refine Below.drew ?_) | (refine Below.alloc ?_ (by first | omega | (simp; omega) | simp) _) | (refine Below.setCell ?_ (by first | omega | (simp; omega) | simp) _) | (refine below_trans ?_ (by assumption) (by first | omega | (simp; omega) | simp))))) hn9.out).mono ?_
              rintro e w7 ⟨rfl, hb_w7⟩
              obtain ⟨hc_w7, hf_w7⟩ := bcell hb_w7; have hs_w7 := hb_w7.size; (try simp only [World.size_alloc, World.size_setCell, World.size_drew, World.heap_drewN] at hs_w7)
              have P7 := Lib.hid (P6.out.later hb_w7 : Bx w7 _ _)
              have O7 := Lib.hid (O6.out.later hb_w7)
              clear hc_w7 hf_w7
              go_wp2
              go_roundw
              case rel => exact ⟨k + 1, B2, c2, r, 0, 3, u, by go_num, rfl, rfl, by first | rfl | go_num, by omega, by have := HNE.out; omega, O7.out, HOK.out, hGn.out, Lib.hid hun.out, P7.out, (by first | omega | (simp; omega) | simp), (by repeat (first | exact Below.refl _ _ | assumption | (refine below_drewN ?_ _) | (refine Below.drew ?_) | (refine Below.alloc ?_ (by first | omega | (simp; omega) | simp) _) | (refine Below.setCell ?_ (by first | omega | (simp; omega) | simp) _) | (refine below_trans ?_ (by assumption) (by first | omega | (simp; omega) | simp))))⟩
              case measure => simp [intOf]; omega
            · skip
              go_wp2_with fail
              go_at_call 13
              refine (HDK.out _ _ _ _ (hT.later (by repeat (first | exact Below.refl _ _ | assumption | (refine below_drewN ?_ _) | (refine Below.drew ?_) | (refine Below.alloc ?_ (by first | omega | (simp; omega) | simp) _) | (refine Below.setCell ?_ (by first | omega | (simp; omega) | simp) _) | (refine below_trans ?_ (by assumption) (by first | omega | (simp; omega) | simp))))) (er.out.later (by repeat (first | exact Below.refl _ _ | assumption | (refine below_drewN ?_ _) | (refine Below.drew ?_) | (refine Below.alloc ?_ (by first | omega | (simp; omega) | simp) _) | (refine Below.setCell ?_ (by first | omega | (simp; omega) | simp) _) | (refine below_trans ?_ (by assumption) (by first | omega | (simp; omega) | simp))))) hnil.out (by exact HN.out _ _ _ (by simp) hsk)).mono ?_
              rintro e w3 ⟨B2, c2, rfl, o2, hb_w3⟩
              obtain ⟨hc_w3, hf_w3⟩ := bcell hb_w3; have hz_w3_wr_0 : wr.heap.size < w3.heap.size := (by have hzz := hb_w3.size; (try simp only [World.size_alloc, World.size_setCell, World.size_drew, World.heap_drewN] at hzz); omega); have hz_w3_wr_1 : wr.heap.size + 1 < w3.heap.size := (by have hzz := hb_w3.size; (try simp only [World.size_alloc, World.size_setCell, World.size_drew, World.heap_drewN] at hzz); omega); have hs_w3 := hb_w3.size; (try simp only [World.size_alloc, World.size_setCell, World.size_drew, World.heap_drewN] at hs_w3)
              have b3 : Below wr.heap.size wr w3 := (by repeat (first | exact Below.refl _ _ | assumption | (refine below_drewN ?_ _) | (refine Below.drew ?_) | (refine Below.alloc ?_ (by first | omega | (simp; omega) | simp) _) | (refine Below.setCell ?_ (by first | omega | (simp; omega) | simp) _) | (refine below_trans ?_ (by assumption) (by first | omega | (simp; omega) | simp))))
              have P3 := (PH.out.later b3 : Bx w3 _ _)
              have S3 := (((Sx.new wr true sk sv 47).alloc _).later hb_w3 : Sx w3 _ _ _ _)
              have p3l := P3.lt
              have s3l := S3.lt
              have P9 := Lib.hid ((P3.set (.slice B2 r.length c2)).alloc (.cells #[.slice B2 r.length c2] 24))
              have O9 := Lib.hid (((o2.mono (B' := w1.heap.size + 1) (by first | omega | (simp; omega))).far (p := ⟨w1.heap.size, 0, none⟩) (by show w1.heap.size < _; omega) (.slice B2 r.length c2)).later ((Below.refl _ _).alloc (Nat.le_refl _) (.cells #[.slice B2 r.length c2] 24)))
              obtain ⟨p30, p31⟩ := P3
              obtain ⟨s30, s31, s32⟩ := S3
              clear hc_w3 hf_w3 o2
              have hlr : r.length ≤ 64 := HOK.out.le
              have HGN := Lib.hid fun (w : World) (A : Option Addr) (cap : Nat) hT hr hn => HG.out w A cap r key x y hT hr (by omega) hn hGn.out
              have HAN := Lib.hid fun (w : World) (A : Option Addr) (cap : Nat) hT hr hn => HA.out w A cap r u hun.out hT hr (by omega) hn HOK.out
              have HCN := Lib.hid fun (w : World) (A : Option Addr) (cap : Nat) hT hr hn => HC.out w A cap r hT hr (by omega) hn HOK.out
              have hn9 := Lib.hid O9.out.nil_
              have p90 := P9.out.c
              go_wp2_with fail
              go_at_call 17
              refine (HGN.out _ _ _ (hT.later (by repeat (first | exact Below.refl _ _ | assumption | (refine below_drewN ?_ _) | (refine Below.drew ?_) | (refine Below.alloc ?_ (by first | omega | (simp; omega) | simp) _) | (refine Below.setCell ?_ (by first | omega | (simp; omega) | simp) _) | (refine below_trans ?_ (by assumption) (by first | omega | (simp; omega) | simp))))) (O9.out.row.later (by repeat (first | exact Below.refl _ _ | assumption | (refine below_drewN ?_ _) | (refine Below.drew ?_) | (refine Below.alloc ?_ (by first | omega | (simp; omega) | simp) _) | (refine Below.setCell ?_ (by first | omega | (simp; omega) | simp) _) | (refine below_trans ?_ (by assumption) (by first | omega | (simp; omega) | simp))))) hn9.out).mono ?_
              rintro e w5 ⟨rfl, hb_w5⟩
              obtain ⟨hc_w5, hf_w5⟩ := bcell hb_w5; have hz_w5_w3_0 : w3.heap.size < w5.heap.size := (by have hzz := hb_w5.size; (try simp only [World.size_alloc, World.size_setCell, World.size_drew, World.heap_drewN] at hzz); omega); have hs_w5 := hb_w5.size; (try simp only [World.size_alloc, World.size_setCell, World.size_drew, World.heap_drewN] at hs_w5)
              have P5 := Lib.hid (P9.out.later hb_w5 : Bx w5 _ _)
              have O5 := Lib.hid (O9.out.later hb_w5)
              have p50 := P5.out.c
              clear hc_w5 hf_w5
              go_wp2_with fail
              go_at_call 19
              refine (HAN.out _ _ _ (hT.later (by repeat (first | exact Below.refl _ _ | assumption | (refine below_drewN ?_ _) | (refine Below.drew ?_) | (refine Below.alloc ?_ (by first | omega | (simp; omega) | simp) _) | (refine Below.setCell ?_ (by first | omega | (simp; omega) | simp) _) | (refine below_trans ?_ (by assumption) (by first | omega | (simp; omega) | simp))))) (O5.out.row.later (by repeat (first | exact Below.refl _ _ | assumption | (refine below_drewN ?_ _) | (refine Below.drew ?_) | (refine Below.alloc ?_ (by first | omega | (simp; omega) | simp) _) | (refine Below.setCell ?_ (by first | omega | (simp; omega) | simp) _) | (refine below_trans ?_ (by assumption) (by first | omega | (simp; omega) | simp))))) hn9.out).mono ?_
              rintro e w6 ⟨Kk, Vv, ck2, cv2, rfl, hb_w6⟩
              obtain ⟨hc_w6, hf_w6⟩ := bcell hb_w6; have hs_w6 := hb_w6.size; (try simp only [World.size_alloc, World.size_setCell, World.size_drew, World.heap_drewN] at hs_w6)
              have P6 := Lib.hid (P5.out.later hb_w6 : Bx w6 _ _)
              have O6 := Lib.hid (O5.out.later hb_w6)
              have p60 := P6.out.c
              clear hc_w6 hf_w6
              go_wp2_with fail
              go_at_call 24
              refine (HCN.out _ _ _ (hT.later (by repeat (first | exact Below.refl _ _ | assumption | (refine below_drewN ?_ _) | (refine Below.drew ?_) | (refine Below.alloc ?_ (by first | omega | (simp; omega) | simp) _) | (refine Below.setCell ?_ (by first | omega | (simp; omega) | simp) _) | (refine below_trans ?_ (by assumption) (by first | omega | (simp; omega) | simp))))) (O6.out.row.later (by repeat (first | exact Below.refl _ _ | assumption | (refine below_drewN ?_ _) | (refine Below.drew ?_) | (refine Below.alloc ?_ (by first | omega | (simp; omega) | simp) _) | (refine Below.setCell ?_ (by first | omega | (simp; omega) | simp) _) | (refine below_trans ?_ (by assumption) (by first | omega | (simp; omega) | simp))))) hn9.out).mono ?_
              rintro e w7 ⟨rfl, hb_w7⟩
              obtain ⟨hc_w7, hf_w7⟩ := bcell hb_w7; have hs_w7 := hb_w7.size; (try simp only [World.size_alloc, World.size_setCell, World.size_drew, World.heap_drewN] at hs_w7)
              have P7 := Lib.hid (P6.out.later hb_w7 : Bx w7 _ _)
              have O7 := Lib.hid (O6.out.later hb_w7)
              clear hc_w7 hf_w7
              go_wp2
              go_roundw
              case rel => exact ⟨k + 1, B2, c2, r, x, y, u, by go_num, rfl, rfl, by first | rfl | go_num, by omega, by have := HNE.out; omega, O7.out, HOK.out, hGn.out, Lib.hid hun.out, P7.out, (by first | omega | (simp; omega) | simp), (by repeat (first | exact Below.refl _ _ | assumption | (refine below_drewN ?_ _) | (refine Below.drew ?_) | (refine Below.alloc ?_ (by first | omega | (simp; omega) | simp) _) | (refine Below.setCell ?_ (by first | omega | (simp; omega) | simp) _) | (refine below_trans ?_ (by assumption) (by first | omega | (simp; omega) | simp))))⟩
              case measure => simp [intOf]; omega
        | false =>
          obtain ⟨x0, y0, hG0⟩ := GetT.ex l sk
          obtain ⟨r, y1, hE⟩ := PutT.ex l sk sv
          have HGK := Lib.hid fun (w : World) (A : Option Addr) (cap : Nat) hT hr hn => HG.out w A cap l sk x0 y0 hT hr (by omega) hn hG0
          have HPK := Lib.hid fun (w : World) (A : Option Addr) (cap : Nat) hT hr hn => HP.out w A cap l sk sv r y1 hT hr (by omega) hn hsk hsv hE
          by_cases hy : y1 = 0
          · have hp := hE.ok hy
            have HOK := Lib.hid hp.okr
            have hm : (y0 = 3 ∧ Hid (useds r = u + 1)) ∨ (y0 = 0 ∧ Hid (useds r = u)) := by
              rcases hG0.has HU0.out with ⟨a, b⟩ | ⟨a, _, c⟩
              · exact .inr ⟨a, Lib.hid (by rw [hp.old ⟨_, b⟩]; exact hu.out)⟩
              · rcases a with ⟨a, _⟩ | ⟨_, a⟩
                · exact .inl ⟨a, Lib.hid (by rw [hp.new c, hu.out])⟩
                · exact absurd a hp.k0
            have hcase : (((sk : Int) == (key : Int)) = true ∧ Hid (GetT r key sv 0)) ∨ (((sk : Int) == (key : Int)) = false ∧ Hid (GetT r key x y)) := by
              by_cases he : sk = key
              · subst he
                exact .inl ⟨by simp, Lib.hid (.of_has hp.okr ((hp.has _ _).2 (.inl ⟨rfl, rfl⟩)))⟩
              · exact .inr ⟨by rw [beq_eq_false_iff_ne]; omega, Lib.hid (getT_congr HU0.out hp.okr (fun v => by rw [hp.has]; exact ⟨fun h => h.elim (fun h => absurd h.1.symm he) (fun h => h.2), fun h => .inr ⟨fun e => he e.symm, h⟩⟩) hGl.out)⟩
            subst hy
            clear hE hp hG0
            rcases hm with ⟨rfl, hun⟩ | ⟨rfl, hun⟩
            · rcases hcase with ⟨f1, hGn⟩ | ⟨f1, hGn⟩
              · skip
                go_wp2_with fail
                go_at_call 17
                refine (HGK.out _ _ _ (hT.later (by repeat (first | exact Below.refl _ _ | assumption | (refine below_drewN ?_ _) | (refine Below.drew ?_) | (refine Below.alloc ?_ (by first | omega | (simp; omega) | simp) _) | (refine Below.setCell ?_ (by first | omega | (simp; omega) | simp) _) | (refine below_trans ?_ (by assumption) (by first | omega | (simp; omega) | simp))))) (er.out.later (by repeat (first | exact Below.refl _ _ | assumption | (refine below_drewN ?_ _) | (refine Below.drew ?_) | (refine Below.alloc ?_ (by first | omega | (simp; omega) | simp) _) | (refine Below.setCell ?_ (by first | omega | (simp; omega) | simp) _) | (refine below_trans ?_ (by assumption) (by first | omega | (simp; omega) | simp))))) hnil.out).mono ?_
                rintro e w3 ⟨rfl, hb_w3⟩
                obtain ⟨hc_w3, hf_w3⟩ := bcell hb_w3; have hz_w3_wr_0 : wr.heap.size < w3.heap.size := (by have hzz := hb_w3.size; (try simp only [World.size_alloc, World.size_setCell, World.size_drew, World.heap_drewN] at hzz); omega); have hs_w3 := hb_w3.size; (try simp only [World.size_alloc, World.size_setCell, World.size_drew, World.heap_drewN] at hs_w3)
                have b3 : Below wr.heap.size wr w3 := (by repeat (first | exact Below.refl _ _ | assumption | (refine below_drewN ?_ _) | (refine Below.drew ?_) | (refine Below.alloc ?_ (by first | omega | (simp; omega) | simp) _) | (refine Below.setCell ?_ (by first | omega | (simp; omega) | simp) _) | (refine below_trans ?_ (by assumption) (by first | omega | (simp; omega) | simp))))
                have P3 := (PH.out.later b3 : Bx w3 _ _)
                have S3 := ((Sx.new wr false sk sv 47).later hb_w3 : Sx w3 _ _ _ _)
                have P3H := Lib.hid P3
                have S3H := Lib.hid S3
                obtain ⟨p30, p31⟩ := P3
                obtain ⟨s30, s31, s32⟩ := S3
                clear hc_w3 hf_w3
                go_wp2_with fail
                go_at_call 11
                refine (HPK.out _ _ _ (hT.later (by repeat (first | exact Below.refl _ _ | assumption | (refine below_drewN ?_ _) | (refine Below.drew ?_) | (refine Below.alloc ?_ (by first | omega | (simp; omega) | simp) _) | (refine Below.setCell ?_ (by first | omega | (simp; omega) | simp) _) | (refine below_trans ?_ (by assumption) (by first | omega | (simp; omega) | simp))))) ((er.out.later b3).later (by repeat (first | exact Below.refl _ _ | assumption | (refine below_drewN ?_ _) | (refine Below.drew ?_) | (refine Below.alloc ?_ (by first | omega | (simp; omega) | simp) _) | (refine Below.setCell ?_ (by first | omega | (simp; omega) | simp) _) | (refine below_trans ?_ (by assumption) (by first | omega | (simp; omega) | simp))))) hnil.out).mono ?_
                rintro e w4 ⟨B2, c2, rfl, o2, hb_w4⟩
                obtain ⟨hc_w4, hf_w4⟩ := bcell hb_w4; have hs_w4 := hb_w4.size; (try simp only [World.size_alloc, World.size_setCell, World.size_drew, World.heap_drewN] at hs_w4)
                have P4 := (P3H.out.later hb_w4 : Bx w4 _ _)
                have S4 := (S3H.out.later hb_w4 : Sx w4 _ _ _ _)
                have p4l := P4.lt
                have s4l := S4.lt
                have P9 := Lib.hid ((P4.set (.slice B2 r.length c2)).alloc (.cells #[.slice B2 r.length c2] 24))
                have O9 := Lib.hid (((o2.mono (B' := w1.heap.size + 1) (by first | omega | (simp; omega))).far (p := ⟨w1.heap.size, 0, none⟩) (by show w1.heap.size < _; omega) (.slice B2 r.length c2)).later ((Below.refl _ _).alloc (Nat.le_refl _) (.cells #[.slice B2 r.length c2] 24)))
                obtain ⟨p40, p41⟩ := P4
                obtain ⟨s40, s41, s42⟩ := S4
                clear hc_w4 hf_w4 o2
                have hlr : r.length ≤ 64 := HOK.out.le
                have HGN := Lib.hid fun (w : World) (A : Option Addr) (cap : Nat) hT hr hn => HG.out w A cap r key sv 0 hT hr (by omega) hn hGn.out
                have HAN := Lib.hid fun (w : World) (A : Option Addr) (cap : Nat) hT hr hn => HA.out w A cap r (u + 1) hun.out hT hr (by omega) hn HOK.out
                have HCN := Lib.hid fun (w : World) (A : Option Addr) (cap : Nat) hT hr hn => HC.out w A cap r hT hr (by omega) hn HOK.out
                have hn9 := Lib.hid O9.out.nil_
                have p90 := P9.out.c
                go_wp2_with fail
                go_at_call 17
                refine (HGN.out _ _ _ (hT.later (by repeat (first | exact Below.refl _ _ | assumption | (refine below_drewN ?_ _) | (refine Below.drew ?_) | (refine Below.alloc ?_ (by first | omega | (simp; omega) | simp) _) | (refine Below.setCell ?_ (by first | omega | (simp; omega) | simp) _) | (refine below_trans ?_ (by assumption) (by first | omega | (simp; omega) | simp))))) (O9.out.row.later (by repeat (first | exact Below.refl _ _ | assumption | (refine below_drewN ?_ _) | (refine Below.drew ?_) | (refine Below.alloc ?_ (by first | omega | (simp; omega) | simp) _) | (refine Below.setCell ?_ (by first | omega | (simp; omega) | simp) _) | (refine below_trans ?_ (by assumption) (by first | omega | (simp; omega) | simp))))) hn9.out).mono ?_
                rintro e w5 ⟨rfl, hb_w5⟩
                obtain ⟨hc_w5, hf_w5⟩ := bcell hb_w5; have hz_w5_w4_0 : w4.heap.size < w5.heap.size := (by have hzz := hb_w5.size; (try simp only [World.size_alloc, World.size_setCell, World.size_drew, World.heap_drewN] at hzz); omega); have hs_w5 := hb_w5.size; (try simp only [World.size_alloc, World.size_setCell, World.size_drew, World.heap_drewN] at hs_w5)
                have P5 := Lib.hid (P9.out.later hb_w5 : Bx w5 _ _)
                have O5 := Lib.hid (O9.out.later hb_w5)
                have p50 := P5.out.c
                clear hc_w5 hf_w5
                go_wp2_with fail
                go_at_call 19
                refine (HAN.out _ _ _ (hT.later (by repeat (first | exact Below.refl _ _ | assumption | (refine below_drewN ?_ _) | (refine Below.drew ?_) | (refine Below.alloc ?_ (by first | omega | (simp; omega) | simp) _) | (refine Below.setCell ?_ (by first | omega | (simp; omega) | simp) _) | (refine below_trans ?_ (by assumption) (by first | omega | (simp; omega) | simp))))) (O5.out.row.later (by repeat (first | exact Below.refl _ _ | assumption | (refine below_drewN ?_ _) | (refine Below.drew ?_) | (refine Below.alloc ?_ (by first | omega | (simp; omega) | simp) _) | (refine Below.setCell ?_ (by first | omega | (simp; omega) | simp) _) | (refine below_trans ?_ (by assumption) (by first | omega | (simp; omega) | simp))))) hn9.out).mono ?_
                rintro e w6 ⟨Kk, Vv, ck2, cv2, rfl, hb_w6⟩
                obtain ⟨hc_w6, hf_w6⟩ := bcell hb_w6; have hs_w6 := hb_w6.size; (try simp only [World.size_alloc, World.size_setCell, World.size_drew, World.heap_drewN] at hs_w6)
                have P6 := Lib.hid (P5.out.later hb_w6 : Bx w6 _ _)
                have O6 := Lib.hid (O5.out.later hb_w6)
                have p60 := P6.out.c
                clear hc_w6 hf_w6
                go_wp2_with fail
                go_at_call 24
                refine (HCN.out _ _ _ (hT.later (by repeat (first | exact Below.refl _ _ | assumption | (refine below_drewN ?_ _) | (refine Below.drew ?_) | (refine Below.alloc ?_ (by first | omega | (simp; omega) | simp) _) | (refine Below.setCell ?_ (by first | omega | (simp; omega) | simp) _) | (refine below_trans ?_ (by assumption) (by first | omega | (simp; omega) | simp))))) (O6.out.row.later (by repeat (first | exact Below.refl _ _ | assumption | (refine below_drewN ?_ _) | (refine Below.drew ?_) | (refine Below.alloc ?_ (by first | omega | (simp; omega) | simp) _) | (refine Below.setCell ?_ (by first | omega | (simp; omega) | simp) _) | (refine below_trans ?_ (by assumption) (by first | omega | (simp; omega) | simp))))) hn9.out).mono ?_
                rintro e w7 ⟨rfl, hb_w7⟩
                obtain ⟨hc_w7, hf_w7⟩ := bcell hb_w7; have hs_w7 := hb_w7.size; (try simp only [World.size_alloc, World.size_setCell, World.size_drew, World.heap_drewN] at hs_w7)
                have P7 := Lib.hid (P6.out.later hb_w7 : Bx w7 _ _)
                have O7 := Lib.hid (O6.out.later hb_w7)
                clear hc_w7 hf_w7
                go_wp2
                go_roundw
                case rel => exact ⟨k + 1, B2, c2, r, sv, 0, (u + 1), by go_num, rfl, rfl, by first | rfl | go_num, by omega, by have := HNE.out; omega, O7.out, HOK.out, hGn.out, Lib.hid hun.out, P7.out, (by first | omega | (simp; omega) | simp), (by repeat (first | exact Below.refl _ _ | assumption | (refine below_drewN ?_ _) | (refine Below.drew ?_) | (refine Below.alloc ?_ (by first | omega | (simp; omega) | simp) _) | (refine Below.setCell ?_ (by first | omega | (simp; omega) | simp) _) | (refine below_trans ?_ (by assumption) (by first | omega | (simp; omega) | simp))))⟩
                case measure => simp [intOf]; omega
              · skip
                go_wp2_with fail
                go_at_call 17
                refine (HGK.out _ _ _ (hT.later (by repeat (first | exact Below.refl _ _ | assumption | (refine below_drewN ?_ _) | (refine Below.drew ?_) | (refine Below.alloc ?_ (by first | omega | (simp; omega) | simp) _) | (refine Below.setCell ?_ (by first | omega | (simp; omega) | simp) _) | (refine below_trans ?_ (by assumption) (by first | omega | (simp; omega) | simp))))) (er.out.later (by repeat (first | exact Below.refl _ _ | assumption | (refine below_drewN ?_ _) | (refine Below.drew ?_) | (refine Below.alloc ?_ (by first | omega | (simp; omega) | simp) _) | (refine Below.setCell ?_ (by first | omega | (simp; omega) | simp) _) | (refine below_trans ?_ (by assumption) (by first | omega | (simp; omega) | simp))))) hnil.out).mono ?_
                rintro e w3 ⟨rfl, hb_w3⟩
                obtain ⟨hc_w3, hf_w3⟩ := bcell hb_w3; have hz_w3_wr_0 : wr.heap.size < w3.heap.size := (by have hzz := hb_w3.size; (try simp only [World.size_alloc, World.size_setCell, World.size_drew, World.heap_drewN] at hzz); omega); have hs_w3 := hb_w3.size; (try simp only [World.size_alloc, World.size_setCell, World.size_drew, World.heap_drewN] at hs_w3)
                have b3 : Below wr.heap.size wr w3 := (by repeat (first | exact Below.refl _ _ | assumption | (refine below_drewN ?_ _) | (refine Below.drew ?_) | (refine Below.alloc ?_ (by first | omega | (simp; omega) | simp) _) | (refine Below.setCell ?_ (by first | omega | (simp; omega) | simp) _) | (refine below_trans ?_ (by assumption) (by first | omega | (simp; omega) | simp))))
                have P3 := (PH.out.later b3 : Bx w3 _ _)
                have S3 := ((Sx.new wr false sk sv 47).later hb_w3 : Sx w3 _ _ _ _)
                have P3H := Lib.hid P3
                have S3H := Lib.hid S3
                obtain ⟨p30, p31⟩ := P3
                obtain ⟨s30, s31, s32⟩ := S3
                clear hc_w3 hf_w3
                go_wp2_with fail
                go_at_call 11
                refine (HPK.out _ _ _ (hT.later (by repeat (first | exact Below.refl _ _ | assumption | (refine below_drewN ?_ _) | (refine Below.drew ?_) | (refine Below.alloc ?_ (by first | omega | (simp; omega) | simp) _) | (refine Below.setCell ?_ (by first | omega | (simp; omega) | simp) _) | (refine below_trans ?_ (by assumption) (by first | omega | (simp; omega) | simp))))) ((er.out.later b3).later (by repeat (first | exact Below.refl _ _ | assumption | (refine below_drewN ?_ _) | (refine Below.drew ?_) | (refine Below.alloc ?_ (by first | omega | (simp; omega) | simp) _) | (refine Below.setCell ?_ (by first | omega | (simp; omega) | simp) _) | (refine below_trans ?_ (by assumption) (by first | omega | (simp; omega) | simp))))) hnil.out).mono ?_
                rintro e w4 ⟨B2, c2, rfl, o2, hb_w4⟩
                obtain ⟨hc_w4, hf_w4⟩ := bcell hb_w4; have hs_w4 := hb_w4.size; (try simp only [World.size_alloc, World.size_setCell, World.size_drew, World.heap_drewN] at hs_w4)
                have P4 := (P3H.out.later hb_w4 : Bx w4 _ _)
                have S4 := (S3H.out.later hb_w4 : Sx w4 _ _ _ _)
                have p4l := P4.lt
                have s4l := S4.lt
                have P9 := Lib.hid ((P4.set (.slice B2 r.length c2)).alloc (.cells #[.slice B2 r.length c2] 24))
                have O9 := Lib.hid (((o2.mono (B' := w1.heap.size + 1) (by first | omega | (simp; omega))).far (p := ⟨w1.heap.size, 0, none⟩) (by show w1.heap.size < _; omega) (.slice B2 r.length c2)).later ((Below.refl _ _).alloc (Nat.le_refl _) (.cells #[.slice B2 r.length c2] 24)))
                obtain ⟨p40, p41⟩ := P4
                obtain ⟨s40, s41, s42⟩ := S4
                clear hc_w4 hf_w4 o2
                have hlr : r.length ≤ 64 := HOK.out.le
                have HGN := Lib.hid fun (w : World) (A : Option Addr) (cap : Nat) hT hr hn => HG.out w A cap r key x y hT hr (by omega) hn hGn.out
                have HAN := Lib.hid fun (w : World) (A : Option Addr) (cap : Nat) hT hr hn => HA.out w A cap r (u + 1) hun.out hT hr (by omega) hn HOK.out
                have HCN := Lib.hid fun (w : World) (A : Option Addr) (cap : Nat) hT hr hn => HC.out w A cap r hT hr (by omega) hn HOK.out
                have hn9 := Lib.hid O9.out.nil_
                have p90 := P9.out.c
                go_wp2_with fail
                go_at_call 17
                refine (HGN.out _ _ _ (hT.later (by repeat (first | exact Below.refl _ _ | assumption | (refine below_drewN ?_ _) | (refine Below.drew ?_) | (refine Below.alloc ?_ (by first | omega | (simp; omega) | simp) _) | (refine Below.setCell ?_ (by first | omega | (simp; omega) | simp) _) | (refine below_trans ?_ (by assumption) (by first | omega | (simp; omega) | simp))))) (O9.out.row.later (by repeat (first | exact Below.refl _ _ | assumption | (refine below_drewN ?_ _) | (refine Below.drew ?_) | (refine Below.alloc ?_ (by first | omega | (simp; omega) | simp) _) | (refine Below.setCell ?_ (by first | omega | (simp; omega) | simp) _) | (refine below_trans ?_ (by assumption) (by first | omega | (simp; omega) | simp))))) hn9.out).mono ?_
                rintro e w5 ⟨rfl, hb_w5⟩
                obtain ⟨hc_w5, hf_w5⟩ := bcell hb_w5; have hz_w5_w4_0 : w4.heap.size < w5.heap.size := (by have hzz := hb_w5.size; (try simp only [World.size_alloc, World.size_setCell, World.size_drew, World.heap_drewN] at hzz); omega); have hs_w5 := hb_w5.size; (try simp only [World.size_alloc, World.size_setCell, World.size_drew, World.heap_drewN] at hs_w5)
                have P5 := Lib.hid (P9.out.later hb_w5 : Bx w5 _ _)
                have O5 := Lib.hid (O9.out.later hb_w5)
                have p50 := P5.out.c
                clear hc_w5 hf_w5
                go_wp2_with fail
                go_at_call 19
                refine (HAN.out _ _ _ (hT.later (by repeat (first | exact Below.refl _ _ | assumption | (refine below_drewN ?_ _) | (refine Below.drew ?_) | (refine Below.alloc ?_ (by first | omega | (simp; omega) | simp) _) | (refine Below.setCell ?_ (by first | omega | (simp; omega) | simp) _) | (refine below_trans ?_ (by assumption) (by first | omega | (simp; omega) | simp))))) (O5.out.row.later (by repeat (first | exact Below.refl _ _ | assumption | (refine below_drewN ?_ _) | (refine Below.drew ?_) | (refine Below.alloc ?_ (by first | omega | (simp; omega) | simp) _) | (refine Below.setCell ?_ (by first | omega | (simp; omega) | simp) _) | (refine below_trans ?_ (by assumption) (by first | omega | (simp; omega) | simp))))) hn9.out).mono ?_
                rintro e w6 ⟨Kk, Vv, ck2, cv2, rfl, hb_w6⟩
                obtain ⟨hc_w6, hf_w6⟩ := bcell hb_w6; have hs_w6 := hb_w6.size; (try simp only [World.size_alloc, World.size_setCell, World.size_drew, World.heap_drewN] at hs_w6)
                have P6 := Lib.hid (P5.out.later hb_w6 : Bx w6 _ _)
                have O6 := Lib.hid (O5.out.later hb_w6)
                have p60 := P6.out.c
                clear hc_w6 hf_w6
                go_wp2_with fail
                go_at_call 24
                refine (HCN.out _ _ _ (hT.later (by repeat (first | exact Below.refl _ _ | assumption | (refine below_drewN ?_ _) | (refine Below.drew ?_) | (refine Below.alloc ?_ (by first | omega | (simp; omega) | simp) _) | (refine Below.setCell ?_ (by first | omega | (simp; omega) | simp) _) | (refine below_trans ?_ (by assumption) (by first | omega | (simp; omega) | simp))))) (O6.out.row.later (by repeat (first | exact Below.refl _ _ | assumption | (refine below_drewN ?_ _) | (refine Below.drew ?_) | (refine Below.alloc ?_ (by first | omega | (simp; omega) | simp) _) | (refine Below.setCell ?_ (by first | omega | (simp; omega) | simp) _) | (refine below_trans ?_ (by assumption) (by first | omega | (simp; omega) | simp))))) hn9.out).mono ?_
                rintro e w7 ⟨rfl, hb_w7⟩
                obtain ⟨hc_w7, hf_w7⟩ := bcell hb_w7; have hs_w7 := hb_w7.size; (try simp only [World.size_alloc, World.size_setCell, World.size_drew, World.heap_drewN] at hs_w7)
                have P7 := Lib.hid (P6.out.later hb_w7 : Bx w7 _ _)
                have O7 := Lib.hid (O6.out.later hb_w7)
                clear hc_w7 hf_w7
                go_wp2
                go_roundw
                case rel => exact ⟨k + 1, B2, c2, r, x, y, (u + 1), by go_num, rfl, rfl, by first | rfl | go_num, by omega, by have := HNE.out; omega, O7.out, HOK.out, hGn.out, Lib.hid hun.out, P7.out, (by first | omega | (simp; omega) | simp), (by repeat (first | exact Below.refl _ _ | assumption | (refine below_drewN ?_ _) | (refine Below.drew ?_) | (refine Below.alloc ?_ (by first | omega | (simp; omega) | simp) _) | (refine Below.setCell ?_ (by first | omega | (simp; omega) | simp) _) | (refine below_trans ?_ (by assumption) (by first | omega | (simp; omega) | simp))))⟩
                case measure => simp [intOf]; omega
            · rcases hcase with ⟨f1, hGn⟩ | ⟨f1, hGn⟩
              · skip
                go_wp2_with fail
                go_at_call 17
                refine (HGK.out _ _ _ (hT.later (by repeat (first | exact Below.refl _ _ | assumption | (refine below_drewN ?_ _) | (refine Below.drew ?_) | (refine Below.alloc ?_ (by first | omega | (simp; omega) | simp) _) | (refine Below.setCell ?_ (by first | omega | (simp; omega) | simp) _) | (refine below_trans ?_ (by assumption) (by first | omega | (simp; omega) | simp))))) (er.out.later (by repeat (first | exact Below.refl _ _ | assumption | (refine below_drewN ?_ _) | (refine Below.drew ?_) | (refine Below.alloc ?_ (by first | omega | (simp; omega) | simp) _) | (refine Below.setCell ?_ (by first | omega | (simp; omega) | simp) _) | (refine below_trans ?_ (by assumption) (by first | omega | (simp; omega) | simp))))) hnil.out).mono ?_
                rintro e w3 ⟨rfl, hb_w3⟩
                obtain ⟨hc_w3, hf_w3⟩ := bcell hb_w3; have hz_w3_wr_0 : wr.heap.size < w3.heap.size := (by have hzz := hb_w3.size; (try simp only [World.size_alloc, World.size_setCell, World.size_drew, World.heap_drewN] at hzz); omega); have hs_w3 := hb_w3.size; (try simp only [World.size_alloc, World.size_setCell, World.size_drew, World.heap_drewN] at hs_w3)
                have b3 : Below wr.heap.size wr w3 := (by repeat (first | exact Below.refl _ _ | assumption | (refine below_drewN ?_ _) | (refine Below.drew ?_) | (refine Below.alloc ?_ (by first | omega | (simp; omega) | simp) _) | (refine Below.setCell ?_ (by first | omega | (simp; omega) | simp) _) | (refine below_trans ?_ (by assumption) (by first | omega | (simp; omega) | simp))))
                have P3 := (PH.out.later b3 : Bx w3 _ _)
                have S3 := ((Sx.new wr false sk sv 47).later hb_w3 : Sx w3 _ _ _ _)
                have P3H := Lib.hid P3
                have S3H := Lib.hid S3
                obtain ⟨p30, p31⟩ := P3
                obtain ⟨s30, s31, s32⟩ := S3
                clear hc_w3 hf_w3
                go_wp2_with fail
                go_at_call 11
                refine (HPK.out _ _ _ (hT.later (by repeat (first | exact Below.refl _ _ | assumption | (refine below_drewN ?_ _) | (refine Below.drew ?_) | (refine Below.alloc ?_ (by first | omega | (simp; omega) | simp) _) | (refine Below.setCell ?_ (by first | omega | (simp; omega) | simp) _) | (refine below_trans ?_ (by assumption) (by first | omega | (simp; omega) | simp))))) ((er.out.later b3).later (by repeat (first | exact Below.refl _ _ | assumption | (refine below_drewN ?_ _) | (refine Below.drew ?_) | (refine Below.alloc ?_ (by first | omega | (simp; omega) | simp) _) | (refine Below.setCell ?_ (by first | omega | (simp; omega) | simp) _) | (refine below_trans ?_ (by assumption) (by first | omega | (simp; omega) | simp))))) hnil.out).mono ?_
                rintro e w4 ⟨B2, c2, rfl, o2, hb_w4⟩
                obtain ⟨hc_w4, hf_w4⟩ := bcell hb_w4; have hs_w4 := hb_w4.size; (try simp only [World.size_alloc, World.size_setCell, World.size_drew, World.heap_drewN] at hs_w4)
                have P4 := (P3H.out.later hb_w4 : Bx w4 _ _)
                have S4 := (S3H.out.later hb_w4 : Sx w4 _ _ _ _)
                have p4l := P4.lt
                have s4l := S4.lt
                have P9 := Lib.hid ((P4.set (.slice B2 r.length c2)).alloc (.cells #[.slice B2 r.length c2] 24))
                have O9 := Lib.hid (((o2.mono (B' := w1.heap.size + 1) (by first | omega | (simp; omega))).far (p := ⟨w1.heap.size, 0, none⟩) (by show w1.heap.size < _; omega) (.slice B2 r.length c2)).later ((Below.refl _ _).alloc (Nat.le_refl _) (.cells #[.slice B2 r.length c2] 24)))
                obtain ⟨p40, p41⟩ := P4
                obtain ⟨s40, s41, s42⟩ := S4
                clear hc_w4 hf_w4 o2
                have hlr : r.length ≤ 64 := HOK.out.le
                have HGN := Lib.hid fun (w : World) (A : Option Addr) (cap : Nat) hT hr hn => HG.out w A cap r key sv 0 hT hr (by omega) hn hGn.out
                have HAN := Lib.hid fun (w : World) (A : Option Addr) (cap : Nat) hT hr hn => HA.out w A cap r u hun.out hT hr (by omega) hn HOK.out
                have HCN := Lib.hid fun (w : World) (A : Option Addr) (cap : Nat) hT hr hn => HC.out w A cap r hT hr (by omega) hn HOK.out
                have hn9 := Lib.hid O9.out.nil_
                have p90 := P9.out.c
                go_wp2_with fail
                go_at_call 17
                refine (HGN.out _ _ _ (hT.later (by repeat (first | exact Below.refl _ _ | assumption | (refine below_drewN ?_ _) | (refine Below.drew ?_) | (refine Below.alloc ?_ (by first | omega | (simp; omega) | simp) _) | (refine Below.setCell ?_ (by first | omega | (simp; omega) | simp) _) | (refine below_trans ?_ (by assumption) (by first | omega | (simp; omega) | simp))))) (O9.out.row.later (by repeat (first | exact Below.refl _ _ | assumption | (refine below_drewN ?_ _) | (refine Below.drew ?_) | (refine Below.alloc ?_ (by first | omega | (simp; omega) | simp) _) | (refine Below.setCell ?_ (by first | omega | (simp; omega) | simp) _) | (refine below_trans ?_ (by assumption) (by first | omega | (simp; omega) | simp))))) hn9.out).mono ?_
                rintro e w5 ⟨rfl, hb_w5⟩
                obtain ⟨hc_w5, hf_w5⟩ := bcell hb_w5; have hz_w5_w4_0 : w4.heap.size < w5.heap.size := (by have hzz := hb_w5.size; (try simp only [World.size_alloc, World.size_setCell, World.size_drew, World.heap_drewN] at hzz); omega); have hs_w5 := hb_w5.size; (try simp only [World.size_alloc, World.size_setCell, World.size_drew, World.heap_drewN] at hs_w5)
                have P5 := Lib.hid (P9.out.later hb_w5 : Bx w5 _ _)
                have O5 := Lib.hid (O9.out.later hb_w5)
                have p50 := P5.out.c
                clear hc_w5 hf_w5
                go_wp2_with fail
                go_at_call 19
                refine (HAN.out _ _ _ (hT.later (by repeat (first | exact Below.refl _ _ | assumption | (refine below_drewN ?_ _) | (refine Below.drew ?_) | (refine Below.alloc ?_ (by first | omega | (simp; omega) | simp) _) | (refine Below.setCell ?_ (by first | omega | (simp; omega) | simp) _) | (refine below_trans ?_ (by assumption) (by first | omega | (simp; omega) | simp))))) (O5.out.row.later (by repeat (first | exact Below.refl _ _ | assumption | (refine below_drewN ?_ _) | (refine Below.drew ?_) | (refine Below.alloc ?_ (by first | omega | (simp; omega) | simp) _) | (refine Below.setCell ?_ (by first | omega | (simp; omega) | simp) _) | (refine below_trans ?_ (by assumption) (by first | omega | (simp; omega) | simp))))) hn9.out).mono ?_
                rintro e w6 ⟨Kk, Vv, ck2, cv2, rfl, hb_w6⟩
                obtain ⟨hc_w6, hf_w6⟩ := bcell hb_w6; have hs_w6 := hb_w6.size; (try simp only [World.size_alloc, World.size_setCell, World.size_drew, World.heap_drewN] at hs_w6)
                have P6 := Lib.hid (P5.out.later hb_w6 : Bx w6 _ _)
                have O6 := Lib.hid (O5.out.later hb_w6)
                have p60 := P6.out.c
                clear hc_w6 hf_w6
                go_wp2_with fail
                go_at_call 24
                refine (HCN.out _ _ _ (hT.later (by repeat (first | exact Below.refl _ _ | assumption | (refine below_drewN ?_ _) | (refine Below.drew ?_) | (refine Below.alloc ?_ (by first | omega | (simp; omega) | simp) _) | (refine Below.setCell ?_ (by first | omega | (simp; omega) | simp) _) | (refine below_trans ?_ (by assumption) (by first | omega | (simp; omega) | simp))))) (O6.out.row.later (by repeat (first | exact Below.refl _ _ | assumption | (refine below_drewN ?_ _) | (refine Below.drew ?_) | (refine Below.alloc ?_ (by first | omega | (simp; omega) | simp) _) | (refine Below.setCell ?_ (by first | omega | (simp; omega) | simp) _) | (refine below_trans ?_ (by assumption) (by first | omega | (simp; omega) | simp))))) hn9.out).mono ?_
                rintro e w7 ⟨rfl, hb_w7⟩
                obtain ⟨hc_w7, hf_w7⟩ := bcell hb_w7; have hs_w7 := hb_w7.size; (try simp only [World.size_alloc, World.size_setCell, World.size_drew, World.heap_drewN] at hs_w7)
                have P7 := Lib.hid (P6.out.later hb_w7 : Bx w7 _ _)
                have O7 := Lib.hid (O6.out.later hb_w7)
                clear hc_w7 hf_w7
                go_wp2
                go_roundw
                case rel => exact ⟨k + 1, B2, c2, r, sv, 0, u, by go_num, rfl, rfl, by first | rfl | go_num, by omega, by have := HNE.out; omega, O7.out, HOK.out, hGn.out, Lib.hid hun.out, P7.out, (by first | omega | (simp; omega) | simp), (by repeat (first | exact Below.refl _ _ | assumption | (refine below_drewN ?_ _) | (refine Below.drew ?_) | (refine Below.alloc ?_ (by first | omega | (simp; omega) | simp) _) | (refine Below.setCell ?_ (by first | omega | (simp; omega) | simp) _) | (refine below_trans ?_ (by assumption) (by first | omega | (simp; omega) | simp))))⟩
                case measure => simp [intOf]; omega
              · skip
                go_wp2_with fail
                go_at_call 17
                refine (HGK.out _ _ _ (hT.later (by repeat (first | exact Below.refl _ _ | assumption | (refine below_drewN ?_ _) | (refine Below.drew ?_) | (refine Below.alloc ?_ (by first | omega | (simp; omega) | simp) _) | (refine Below.setCell ?_ (by first | omega | (simp; omega) | simp) _) | (refine below_trans ?_ (by assumption) (by first | omega | (simp; omega) | simp))))) (er.out.later (by repeat (first | exact Below.refl _ _ | assumption | (refine below_drewN ?_ _) | (refine Below.drew ?_) | (refine Below.alloc ?_ (by first | omega | (simp; omega) | simp) _) | (refine Below.setCell ?_ (by first | omega | (simp; omega) | simp) _) | (refine below_trans ?_ (by assumption) (by first | omega | (simp; omega) | simp))))) hnil.out).mono ?_
                rintro e w3 ⟨rfl, hb_w3⟩
                obtain ⟨hc_w3, hf_w3⟩ := bcell hb_w3; have hz_w3_wr_0 : wr.heap.size < w3.heap.size := (by have hzz := hb_w3.size; (try simp only [World.size_alloc, World.size_setCell, World.size_drew, World.heap_drewN] at hzz); omega); have hs_w3 := hb_w3.size; (try simp only [World.size_alloc, World.size_setCell, World.size_drew, World.heap_drewN] at hs_w3)
                have b3 : Below wr.heap.size wr w3 := (by repeat (first | exact Below.refl _ _ | assumption | (refine below_drewN ?_ _) | (refine Below.drew ?_) | (refine Below.alloc ?_ (by first | omega | (simp; omega) | simp) _) | (refine Below.setCell ?_ (by first | omega | (simp; omega) | simp) _) | (refine below_trans ?_ (by assumption) (by first | omega | (simp; omega) | simp))))
                have P3 := (PH.out.later b3 : Bx w3 _ _)
                have S3 := ((Sx.new wr false sk sv 47).later hb_w3 : Sx w3 _ _ _ _)
                have P3H := Lib.hid P3
                have S3H := Lib.hid S3
                obtain ⟨p30, p31⟩ := P3
                obtain ⟨s30, s31, s32⟩ := S3
                clear hc_w3 hf_w3
                go_wp2_with fail
                go_at_call 11
                refine (HPK.out _ _ _ (hT.later (by repeat (first | exact Below.refl _ _ | assumption | (refine below_drewN ?_ _) | (refine Below.drew ?_) | (refine Below.alloc ?_ (by first | omega | (simp; omega) | simp) _) | (refine Below.setCell ?_ (by first | omega | (simp; omega) | simp) _) | (refine below_trans ?_ (by assumption) (by first | omega | (simp; omega) | simp))))) ((er.out.later b3).later (by repeat (first | exact Below.refl _ _ | assumption | (refine below_drewN ?_ _) | (refine Below.drew ?_) | (refine Below.alloc ?_ (by first | omega | (simp; omega) | simp) _) | (refine Below.setCell ?_ (by first | omega | (simp; omega) | simp) _) | (refine below_trans ?_ (by assumption) (by first | omega | (simp; omega) | simp))))) hnil.out).mono ?_
                rintro e w4 ⟨B2, c2, rfl, o2, hb_w4⟩
                obtain ⟨hc_w4, hf_w4⟩ := bcell hb_w4; have hs_w4 := hb_w4.size; (try simp only [World.size_alloc, World.size_setCell, World.size_drew, World.heap_drewN] at hs_w4)
                have P4 := (P3H.out.later hb_w4 : Bx w4 _ _)
                have S4 := (S3H.out.later hb_w4 : Sx w4 _ _ _ _)
                have p4l := P4.lt
                have s4l := S4.lt
                have P9 := Lib.hid ((P4.set (.slice B2 r.length c2)).alloc (.cells #[.slice B2 r.length c2] 24))
                have O9 := Lib.hid (((o2.mono (B' := w1.heap.size + 1) (by first | omega | (simp; omega))).far (p := ⟨w1.heap.size, 0, none⟩) (by show w1.heap.size < _; omega) (.slice B2 r.length c2)).later ((Below.refl _ _).alloc (Nat.le_refl _) (.cells #[.slice B2 r.length c2] 24)))
                obtain ⟨p40, p41⟩ := P4
                obtain ⟨s40, s41, s42⟩ := S4
                clear hc_w4 hf_w4 o2
                have hlr : r.length ≤ 64 := HOK.out.le
                have HGN := Lib.hid fun (w : World) (A : Option Addr) (cap : Nat) hT hr hn => HG.out w A cap r key x y hT hr (by omega) hn hGn.out
                have HAN := Lib.hid fun (w : World) (A : Option Addr) (cap : Nat) hT hr hn => HA.out w A cap r u hun.out hT hr (by omega) hn HOK.out
                have HCN := Lib.hid fun (w : World) (A : Option Addr) (cap : Nat) hT hr hn => HC.out w A cap r hT hr (by omega) hn HOK.out
                have hn9 := Lib.hid O9.out.nil_
                have p90 := P9.out.c
                go_wp2_with fail
                go_at_call 17
                refine (HGN.out _ _ _ (hT.later (by repeat (first | exact Below.refl _ _ | assumption | (refine below_drewN ?_ _) | (refine Below.drew ?_) | (refine Below.alloc ?_ (by first | omega | (simp; omega) | simp) _) | (refine Below.setCell ?_ (by first | omega | (simp; omega) | simp) _) | (refine below_trans ?_ (by assumption) (by first | omega | (simp; omega) | simp))))) (O9.out.row.later (by repeat (first | exact Below.refl _ _ | assumption | (refine below_drewN ?_ _) | (refine Below.drew ?_) | (refine Below.alloc ?_ (by first | omega | (simp; omega) | simp) _) | (refine Below.setCell ?_ (by first | omega | (simp; omega) | simp) _) | (refine below_trans ?_ (by assumption) (by first | omega | (simp; omega) | simp))))) hn9.out).mono ?_
                rintro e w5 ⟨rfl, hb_w5⟩
                obtain ⟨hc_w5, hf_w5⟩ := bcell hb_w5; have hz_w5_w4_0 : w4.heap.size < w5.heap.size := (by have hzz := hb_w5.size; (try simp only [World.size_alloc, World.size_setCell, World.size_drew, World.heap_drewN] at hzz); omega); have hs_w5 := hb_w5.size; (try simp only [World.size_alloc, World.size_setCell, World.size_drew, World.heap_drewN] at hs_w5)
                have P5 := Lib.hid (P9.out.later hb_w5 : Bx w5 _ _)
                have O5 := Lib.hid (O9.out.later hb_w5)
                have p50 := P5.out.c
                clear hc_w5 hf_w5
                go_wp2_with fail
                go_at_call 19
                refine (HAN.out _ _ _ (hT.later (by repeat (first | exact Below.refl _ _ | assumption | (refine below_drewN ?_ _) | (refine Below.drew ?_) | (refine Below.alloc ?_ (by first | omega | (simp; omega) | simp) _) | (refine Below.setCell ?_ (by first | omega | (simp; omega) | simp) _) | (refine below_trans ?_ (by assumption) (by first | omega | (simp; omega) | simp))))) (O5.out.row.later (by repeat (first | exact Below.refl _ _ | assumption | (refine below_drewN ?_ _) | (refine Below.drew ?_) | (refine Below.alloc ?_ (by first | omega | (simp; omega) | simp) _) | (refine Below.setCell ?_ (by first | omega | (simp; omega) | simp) _) | (refine below_trans ?_ (by assumption) (by first | omega | (simp; omega) | simp))))) hn9.out).mono ?_
                rintro e w6 ⟨Kk, Vv, ck2, cv2, rfl, hb_w6⟩
                obtain ⟨hc_w6, hf_w6⟩ := bcell hb_w6; have hs_w6 := hb_w6.size; (try simp only [World.size_alloc, World.size_setCell, World.size_drew, World.heap_drewN] at hs_w6)
                have P6 := Lib.hid (P5.out.later hb_w6 : Bx w6 _ _)
                have O6 := Lib.hid (O5.out.later hb_w6)
                have p60 := P6.out.c
                clear hc_w6 hf_w6
                go_wp2_with fail
                go_at_call 24
                refine (HCN.out _ _ _ (hT.later (by repeat (first | exact Below.refl _ _ | assumption | (refine below_drewN ?_ _) | (refine Below.drew ?_) | (refine Below.alloc ?_ (by first | omega | (simp; omega) | simp) _) | (refine Below.setCell ?_ (by first | omega | (simp; omega) | simp) _) | (refine below_trans ?_ (by assumption) (by first | omega | (simp; omega) | simp))))) (O6.out.row.later (by repeat (first | exact Below.refl _ _ | assumption | (refine below_drewN ?_ _) | (refine Below.drew ?_) | (refine Below.alloc ?_ (by first | omega | (simp; omega) | simp) _) | (refine Below.setCell ?_ (by first | omega | (simp; omega) | simp) _) | (refine below_trans ?_ (by assumption) (by first | omega | (simp; omega) | simp))))) hn9.out).mono ?_
                rintro e w7 ⟨rfl, hb_w7⟩
                obtain ⟨hc_w7, hf_w7⟩ := bcell hb_w7; have hs_w7 := hb_w7.size; (try simp only [World.size_alloc, World.size_setCell, World.size_drew, World.heap_drewN] at hs_w7)
                have P7 := Lib.hid (P6.out.later hb_w7 : Bx w7 _ _)
                have O7 := Lib.hid (O6.out.later hb_w7)
                clear hc_w7 hf_w7
                go_wp2
                go_roundw
                case rel => exact ⟨k + 1, B2, c2, r, x, y, u, by go_num, rfl, rfl, by first | rfl | go_num, by omega, by have := HNE.out; omega, O7.out, HOK.out, hGn.out, Lib.hid hun.out, P7.out, (by first | omega | (simp; omega) | simp), (by repeat (first | exact Below.refl _ _ | assumption | (refine below_drewN ?_ _) | (refine Below.drew ?_) | (refine Below.alloc ?_ (by first | omega | (simp; omega) | simp) _) | (refine Below.setCell ?_ (by first | omega | (simp; omega) | simp) _) | (refine below_trans ?_ (by assumption) (by first | omega | (simp; omega) | simp))))⟩
                case measure => simp [intOf]; omega
          · have f1 : (y1 == 0) = false := beq_eq_false_iff_ne.2 hy
            have HOK := HU0
            have hun := hu
            have hGn := hGl
            clear hE hG0 hy
            go_wp2_with fail
            go_at_call 17
            refine (HGK.out _ _ _ (hT.later (by repeat (first | exact Below.refl _ _ | assumption | (refine below_drewN ?_ _) | (refine Below.drew ?_) | (refine Below.alloc ?_ (by first | omega | (simp; omega) | simp) _) | (refine Below.setCell ?_ (by first | omega | (simp; omega) | simp) _) | (refine below_trans ?_ (by assumption) (by first | omega | (simp; omega) | simp))))) (er.out.later (by repeat (first | exact Below.refl _ _ | assumption | (refine below_drewN ?_ _) | (refine Below.drew ?_) | (refine Below.alloc ?_ (by first | omega | (simp; omega) | simp) _) | (refine Below.setCell ?_ (by first | omega | (simp; omega) | simp) _) | (refine below_trans ?_ (by assumption) (by first | omega | (simp; omega) | simp))))) hnil.out).mono ?_
            rintro e w3 ⟨rfl, hb_w3⟩
            obtain ⟨hc_w3, hf_w3⟩ := bcell hb_w3; have hz_w3_wr_0 : wr.heap.size < w3.heap.size := (by have hzz := hb_w3.size; (try simp only [World.size_alloc, World.size_setCell, World.size_drew, World.heap_drewN] at hzz); omega); have hs_w3 := hb_w3.size; (try simp only [World.size_alloc, World.size_setCell, World.size_drew, World.heap_drewN] at hs_w3)
            have b3 : Below wr.heap.size wr w3 := (by repeat (first | exact Below.refl _ _ | assumption | (refine below_drewN ?_ _) | (refine Below.drew ?_) | (refine Below.alloc ?_ (by first | omega | (simp; omega) | simp) _) | (refine Below.setCell ?_ (by first | omega | (simp; omega) | simp) _) | (refine below_trans ?_ (by assumption) (by first | omega | (simp; omega) | simp))))
            have P3 := (PH.out.later b3 : Bx w3 _ _)
            have S3 := ((Sx.new wr false sk sv 47).later hb_w3 : Sx w3 _ _ _ _)
            have P3H := Lib.hid P3
            have S3H := Lib.hid S3
            obtain ⟨p30, p31⟩ := P3
            obtain ⟨s30, s31, s32⟩ := S3
            clear hc_w3 hf_w3
            go_wp2_with fail
            go_at_call 11
            refine (HPK.out _ _ _ (hT.later (by repeat (first | exact Below.refl _ _ | assumption | (refine below_drewN ?_ _) | (refine Below.drew ?_) | (refine Below.alloc ?_ (by first | omega | (simp; omega) | simp) _) | (refine Below.setCell ?_ (by first | omega | (simp; omega) | simp) _) | (refine below_trans ?_ (by assumption) (by first | omega | (simp; omega) | simp))))) ((er.out.later b3).later (by repeat (first | exact Below.refl _ _ | assumption | (refine below_drewN ?_ _) | (refine Below.drew ?_) | (refine Below.alloc ?_ (by first | omega | (simp; omega) | simp) _) | (refine Below.setCell ?_ (by first | omega | (simp; omega) | simp) _) | (refine below_trans ?_ (by assumption) (by first | omega | (simp; omega) | simp))))) hnil.out).mono ?_
            rintro e w4 ⟨B2, c2, rfl, o2, hb_w4⟩
            obtain ⟨hc_w4, hf_w4⟩ := bcell hb_w4; have hs_w4 := hb_w4.size; (try simp only [World.size_alloc, World.size_setCell, World.size_drew, World.heap_drewN] at hs_w4)
            have P4 := (P3H.out.later hb_w4 : Bx w4 _ _)
            have S4 := (S3H.out.later hb_w4 : Sx w4 _ _ _ _)
            have p4l := P4.lt
            have s4l := S4.lt
            have P9 := Lib.hid (P4.alloc (.cells #[.slice B2 r.length c2] 24))
            have O9 := Lib.hid (EO.out.later (show Below wr.heap.size wr (w4.alloc (.cells #[.slice B2 r.length c2] 24)) from (by repeat (first | exact Below.refl _ _ | assumption | (refine below_drewN ?_ _) | (refine Below.drew ?_) | (refine Below.alloc ?_ (by first | omega | (simp; omega) | simp) _) | (refine Below.setCell ?_ (by first | omega | (simp; omega) | simp) _) | (refine below_trans ?_ (by assumption) (by first | omega | (simp; omega) | simp))))))
            obtain ⟨p40, p41⟩ := P4
            obtain ⟨s40, s41, s42⟩ := S4
            clear hc_w4 hf_w4 o2
            have hlr : l.length ≤ 64 := HOK.out.le
            have HGN := Lib.hid fun (w : World) (A : Option Addr) (cap : Nat) hT hr hn => HG.out w A cap l key x y hT hr (by omega) hn hGn.out
            have HAN := Lib.hid fun (w : World) (A : Option Addr) (cap : Nat) hT hr hn => HA.out w A cap l u hun.out hT hr (by omega) hn HOK.out
            have HCN := Lib.hid fun (w : World) (A : Option Addr) (cap : Nat) hT hr hn => HC.out w A cap l hT hr (by omega) hn HOK.out
            have hn9 := Lib.hid O9.out.nil_
            have p90 := P9.out.c
            go_wp2_with fail
            go_at_call 17
            refine (HGN.out _ _ _ (hT.later (by repeat (first | exact Below.refl _ _ | assumption | (refine below_drewN ?_ _) | (refine Below.drew ?_) | (refine Below.alloc ?_ (by first | omega | (simp; omega) | simp) _) | (refine Below.setCell ?_ (by first | omega | (simp; omega) | simp) _) | (refine below_trans ?_ (by assumption) (by first | omega | (simp; omega) | simp))))) (O9.out.row.later (by repeat (first | exact Below.refl _ _ | assumption | (refine below_drewN ?_ _) | (refine Below.drew ?_) | (refine Below.alloc ?_ (by first | omega | (simp; omega) | simp) _) | (refine Below.setCell ?_ (by first | omega | (simp; omega) | simp) _) | (refine below_trans ?_ (by assumption) (by first | omega | (simp; omega) | simp))))) hn9.out).mono ?_
            rintro e w5 ⟨rfl, hb_w5⟩
            obtain ⟨hc_w5, hf_w5⟩ := bcell hb_w5; have hz_w5_w4_0 : w4.heap.size < w5.heap.size := (by have hzz := hb_w5.size; (try simp only [World.size_alloc, World.size_setCell, World.size_drew, World.heap_drewN] at hzz); omega); have hs_w5 := hb_w5.size; (try simp only [World.size_alloc, World.size_setCell, World.size_drew, World.heap_drewN] at hs_w5)
            have P5 := Lib.hid (P9.out.later hb_w5 : Bx w5 _ _)
            have O5 := Lib.hid (O9.out.later hb_w5)
            have p50 := P5.out.c
            clear hc_w5 hf_w5
            go_wp2_with fail
            go_at_call 19
            refine (HAN.out _ _ _ (hT.later (by repeat (first | exact Below.refl _ _ | assumption | (refine below_drewN ?_ _) | (refine Below.drew ?_) | (refine Below.alloc ?_ (by first | omega | (simp; omega) | simp) _) | (refine Below.setCell ?_ (by first | omega | (simp; omega) | simp) _) | (refine below_trans ?_ (by assumption) (by first | omega | (simp; omega) | simp))))) (O5.out.row.later (by repeat (first | exact Below.refl _ _ | assumption | (refine below_drewN ?_ _) | (refine Below.drew ?_) | (refine Below.alloc ?_ (by first | omega | (simp; omega) | simp) _) | (refine Below.setCell ?_ (by first | omega | (simp; omega) | simp) _) | (refine below_trans ?_ (by assumption) (by first | omega | (simp; omega) | simp))))) hn9.out).mono ?_
            rintro e w6 ⟨Kk, Vv, ck2, cv2, rfl, hb_w6⟩
            obtain ⟨hc_w6, hf_w6⟩ := bcell hb_w6; have hs_w6 := hb_w6.size; (try simp only [World.size_alloc, World.size_setCell, World.size_drew, World.heap_drewN] at hs_w6)
            have P6 := Lib.hid (P5.out.later hb_w6 : Bx w6 _ _)
            have O6 := Lib.hid (O5.out.later hb_w6)
            have p60 := P6.out.c
            clear hc_w6 hf_w6
            go_wp2_with fail
            go_at_call 24
            refine (HCN.out _ _ _ (hT.later (by repeat (first | exact Below.refl _ _ | assumption | (refine below_drewN ?_ _) | (refine Below.drew ?_) | (refine Below.alloc ?_ (by first | omega | (simp; omega) | simp) _) | (refine Below.setCell ?_ (by first | omega | (simp; omega) | simp) _) | (refine below_trans ?_ (by assumption) (by first | omega | (simp; omega) | simp))))) (O6.out.row.later (by repeat (first | exact Below.refl _ _ | assumption | (refine below_drewN ?_ _) | (refine Below.drew ?_) | (refine Below.alloc ?_ (by first | omega | (simp; omega) | simp) _) | (refine Below.setCell ?_ (by first | omega | (simp; omega) | simp) _) | (refine below_trans ?_ (by assumption) (by first | omega | (simp; omega) | simp))))) hn9.out).mono ?_
            rintro e w7 ⟨rfl, hb_w7⟩
            obtain ⟨hc_w7, hf_w7⟩ := bcell hb_w7; have hs_w7 := hb_w7.size; (try simp only [World.size_alloc, World.size_setCell, World.size_drew, World.heap_drewN] at hs_w7)
            have P7 := Lib.hid (P6.out.later hb_w7 : Bx w7 _ _)
            have O7 := Lib.hid (O6.out.later hb_w7)
            clear hc_w7 hf_w7
            go_wp2
            go_roundw
            case rel => exact ⟨k + 1, A, cap, l, x, y, u, by go_num, rfl, rfl, by first | rfl | go_num, by omega, by have := HNE.out; omega, O7.out, HOK.out, hGn.out, Lib.hid hun.out, P7.out, (by first | omega | (simp; omega) | simp), (by repeat (first | exact Below.refl _ _ | assumption | (refine below_drewN ?_ _) | (refine Below.drew ?_) | (refine Below.alloc ?_ (by first | omega | (simp; omega) | simp) _) | (refine Below.setCell ?_ (by first | omega | (simp; omega) | simp) _) | (refine below_trans ?_ (by assumption) (by first | omega | (simp; omega) | simp))))⟩
            case measure => simp [intOf]; omega
      · have hcase : (k = ss.length) ∨ (k < ss.length ∧ k = 60) := by omega
        clear hgo
        rcases hcase with hcase | ⟨hlt, hcase⟩
        · subst hcase
          go_wp2
          go_ret
          exact ⟨rfl, (by repeat (first | exact Below.refl _ _ | assumption | (refine below_drewN ?_ _) | (refine Below.drew ?_) | (refine Below.alloc ?_ (by first | omega | (simp; omega) | simp) _) | (refine Below.setCell ?_ (by first | omega | (simp; omega) | simp) _) | (refine below_trans ?_ (by assumption) (by first | omega | (simp; omega) | simp))))⟩
        · obtain ⟨b, off, rfl, hbb, hcc⟩ := (hq.later hb_wr) (by omega)
          obtain ⟨hsk, hsv, s0, s1, s2⟩ := hcc k hlt
          have i1 : (k : Int) < (ss.length : Int) := by omega
          have i2 : (0 : Int) ≤ (k : Int) := by omega
          have f60 : ((k : Int) == 60) = true := by rw [hcase]; rfl
          clear hcc hcase
          generalize nthP ss k = sx at *
          obtain ⟨sd, sk, sv⟩ := sx
          simp only at hsk hsv s0 s1 s2
          go_wp2
          go_ret
          exact ⟨rfl, (by repeat (first | exact Below.refl _ _ | assumption | (refine below_drewN ?_ _) | (refine Below.drew ?_) | (refine Below.alloc ?_ (by first | omega | (simp; omega) | simp) _) | (refine Below.setCell ?_ (by first | omega | (simp; omega) | simp) _) | (refine below_trans ?_ (by assumption) (by first | omega | (simp; omega) | simp))))⟩
end Go.Proofs.YtkjpimhjmeigeaaDoor
