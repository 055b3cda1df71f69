/- The document's All of a table. -/
import Derived.Test.YtloemeinpknamaaDoorY29
import Derived.Deep.CutBlock
import Derived.Deep.DeepCutAuto
import Derived.Deep.QuietTactic
import Derived.BigQuiet
import Derived.Outline
namespace Go.Proofs.YtloemeinpknamaaDoor
open Go.RowKit
set_option linter.unusedVariables false
set_option linter.unusedSimpArgs false

theorem block2U (w : World) (o1 : Obj) (cs : List Value) : ((w.alloc o1).alloc (.cells cs.toArray 25)).heap[w.heap.size + 1]? = some (.cells cs.toArray 25 (0, 0)) := by
  have h := heap_alloc_new (w.alloc o1) (.cells cs.toArray 25)
  rwa [World.size_alloc] at h
theorem own_emptyUG (w w' : World) (g B : Nat) (hg : w.heap.size = g) (hB : B ≤ g) (h : w'.heap = (w.alloc (.cells #[] 25)).heap) : w'.ownsRow B 25 1 (.slice (some ⟨g, 0, none⟩) 0 0) 0 [] := by
  subst hg
  exact own_emptyU w w' B hB h
/-- where the words of a region's source lie -/
def SrcU (W : World) (K : Option Addr) (L ck n : Nat) (XP XQ : List Value) : Prop := (L = 0 ∧ K = none ∧ ck = 0) ∨
  ∃ gk, K = some ⟨gk, 0, none⟩ ∧ gk < W.heap.size ∧ L ≤ ck ∧ (∀ W', Below W.heap.size W W' → ∀ j u, XP[j]? = some u → W'.cell? ⟨gk, 0 + j, none⟩ = some u) ∧ (∀ W', Below W.heap.size W W' → ∀ j u, XQ[j]? = some u → W'.cell? ⟨gk, n + j, none⟩ = some u)
theorem srcU_of {W : World} {B : Nat} {K : Option Addr} {L ck n : Nat} {XP XQ : List Value} (h : W.ownsRow B 25 1 (.slice K L ck) L (XP ++ XQ)) (hn : XP.length = n) : SrcU W K L ck n XP XQ := by
  obtain ⟨_, ⟨h1, h2⟩ | ⟨g, cap', cur, e, _, _, hc, _⟩⟩ := id h
  · injection h1 with h1 h3 h4
    exact .inl ⟨h3, h1, h4⟩
  · injection e with e1 e2 e3
    subst e1 e3
    have hg : g < W.heap.size := (h.lt g rfl).2
    have key := h.cells (g := g) rfl
    refine .inr ⟨g, rfl, hg, hc, fun W' hb j u hj => ?_, fun W' hb j u hj => ?_⟩
    · have := key j u (by rw [List.getElem?_append_left (by rcases Nat.lt_or_ge j XP.length with h | h; exact h; rw [List.getElem?_eq_none h] at hj; cases hj)]; exact hj)
      rw [add_form] at this
      exact (hb.cell (p := ⟨g, 0 + j, none⟩) hg).trans this
    · have := key (n + j) u (by rw [List.getElem?_append_right (by omega), hn, Nat.add_sub_cancel_left]; exact hj)
      rw [add_form, Nat.zero_add] at this
      exact (hb.cell (p := ⟨g, n + j, none⟩) hg).trans this
theorem key_at (ts : List Es) (j : Nat) (h : j < ts.length) : (vals (keysE ts))[j]? = some (.int .u64 ((nthE ts j).k : Nat)) := by
  rw [nthE_get _ _ h]; simp [vals, keysE, h]
theorem key_cell {W : World} {B L ck j : Nat} {K : Option Addr} {xs : List Value} {v : Value} (h : W.ownsRow B 25 1 (.slice K L ck) L xs) (hv : xs[j]? = some v) (hj : j < L) : ∃ gk, K = some ⟨gk, 0, none⟩ ∧ gk < W.heap.size ∧ W.cell? ⟨gk, j, none⟩ = some v := by
  obtain ⟨_, ⟨h1, h2⟩ | ⟨g, cap', cur, e, _, _, hc, _⟩⟩ := id h
  · omega
  · injection e with e1 e2 e3
    subst e1
    have := h.cells (g := g) rfl j v hv
    rw [add_form, Nat.zero_add] at this
    exact ⟨g, rfl, (h.lt g rfl).2, this⟩
theorem step_less {ts : List Es} {sk j : Nat} (h : ∀ i, i < j → (nthE ts i).k < sk) (hx : (nthE ts j).k < sk) : ∀ i, i < j + 1 → (nthE ts i).k < sk := fun i hi => by
  by_cases e : i = j
  · rw [e]; exact hx
  · exact h i (by omega)
theorem stop_less {ts : List Es} {sk j : Nat} (hj : j < ts.length) (h : ∀ i, i < j → (nthE ts i).k < sk) (hx : ¬ (nthE ts j).k < sk) : InsAt ts sk j := ⟨by omega, h, fun _ => hx⟩
theorem stop_end {ts : List Es} {sk j : Nat} (hj : ts.length = j) (h : ∀ i, i < j → (nthE ts i).k < sk) : InsAt ts sk j := ⟨by omega, h, fun h => by omega⟩
section
variable {w : World} {A : Option Addr} {l : List Es} (cap : Nat)
set_option maxHeartbeats 16000000 in
set_option maxRecDepth 100000 in
theorem exall_any (hr : ERow w w.heap.size A l) (hl : l.length ≤ 5864062014805) (hok : OkT l) :
    Calls Tryd.prog 20 #[eph A l.length cap] w fun e w' => AllR w l e w' := by
  unfold AllR
  have HC := Lib.hid fun (w : World) hr => excheck_any (w := w) (A := A) (l := l) cap hr hl 0 (.inl ⟨hok, rfl⟩)
  have HADD := Lib.hid fun (k : Nat) (ts : List Es) (n : Nat) (hk : k < l.length) h1 hi ha => insT_add hok (k := k) (ts := ts) (n := n) hk h1 hi ha
  have HSK := Lib.hid fun (k : Nat) (ts : List Es) (hk : k < l.length) h1 hi => insT_skip (l := l) (k := k) (ts := ts) hk h1 hi
  have HWD := Lib.hid fun (k : Nat) (ts : List Es) hi => insT_wd (l := l) hr.wd (k := k) (ts := ts) hi
  have HZ := Lib.hid (insT_zero l)
  have HEND := Lib.hid fun (ts : List Es) h => srt_of_ins (l := l) (ts := ts) h
  have h64 := hok.le
  clear hok
  unfold eph at *
  go_enter Tryd.func20, Tryd.ntmps20
  go_wp2_with fail
  go_at_call 25
  refine (HC.out _ (hr.later (by repeat (first | exact Below.refl _ _ | assumption | (refine below_drewN ?_ _) | (refine Below.drew ?_) | (refine Below.alloc ?_ (by first | omega | (simp; omega) | simp) _) | (refine Below.setCell ?_ (by first | omega | (simp; omega) | simp) _) | (refine below_trans ?_ (by assumption) (by first | omega | (simp; omega) | simp)))))).mono ?_
  rintro e w1 ⟨rfl, hb_w1⟩
  obtain ⟨hc_w1, hf_w1⟩ := bcell hb_w1; have hz_w1_w_0 : w.heap.size < w1.heap.size := (by have hzz := hb_w1.size; (try simp only [World.size_alloc, World.size_setCell, World.size_drew, World.heap_drewN] at hzz); omega); have hs_w1 := hb_w1.size; (try simp only [World.size_alloc, World.size_setCell, World.size_drew, World.heap_drewN] at hs_w1)
  have b1 : Below w.heap.size w w1 := (by repeat (first | exact Below.refl _ _ | assumption | (refine below_drewN ?_ _) | (refine Below.drew ?_) | (refine Below.alloc ?_ (by first | omega | (simp; omega) | simp) _) | (refine Below.setCell ?_ (by first | omega | (simp; omega) | simp) _) | (refine below_trans ?_ (by assumption) (by first | omega | (simp; omega) | simp))))
  have rr : ERow w1 w1.heap.size A l := hr.later b1
  go_wp2_with fail
  clear hc_w1 hf_w1
  go_loopw [5, 6, 16] (fun kk vv ii wr => ∃ k : Nat, ii = .int .i64 (k : Nat) ∧ k ≤ l.length ∧ ∃ (ts : List Es) (L : Nat) (K V : Option Addr) (ck cv : Nat), Hid (InsT l k ts) ∧ Hid (ts.length = L) ∧ L ≤ k ∧ kk = .slice K L ck ∧ vv = .slice V L cv ∧ wr.ownsRow w1.heap.size 25 1 (.slice K L ck) L (vals (keysE ts)) ∧ wr.ownsRow w1.heap.size 25 1 (.slice V L cv) L (vals (valsE ts)) ∧ w1.heap.size ≤ wr.heap.size ∧ Below w1.heap.size w1 wr) (fun kk vv ii _ => l.length - (intOf ii).toNat)
  case atStart => exact ⟨0, rfl, Nat.zero_le _, [], 0, none, none, 0, 0, HZ.out, Lib.hid rfl, (by first | omega | (simp; omega) | simp), rfl, rfl, World.ownsRow_nil _ _ _ _, World.ownsRow_nil _ _ _ _, (by first | omega | (simp; omega) | simp), (by repeat (first | exact Below.refl _ _ | assumption | (refine below_drewN ?_ _) | (refine Below.drew ?_) | (refine Below.alloc ?_ (by first | omega | (simp; omega) | simp) _) | (refine Below.setCell ?_ (by first | omega | (simp; omega) | simp) _) | (refine below_trans ?_ (by assumption) (by first | omega | (simp; omega) | simp))))⟩
  case round =>
    obtain ⟨k, rfl, hk, ts, L, K, V, ck, cv, hI, hLn, hLk, rfl, rfl, oK, oV, hsz, hb_wr⟩ := hrel
    have OK9 := Lib.hid oK
    have OV9 := Lib.hid oV
    clear oK oV
    by_cases hlt : k < l.length
    · obtain ⟨b, off, rfl, hbb, hc⟩ := (rr.later hb_wr).at_ (by omega)
      obtain ⟨c0, c1, c2⟩ := hc k hlt
      have i1 : (k : Int) < (l.length : Int) := by omega
      have i2 : (0 : Int) ≤ (k : Int) := by omega
      have HSKk := HSK.out k ts hlt
      have HADDk := Lib.hid fun n h1 ha => HADD.out k ts n hlt h1 hI.out ha
      generalize nthE l k = s at *
      clear hc
      by_cases h1 : s.s = 1
      · have HADDk := Lib.hid fun n ha => HADDk.out n h1 ha
        clear HSKk
        obtain ⟨ss, sk, sv⟩ := s
        simp only at c0 c1 c2 h1
        subst h1
        go_upto_block 2 with fail
        have e0 : Ep3 (wr.alloc (.cells #[.int .u8 1, .int .u64 (sk : Nat), .int .u64 (sv : Nat)] 54)) wr.heap.size 0 ⟨1, sk, sv⟩ := ep3_new wr ⟨1, sk, sv⟩ 54
        have OKW := owns_laterN OK9.out (show Below wr.heap.size wr (wr.alloc (.cells #[.int .u8 1, .int .u64 (sk : Nat), .int .u64 (sv : Nat)] 54)) from (by repeat (first | exact Below.refl _ _ | assumption | (refine below_drewN ?_ _) | (refine Below.drew ?_) | (refine Below.alloc ?_ (by first | omega | (simp; omega) | simp) _) | (refine Below.setCell ?_ (by first | omega | (simp; omega) | simp) _) | (refine below_trans ?_ (by assumption) (by first | omega | (simp; omega) | simp)))))
        have OVW := owns_laterN OV9.out (show Below wr.heap.size wr (wr.alloc (.cells #[.int .u8 1, .int .u64 (sk : Nat), .int .u64 (sv : Nat)] 54)) from (by repeat (first | exact Below.refl _ _ | assumption | (refine below_drewN ?_ _) | (refine Below.drew ?_) | (refine Below.alloc ?_ (by first | omega | (simp; omega) | simp) _) | (refine Below.setCell ?_ (by first | omega | (simp; omega) | simp) _) | (refine below_trans ?_ (by assumption) (by first | omega | (simp; omega) | simp)))))
        have hbW : Below w1.heap.size w1 (wr.alloc (.cells #[.int .u8 1, .int .u64 (sk : Nat), .int .u64 (sv : Nat)] 54)) := (by repeat (first | exact Below.refl _ _ | assumption | (refine below_drewN ?_ _) | (refine Below.drew ?_) | (refine Below.alloc ?_ (by first | omega | (simp; omega) | simp) _) | (refine Below.setCell ?_ (by first | omega | (simp; omega) | simp) _) | (refine below_trans ?_ (by assumption) (by first | omega | (simp; omega) | simp))))
        have hsW : wr.heap.size < (wr.alloc (.cells #[.int .u8 1, .int .u64 (sk : Nat), .int .u64 (sv : Nat)] 54)).heap.size := by simp
        have hsW1 : w1.heap.size ≤ (wr.alloc (.cells #[.int .u8 1, .int .u64 (sk : Nat), .int .u64 (sv : Nat)] 54)).heap.size := by simp; omega
        generalize wr.alloc (.cells #[.int .u8 1, .int .u64 (sk : Nat), .int .u64 (sv : Nat)] 54) = W at *
        clear hb_wr OK9 OV9 hsz c0 c1 c2
        generalize wr.heap.size = gb at *
        have OKW := Lib.hid OKW
        have OVW := Lib.hid OVW
        go_cut [9] (fun v9 wx => ∃ n : Nat, v9 = .int .i64 (n : Nat) ∧ n ≤ L ∧ Hid (InsAt ts sk n) ∧ W.heap.size ≤ wx.heap.size ∧ Below W.heap.size W wx)
        case first =>
          go_wp2_with fail
          go_loopw [9] (fun v9 wx => ∃ j : Nat, v9 = .int .i64 (j : Nat) ∧ j ≤ L ∧ Hid (∀ i, i < j → (nthE ts i).k < sk) ∧ W.heap.size ≤ wx.heap.size ∧ Below W.heap.size W wx) (fun v9 _ => L - (intOf v9).toNat)
          case atStart => exact ⟨0, rfl, Nat.zero_le _, Lib.hid (fun i hi => by omega), (by first | omega | (simp; omega) | simp), (by repeat (first | exact Below.refl _ _ | assumption | (refine below_drewN ?_ _) | (refine Below.drew ?_) | (refine Below.alloc ?_ (by first | omega | (simp; omega) | simp) _) | (refine Below.setCell ?_ (by first | omega | (simp; omega) | simp) _) | (refine below_trans ?_ (by assumption) (by first | omega | (simp; omega) | simp))))⟩
          case round =>
            obtain ⟨j, rfl, hj, hA, hszr, hbr⟩ := hrel
            have j2 : (0 : Int) ≤ (j : Int) := by omega
            by_cases hjl : j < L
            · have hjl2 : j < ts.length := by have := hLn.out; omega
              obtain ⟨gk, rfl, hgk, hck⟩ := key_cell (owns_laterN OKW.out hbr) (v := .int .u64 ((nthE ts j).k : Nat)) (by rw [key_at ts j hjl2]) hjl
              have j1 : (j : Int) < (L : Int) := by omega
              have d1 : decide ((j : Int) < (L : Int)) = true := decide_eq_true j1
              have x1 : wr.cell? ⟨gb, 1, none⟩ = some (.int .u64 (sk : Nat)) := (e0.later hbr).c1
              have HS9 := Lib.hid fun h => step_less (ts := ts) (sk := sk) (j := j) hA.out h
              have HI9 := Lib.hid fun h => stop_less (ts := ts) (sk := sk) (j := j) hjl2 hA.out h
              generalize (nthE ts j).k = x at *
              by_cases hx : x < sk
              · have HA1 := HS9.out hx
                have d2 : decide ((x : Int) < (sk : Int)) = true := decide_eq_true (by omega)
                clear HS9 HI9
                go_wp2_with fail
                go_quiet (fail)
                go_wp2
                go_roundw
                case rel => exact ⟨j + 1, by go_num, by omega, Lib.hid HA1, (by first | omega | (simp; omega) | simp), (by repeat (first | exact Below.refl _ _ | assumption | (refine below_drewN ?_ _) | (refine Below.drew ?_) | (refine Below.alloc ?_ (by first | omega | (simp; omega) | simp) _) | (refine Below.setCell ?_ (by first | omega | (simp; omega) | simp) _) | (refine below_trans ?_ (by assumption) (by first | omega | (simp; omega) | simp))))⟩
                case measure => simp [intOf]; omega
              · have HA1 := HI9.out hx
                have d2 : decide ((x : Int) < (sk : Int)) = false := decide_eq_false (by omega)
                clear HS9 HI9
                go_wp2_with fail
                go_quiet (fail)
                go_wp2_with fail
                go_meet
                case rel => exact ⟨j, rfl, by omega, Lib.hid HA1, (by first | omega | (simp; omega) | simp), (by repeat (first | exact Below.refl _ _ | assumption | (refine below_drewN ?_ _) | (refine Below.drew ?_) | (refine Below.alloc ?_ (by first | omega | (simp; omega) | simp) _) | (refine Below.setCell ?_ (by first | omega | (simp; omega) | simp) _) | (refine below_trans ?_ (by assumption) (by first | omega | (simp; omega) | simp))))⟩
            · obtain rfl : j = L := by omega
              have d1 : decide ((j : Int) < (j : Int)) = false := decide_eq_false (by omega)
              have HA1 := stop_end (ts := ts) (sk := sk) (j := j) hLn.out hA.out
              go_wp2_with fail
              go_quiet (fail)
              go_wp2_with fail
              go_meet
              case rel => exact ⟨j, rfl, by omega, Lib.hid HA1, (by first | omega | (simp; omega) | simp), (by repeat (first | exact Below.refl _ _ | assumption | (refine below_drewN ?_ _) | (refine Below.drew ?_) | (refine Below.alloc ?_ (by first | omega | (simp; omega) | simp) _) | (refine Below.setCell ?_ (by first | omega | (simp; omega) | simp) _) | (refine below_trans ?_ (by assumption) (by first | omega | (simp; omega) | simp))))⟩
        case rest =>
          obtain ⟨n, rfl, hnL, hIA, hszc, hbc⟩ := hcut
          have HNEW := Lib.hid (HADDk.out n hIA.out)
          have OK0 := Lib.hid (owns_laterN OKW.out hbc)
          have OV0 := Lib.hid (owns_laterN OVW.out hbc)
          obtain ⟨q0, q1, q2⟩ := e0.later hbc
          simp only [Nat.zero_add] at q0 q1 q2
          have hgb : gb < wc.heap.size := by omega
          have hb0 : Below w1.heap.size w1 wc := below_trans hbW hbc (by first | omega | (simp; omega) | simp)
          have hs0 : w1.heap.size ≤ wc.heap.size := by omega
          have hL64 : L ≤ 64 := by omega
          have HLI : Hid ((insE ts n ⟨1, sk, sv⟩).length = L + 1) := Lib.hid (by rw [insE_len _ _ _ (by rw [hLn.out]; exact hnL), hLn.out])
          clear e0 OKW OVW hbc HADDk hIA q0
          generalize wc = W0 at *
          clear hbW hsW hsW1 hszc
          go_upto_region 11 with fail
          go_cut [5] (fun v5 wx => ∃ (A5 : Option Addr) (c5 : Nat), v5 = .slice A5 (L + 1) c5 ∧ wx.ownsRow W0.heap.size 25 1 (.slice A5 (L + 1) c5) (L + 1) (vals (keysE (insE ts n ⟨1, sk, sv⟩))) ∧ Below W0.heap.size W0 wx)
          case first =>
            have HFIN := Lib.hid (keys_ins ts n ⟨1, sk, sv⟩)
            have oKK := OK0.out
            rw [keys_cut ts n] at oKK
            have HLPn : Hid ((vals (keysE (ts.take n))).length = n) := Lib.hid (by rw [len_vk, List.length_take, hLn.out]; omega)
            have HLQn : Hid ((vals (keysE (ts.drop n))).length = L - n) := Lib.hid (by rw [len_vk, List.length_drop, hLn.out])
            have HSRC := Lib.hid (srcU_of oKK HLPn.out)
            have HP1 := Lib.hid (vals_one (keysE (ts.take n)))
            have HQ1 := Lib.hid (vals_one (keysE (ts.drop n)))
            clear oKK q2 OK0 OV0
            generalize vals (keysE (ts.take n)) = XP at *
            generalize vals (keysE (ts.drop n)) = XQ at *
            have HX1 : Hid (∀ u ∈ ([.int .u64 (sk : Nat)] : List Value), u.oneCell' = true) := Lib.hid (by intro u hu; simp only [List.mem_cons, List.not_mem_nil, or_false] at hu; subst hu; rfl)
            have HS0 : Hid (∀ (W : World) (xb : Nat), W.heap[xb]? = some (.cells #[.int .u64 (sk : Nat)] 25 (0, 0)) → ∀ (j : Nat) u, ([.int .u64 (sk : Nat)] : List Value)[j]? = some u → W.cell? ⟨xb, 0 + j, none⟩ = some u) := Lib.hid fun W xb hx j u hj => by
              rw [Nat.zero_add, cell_of_row W xb j _ _ _ hx, ← hj]
              simp
            have HBK : Hid (∀ o1, ((W0.alloc o1).alloc (.cells #[.int .u64 (sk : Nat)] 25)).heap[W0.heap.size + 1]? = some (.cells #[.int .u64 (sk : Nat)] 25 (0, 0))) := Lib.hid fun o1 => block2U W0 o1 _
            have HBK3 : Hid (∀ o1, ((W0.alloc (.cells #[.int .u64 (sk : Nat)] 25)).alloc o1).heap[W0.heap.size]? = some (.cells #[.int .u64 (sk : Nat)] 25 (0, 0))) := Lib.hid fun o1 => (heap_alloc_old _ _ (by simp)).trans (heap_alloc_new _ _)
            rcases HSRC.out with ⟨hL0, hK0, hc0⟩ | ⟨gk, hK0, hgk, hcap, hS1, hS2⟩
            · subst hK0 hc0
              obtain rfl : n = 0 := by omega
              have HLP : Hid (XP.length = 0) := Lib.hid (by have := HLPn.out; omega)
              have HLQ : Hid (XQ.length = 0) := Lib.hid (by have := HLQn.out; omega)
              obtain rfl : L = 0 := by omega
              clear hL0
              refine wp_region_held_drew (S := (fun X : World => X.cell? ⟨gb, 1, none⟩ = some (.int .u64 (sk : Nat)))) (by kernel_rfl) ?_ (fun hHeld => ?_)
              · (try dsimp only); exact (by first | assumption | (simp [go_sem]; done) | exact (World.cell?_alloc_lt _ _ ⟨_, _, _⟩ (by first | omega | (simp; omega) | simp)).trans (by assumption) | exact (World.cell?_alloc_lt _ _ ⟨_, _, _⟩ (by first | omega | (simp; omega) | simp)).trans ((World.cell?_alloc_lt _ _ ⟨_, _, _⟩ (by first | omega | (simp; omega) | simp)).trans (by assumption)))
              refine wpAnyH_take (i := 1) (v := ?_) rfl (by kernel_rfl) (by kernel_rfl) (by kernel_rfl) (fun _ _ _ h => h) (Or.inl ⟨by rfl, ?_⟩) (by assumption) ?_
              rotate_left
              · (intro w hSw; (try dsimp only at hSw); go_simp; first | done | with_reducible rfl)
              try simp only [Act.put, List.getElem_toArray, List.getElem_cons_zero, List.getElem_cons_succ, List.setIfInBounds_toArray, List.set_cons_zero, List.set_cons_succ]
              refine wpAnyH_take (i := 2) (v := ?_) rfl (by kernel_rfl) (by kernel_rfl) (by kernel_rfl) (fun _ _ _ h => h) (Or.inl ⟨by rfl, ?_⟩) (by assumption) ?_
              rotate_left
              · (intro w hSw; (try dsimp only at hSw); go_simp; first | done | with_reducible rfl)
              try simp only [Act.put, List.getElem_toArray, List.getElem_cons_zero, List.getElem_cons_succ, List.setIfInBounds_toArray, List.set_cons_zero, List.set_cons_succ]
              refine wpAnyH_take (i := 3) (v := ?_) rfl (by kernel_rfl) (by kernel_rfl) (by kernel_rfl) (fun _ _ _ h => h) (Or.inl ⟨by rfl, ?_⟩) (by assumption) ?_
              rotate_left
              · (intro w hSw; (try dsimp only at hSw); go_simp; first | done | with_reducible rfl)
              try simp only [Act.put, List.getElem_toArray, List.getElem_cons_zero, List.getElem_cons_succ, List.setIfInBounds_toArray, List.set_cons_zero, List.set_cons_succ]
              refine wpAnyH_take (i := 5) (v := ?_) rfl (by kernel_rfl) (by kernel_rfl) (by kernel_rfl) (fun _ _ _ h => h) (Or.inl ⟨by rfl, ?_⟩) (by assumption) ?_
              rotate_left
              · (intro w hSw; (try dsimp only at hSw); go_simp; first | done | with_reducible rfl)
              try simp only [Act.put, List.getElem_toArray, List.getElem_cons_zero, List.getElem_cons_succ, List.setIfInBounds_toArray, List.set_cons_zero, List.set_cons_succ]
              refine wpAnyH_take (i := 6) (v := ?_) rfl (by kernel_rfl) (by kernel_rfl) (by kernel_rfl) (fun _ _ _ h => h) (Or.inl ⟨by rfl, ?_⟩) (by assumption) ?_
              rotate_left
              · (intro w hSw; (try dsimp only at hSw); go_simp; first | done | with_reducible rfl)
              try simp only [Act.put, List.getElem_toArray, List.getElem_cons_zero, List.getElem_cons_succ, List.setIfInBounds_toArray, List.set_cons_zero, List.set_cons_succ]
              refine wpAnyH_take (i := 9) (v := ?_) rfl (by kernel_rfl) (by kernel_rfl) (by kernel_rfl) (fun _ _ _ h => h) (Or.inl ⟨by rfl, ?_⟩) (by assumption) ?_
              rotate_left
              · (intro w hSw; (try dsimp only at hSw); go_simp; first | done | with_reducible rfl)
              try simp only [Act.put, List.getElem_toArray, List.getElem_cons_zero, List.getElem_cons_succ, List.setIfInBounds_toArray, List.set_cons_zero, List.set_cons_succ]
              refine wpAnyH_take (i := 10) (v := ?_) rfl (by kernel_rfl) (by kernel_rfl) (by kernel_rfl) (fun _ _ _ h => h) (Or.inl ⟨by rfl, ?_⟩) (by assumption) ?_
              rotate_left
              · (intro w hSw; (try dsimp only at hSw); go_simp; first | done | with_reducible rfl)
              try simp only [Act.put, List.getElem_toArray, List.getElem_cons_zero, List.getElem_cons_succ, List.setIfInBounds_toArray, List.set_cons_zero, List.set_cons_succ]
              refine wpAnyH_take (i := 11) (v := ?_) rfl (by kernel_rfl) (by kernel_rfl) (by kernel_rfl) (fun _ _ _ h => h) (Or.inl ⟨by rfl, ?_⟩) (by assumption) ?_
              rotate_left
              · (intro w hSw; (try dsimp only at hSw); go_simp; first | done | with_reducible rfl)
              try simp only [Act.put, List.getElem_toArray, List.getElem_cons_zero, List.getElem_cons_succ, List.setIfInBounds_toArray, List.set_cons_zero, List.set_cons_succ]
              refine wpAnyH_ready (rs := [0, 7]) (by kernel_rfl) (by simp) ?_
              refine AllReadyH.cons rfl (fun K hK => ?_) (AllReadyH.cons rfl (fun K hK => ?_) AllReadyH.nil)
              · try simp only [List.getElem_toArray, List.getElem_cons_zero, List.getElem_cons_succ]
                go_simp
                refine hK.out _ _ ?_ (fun hHeld => ?_)
                · (try dsimp only); exact (by first | assumption | (simp [go_sem]; done) | exact (World.cell?_alloc_lt _ _ ⟨_, _, _⟩ (by first | omega | (simp; omega) | simp)).trans (by assumption) | exact (World.cell?_alloc_lt _ _ ⟨_, _, _⟩ (by first | omega | (simp; omega) | simp)).trans ((World.cell?_alloc_lt _ _ ⟨_, _, _⟩ (by first | omega | (simp; omega) | simp)).trans (by assumption)))
                clear hK K
                try simp only [Act.put, List.getElem_toArray, List.getElem_cons_zero, List.getElem_cons_succ, List.setIfInBounds_toArray, List.set_cons_zero, List.set_cons_succ]
                refine wpAnyH_ready (rs := [4, 7]) (by kernel_rfl) (by simp) ?_
                refine AllReadyH.cons rfl (fun K hK => ?_) (AllReadyH.cons rfl (fun K hK => ?_) AllReadyH.nil)
                · try simp only [List.getElem_toArray, List.getElem_cons_zero, List.getElem_cons_succ]
                  rw [if_pos]
                  rotate_left
                  · rfl
                  refine wp_appendU (.tmp 38) (.tmp 41) (by rfl) W0.heap.size (some ⟨W0.heap.size, 0, none⟩) (0) (0) ([]) (by simp [Act.eval, Act.put]) (own_emptyU W0 _ W0.heap.size (by first | omega | (simp; omega) | simp) rfl) none (0) (0) (XP) (by simp [Act.eval, Act.put]) HLP.out (fun hm => absurd hm (by omega)) HP1.out (by omega) (by first | omega | (simp; omega) | simp) ?_
                  intro Aw4 capw4 w4 ownw4 hgr_w4 hb_w4 hs_w4
                  (try simp only [World.size_drew, World.heap_drewN, World.size_alloc] at hs_w4)
                  have jw40 : w4.cell? ⟨gb, 1, none⟩ = some (.int .u64 (sk : Nat)) := (hb_w4.cell (p := ⟨gb, 1, none⟩) (by first | omega | (simp; omega) | simp)).trans (by first | assumption | (simp [go_sem]; done) | exact (World.cell?_alloc_lt _ _ ⟨_, _, _⟩ (by first | omega | (simp; omega) | simp)).trans (by assumption) | exact (World.cell?_alloc_lt _ _ ⟨_, _, _⟩ (by first | omega | (simp; omega) | simp)).trans ((World.cell?_alloc_lt _ _ ⟨_, _, _⟩ (by first | omega | (simp; omega) | simp)).trans (by assumption)))
                  simp only [Nat.zero_add, List.nil_append] at ownw4
                  refine hK.out _ _ ?_ (fun hHeld => ?_)
                  · (try dsimp only); exact (by first | assumption | (simp [go_sem]; done) | exact (World.cell?_alloc_lt _ _ ⟨_, _, _⟩ (by first | omega | (simp; omega) | simp)).trans (by assumption) | exact (World.cell?_alloc_lt _ _ ⟨_, _, _⟩ (by first | omega | (simp; omega) | simp)).trans ((World.cell?_alloc_lt _ _ ⟨_, _, _⟩ (by first | omega | (simp; omega) | simp)).trans (by assumption)))
                  clear hK K
                  try simp only [Act.put, List.getElem_toArray, List.getElem_cons_zero, List.getElem_cons_succ, List.setIfInBounds_toArray, List.set_cons_zero, List.set_cons_succ]
                  refine wpAnyH_ready (rs := [7]) (by kernel_rfl) (by simp) ?_
                  refine AllReadyH.cons rfl (fun K hK => ?_) AllReadyH.nil
                  try simp only [List.getElem_toArray, List.getElem_cons_zero, List.getElem_cons_succ]
                  go_simp
                  refine hK.out _ _ ?_ (fun hHeld => ?_)
                  · (try dsimp only); exact (by first | assumption | (simp [go_sem]; done) | exact (World.cell?_alloc_lt _ _ ⟨_, _, _⟩ (by first | omega | (simp; omega) | simp)).trans (by assumption) | exact (World.cell?_alloc_lt _ _ ⟨_, _, _⟩ (by first | omega | (simp; omega) | simp)).trans ((World.cell?_alloc_lt _ _ ⟨_, _, _⟩ (by first | omega | (simp; omega) | simp)).trans (by assumption)))
                  clear hK K
                  try simp only [Act.put, List.getElem_toArray, List.getElem_cons_zero, List.getElem_cons_succ, List.setIfInBounds_toArray, List.set_cons_zero, List.set_cons_succ]
                  refine wpAnyH_ready (rs := [8]) (by kernel_rfl) (by simp) ?_
                  refine AllReadyH.cons rfl (fun K hK => ?_) AllReadyH.nil
                  try simp only [List.getElem_toArray, List.getElem_cons_zero, List.getElem_cons_succ]
                  rw [if_pos]
                  rotate_left
                  · rfl
                  refine wp_appendU (.tmp 42) (.tmp 45) (by rfl) W0.heap.size Aw4 (capw4) (0) (XP) (by simp [Act.eval, Act.put]) (ownw4.alloc _) (some ⟨w4.heap.size, 0, none⟩) (1) (1) ([.int .u64 (sk : Nat)]) (by simp [Act.eval, Act.put]) rfl (fun _ => ⟨w4.heap.size, 0, rfl, HS0.out _ _ (heap_alloc_new _ _)⟩) HX1.out (by omega) (by first | omega | (simp; omega) | simp) ?_
                  intro Aw8 capw8 w8 ownw8 hgr_w8 hb_w8 hs_w8
                  (try simp only [World.size_drew, World.heap_drewN, World.size_alloc] at hs_w8)
                  have jw80 : w8.cell? ⟨gb, 1, none⟩ = some (.int .u64 (sk : Nat)) := (hb_w8.cell (p := ⟨gb, 1, none⟩) (by first | omega | (simp; omega) | simp)).trans (by first | assumption | (simp [go_sem]; done) | exact (World.cell?_alloc_lt _ _ ⟨_, _, _⟩ (by first | omega | (simp; omega) | simp)).trans (by assumption) | exact (World.cell?_alloc_lt _ _ ⟨_, _, _⟩ (by first | omega | (simp; omega) | simp)).trans ((World.cell?_alloc_lt _ _ ⟨_, _, _⟩ (by first | omega | (simp; omega) | simp)).trans (by assumption)))
                  refine hK.out _ _ ?_ (fun hHeld => ?_)
                  · (try dsimp only); exact (by first | assumption | (simp [go_sem]; done) | exact (World.cell?_alloc_lt _ _ ⟨_, _, _⟩ (by first | omega | (simp; omega) | simp)).trans (by assumption) | exact (World.cell?_alloc_lt _ _ ⟨_, _, _⟩ (by first | omega | (simp; omega) | simp)).trans ((World.cell?_alloc_lt _ _ ⟨_, _, _⟩ (by first | omega | (simp; omega) | simp)).trans (by assumption)))
                  clear hK K
                  try simp only [Act.put, List.getElem_toArray, List.getElem_cons_zero, List.getElem_cons_succ, List.setIfInBounds_toArray, List.set_cons_zero, List.set_cons_succ]
                  refine wpAnyH_ready (rs := [12]) (by kernel_rfl) (by simp) ?_
                  refine AllReadyH.cons rfl (fun K hK => ?_) AllReadyH.nil
                  try simp only [List.getElem_toArray, List.getElem_cons_zero, List.getElem_cons_succ]
                  rw [if_pos]
                  rotate_left
                  · rfl
                  refine wp_appendU (.tmp 46) (.tmp 49) (by rfl) W0.heap.size Aw8 (capw8) (0 + 1) (XP ++ [.int .u64 (sk : Nat)]) (by simp [Act.eval, Act.put]) (ownw8) none (0) (0) (XQ) (by simp [Act.eval, Act.put]) HLQ.out (fun hm => absurd hm (by omega)) HQ1.out (by omega) (by first | omega | (simp; omega) | simp) ?_
                  intro Aw12 capw12 w12 ownw12 hgr_w12 hb_w12 hs_w12
                  (try simp only [World.size_drew, World.heap_drewN, World.size_alloc] at hs_w12)
                  have jw120 : w12.cell? ⟨gb, 1, none⟩ = some (.int .u64 (sk : Nat)) := (hb_w12.cell (p := ⟨gb, 1, none⟩) (by first | omega | (simp; omega) | simp)).trans (by first | assumption | (simp [go_sem]; done) | exact (World.cell?_alloc_lt _ _ ⟨_, _, _⟩ (by first | omega | (simp; omega) | simp)).trans (by assumption) | exact (World.cell?_alloc_lt _ _ ⟨_, _, _⟩ (by first | omega | (simp; omega) | simp)).trans ((World.cell?_alloc_lt _ _ ⟨_, _, _⟩ (by first | omega | (simp; omega) | simp)).trans (by assumption)))
                  try go_wp2_with fail
                  refine hK.out _ _ ?_ (fun hHeld => ?_)
                  · (try dsimp only); exact (by first | assumption | (simp [go_sem]; done) | exact (World.cell?_alloc_lt _ _ ⟨_, _, _⟩ (by first | omega | (simp; omega) | simp)).trans (by assumption) | exact (World.cell?_alloc_lt _ _ ⟨_, _, _⟩ (by first | omega | (simp; omega) | simp)).trans ((World.cell?_alloc_lt _ _ ⟨_, _, _⟩ (by first | omega | (simp; omega) | simp)).trans (by assumption)))
                  clear hK K
                  try simp only [Act.put, List.getElem_toArray, List.getElem_cons_zero, List.getElem_cons_succ, List.setIfInBounds_toArray, List.set_cons_zero, List.set_cons_succ]
                  refine wpAnyH_take (i := 13) (v := ?_) rfl (by kernel_rfl) (by kernel_rfl) (by kernel_rfl) (fun _ _ _ h => h) (Or.inl ⟨by rfl, ?_⟩) (by assumption) ?_
                  rotate_left
                  · (intro w hSw; (try dsimp only at hSw); go_simp; first | done | with_reducible rfl)
                  try simp only [Act.put, List.getElem_toArray, List.getElem_cons_zero, List.getElem_cons_succ, List.setIfInBounds_toArray, List.set_cons_zero, List.set_cons_succ]
                  refine wpAnyH_done (by kernel_rfl) ?_ _
                  try go_wp2_with fail
                  go_meet
                  case rel => exact ⟨_, _, rfl, by rw [HFIN.out]; exact ownw12, (by repeat (first | exact Below.refl _ _ | assumption | (refine below_drewN ?_ _) | (refine Below.drew ?_) | (refine Below.alloc ?_ (by first | omega | (simp; omega) | simp) _) | (refine Below.setCell ?_ (by first | omega | (simp; omega) | simp) _) | (refine below_trans ?_ (by assumption) (by first | omega | (simp; omega) | simp))))⟩
                · try simp only [List.getElem_toArray, List.getElem_cons_zero, List.getElem_cons_succ]
                  go_simp
                  refine hK.out _ _ ?_ (fun hHeld => ?_)
                  · (try dsimp only); exact (by first | assumption | (simp [go_sem]; done) | exact (World.cell?_alloc_lt _ _ ⟨_, _, _⟩ (by first | omega | (simp; omega) | simp)).trans (by assumption) | exact (World.cell?_alloc_lt _ _ ⟨_, _, _⟩ (by first | omega | (simp; omega) | simp)).trans ((World.cell?_alloc_lt _ _ ⟨_, _, _⟩ (by first | omega | (simp; omega) | simp)).trans (by assumption)))
                  clear hK K
                  try simp only [Act.put, List.getElem_toArray, List.getElem_cons_zero, List.getElem_cons_succ, List.setIfInBounds_toArray, List.set_cons_zero, List.set_cons_succ]
                  refine wpAnyH_ready (rs := [4]) (by kernel_rfl) (by simp) ?_
                  refine AllReadyH.cons rfl (fun K hK => ?_) AllReadyH.nil
                  try simp only [List.getElem_toArray, List.getElem_cons_zero, List.getElem_cons_succ]
                  rw [if_pos]
                  rotate_left
                  · rfl
                  refine wp_appendU (.tmp 38) (.tmp 41) (by rfl) W0.heap.size (some ⟨W0.heap.size, 0, none⟩) (0) (0) ([]) (by simp [Act.eval, Act.put]) ((own_emptyU W0 _ W0.heap.size (by first | omega | (simp; omega) | simp) rfl).alloc _) none (0) (0) (XP) (by simp [Act.eval, Act.put]) HLP.out (fun hm => absurd hm (by omega)) HP1.out (by omega) (by first | omega | (simp; omega) | simp) ?_
                  intro Aw4 capw4 w4 ownw4 hgr_w4 hb_w4 hs_w4
                  (try simp only [World.size_drew, World.heap_drewN, World.size_alloc] at hs_w4)
                  have jw40 : w4.cell? ⟨gb, 1, none⟩ = some (.int .u64 (sk : Nat)) := (hb_w4.cell (p := ⟨gb, 1, none⟩) (by first | omega | (simp; omega) | simp)).trans (by first | assumption | (simp [go_sem]; done) | exact (World.cell?_alloc_lt _ _ ⟨_, _, _⟩ (by first | omega | (simp; omega) | simp)).trans (by assumption) | exact (World.cell?_alloc_lt _ _ ⟨_, _, _⟩ (by first | omega | (simp; omega) | simp)).trans ((World.cell?_alloc_lt _ _ ⟨_, _, _⟩ (by first | omega | (simp; omega) | simp)).trans (by assumption)))
                  simp only [Nat.zero_add, List.nil_append] at ownw4
                  refine hK.out _ _ ?_ (fun hHeld => ?_)
                  · (try dsimp only); exact (by first | assumption | (simp [go_sem]; done) | exact (World.cell?_alloc_lt _ _ ⟨_, _, _⟩ (by first | omega | (simp; omega) | simp)).trans (by assumption) | exact (World.cell?_alloc_lt _ _ ⟨_, _, _⟩ (by first | omega | (simp; omega) | simp)).trans ((World.cell?_alloc_lt _ _ ⟨_, _, _⟩ (by first | omega | (simp; omega) | simp)).trans (by assumption)))
                  clear hK K
                  try simp only [Act.put, List.getElem_toArray, List.getElem_cons_zero, List.getElem_cons_succ, List.setIfInBounds_toArray, List.set_cons_zero, List.set_cons_succ]
                  refine wpAnyH_ready (rs := [8]) (by kernel_rfl) (by simp) ?_
                  refine AllReadyH.cons rfl (fun K hK => ?_) AllReadyH.nil
                  try simp only [List.getElem_toArray, List.getElem_cons_zero, List.getElem_cons_succ]
                  rw [if_pos]
                  rotate_left
                  · rfl
                  refine wp_appendU (.tmp 42) (.tmp 45) (by rfl) W0.heap.size Aw4 (capw4) (0) (XP) (by simp [Act.eval, Act.put]) (ownw4) (some ⟨W0.heap.size + 1, 0, none⟩) (1) (1) ([.int .u64 (sk : Nat)]) (by simp [Act.eval, Act.put]) rfl (fun _ => ⟨W0.heap.size + 1, 0, rfl, HS0.out _ _ ((hgr_w4.block _ (by first | omega | (simp; omega) | simp) (by simp)).trans (by exact HBK.out _))⟩) HX1.out (by omega) (by first | omega | (simp; omega) | simp) ?_
                  intro Aw8 capw8 w8 ownw8 hgr_w8 hb_w8 hs_w8
                  (try simp only [World.size_drew, World.heap_drewN, World.size_alloc] at hs_w8)
                  have jw80 : w8.cell? ⟨gb, 1, none⟩ = some (.int .u64 (sk : Nat)) := (hb_w8.cell (p := ⟨gb, 1, none⟩) (by first | omega | (simp; omega) | simp)).trans (by first | assumption | (simp [go_sem]; done) | exact (World.cell?_alloc_lt _ _ ⟨_, _, _⟩ (by first | omega | (simp; omega) | simp)).trans (by assumption) | exact (World.cell?_alloc_lt _ _ ⟨_, _, _⟩ (by first | omega | (simp; omega) | simp)).trans ((World.cell?_alloc_lt _ _ ⟨_, _, _⟩ (by first | omega | (simp; omega) | simp)).trans (by assumption)))
                  refine hK.out _ _ ?_ (fun hHeld => ?_)
                  · (try dsimp only); exact (by first | assumption | (simp [go_sem]; done) | exact (World.cell?_alloc_lt _ _ ⟨_, _, _⟩ (by first | omega | (simp; omega) | simp)).trans (by assumption) | exact (World.cell?_alloc_lt _ _ ⟨_, _, _⟩ (by first | omega | (simp; omega) | simp)).trans ((World.cell?_alloc_lt _ _ ⟨_, _, _⟩ (by first | omega | (simp; omega) | simp)).trans (by assumption)))
                  clear hK K
                  try simp only [Act.put, List.getElem_toArray, List.getElem_cons_zero, List.getElem_cons_succ, List.setIfInBounds_toArray, List.set_cons_zero, List.set_cons_succ]
                  refine wpAnyH_ready (rs := [12]) (by kernel_rfl) (by simp) ?_
                  refine AllReadyH.cons rfl (fun K hK => ?_) AllReadyH.nil
                  try simp only [List.getElem_toArray, List.getElem_cons_zero, List.getElem_cons_succ]
                  rw [if_pos]
                  rotate_left
                  · rfl
                  refine wp_appendU (.tmp 46) (.tmp 49) (by rfl) W0.heap.size Aw8 (capw8) (0 + 1) (XP ++ [.int .u64 (sk : Nat)]) (by simp [Act.eval, Act.put]) (ownw8) none (0) (0) (XQ) (by simp [Act.eval, Act.put]) HLQ.out (fun hm => absurd hm (by omega)) HQ1.out (by omega) (by first | omega | (simp; omega) | simp) ?_
                  intro Aw12 capw12 w12 ownw12 hgr_w12 hb_w12 hs_w12
                  (try simp only [World.size_drew, World.heap_drewN, World.size_alloc] at hs_w12)
                  have jw120 : w12.cell? ⟨gb, 1, none⟩ = some (.int .u64 (sk : Nat)) := (hb_w12.cell (p := ⟨gb, 1, none⟩) (by first | omega | (simp; omega) | simp)).trans (by first | assumption | (simp [go_sem]; done) | exact (World.cell?_alloc_lt _ _ ⟨_, _, _⟩ (by first | omega | (simp; omega) | simp)).trans (by assumption) | exact (World.cell?_alloc_lt _ _ ⟨_, _, _⟩ (by first | omega | (simp; omega) | simp)).trans ((World.cell?_alloc_lt _ _ ⟨_, _, _⟩ (by first | omega | (simp; omega) | simp)).trans (by assumption)))
                  try go_wp2_with fail
                  refine hK.out _ _ ?_ (fun hHeld => ?_)
                  · (try dsimp only); exact (by first | assumption | (simp [go_sem]; done) | exact (World.cell?_alloc_lt _ _ ⟨_, _, _⟩ (by first | omega | (simp; omega) | simp)).trans (by assumption) | exact (World.cell?_alloc_lt _ _ ⟨_, _, _⟩ (by first | omega | (simp; omega) | simp)).trans ((World.cell?_alloc_lt _ _ ⟨_, _, _⟩ (by first | omega | (simp; omega) | simp)).trans (by assumption)))
                  clear hK K
                  try simp only [Act.put, List.getElem_toArray, List.getElem_cons_zero, List.getElem_cons_succ, List.setIfInBounds_toArray, List.set_cons_zero, List.set_cons_succ]
                  refine wpAnyH_take (i := 13) (v := ?_) rfl (by kernel_rfl) (by kernel_rfl) (by kernel_rfl) (fun _ _ _ h => h) (Or.inl ⟨by rfl, ?_⟩) (by assumption) ?_
                  rotate_left
                  · (intro w hSw; (try dsimp only at hSw); go_simp; first | done | with_reducible rfl)
                  try simp only [Act.put, List.getElem_toArray, List.getElem_cons_zero, List.getElem_cons_succ, List.setIfInBounds_toArray, List.set_cons_zero, List.set_cons_succ]
                  refine wpAnyH_done (by kernel_rfl) ?_ _
                  try go_wp2_with fail
                  go_meet
                  case rel => exact ⟨_, _, rfl, by rw [HFIN.out]; exact ownw12, (by repeat (first | exact Below.refl _ _ | assumption | (refine below_drewN ?_ _) | (refine Below.drew ?_) | (refine Below.alloc ?_ (by first | omega | (simp; omega) | simp) _) | (refine Below.setCell ?_ (by first | omega | (simp; omega) | simp) _) | (refine below_trans ?_ (by assumption) (by first | omega | (simp; omega) | simp))))⟩
              · try simp only [List.getElem_toArray, List.getElem_cons_zero, List.getElem_cons_succ]
                go_simp
                refine hK.out _ _ ?_ (fun hHeld => ?_)
                · (try dsimp only); exact (by first | assumption | (simp [go_sem]; done) | exact (World.cell?_alloc_lt _ _ ⟨_, _, _⟩ (by first | omega | (simp; omega) | simp)).trans (by assumption) | exact (World.cell?_alloc_lt _ _ ⟨_, _, _⟩ (by first | omega | (simp; omega) | simp)).trans ((World.cell?_alloc_lt _ _ ⟨_, _, _⟩ (by first | omega | (simp; omega) | simp)).trans (by assumption)))
                clear hK K
                try simp only [Act.put, List.getElem_toArray, List.getElem_cons_zero, List.getElem_cons_succ, List.setIfInBounds_toArray, List.set_cons_zero, List.set_cons_succ]
                refine wpAnyH_ready (rs := [0]) (by kernel_rfl) (by simp) ?_
                refine AllReadyH.cons rfl (fun K hK => ?_) AllReadyH.nil
                try simp only [List.getElem_toArray, List.getElem_cons_zero, List.getElem_cons_succ]
                go_simp
                refine hK.out _ _ ?_ (fun hHeld => ?_)
                · (try dsimp only); exact (by first | assumption | (simp [go_sem]; done) | exact (World.cell?_alloc_lt _ _ ⟨_, _, _⟩ (by first | omega | (simp; omega) | simp)).trans (by assumption) | exact (World.cell?_alloc_lt _ _ ⟨_, _, _⟩ (by first | omega | (simp; omega) | simp)).trans ((World.cell?_alloc_lt _ _ ⟨_, _, _⟩ (by first | omega | (simp; omega) | simp)).trans (by assumption)))
                clear hK K
                try simp only [Act.put, List.getElem_toArray, List.getElem_cons_zero, List.getElem_cons_succ, List.setIfInBounds_toArray, List.set_cons_zero, List.set_cons_succ]
                refine wpAnyH_ready (rs := [4]) (by kernel_rfl) (by simp) ?_
                refine AllReadyH.cons rfl (fun K hK => ?_) AllReadyH.nil
                try simp only [List.getElem_toArray, List.getElem_cons_zero, List.getElem_cons_succ]
                rw [if_pos]
                rotate_left
                · rfl
                refine wp_appendU (.tmp 38) (.tmp 41) (by rfl) W0.heap.size (some ⟨W0.heap.size + 1, 0, none⟩) (0) (0) ([]) (by simp [Act.eval, Act.put]) (own_emptyUG (W0.alloc (.cells #[.int .u64 (sk : Nat)] 25)) _ (W0.heap.size + 1) W0.heap.size (by simp) (by first | omega | (simp; omega) | simp) rfl) none (0) (0) (XP) (by simp [Act.eval, Act.put]) HLP.out (fun hm => absurd hm (by omega)) HP1.out (by omega) (by first | omega | (simp; omega) | simp) ?_
                intro Aw4 capw4 w4 ownw4 hgr_w4 hb_w4 hs_w4
                (try simp only [World.size_drew, World.heap_drewN, World.size_alloc] at hs_w4)
                have jw40 : w4.cell? ⟨gb, 1, none⟩ = some (.int .u64 (sk : Nat)) := (hb_w4.cell (p := ⟨gb, 1, none⟩) (by first | omega | (simp; omega) | simp)).trans (by first | assumption | (simp [go_sem]; done) | exact (World.cell?_alloc_lt _ _ ⟨_, _, _⟩ (by first | omega | (simp; omega) | simp)).trans (by assumption) | exact (World.cell?_alloc_lt _ _ ⟨_, _, _⟩ (by first | omega | (simp; omega) | simp)).trans ((World.cell?_alloc_lt _ _ ⟨_, _, _⟩ (by first | omega | (simp; omega) | simp)).trans (by assumption)))
                simp only [Nat.zero_add, List.nil_append] at ownw4
                refine hK.out _ _ ?_ (fun hHeld => ?_)
                · (try dsimp only); exact (by first | assumption | (simp [go_sem]; done) | exact (World.cell?_alloc_lt _ _ ⟨_, _, _⟩ (by first | omega | (simp; omega) | simp)).trans (by assumption) | exact (World.cell?_alloc_lt _ _ ⟨_, _, _⟩ (by first | omega | (simp; omega) | simp)).trans ((World.cell?_alloc_lt _ _ ⟨_, _, _⟩ (by first | omega | (simp; omega) | simp)).trans (by assumption)))
                clear hK K
                try simp only [Act.put, List.getElem_toArray, List.getElem_cons_zero, List.getElem_cons_succ, List.setIfInBounds_toArray, List.set_cons_zero, List.set_cons_succ]
                refine wpAnyH_ready (rs := [8]) (by kernel_rfl) (by simp) ?_
                refine AllReadyH.cons rfl (fun K hK => ?_) AllReadyH.nil
                try simp only [List.getElem_toArray, List.getElem_cons_zero, List.getElem_cons_succ]
                rw [if_pos]
                rotate_left
                · rfl
                refine wp_appendU (.tmp 42) (.tmp 45) (by rfl) W0.heap.size Aw4 (capw4) (0) (XP) (by simp [Act.eval, Act.put]) (ownw4) (some ⟨W0.heap.size, 0, none⟩) (1) (1) ([.int .u64 (sk : Nat)]) (by simp [Act.eval, Act.put]) rfl (fun _ => ⟨W0.heap.size, 0, rfl, HS0.out _ _ ((hgr_w4.block _ (by first | omega | (simp; omega) | simp) (by simp)).trans (by exact HBK3.out _))⟩) HX1.out (by omega) (by first | omega | (simp; omega) | simp) ?_
                intro Aw8 capw8 w8 ownw8 hgr_w8 hb_w8 hs_w8
                (try simp only [World.size_drew, World.heap_drewN, World.size_alloc] at hs_w8)
                have jw80 : w8.cell? ⟨gb, 1, none⟩ = some (.int .u64 (sk : Nat)) := (hb_w8.cell (p := ⟨gb, 1, none⟩) (by first | omega | (simp; omega) | simp)).trans (by first | assumption | (simp [go_sem]; done) | exact (World.cell?_alloc_lt _ _ ⟨_, _, _⟩ (by first | omega | (simp; omega) | simp)).trans (by assumption) | exact (World.cell?_alloc_lt _ _ ⟨_, _, _⟩ (by first | omega | (simp; omega) | simp)).trans ((World.cell?_alloc_lt _ _ ⟨_, _, _⟩ (by first | omega | (simp; omega) | simp)).trans (by assumption)))
                refine hK.out _ _ ?_ (fun hHeld => ?_)
                · (try dsimp only); exact (by first | assumption | (simp [go_sem]; done) | exact (World.cell?_alloc_lt _ _ ⟨_, _, _⟩ (by first | omega | (simp; omega) | simp)).trans (by assumption) | exact (World.cell?_alloc_lt _ _ ⟨_, _, _⟩ (by first | omega | (simp; omega) | simp)).trans ((World.cell?_alloc_lt _ _ ⟨_, _, _⟩ (by first | omega | (simp; omega) | simp)).trans (by assumption)))
                clear hK K
                try simp only [Act.put, List.getElem_toArray, List.getElem_cons_zero, List.getElem_cons_succ, List.setIfInBounds_toArray, List.set_cons_zero, List.set_cons_succ]
                refine wpAnyH_ready (rs := [12]) (by kernel_rfl) (by simp) ?_
                refine AllReadyH.cons rfl (fun K hK => ?_) AllReadyH.nil
                try simp only [List.getElem_toArray, List.getElem_cons_zero, List.getElem_cons_succ]
                rw [if_pos]
                rotate_left
                · rfl
                refine wp_appendU (.tmp 46) (.tmp 49) (by rfl) W0.heap.size Aw8 (capw8) (0 + 1) (XP ++ [.int .u64 (sk : Nat)]) (by simp [Act.eval, Act.put]) (ownw8) none (0) (0) (XQ) (by simp [Act.eval, Act.put]) HLQ.out (fun hm => absurd hm (by omega)) HQ1.out (by omega) (by first | omega | (simp; omega) | simp) ?_
                intro Aw12 capw12 w12 ownw12 hgr_w12 hb_w12 hs_w12
                (try simp only [World.size_drew, World.heap_drewN, World.size_alloc] at hs_w12)
                have jw120 : w12.cell? ⟨gb, 1, none⟩ = some (.int .u64 (sk : Nat)) := (hb_w12.cell (p := ⟨gb, 1, none⟩) (by first | omega | (simp; omega) | simp)).trans (by first | assumption | (simp [go_sem]; done) | exact (World.cell?_alloc_lt _ _ ⟨_, _, _⟩ (by first | omega | (simp; omega) | simp)).trans (by assumption) | exact (World.cell?_alloc_lt _ _ ⟨_, _, _⟩ (by first | omega | (simp; omega) | simp)).trans ((World.cell?_alloc_lt _ _ ⟨_, _, _⟩ (by first | omega | (simp; omega) | simp)).trans (by assumption)))
                try go_wp2_with fail
                refine hK.out _ _ ?_ (fun hHeld => ?_)
                · (try dsimp only); exact (by first | assumption | (simp [go_sem]; done) | exact (World.cell?_alloc_lt _ _ ⟨_, _, _⟩ (by first | omega | (simp; omega) | simp)).trans (by assumption) | exact (World.cell?_alloc_lt _ _ ⟨_, _, _⟩ (by first | omega | (simp; omega) | simp)).trans ((World.cell?_alloc_lt _ _ ⟨_, _, _⟩ (by first | omega | (simp; omega) | simp)).trans (by assumption)))
                clear hK K
                try simp only [Act.put, List.getElem_toArray, List.getElem_cons_zero, List.getElem_cons_succ, List.setIfInBounds_toArray, List.set_cons_zero, List.set_cons_succ]
                refine wpAnyH_take (i := 13) (v := ?_) rfl (by kernel_rfl) (by kernel_rfl) (by kernel_rfl) (fun _ _ _ h => h) (Or.inl ⟨by rfl, ?_⟩) (by assumption) ?_
                rotate_left
                · (intro w hSw; (try dsimp only at hSw); go_simp; first | done | with_reducible rfl)
                try simp only [Act.put, List.getElem_toArray, List.getElem_cons_zero, List.getElem_cons_succ, List.setIfInBounds_toArray, List.set_cons_zero, List.set_cons_succ]
                refine wpAnyH_done (by kernel_rfl) ?_ _
                try go_wp2_with fail
                go_meet
                case rel => exact ⟨_, _, rfl, by rw [HFIN.out]; exact ownw12, (by repeat (first | exact Below.refl _ _ | assumption | (refine below_drewN ?_ _) | (refine Below.drew ?_) | (refine Below.alloc ?_ (by first | omega | (simp; omega) | simp) _) | (refine Below.setCell ?_ (by first | omega | (simp; omega) | simp) _) | (refine below_trans ?_ (by assumption) (by first | omega | (simp; omega) | simp))))⟩
            · subst hK0
              have HC1 := Lib.hid hS1
              have HC2 := Lib.hid hS2
              have HLP := HLPn
              clear hS1 hS2
              have hn0 : (0 : Int) ≤ (n : Int) := by omega
              have hn1 : (n : Int) ≤ (L : Int) := by omega
              have hn2 : (n : Int) ≤ (ck : Int) := by omega
              by_cases hca : ck = n
              · subst hca
                have HLQ : Hid (XQ.length = 0) := Lib.hid (by have := HLQn.out; omega)
                have HN : Hid (L + 1 = ck + 1 + 0) := Lib.hid (by omega)
                refine wp_region_held_drew (S := (fun X : World => X.cell? ⟨gb, 1, none⟩ = some (.int .u64 (sk : Nat)))) (by kernel_rfl) ?_ (fun hHeld => ?_)
                · (try dsimp only); exact (by first | assumption | (simp [go_sem]; done) | exact (World.cell?_alloc_lt _ _ ⟨_, _, _⟩ (by first | omega | (simp; omega) | simp)).trans (by assumption) | exact (World.cell?_alloc_lt _ _ ⟨_, _, _⟩ (by first | omega | (simp; omega) | simp)).trans ((World.cell?_alloc_lt _ _ ⟨_, _, _⟩ (by first | omega | (simp; omega) | simp)).trans (by assumption)))
                refine wpAnyH_take (i := 1) (v := ?_) rfl (by kernel_rfl) (by kernel_rfl) (by kernel_rfl) (fun _ _ _ h => h) (Or.inl ⟨by rfl, ?_⟩) (by assumption) ?_
                rotate_left
                · (intro w hSw; (try dsimp only at hSw); go_simp; first | done | with_reducible rfl)
                try simp only [Act.put, List.getElem_toArray, List.getElem_cons_zero, List.getElem_cons_succ, List.setIfInBounds_toArray, List.set_cons_zero, List.set_cons_succ]
                refine wpAnyH_take (i := 2) (v := ?_) rfl (by kernel_rfl) (by kernel_rfl) (by kernel_rfl) (fun _ _ _ h => h) (Or.inl ⟨by rfl, ?_⟩) (by assumption) ?_
                rotate_left
                · (intro w hSw; (try dsimp only at hSw); go_simp; first | done | with_reducible rfl)
                try simp only [Act.put, List.getElem_toArray, List.getElem_cons_zero, List.getElem_cons_succ, List.setIfInBounds_toArray, List.set_cons_zero, List.set_cons_succ]
                refine wpAnyH_take (i := 3) (v := ?_) rfl (by kernel_rfl) (by kernel_rfl) (by kernel_rfl) (fun _ _ _ h => h) (Or.inl ⟨by rfl, ?_⟩) (by assumption) ?_
                rotate_left
                · (intro w hSw; (try dsimp only at hSw); go_simp; first | done | with_reducible rfl)
                try simp only [Act.put, List.getElem_toArray, List.getElem_cons_zero, List.getElem_cons_succ, List.setIfInBounds_toArray, List.set_cons_zero, List.set_cons_succ]
                refine wpAnyH_take (i := 5) (v := ?_) rfl (by kernel_rfl) (by kernel_rfl) (by kernel_rfl) (fun _ _ _ h => h) (Or.inl ⟨by rfl, ?_⟩) (by assumption) ?_
                rotate_left
                · (intro w hSw; (try dsimp only at hSw); go_simp; first | done | with_reducible rfl)
                try simp only [Act.put, List.getElem_toArray, List.getElem_cons_zero, List.getElem_cons_succ, List.setIfInBounds_toArray, List.set_cons_zero, List.set_cons_succ]
                refine wpAnyH_take (i := 6) (v := ?_) rfl (by kernel_rfl) (by kernel_rfl) (by kernel_rfl) (fun _ _ _ h => h) (Or.inl ⟨by rfl, ?_⟩) (by assumption) ?_
                rotate_left
                · (intro w hSw; (try dsimp only at hSw); go_simp; first | done | with_reducible rfl)
                try simp only [Act.put, List.getElem_toArray, List.getElem_cons_zero, List.getElem_cons_succ, List.setIfInBounds_toArray, List.set_cons_zero, List.set_cons_succ]
                refine wpAnyH_take (i := 9) (v := ?_) rfl (by kernel_rfl) (by kernel_rfl) (by kernel_rfl) (fun _ _ _ h => h) (Or.inl ⟨by rfl, ?_⟩) (by assumption) ?_
                rotate_left
                · (intro w hSw; (try dsimp only at hSw); go_simp; first | done | with_reducible rfl)
                try simp only [Act.put, List.getElem_toArray, List.getElem_cons_zero, List.getElem_cons_succ, List.setIfInBounds_toArray, List.set_cons_zero, List.set_cons_succ]
                refine wpAnyH_take (i := 10) (v := ?_) rfl (by kernel_rfl) (by kernel_rfl) (by kernel_rfl) (fun _ _ _ h => h) (Or.inl ⟨by rfl, ?_⟩) (by assumption) ?_
                rotate_left
                · (intro w hSw; (try dsimp only at hSw); go_simp; first | done | with_reducible rfl)
                try simp only [Act.put, List.getElem_toArray, List.getElem_cons_zero, List.getElem_cons_succ, List.setIfInBounds_toArray, List.set_cons_zero, List.set_cons_succ]
                refine wpAnyH_take (i := 11) (v := ?_) rfl (by kernel_rfl) (by kernel_rfl) (by kernel_rfl) (fun _ _ _ h => h) (Or.inl ⟨by rfl, ?_⟩) (by assumption) ?_
                rotate_left
                · (intro w hSw; (try dsimp only at hSw); go_simp; first | done | with_reducible rfl)
                try simp only [Act.put, List.getElem_toArray, List.getElem_cons_zero, List.getElem_cons_succ, List.setIfInBounds_toArray, List.set_cons_zero, List.set_cons_succ]
                refine wpAnyH_ready (rs := [0, 7]) (by kernel_rfl) (by simp) ?_
                refine AllReadyH.cons rfl (fun K hK => ?_) (AllReadyH.cons rfl (fun K hK => ?_) AllReadyH.nil)
                · try simp only [List.getElem_toArray, List.getElem_cons_zero, List.getElem_cons_succ]
                  go_simp
                  refine hK.out _ _ ?_ (fun hHeld => ?_)
                  · (try dsimp only); exact (by first | assumption | (simp [go_sem]; done) | exact (World.cell?_alloc_lt _ _ ⟨_, _, _⟩ (by first | omega | (simp; omega) | simp)).trans (by assumption) | exact (World.cell?_alloc_lt _ _ ⟨_, _, _⟩ (by first | omega | (simp; omega) | simp)).trans ((World.cell?_alloc_lt _ _ ⟨_, _, _⟩ (by first | omega | (simp; omega) | simp)).trans (by assumption)))
                  clear hK K
                  try simp only [Act.put, List.getElem_toArray, List.getElem_cons_zero, List.getElem_cons_succ, List.setIfInBounds_toArray, List.set_cons_zero, List.set_cons_succ]
                  refine wpAnyH_ready (rs := [4, 7]) (by kernel_rfl) (by simp) ?_
                  refine AllReadyH.cons rfl (fun K hK => ?_) (AllReadyH.cons rfl (fun K hK => ?_) AllReadyH.nil)
                  · try simp only [List.getElem_toArray, List.getElem_cons_zero, List.getElem_cons_succ]
                    rw [if_pos]
                    rotate_left
                    · rfl
                    refine wp_appendU (.tmp 38) (.tmp 41) (by rfl) W0.heap.size (some ⟨W0.heap.size, 0, none⟩) (0) (0) ([]) (by simp [Act.eval, Act.put]) (own_emptyU W0 _ W0.heap.size (by first | omega | (simp; omega) | simp) rfl) (some ⟨gk, 0, none⟩) (ck) (ck) (XP) (by simp [Act.eval, Act.put]) HLP.out (fun _ => ⟨gk, 0, rfl, HC1.out _ (by repeat (first | exact Below.refl _ _ | assumption | (refine below_drewN ?_ _) | (refine Below.drew ?_) | (refine Below.alloc ?_ (by first | omega | (simp; omega) | simp) _) | (refine Below.setCell ?_ (by first | omega | (simp; omega) | simp) _) | (refine below_trans ?_ (by assumption) (by first | omega | (simp; omega) | simp))))⟩) HP1.out (by omega) (by first | omega | (simp; omega) | simp) ?_
                    intro Aw4 capw4 w4 ownw4 hgr_w4 hb_w4 hs_w4
                    (try simp only [World.size_drew, World.heap_drewN, World.size_alloc] at hs_w4)
                    have jw40 : w4.cell? ⟨gb, 1, none⟩ = some (.int .u64 (sk : Nat)) := (hb_w4.cell (p := ⟨gb, 1, none⟩) (by first | omega | (simp; omega) | simp)).trans (by first | assumption | (simp [go_sem]; done) | exact (World.cell?_alloc_lt _ _ ⟨_, _, _⟩ (by first | omega | (simp; omega) | simp)).trans (by assumption) | exact (World.cell?_alloc_lt _ _ ⟨_, _, _⟩ (by first | omega | (simp; omega) | simp)).trans ((World.cell?_alloc_lt _ _ ⟨_, _, _⟩ (by first | omega | (simp; omega) | simp)).trans (by assumption)))
                    simp only [Nat.zero_add, List.nil_append] at ownw4
                    refine hK.out _ _ ?_ (fun hHeld => ?_)
                    · (try dsimp only); exact (by first | assumption | (simp [go_sem]; done) | exact (World.cell?_alloc_lt _ _ ⟨_, _, _⟩ (by first | omega | (simp; omega) | simp)).trans (by assumption) | exact (World.cell?_alloc_lt _ _ ⟨_, _, _⟩ (by first | omega | (simp; omega) | simp)).trans ((World.cell?_alloc_lt _ _ ⟨_, _, _⟩ (by first | omega | (simp; omega) | simp)).trans (by assumption)))
                    clear hK K
                    try simp only [Act.put, List.getElem_toArray, List.getElem_cons_zero, List.getElem_cons_succ, List.setIfInBounds_toArray, List.set_cons_zero, List.set_cons_succ]
                    refine wpAnyH_ready (rs := [7]) (by kernel_rfl) (by simp) ?_
                    refine AllReadyH.cons rfl (fun K hK => ?_) AllReadyH.nil
                    try simp only [List.getElem_toArray, List.getElem_cons_zero, List.getElem_cons_succ]
                    go_simp
                    refine hK.out _ _ ?_ (fun hHeld => ?_)
                    · (try dsimp only); exact (by first | assumption | (simp [go_sem]; done) | exact (World.cell?_alloc_lt _ _ ⟨_, _, _⟩ (by first | omega | (simp; omega) | simp)).trans (by assumption) | exact (World.cell?_alloc_lt _ _ ⟨_, _, _⟩ (by first | omega | (simp; omega) | simp)).trans ((World.cell?_alloc_lt _ _ ⟨_, _, _⟩ (by first | omega | (simp; omega) | simp)).trans (by assumption)))
                    clear hK K
                    try simp only [Act.put, List.getElem_toArray, List.getElem_cons_zero, List.getElem_cons_succ, List.setIfInBounds_toArray, List.set_cons_zero, List.set_cons_succ]
                    refine wpAnyH_ready (rs := [8]) (by kernel_rfl) (by simp) ?_
                    refine AllReadyH.cons rfl (fun K hK => ?_) AllReadyH.nil
                    try simp only [List.getElem_toArray, List.getElem_cons_zero, List.getElem_cons_succ]
                    rw [if_pos]
                    rotate_left
                    · rfl
                    refine wp_appendU (.tmp 42) (.tmp 45) (by rfl) W0.heap.size Aw4 (capw4) (ck) (XP) (by simp [Act.eval, Act.put]) (ownw4.alloc _) (some ⟨w4.heap.size, 0, none⟩) (1) (1) ([.int .u64 (sk : Nat)]) (by simp [Act.eval, Act.put]) rfl (fun _ => ⟨w4.heap.size, 0, rfl, HS0.out _ _ (heap_alloc_new _ _)⟩) HX1.out (by omega) (by first | omega | (simp; omega) | simp) ?_
                    intro Aw8 capw8 w8 ownw8 hgr_w8 hb_w8 hs_w8
                    (try simp only [World.size_drew, World.heap_drewN, World.size_alloc] at hs_w8)
                    have jw80 : w8.cell? ⟨gb, 1, none⟩ = some (.int .u64 (sk : Nat)) := (hb_w8.cell (p := ⟨gb, 1, none⟩) (by first | omega | (simp; omega) | simp)).trans (by first | assumption | (simp [go_sem]; done) | exact (World.cell?_alloc_lt _ _ ⟨_, _, _⟩ (by first | omega | (simp; omega) | simp)).trans (by assumption) | exact (World.cell?_alloc_lt _ _ ⟨_, _, _⟩ (by first | omega | (simp; omega) | simp)).trans ((World.cell?_alloc_lt _ _ ⟨_, _, _⟩ (by first | omega | (simp; omega) | simp)).trans (by assumption)))
                    refine hK.out _ _ ?_ (fun hHeld => ?_)
                    · (try dsimp only); exact (by first | assumption | (simp [go_sem]; done) | exact (World.cell?_alloc_lt _ _ ⟨_, _, _⟩ (by first | omega | (simp; omega) | simp)).trans (by assumption) | exact (World.cell?_alloc_lt _ _ ⟨_, _, _⟩ (by first | omega | (simp; omega) | simp)).trans ((World.cell?_alloc_lt _ _ ⟨_, _, _⟩ (by first | omega | (simp; omega) | simp)).trans (by assumption)))
                    clear hK K
                    try simp only [Act.put, List.getElem_toArray, List.getElem_cons_zero, List.getElem_cons_succ, List.setIfInBounds_toArray, List.set_cons_zero, List.set_cons_succ]
                    refine wpAnyH_ready (rs := [12]) (by kernel_rfl) (by simp) ?_
                    refine AllReadyH.cons rfl (fun K hK => ?_) AllReadyH.nil
                    try simp only [List.getElem_toArray, List.getElem_cons_zero, List.getElem_cons_succ]
                    rw [if_pos]
                    rotate_left
                    · rfl
                    refine wp_appendU (.tmp 46) (.tmp 49) (by rfl) W0.heap.size Aw8 (capw8) (ck + 1) (XP ++ [.int .u64 (sk : Nat)]) (by simp [Act.eval, Act.put]) (ownw8) (some ⟨gk, 0, none⟩) (0) (0) (XQ) (by simp [Act.eval, Act.put]) HLQ.out (fun hm => absurd hm (by omega)) HQ1.out (by omega) (by first | omega | (simp; omega) | simp) ?_
                    intro Aw12 capw12 w12 ownw12 hgr_w12 hb_w12 hs_w12
                    (try simp only [World.size_drew, World.heap_drewN, World.size_alloc] at hs_w12)
                    have jw120 : w12.cell? ⟨gb, 1, none⟩ = some (.int .u64 (sk : Nat)) := (hb_w12.cell (p := ⟨gb, 1, none⟩) (by first | omega | (simp; omega) | simp)).trans (by first | assumption | (simp [go_sem]; done) | exact (World.cell?_alloc_lt _ _ ⟨_, _, _⟩ (by first | omega | (simp; omega) | simp)).trans (by assumption) | exact (World.cell?_alloc_lt _ _ ⟨_, _, _⟩ (by first | omega | (simp; omega) | simp)).trans ((World.cell?_alloc_lt _ _ ⟨_, _, _⟩ (by first | omega | (simp; omega) | simp)).trans (by assumption)))
                    try go_wp2_with fail
                    refine hK.out _ _ ?_ (fun hHeld => ?_)
                    · (try dsimp only); exact (by first | assumption | (simp [go_sem]; done) | exact (World.cell?_alloc_lt _ _ ⟨_, _, _⟩ (by first | omega | (simp; omega) | simp)).trans (by assumption) | exact (World.cell?_alloc_lt _ _ ⟨_, _, _⟩ (by first | omega | (simp; omega) | simp)).trans ((World.cell?_alloc_lt _ _ ⟨_, _, _⟩ (by first | omega | (simp; omega) | simp)).trans (by assumption)))
                    clear hK K
                    try simp only [Act.put, List.getElem_toArray, List.getElem_cons_zero, List.getElem_cons_succ, List.setIfInBounds_toArray, List.set_cons_zero, List.set_cons_succ]
                    refine wpAnyH_take (i := 13) (v := ?_) rfl (by kernel_rfl) (by kernel_rfl) (by kernel_rfl) (fun _ _ _ h => h) (Or.inl ⟨by rfl, ?_⟩) (by assumption) ?_
                    rotate_left
                    · (intro w hSw; (try dsimp only at hSw); go_simp; first | done | with_reducible rfl)
                    try simp only [Act.put, List.getElem_toArray, List.getElem_cons_zero, List.getElem_cons_succ, List.setIfInBounds_toArray, List.set_cons_zero, List.set_cons_succ]
                    refine wpAnyH_done (by kernel_rfl) ?_ _
                    try go_wp2_with fail
                    go_meet
                    case rel => exact ⟨_, _, by rw [HN.out], by rw [HN.out, HFIN.out]; exact ownw12, (by repeat (first | exact Below.refl _ _ | assumption | (refine below_drewN ?_ _) | (refine Below.drew ?_) | (refine Below.alloc ?_ (by first | omega | (simp; omega) | simp) _) | (refine Below.setCell ?_ (by first | omega | (simp; omega) | simp) _) | (refine below_trans ?_ (by assumption) (by first | omega | (simp; omega) | simp))))⟩
                  · try simp only [List.getElem_toArray, List.getElem_cons_zero, List.getElem_cons_succ]
                    go_simp
                    refine hK.out _ _ ?_ (fun hHeld => ?_)
                    · (try dsimp only); exact (by first | assumption | (simp [go_sem]; done) | exact (World.cell?_alloc_lt _ _ ⟨_, _, _⟩ (by first | omega | (simp; omega) | simp)).trans (by assumption) | exact (World.cell?_alloc_lt _ _ ⟨_, _, _⟩ (by first | omega | (simp; omega) | simp)).trans ((World.cell?_alloc_lt _ _ ⟨_, _, _⟩ (by first | omega | (simp; omega) | simp)).trans (by assumption)))
                    clear hK K
                    try simp only [Act.put, List.getElem_toArray, List.getElem_cons_zero, List.getElem_cons_succ, List.setIfInBounds_toArray, List.set_cons_zero, List.set_cons_succ]
                    refine wpAnyH_ready (rs := [4]) (by kernel_rfl) (by simp) ?_
                    refine AllReadyH.cons rfl (fun K hK => ?_) AllReadyH.nil
                    try simp only [List.getElem_toArray, List.getElem_cons_zero, List.getElem_cons_succ]
                    rw [if_pos]
                    rotate_left
                    · rfl
                    refine wp_appendU (.tmp 38) (.tmp 41) (by rfl) W0.heap.size (some ⟨W0.heap.size, 0, none⟩) (0) (0) ([]) (by simp [Act.eval, Act.put]) ((own_emptyU W0 _ W0.heap.size (by first | omega | (simp; omega) | simp) rfl).alloc _) (some ⟨gk, 0, none⟩) (ck) (ck) (XP) (by simp [Act.eval, Act.put]) HLP.out (fun _ => ⟨gk, 0, rfl, HC1.out _ (by repeat (first | exact Below.refl _ _ | assumption | (refine below_drewN ?_ _) | (refine Below.drew ?_) | (refine Below.alloc ?_ (by first | omega | (simp; omega) | simp) _) | (refine Below.setCell ?_ (by first | omega | (simp; omega) | simp) _) | (refine below_trans ?_ (by assumption) (by first | omega | (simp; omega) | simp))))⟩) HP1.out (by omega) (by first | omega | (simp; omega) | simp) ?_
                    intro Aw4 capw4 w4 ownw4 hgr_w4 hb_w4 hs_w4
                    (try simp only [World.size_drew, World.heap_drewN, World.size_alloc] at hs_w4)
                    have jw40 : w4.cell? ⟨gb, 1, none⟩ = some (.int .u64 (sk : Nat)) := (hb_w4.cell (p := ⟨gb, 1, none⟩) (by first | omega | (simp; omega) | simp)).trans (by first | assumption | (simp [go_sem]; done) | exact (World.cell?_alloc_lt _ _ ⟨_, _, _⟩ (by first | omega | (simp; omega) | simp)).trans (by assumption) | exact (World.cell?_alloc_lt _ _ ⟨_, _, _⟩ (by first | omega | (simp; omega) | simp)).trans ((World.cell?_alloc_lt _ _ ⟨_, _, _⟩ (by first | omega | (simp; omega) | simp)).trans (by assumption)))
                    simp only [Nat.zero_add, List.nil_append] at ownw4
                    refine hK.out _ _ ?_ (fun hHeld => ?_)
                    · (try dsimp only); exact (by first | assumption | (simp [go_sem]; done) | exact (World.cell?_alloc_lt _ _ ⟨_, _, _⟩ (by first | omega | (simp; omega) | simp)).trans (by assumption) | exact (World.cell?_alloc_lt _ _ ⟨_, _, _⟩ (by first | omega | (simp; omega) | simp)).trans ((World.cell?_alloc_lt _ _ ⟨_, _, _⟩ (by first | omega | (simp; omega) | simp)).trans (by assumption)))
                    clear hK K
                    try simp only [Act.put, List.getElem_toArray, List.getElem_cons_zero, List.getElem_cons_succ, List.setIfInBounds_toArray, List.set_cons_zero, List.set_cons_succ]
                    refine wpAnyH_ready (rs := [8]) (by kernel_rfl) (by simp) ?_
                    refine AllReadyH.cons rfl (fun K hK => ?_) AllReadyH.nil
                    try simp only [List.getElem_toArray, List.getElem_cons_zero, List.getElem_cons_succ]
                    rw [if_pos]
                    rotate_left
                    · rfl
                    refine wp_appendU (.tmp 42) (.tmp 45) (by rfl) W0.heap.size Aw4 (capw4) (ck) (XP) (by simp [Act.eval, Act.put]) (ownw4) (some ⟨W0.heap.size + 1, 0, none⟩) (1) (1) ([.int .u64 (sk : Nat)]) (by simp [Act.eval, Act.put]) rfl (fun _ => ⟨W0.heap.size + 1, 0, rfl, HS0.out _ _ ((hgr_w4.block _ (by first | omega | (simp; omega) | simp) (by simp)).trans (by exact HBK.out _))⟩) HX1.out (by omega) (by first | omega | (simp; omega) | simp) ?_
                    intro Aw8 capw8 w8 ownw8 hgr_w8 hb_w8 hs_w8
                    (try simp only [World.size_drew, World.heap_drewN, World.size_alloc] at hs_w8)
                    have jw80 : w8.cell? ⟨gb, 1, none⟩ = some (.int .u64 (sk : Nat)) := (hb_w8.cell (p := ⟨gb, 1, none⟩) (by first | omega | (simp; omega) | simp)).trans (by first | assumption | (simp [go_sem]; done) | exact (World.cell?_alloc_lt _ _ ⟨_, _, _⟩ (by first | omega | (simp; omega) | simp)).trans (by assumption) | exact (World.cell?_alloc_lt _ _ ⟨_, _, _⟩ (by first | omega | (simp; omega) | simp)).trans ((World.cell?_alloc_lt _ _ ⟨_, _, _⟩ (by first | omega | (simp; omega) | simp)).trans (by assumption)))
                    refine hK.out _ _ ?_ (fun hHeld => ?_)
                    · (try dsimp only); exact (by first | assumption | (simp [go_sem]; done) | exact (World.cell?_alloc_lt _ _ ⟨_, _, _⟩ (by first | omega | (simp; omega) | simp)).trans (by assumption) | exact (World.cell?_alloc_lt _ _ ⟨_, _, _⟩ (by first | omega | (simp; omega) | simp)).trans ((World.cell?_alloc_lt _ _ ⟨_, _, _⟩ (by first | omega | (simp; omega) | simp)).trans (by assumption)))
                    clear hK K
                    try simp only [Act.put, List.getElem_toArray, List.getElem_cons_zero, List.getElem_cons_succ, List.setIfInBounds_toArray, List.set_cons_zero, List.set_cons_succ]
                    refine wpAnyH_ready (rs := [12]) (by kernel_rfl) (by simp) ?_
                    refine AllReadyH.cons rfl (fun K hK => ?_) AllReadyH.nil
                    try simp only [List.getElem_toArray, List.getElem_cons_zero, List.getElem_cons_succ]
                    rw [if_pos]
                    rotate_left
                    · rfl
                    refine wp_appendU (.tmp 46) (.tmp 49) (by rfl) W0.heap.size Aw8 (capw8) (ck + 1) (XP ++ [.int .u64 (sk : Nat)]) (by simp [Act.eval, Act.put]) (ownw8) (some ⟨gk, 0, none⟩) (0) (0) (XQ) (by simp [Act.eval, Act.put]) HLQ.out (fun hm => absurd hm (by omega)) HQ1.out (by omega) (by first | omega | (simp; omega) | simp) ?_
                    intro Aw12 capw12 w12 ownw12 hgr_w12 hb_w12 hs_w12
                    (try simp only [World.size_drew, World.heap_drewN, World.size_alloc] at hs_w12)
                    have jw120 : w12.cell? ⟨gb, 1, none⟩ = some (.int .u64 (sk : Nat)) := (hb_w12.cell (p := ⟨gb, 1, none⟩) (by first | omega | (simp; omega) | simp)).trans (by first | assumption | (simp [go_sem]; done) | exact (World.cell?_alloc_lt _ _ ⟨_, _, _⟩ (by first | omega | (simp; omega) | simp)).trans (by assumption) | exact (World.cell?_alloc_lt _ _ ⟨_, _, _⟩ (by first | omega | (simp; omega) | simp)).trans ((World.cell?_alloc_lt _ _ ⟨_, _, _⟩ (by first | omega | (simp; omega) | simp)).trans (by assumption)))
                    try go_wp2_with fail
                    refine hK.out _ _ ?_ (fun hHeld => ?_)
                    · (try dsimp only); exact (by first | assumption | (simp [go_sem]; done) | exact (World.cell?_alloc_lt _ _ ⟨_, _, _⟩ (by first | omega | (simp; omega) | simp)).trans (by assumption) | exact (World.cell?_alloc_lt _ _ ⟨_, _, _⟩ (by first | omega | (simp; omega) | simp)).trans ((World.cell?_alloc_lt _ _ ⟨_, _, _⟩ (by first | omega | (simp; omega) | simp)).trans (by assumption)))
                    clear hK K
                    try simp only [Act.put, List.getElem_toArray, List.getElem_cons_zero, List.getElem_cons_succ, List.setIfInBounds_toArray, List.set_cons_zero, List.set_cons_succ]
                    refine wpAnyH_take (i := 13) (v := ?_) rfl (by kernel_rfl) (by kernel_rfl) (by kernel_rfl) (fun _ _ _ h => h) (Or.inl ⟨by rfl, ?_⟩) (by assumption) ?_
                    rotate_left
                    · (intro w hSw; (try dsimp only at hSw); go_simp; first | done | with_reducible rfl)
                    try simp only [Act.put, List.getElem_toArray, List.getElem_cons_zero, List.getElem_cons_succ, List.setIfInBounds_toArray, List.set_cons_zero, List.set_cons_succ]
                    refine wpAnyH_done (by kernel_rfl) ?_ _
                    try go_wp2_with fail
                    go_meet
                    case rel => exact ⟨_, _, by rw [HN.out], by rw [HN.out, HFIN.out]; exact ownw12, (by repeat (first | exact Below.refl _ _ | assumption | (refine below_drewN ?_ _) | (refine Below.drew ?_) | (refine Below.alloc ?_ (by first | omega | (simp; omega) | simp) _) | (refine Below.setCell ?_ (by first | omega | (simp; omega) | simp) _) | (refine below_trans ?_ (by assumption) (by first | omega | (simp; omega) | simp))))⟩
                · try simp only [List.getElem_toArray, List.getElem_cons_zero, List.getElem_cons_succ]
                  go_simp
                  refine hK.out _ _ ?_ (fun hHeld => ?_)
                  · (try dsimp only); exact (by first | assumption | (simp [go_sem]; done) | exact (World.cell?_alloc_lt _ _ ⟨_, _, _⟩ (by first | omega | (simp; omega) | simp)).trans (by assumption) | exact (World.cell?_alloc_lt _ _ ⟨_, _, _⟩ (by first | omega | (simp; omega) | simp)).trans ((World.cell?_alloc_lt _ _ ⟨_, _, _⟩ (by first | omega | (simp; omega) | simp)).trans (by assumption)))
                  clear hK K
                  try simp only [Act.put, List.getElem_toArray, List.getElem_cons_zero, List.getElem_cons_succ, List.setIfInBounds_toArray, List.set_cons_zero, List.set_cons_succ]
                  refine wpAnyH_ready (rs := [0]) (by kernel_rfl) (by simp) ?_
                  refine AllReadyH.cons rfl (fun K hK => ?_) AllReadyH.nil
                  try simp only [List.getElem_toArray, List.getElem_cons_zero, List.getElem_cons_succ]
                  go_simp
                  refine hK.out _ _ ?_ (fun hHeld => ?_)
                  · (try dsimp only); exact (by first | assumption | (simp [go_sem]; done) | exact (World.cell?_alloc_lt _ _ ⟨_, _, _⟩ (by first | omega | (simp; omega) | simp)).trans (by assumption) | exact (World.cell?_alloc_lt _ _ ⟨_, _, _⟩ (by first | omega | (simp; omega) | simp)).trans ((World.cell?_alloc_lt _ _ ⟨_, _, _⟩ (by first | omega | (simp; omega) | simp)).trans (by assumption)))
                  clear hK K
                  try simp only [Act.put, List.getElem_toArray, List.getElem_cons_zero, List.getElem_cons_succ, List.setIfInBounds_toArray, List.set_cons_zero, List.set_cons_succ]
                  refine wpAnyH_ready (rs := [4]) (by kernel_rfl) (by simp) ?_
                  refine AllReadyH.cons rfl (fun K hK => ?_) AllReadyH.nil
                  try simp only [List.getElem_toArray, List.getElem_cons_zero, List.getElem_cons_succ]
                  rw [if_pos]
                  rotate_left
                  · rfl
                  refine wp_appendU (.tmp 38) (.tmp 41) (by rfl) W0.heap.size (some ⟨W0.heap.size + 1, 0, none⟩) (0) (0) ([]) (by simp [Act.eval, Act.put]) (own_emptyUG (W0.alloc (.cells #[.int .u64 (sk : Nat)] 25)) _ (W0.heap.size + 1) W0.heap.size (by simp) (by first | omega | (simp; omega) | simp) rfl) (some ⟨gk, 0, none⟩) (ck) (ck) (XP) (by simp [Act.eval, Act.put]) HLP.out (fun _ => ⟨gk, 0, rfl, HC1.out _ (by repeat (first | exact Below.refl _ _ | assumption | (refine below_drewN ?_ _) | (refine Below.drew ?_) | (refine Below.alloc ?_ (by first | omega | (simp; omega) | simp) _) | (refine Below.setCell ?_ (by first | omega | (simp; omega) | simp) _) | (refine below_trans ?_ (by assumption) (by first | omega | (simp; omega) | simp))))⟩) HP1.out (by omega) (by first | omega | (simp; omega) | simp) ?_
                  intro Aw4 capw4 w4 ownw4 hgr_w4 hb_w4 hs_w4
                  (try simp only [World.size_drew, World.heap_drewN, World.size_alloc] at hs_w4)
                  have jw40 : w4.cell? ⟨gb, 1, none⟩ = some (.int .u64 (sk : Nat)) := (hb_w4.cell (p := ⟨gb, 1, none⟩) (by first | omega | (simp; omega) | simp)).trans (by first | assumption | (simp [go_sem]; done) | exact (World.cell?_alloc_lt _ _ ⟨_, _, _⟩ (by first | omega | (simp; omega) | simp)).trans (by assumption) | exact (World.cell?_alloc_lt _ _ ⟨_, _, _⟩ (by first | omega | (simp; omega) | simp)).trans ((World.cell?_alloc_lt _ _ ⟨_, _, _⟩ (by first | omega | (simp; omega) | simp)).trans (by assumption)))
                  simp only [Nat.zero_add, List.nil_append] at ownw4
                  refine hK.out _ _ ?_ (fun hHeld => ?_)
                  · (try dsimp only); exact (by first | assumption | (simp [go_sem]; done) | exact (World.cell?_alloc_lt _ _ ⟨_, _, _⟩ (by first | omega | (simp; omega) | simp)).trans (by assumption) | exact (World.cell?_alloc_lt _ _ ⟨_, _, _⟩ (by first | omega | (simp; omega) | simp)).trans ((World.cell?_alloc_lt _ _ ⟨_, _, _⟩ (by first | omega | (simp; omega) | simp)).trans (by assumption)))
                  clear hK K
                  try simp only [Act.put, List.getElem_toArray, List.getElem_cons_zero, List.getElem_cons_succ, List.setIfInBounds_toArray, List.set_cons_zero, List.set_cons_succ]
                  refine wpAnyH_ready (rs := [8]) (by kernel_rfl) (by simp) ?_
                  refine AllReadyH.cons rfl (fun K hK => ?_) AllReadyH.nil
                  try simp only [List.getElem_toArray, List.getElem_cons_zero, List.getElem_cons_succ]
                  rw [if_pos]
                  rotate_left
                  · rfl
                  refine wp_appendU (.tmp 42) (.tmp 45) (by rfl) W0.heap.size Aw4 (capw4) (ck) (XP) (by simp [Act.eval, Act.put]) (ownw4) (some ⟨W0.heap.size, 0, none⟩) (1) (1) ([.int .u64 (sk : Nat)]) (by simp [Act.eval, Act.put]) rfl (fun _ => ⟨W0.heap.size, 0, rfl, HS0.out _ _ ((hgr_w4.block _ (by first | omega | (simp; omega) | simp) (by simp)).trans (by exact HBK3.out _))⟩) HX1.out (by omega) (by first | omega | (simp; omega) | simp) ?_
                  intro Aw8 capw8 w8 ownw8 hgr_w8 hb_w8 hs_w8
                  (try simp only [World.size_drew, World.heap_drewN, World.size_alloc] at hs_w8)
                  have jw80 : w8.cell? ⟨gb, 1, none⟩ = some (.int .u64 (sk : Nat)) := (hb_w8.cell (p := ⟨gb, 1, none⟩) (by first | omega | (simp; omega) | simp)).trans (by first | assumption | (simp [go_sem]; done) | exact (World.cell?_alloc_lt _ _ ⟨_, _, _⟩ (by first | omega | (simp; omega) | simp)).trans (by assumption) | exact (World.cell?_alloc_lt _ _ ⟨_, _, _⟩ (by first | omega | (simp; omega) | simp)).trans ((World.cell?_alloc_lt _ _ ⟨_, _, _⟩ (by first | omega | (simp; omega) | simp)).trans (by assumption)))
                  refine hK.out _ _ ?_ (fun hHeld => ?_)
                  · (try dsimp only); exact (by first | assumption | (simp [go_sem]; done) | exact (World.cell?_alloc_lt _ _ ⟨_, _, _⟩ (by first | omega | (simp; omega) | simp)).trans (by assumption) | exact (World.cell?_alloc_lt _ _ ⟨_, _, _⟩ (by first | omega | (simp; omega) | simp)).trans ((World.cell?_alloc_lt _ _ ⟨_, _, _⟩ (by first | omega | (simp; omega) | simp)).trans (by assumption)))
                  clear hK K
                  try simp only [Act.put, List.getElem_toArray, List.getElem_cons_zero, List.getElem_cons_succ, List.setIfInBounds_toArray, List.set_cons_zero, List.set_cons_succ]
                  refine wpAnyH_ready (rs := [12]) (by kernel_rfl) (by simp) ?_
                  refine AllReadyH.cons rfl (fun K hK => ?_) AllReadyH.nil
                  try simp only [List.getElem_toArray, List.getElem_cons_zero, List.getElem_cons_succ]
                  rw [if_pos]
                  rotate_left
                  · rfl
                  refine wp_appendU (.tmp 46) (.tmp 49) (by rfl) W0.heap.size Aw8 (capw8) (ck + 1) (XP ++ [.int .u64 (sk : Nat)]) (by simp [Act.eval, Act.put]) (ownw8) (some ⟨gk, 0, none⟩) (0) (0) (XQ) (by simp [Act.eval, Act.put]) HLQ.out (fun hm => absurd hm (by omega)) HQ1.out (by omega) (by first | omega | (simp; omega) | simp) ?_
                  intro Aw12 capw12 w12 ownw12 hgr_w12 hb_w12 hs_w12
                  (try simp only [World.size_drew, World.heap_drewN, World.size_alloc] at hs_w12)
                  have jw120 : w12.cell? ⟨gb, 1, none⟩ = some (.int .u64 (sk : Nat)) := (hb_w12.cell (p := ⟨gb, 1, none⟩) (by first | omega | (simp; omega) | simp)).trans (by first | assumption | (simp [go_sem]; done) | exact (World.cell?_alloc_lt _ _ ⟨_, _, _⟩ (by first | omega | (simp; omega) | simp)).trans (by assumption) | exact (World.cell?_alloc_lt _ _ ⟨_, _, _⟩ (by first | omega | (simp; omega) | simp)).trans ((World.cell?_alloc_lt _ _ ⟨_, _, _⟩ (by first | omega | (simp; omega) | simp)).trans (by assumption)))
                  try go_wp2_with fail
                  refine hK.out _ _ ?_ (fun hHeld => ?_)
                  · (try dsimp only); exact (by first | assumption | (simp [go_sem]; done) | exact (World.cell?_alloc_lt _ _ ⟨_, _, _⟩ (by first | omega | (simp; omega) | simp)).trans (by assumption) | exact (World.cell?_alloc_lt _ _ ⟨_, _, _⟩ (by first | omega | (simp; omega) | simp)).trans ((World.cell?_alloc_lt _ _ ⟨_, _, _⟩ (by first | omega | (simp; omega) | simp)).trans (by assumption)))
                  clear hK K
                  try simp only [Act.put, List.getElem_toArray, List.getElem_cons_zero, List.getElem_cons_succ, List.setIfInBounds_toArray, List.set_cons_zero, List.set_cons_succ]
                  refine wpAnyH_take (i := 13) (v := ?_) rfl (by kernel_rfl) (by kernel_rfl) (by kernel_rfl) (fun _ _ _ h => h) (Or.inl ⟨by rfl, ?_⟩) (by assumption) ?_
                  rotate_left
                  · (intro w hSw; (try dsimp only at hSw); go_simp; first | done | with_reducible rfl)
                  try simp only [Act.put, List.getElem_toArray, List.getElem_cons_zero, List.getElem_cons_succ, List.setIfInBounds_toArray, List.set_cons_zero, List.set_cons_succ]
                  refine wpAnyH_done (by kernel_rfl) ?_ _
                  try go_wp2_with fail
                  go_meet
                  case rel => exact ⟨_, _, by rw [HN.out], by rw [HN.out, HFIN.out]; exact ownw12, (by repeat (first | exact Below.refl _ _ | assumption | (refine below_drewN ?_ _) | (refine Below.drew ?_) | (refine Below.alloc ?_ (by first | omega | (simp; omega) | simp) _) | (refine Below.setCell ?_ (by first | omega | (simp; omega) | simp) _) | (refine below_trans ?_ (by assumption) (by first | omega | (simp; omega) | simp))))⟩
              · have HLQ := HLQn
                have HN : Hid (L + 1 = n + 1 + (L - n)) := Lib.hid (by omega)
                refine wp_region_held_drew (S := (fun X : World => X.cell? ⟨gb, 1, none⟩ = some (.int .u64 (sk : Nat)))) (by kernel_rfl) ?_ (fun hHeld => ?_)
                · (try dsimp only); exact (by first | assumption | (simp [go_sem]; done) | exact (World.cell?_alloc_lt _ _ ⟨_, _, _⟩ (by first | omega | (simp; omega) | simp)).trans (by assumption) | exact (World.cell?_alloc_lt _ _ ⟨_, _, _⟩ (by first | omega | (simp; omega) | simp)).trans ((World.cell?_alloc_lt _ _ ⟨_, _, _⟩ (by first | omega | (simp; omega) | simp)).trans (by assumption)))
                refine wpAnyH_take (i := 1) (v := ?_) rfl (by kernel_rfl) (by kernel_rfl) (by kernel_rfl) (fun _ _ _ h => h) (Or.inl ⟨by rfl, ?_⟩) (by assumption) ?_
                rotate_left
                · (intro w hSw; (try dsimp only at hSw); go_simp; first | done | with_reducible rfl)
                try simp only [Act.put, List.getElem_toArray, List.getElem_cons_zero, List.getElem_cons_succ, List.setIfInBounds_toArray, List.set_cons_zero, List.set_cons_succ]
                refine wpAnyH_take (i := 2) (v := ?_) rfl (by kernel_rfl) (by kernel_rfl) (by kernel_rfl) (fun _ _ _ h => h) (Or.inl ⟨by rfl, ?_⟩) (by assumption) ?_
                rotate_left
                · (intro w hSw; (try dsimp only at hSw); go_simp; first | done | with_reducible rfl)
                try simp only [Act.put, List.getElem_toArray, List.getElem_cons_zero, List.getElem_cons_succ, List.setIfInBounds_toArray, List.set_cons_zero, List.set_cons_succ]
                refine wpAnyH_take (i := 3) (v := ?_) rfl (by kernel_rfl) (by kernel_rfl) (by kernel_rfl) (fun _ _ _ h => h) (Or.inl ⟨by rfl, ?_⟩) (by assumption) ?_
                rotate_left
                · (intro w hSw; (try dsimp only at hSw); go_simp; first | done | with_reducible rfl)
                try simp only [Act.put, List.getElem_toArray, List.getElem_cons_zero, List.getElem_cons_succ, List.setIfInBounds_toArray, List.set_cons_zero, List.set_cons_succ]
                refine wpAnyH_take (i := 5) (v := ?_) rfl (by kernel_rfl) (by kernel_rfl) (by kernel_rfl) (fun _ _ _ h => h) (Or.inl ⟨by rfl, ?_⟩) (by assumption) ?_
                rotate_left
                · (intro w hSw; (try dsimp only at hSw); go_simp; first | done | with_reducible rfl)
                try simp only [Act.put, List.getElem_toArray, List.getElem_cons_zero, List.getElem_cons_succ, List.setIfInBounds_toArray, List.set_cons_zero, List.set_cons_succ]
                refine wpAnyH_take (i := 6) (v := ?_) rfl (by kernel_rfl) (by kernel_rfl) (by kernel_rfl) (fun _ _ _ h => h) (Or.inl ⟨by rfl, ?_⟩) (by assumption) ?_
                rotate_left
                · (intro w hSw; (try dsimp only at hSw); go_simp; first | done | with_reducible rfl)
                try simp only [Act.put, List.getElem_toArray, List.getElem_cons_zero, List.getElem_cons_succ, List.setIfInBounds_toArray, List.set_cons_zero, List.set_cons_succ]
                refine wpAnyH_take (i := 9) (v := ?_) rfl (by kernel_rfl) (by kernel_rfl) (by kernel_rfl) (fun _ _ _ h => h) (Or.inl ⟨by rfl, ?_⟩) (by assumption) ?_
                rotate_left
                · (intro w hSw; (try dsimp only at hSw); go_simp; first | done | with_reducible rfl)
                try simp only [Act.put, List.getElem_toArray, List.getElem_cons_zero, List.getElem_cons_succ, List.setIfInBounds_toArray, List.set_cons_zero, List.set_cons_succ]
                refine wpAnyH_take (i := 10) (v := ?_) rfl (by kernel_rfl) (by kernel_rfl) (by kernel_rfl) (fun _ _ _ h => h) (Or.inl ⟨by rfl, ?_⟩) (by assumption) ?_
                rotate_left
                · (intro w hSw; (try dsimp only at hSw); go_simp; first | done | with_reducible rfl)
                try simp only [Act.put, List.getElem_toArray, List.getElem_cons_zero, List.getElem_cons_succ, List.setIfInBounds_toArray, List.set_cons_zero, List.set_cons_succ]
                refine wpAnyH_take (i := 11) (v := ?_) rfl (by kernel_rfl) (by kernel_rfl) (by kernel_rfl) (fun _ _ _ h => h) (Or.inl ⟨by rfl, ?_⟩) (by assumption) ?_
                rotate_left
                · (intro w hSw; (try dsimp only at hSw); go_simp; first | done | with_reducible rfl)
                try simp only [Act.put, List.getElem_toArray, List.getElem_cons_zero, List.getElem_cons_succ, List.setIfInBounds_toArray, List.set_cons_zero, List.set_cons_succ]
                refine wpAnyH_ready (rs := [0, 7]) (by kernel_rfl) (by simp) ?_
                refine AllReadyH.cons rfl (fun K hK => ?_) (AllReadyH.cons rfl (fun K hK => ?_) AllReadyH.nil)
                · try simp only [List.getElem_toArray, List.getElem_cons_zero, List.getElem_cons_succ]
                  go_simp
                  refine hK.out _ _ ?_ (fun hHeld => ?_)
                  · (try dsimp only); exact (by first | assumption | (simp [go_sem]; done) | exact (World.cell?_alloc_lt _ _ ⟨_, _, _⟩ (by first | omega | (simp; omega) | simp)).trans (by assumption) | exact (World.cell?_alloc_lt _ _ ⟨_, _, _⟩ (by first | omega | (simp; omega) | simp)).trans ((World.cell?_alloc_lt _ _ ⟨_, _, _⟩ (by first | omega | (simp; omega) | simp)).trans (by assumption)))
                  clear hK K
                  try simp only [Act.put, List.getElem_toArray, List.getElem_cons_zero, List.getElem_cons_succ, List.setIfInBounds_toArray, List.set_cons_zero, List.set_cons_succ]
                  refine wpAnyH_ready (rs := [4, 7]) (by kernel_rfl) (by simp) ?_
                  refine AllReadyH.cons rfl (fun K hK => ?_) (AllReadyH.cons rfl (fun K hK => ?_) AllReadyH.nil)
                  · try simp only [List.getElem_toArray, List.getElem_cons_zero, List.getElem_cons_succ]
                    rw [if_pos]
                    rotate_left
                    · rfl
                    refine wp_appendU (.tmp 38) (.tmp 41) (by rfl) W0.heap.size (some ⟨W0.heap.size, 0, none⟩) (0) (0) ([]) (by simp [Act.eval, Act.put]) (own_emptyU W0 _ W0.heap.size (by first | omega | (simp; omega) | simp) rfl) (some ⟨gk, 0, none⟩) (n) (ck) (XP) (by simp [Act.eval, Act.put]) HLP.out (fun _ => ⟨gk, 0, rfl, HC1.out _ (by repeat (first | exact Below.refl _ _ | assumption | (refine below_drewN ?_ _) | (refine Below.drew ?_) | (refine Below.alloc ?_ (by first | omega | (simp; omega) | simp) _) | (refine Below.setCell ?_ (by first | omega | (simp; omega) | simp) _) | (refine below_trans ?_ (by assumption) (by first | omega | (simp; omega) | simp))))⟩) HP1.out (by omega) (by first | omega | (simp; omega) | simp) ?_
                    intro Aw4 capw4 w4 ownw4 hgr_w4 hb_w4 hs_w4
                    (try simp only [World.size_drew, World.heap_drewN, World.size_alloc] at hs_w4)
                    have jw40 : w4.cell? ⟨gb, 1, none⟩ = some (.int .u64 (sk : Nat)) := (hb_w4.cell (p := ⟨gb, 1, none⟩) (by first | omega | (simp; omega) | simp)).trans (by first | assumption | (simp [go_sem]; done) | exact (World.cell?_alloc_lt _ _ ⟨_, _, _⟩ (by first | omega | (simp; omega) | simp)).trans (by assumption) | exact (World.cell?_alloc_lt _ _ ⟨_, _, _⟩ (by first | omega | (simp; omega) | simp)).trans ((World.cell?_alloc_lt _ _ ⟨_, _, _⟩ (by first | omega | (simp; omega) | simp)).trans (by assumption)))
                    simp only [Nat.zero_add, List.nil_append] at ownw4
                    refine hK.out _ _ ?_ (fun hHeld => ?_)
                    · (try dsimp only); exact (by first | assumption | (simp [go_sem]; done) | exact (World.cell?_alloc_lt _ _ ⟨_, _, _⟩ (by first | omega | (simp; omega) | simp)).trans (by assumption) | exact (World.cell?_alloc_lt _ _ ⟨_, _, _⟩ (by first | omega | (simp; omega) | simp)).trans ((World.cell?_alloc_lt _ _ ⟨_, _, _⟩ (by first | omega | (simp; omega) | simp)).trans (by assumption)))
                    clear hK K
                    try simp only [Act.put, List.getElem_toArray, List.getElem_cons_zero, List.getElem_cons_succ, List.setIfInBounds_toArray, List.set_cons_zero, List.set_cons_succ]
                    refine wpAnyH_ready (rs := [7]) (by kernel_rfl) (by simp) ?_
                    refine AllReadyH.cons rfl (fun K hK => ?_) AllReadyH.nil
                    try simp only [List.getElem_toArray, List.getElem_cons_zero, List.getElem_cons_succ]
                    go_simp
                    refine hK.out _ _ ?_ (fun hHeld => ?_)
                    · (try dsimp only); exact (by first | assumption | (simp [go_sem]; done) | exact (World.cell?_alloc_lt _ _ ⟨_, _, _⟩ (by first | omega | (simp; omega) | simp)).trans (by assumption) | exact (World.cell?_alloc_lt _ _ ⟨_, _, _⟩ (by first | omega | (simp; omega) | simp)).trans ((World.cell?_alloc_lt _ _ ⟨_, _, _⟩ (by first | omega | (simp; omega) | simp)).trans (by assumption)))
                    clear hK K
                    try simp only [Act.put, List.getElem_toArray, List.getElem_cons_zero, List.getElem_cons_succ, List.setIfInBounds_toArray, List.set_cons_zero, List.set_cons_succ]
                    refine wpAnyH_ready (rs := [8]) (by kernel_rfl) (by simp) ?_
                    refine AllReadyH.cons rfl (fun K hK => ?_) AllReadyH.nil
                    try simp only [List.getElem_toArray, List.getElem_cons_zero, List.getElem_cons_succ]
                    rw [if_pos]
                    rotate_left
                    · rfl
                    refine wp_appendU (.tmp 42) (.tmp 45) (by rfl) W0.heap.size Aw4 (capw4) (n) (XP) (by simp [Act.eval, Act.put]) (ownw4.alloc _) (some ⟨w4.heap.size, 0, none⟩) (1) (1) ([.int .u64 (sk : Nat)]) (by simp [Act.eval, Act.put]) rfl (fun _ => ⟨w4.heap.size, 0, rfl, HS0.out _ _ (heap_alloc_new _ _)⟩) HX1.out (by omega) (by first | omega | (simp; omega) | simp) ?_
                    intro Aw8 capw8 w8 ownw8 hgr_w8 hb_w8 hs_w8
                    (try simp only [World.size_drew, World.heap_drewN, World.size_alloc] at hs_w8)
                    have jw80 : w8.cell? ⟨gb, 1, none⟩ = some (.int .u64 (sk : Nat)) := (hb_w8.cell (p := ⟨gb, 1, none⟩) (by first | omega | (simp; omega) | simp)).trans (by first | assumption | (simp [go_sem]; done) | exact (World.cell?_alloc_lt _ _ ⟨_, _, _⟩ (by first | omega | (simp; omega) | simp)).trans (by assumption) | exact (World.cell?_alloc_lt _ _ ⟨_, _, _⟩ (by first | omega | (simp; omega) | simp)).trans ((World.cell?_alloc_lt _ _ ⟨_, _, _⟩ (by first | omega | (simp; omega) | simp)).trans (by assumption)))
                    refine hK.out _ _ ?_ (fun hHeld => ?_)
                    · (try dsimp only); exact (by first | assumption | (simp [go_sem]; done) | exact (World.cell?_alloc_lt _ _ ⟨_, _, _⟩ (by first | omega | (simp; omega) | simp)).trans (by assumption) | exact (World.cell?_alloc_lt _ _ ⟨_, _, _⟩ (by first | omega | (simp; omega) | simp)).trans ((World.cell?_alloc_lt _ _ ⟨_, _, _⟩ (by first | omega | (simp; omega) | simp)).trans (by assumption)))
                    clear hK K
                    try simp only [Act.put, List.getElem_toArray, List.getElem_cons_zero, List.getElem_cons_succ, List.setIfInBounds_toArray, List.set_cons_zero, List.set_cons_succ]
                    refine wpAnyH_ready (rs := [12]) (by kernel_rfl) (by simp) ?_
                    refine AllReadyH.cons rfl (fun K hK => ?_) AllReadyH.nil
                    try simp only [List.getElem_toArray, List.getElem_cons_zero, List.getElem_cons_succ]
                    rw [if_pos]
                    rotate_left
                    · rfl
                    refine wp_appendU (.tmp 46) (.tmp 49) (by rfl) W0.heap.size Aw8 (capw8) (n + 1) (XP ++ [.int .u64 (sk : Nat)]) (by simp [Act.eval, Act.put]) (ownw8) (some ⟨gk, n, none⟩) (L - n) (ck - n) (XQ) (by simp [Act.eval, Act.put]) HLQ.out (fun _ => ⟨gk, n, rfl, HC2.out _ (by repeat (first | exact Below.refl _ _ | assumption | (refine below_drewN ?_ _) | (refine Below.drew ?_) | (refine Below.alloc ?_ (by first | omega | (simp; omega) | simp) _) | (refine Below.setCell ?_ (by first | omega | (simp; omega) | simp) _) | (refine below_trans ?_ (by assumption) (by first | omega | (simp; omega) | simp))))⟩) HQ1.out (by omega) (by first | omega | (simp; omega) | simp) ?_
                    intro Aw12 capw12 w12 ownw12 hgr_w12 hb_w12 hs_w12
                    (try simp only [World.size_drew, World.heap_drewN, World.size_alloc] at hs_w12)
                    have jw120 : w12.cell? ⟨gb, 1, none⟩ = some (.int .u64 (sk : Nat)) := (hb_w12.cell (p := ⟨gb, 1, none⟩) (by first | omega | (simp; omega) | simp)).trans (by first | assumption | (simp [go_sem]; done) | exact (World.cell?_alloc_lt _ _ ⟨_, _, _⟩ (by first | omega | (simp; omega) | simp)).trans (by assumption) | exact (World.cell?_alloc_lt _ _ ⟨_, _, _⟩ (by first | omega | (simp; omega) | simp)).trans ((World.cell?_alloc_lt _ _ ⟨_, _, _⟩ (by first | omega | (simp; omega) | simp)).trans (by assumption)))
                    try go_wp2_with fail
                    refine hK.out _ _ ?_ (fun hHeld => ?_)
                    · (try dsimp only); exact (by first | assumption | (simp [go_sem]; done) | exact (World.cell?_alloc_lt _ _ ⟨_, _, _⟩ (by first | omega | (simp; omega) | simp)).trans (by assumption) | exact (World.cell?_alloc_lt _ _ ⟨_, _, _⟩ (by first | omega | (simp; omega) | simp)).trans ((World.cell?_alloc_lt _ _ ⟨_, _, _⟩ (by first | omega | (simp; omega) | simp)).trans (by assumption)))
                    clear hK K
                    try simp only [Act.put, List.getElem_toArray, List.getElem_cons_zero, List.getElem_cons_succ, List.setIfInBounds_toArray, List.set_cons_zero, List.set_cons_succ]
                    refine wpAnyH_take (i := 13) (v := ?_) rfl (by kernel_rfl) (by kernel_rfl) (by kernel_rfl) (fun _ _ _ h => h) (Or.inl ⟨by rfl, ?_⟩) (by assumption) ?_
                    rotate_left
                    · (intro w hSw; (try dsimp only at hSw); go_simp; first | done | with_reducible rfl)
                    try simp only [Act.put, List.getElem_toArray, List.getElem_cons_zero, List.getElem_cons_succ, List.setIfInBounds_toArray, List.set_cons_zero, List.set_cons_succ]
                    refine wpAnyH_done (by kernel_rfl) ?_ _
                    try go_wp2_with fail
                    go_meet
                    case rel => exact ⟨_, _, by rw [HN.out], by rw [HN.out, HFIN.out]; exact ownw12, (by repeat (first | exact Below.refl _ _ | assumption | (refine below_drewN ?_ _) | (refine Below.drew ?_) | (refine Below.alloc ?_ (by first | omega | (simp; omega) | simp) _) | (refine Below.setCell ?_ (by first | omega | (simp; omega) | simp) _) | (refine below_trans ?_ (by assumption) (by first | omega | (simp; omega) | simp))))⟩
                  · try simp only [List.getElem_toArray, List.getElem_cons_zero, List.getElem_cons_succ]
                    go_simp
                    refine hK.out _ _ ?_ (fun hHeld => ?_)
                    · (try dsimp only); exact (by first | assumption | (simp [go_sem]; done) | exact (World.cell?_alloc_lt _ _ ⟨_, _, _⟩ (by first | omega | (simp; omega) | simp)).trans (by assumption) | exact (World.cell?_alloc_lt _ _ ⟨_, _, _⟩ (by first | omega | (simp; omega) | simp)).trans ((World.cell?_alloc_lt _ _ ⟨_, _, _⟩ (by first | omega | (simp; omega) | simp)).trans (by assumption)))
                    clear hK K
                    try simp only [Act.put, List.getElem_toArray, List.getElem_cons_zero, List.getElem_cons_succ, List.setIfInBounds_toArray, List.set_cons_zero, List.set_cons_succ]
                    refine wpAnyH_ready (rs := [4]) (by kernel_rfl) (by simp) ?_
                    refine AllReadyH.cons rfl (fun K hK => ?_) AllReadyH.nil
                    try simp only [List.getElem_toArray, List.getElem_cons_zero, List.getElem_cons_succ]
                    rw [if_pos]
                    rotate_left
                    · rfl
                    refine wp_appendU (.tmp 38) (.tmp 41) (by rfl) W0.heap.size (some ⟨W0.heap.size, 0, none⟩) (0) (0) ([]) (by simp [Act.eval, Act.put]) ((own_emptyU W0 _ W0.heap.size (by first | omega | (simp; omega) | simp) rfl).alloc _) (some ⟨gk, 0, none⟩) (n) (ck) (XP) (by simp [Act.eval, Act.put]) HLP.out (fun _ => ⟨gk, 0, rfl, HC1.out _ (by repeat (first | exact Below.refl _ _ | assumption | (refine below_drewN ?_ _) | (refine Below.drew ?_) | (refine Below.alloc ?_ (by first | omega | (simp; omega) | simp) _) | (refine Below.setCell ?_ (by first | omega | (simp; omega) | simp) _) | (refine below_trans ?_ (by assumption) (by first | omega | (simp; omega) | simp))))⟩) HP1.out (by omega) (by first | omega | (simp; omega) | simp) ?_
                    intro Aw4 capw4 w4 ownw4 hgr_w4 hb_w4 hs_w4
                    (try simp only [World.size_drew, World.heap_drewN, World.size_alloc] at hs_w4)
                    have jw40 : w4.cell? ⟨gb, 1, none⟩ = some (.int .u64 (sk : Nat)) := (hb_w4.cell (p := ⟨gb, 1, none⟩) (by first | omega | (simp; omega) | simp)).trans (by first | assumption | (simp [go_sem]; done) | exact (World.cell?_alloc_lt _ _ ⟨_, _, _⟩ (by first | omega | (simp; omega) | simp)).trans (by assumption) | exact (World.cell?_alloc_lt _ _ ⟨_, _, _⟩ (by first | omega | (simp; omega) | simp)).trans ((World.cell?_alloc_lt _ _ ⟨_, _, _⟩ (by first | omega | (simp; omega) | simp)).trans (by assumption)))
                    simp only [Nat.zero_add, List.nil_append] at ownw4
                    refine hK.out _ _ ?_ (fun hHeld => ?_)
                    · (try dsimp only); exact (by first | assumption | (simp [go_sem]; done) | exact (World.cell?_alloc_lt _ _ ⟨_, _, _⟩ (by first | omega | (simp; omega) | simp)).trans (by assumption) | exact (World.cell?_alloc_lt _ _ ⟨_, _, _⟩ (by first | omega | (simp; omega) | simp)).trans ((World.cell?_alloc_lt _ _ ⟨_, _, _⟩ (by first | omega | (simp; omega) | simp)).trans (by assumption)))
                    clear hK K
                    try simp only [Act.put, List.getElem_toArray, List.getElem_cons_zero, List.getElem_cons_succ, List.setIfInBounds_toArray, List.set_cons_zero, List.set_cons_succ]
                    refine wpAnyH_ready (rs := [8]) (by kernel_rfl) (by simp) ?_
                    refine AllReadyH.cons rfl (fun K hK => ?_) AllReadyH.nil
                    try simp only [List.getElem_toArray, List.getElem_cons_zero, List.getElem_cons_succ]
                    rw [if_pos]
                    rotate_left
                    · rfl
                    refine wp_appendU (.tmp 42) (.tmp 45) (by rfl) W0.heap.size Aw4 (capw4) (n) (XP) (by simp [Act.eval, Act.put]) (ownw4) (some ⟨W0.heap.size + 1, 0, none⟩) (1) (1) ([.int .u64 (sk : Nat)]) (by simp [Act.eval, Act.put]) rfl (fun _ => ⟨W0.heap.size + 1, 0, rfl, HS0.out _ _ ((hgr_w4.block _ (by first | omega | (simp; omega) | simp) (by simp)).trans (by exact HBK.out _))⟩) HX1.out (by omega) (by first | omega | (simp; omega) | simp) ?_
                    intro Aw8 capw8 w8 ownw8 hgr_w8 hb_w8 hs_w8
                    (try simp only [World.size_drew, World.heap_drewN, World.size_alloc] at hs_w8)
                    have jw80 : w8.cell? ⟨gb, 1, none⟩ = some (.int .u64 (sk : Nat)) := (hb_w8.cell (p := ⟨gb, 1, none⟩) (by first | omega | (simp; omega) | simp)).trans (by first | assumption | (simp [go_sem]; done) | exact (World.cell?_alloc_lt _ _ ⟨_, _, _⟩ (by first | omega | (simp; omega) | simp)).trans (by assumption) | exact (World.cell?_alloc_lt _ _ ⟨_, _, _⟩ (by first | omega | (simp; omega) | simp)).trans ((World.cell?_alloc_lt _ _ ⟨_, _, _⟩ (by first | omega | (simp; omega) | simp)).trans (by assumption)))
                    refine hK.out _ _ ?_ (fun hHeld => ?_)
                    · (try dsimp only); exact (by first | assumption | (simp [go_sem]; done) | exact (World.cell?_alloc_lt _ _ ⟨_, _, _⟩ (by first | omega | (simp; omega) | simp)).trans (by assumption) | exact (World.cell?_alloc_lt _ _ ⟨_, _, _⟩ (by first | omega | (simp; omega) | simp)).trans ((World.cell?_alloc_lt _ _ ⟨_, _, _⟩ (by first | omega | (simp; omega) | simp)).trans (by assumption)))
                    clear hK K
                    try simp only [Act.put, List.getElem_toArray, List.getElem_cons_zero, List.getElem_cons_succ, List.setIfInBounds_toArray, List.set_cons_zero, List.set_cons_succ]
                    refine wpAnyH_ready (rs := [12]) (by kernel_rfl) (by simp) ?_
                    refine AllReadyH.cons rfl (fun K hK => ?_) AllReadyH.nil
                    try simp only [List.getElem_toArray, List.getElem_cons_zero, List.getElem_cons_succ]
                    rw [if_pos]
                    rotate_left
                    · rfl
                    refine wp_appendU (.tmp 46) (.tmp 49) (by rfl) W0.heap.size Aw8 (capw8) (n + 1) (XP ++ [.int .u64 (sk : Nat)]) (by simp [Act.eval, Act.put]) (ownw8) (some ⟨gk, n, none⟩) (L - n) (ck - n) (XQ) (by simp [Act.eval, Act.put]) HLQ.out (fun _ => ⟨gk, n, rfl, HC2.out _ (by repeat (first | exact Below.refl _ _ | assumption | (refine below_drewN ?_ _) | (refine Below.drew ?_) | (refine Below.alloc ?_ (by first | omega | (simp; omega) | simp) _) | (refine Below.setCell ?_ (by first | omega | (simp; omega) | simp) _) | (refine below_trans ?_ (by assumption) (by first | omega | (simp; omega) | simp))))⟩) HQ1.out (by omega) (by first | omega | (simp; omega) | simp) ?_
                    intro Aw12 capw12 w12 ownw12 hgr_w12 hb_w12 hs_w12
                    (try simp only [World.size_drew, World.heap_drewN, World.size_alloc] at hs_w12)
                    have jw120 : w12.cell? ⟨gb, 1, none⟩ = some (.int .u64 (sk : Nat)) := (hb_w12.cell (p := ⟨gb, 1, none⟩) (by first | omega | (simp; omega) | simp)).trans (by first | assumption | (simp [go_sem]; done) | exact (World.cell?_alloc_lt _ _ ⟨_, _, _⟩ (by first | omega | (simp; omega) | simp)).trans (by assumption) | exact (World.cell?_alloc_lt _ _ ⟨_, _, _⟩ (by first | omega | (simp; omega) | simp)).trans ((World.cell?_alloc_lt _ _ ⟨_, _, _⟩ (by first | omega | (simp; omega) | simp)).trans (by assumption)))
                    try go_wp2_with fail
                    refine hK.out _ _ ?_ (fun hHeld => ?_)
                    · (try dsimp only); exact (by first | assumption | (simp [go_sem]; done) | exact (World.cell?_alloc_lt _ _ ⟨_, _, _⟩ (by first | omega | (simp; omega) | simp)).trans (by assumption) | exact (World.cell?_alloc_lt _ _ ⟨_, _, _⟩ (by first | omega | (simp; omega) | simp)).trans ((World.cell?_alloc_lt _ _ ⟨_, _, _⟩ (by first | omega | (simp; omega) | simp)).trans (by assumption)))
                    clear hK K
                    try simp only [Act.put, List.getElem_toArray, List.getElem_cons_zero, List.getElem_cons_succ, List.setIfInBounds_toArray, List.set_cons_zero, List.set_cons_succ]
                    refine wpAnyH_take (i := 13) (v := ?_) rfl (by kernel_rfl) (by kernel_rfl) (by kernel_rfl) (fun _ _ _ h => h) (Or.inl ⟨by rfl, ?_⟩) (by assumption) ?_
                    rotate_left
                    · (intro w hSw; (try dsimp only at hSw); go_simp; first | done | with_reducible rfl)
                    try simp only [Act.put, List.getElem_toArray, List.getElem_cons_zero, List.getElem_cons_succ, List.setIfInBounds_toArray, List.set_cons_zero, List.set_cons_succ]
                    refine wpAnyH_done (by kernel_rfl) ?_ _
                    try go_wp2_with fail
                    go_meet
                    case rel => exact ⟨_, _, by rw [HN.out], by rw [HN.out, HFIN.out]; exact ownw12, (by repeat (first | exact Below.refl _ _ | assumption | (refine below_drewN ?_ _) | (refine Below.drew ?_) | (refine Below.alloc ?_ (by first | omega | (simp; omega) | simp) _) | (refine Below.setCell ?_ (by first | omega | (simp; omega) | simp) _) | (refine below_trans ?_ (by assumption) (by first | omega | (simp; omega) | simp))))⟩
                · try simp only [List.getElem_toArray, List.getElem_cons_zero, List.getElem_cons_succ]
                  go_simp
                  refine hK.out _ _ ?_ (fun hHeld => ?_)
                  · (try dsimp only); exact (by first | assumption | (simp [go_sem]; done) | exact (World.cell?_alloc_lt _ _ ⟨_, _, _⟩ (by first | omega | (simp; omega) | simp)).trans (by assumption) | exact (World.cell?_alloc_lt _ _ ⟨_, _, _⟩ (by first | omega | (simp; omega) | simp)).trans ((World.cell?_alloc_lt _ _ ⟨_, _, _⟩ (by first | omega | (simp; omega) | simp)).trans (by assumption)))
                  clear hK K
                  try simp only [Act.put, List.getElem_toArray, List.getElem_cons_zero, List.getElem_cons_succ, List.setIfInBounds_toArray, List.set_cons_zero, List.set_cons_succ]
                  refine wpAnyH_ready (rs := [0]) (by kernel_rfl) (by simp) ?_
                  refine AllReadyH.cons rfl (fun K hK => ?_) AllReadyH.nil
                  try simp only [List.getElem_toArray, List.getElem_cons_zero, List.getElem_cons_succ]
                  go_simp
                  refine hK.out _ _ ?_ (fun hHeld => ?_)
                  · (try dsimp only); exact (by first | assumption | (simp [go_sem]; done) | exact (World.cell?_alloc_lt _ _ ⟨_, _, _⟩ (by first | omega | (simp; omega) | simp)).trans (by assumption) | exact (World.cell?_alloc_lt _ _ ⟨_, _, _⟩ (by first | omega | (simp; omega) | simp)).trans ((World.cell?_alloc_lt _ _ ⟨_, _, _⟩ (by first | omega | (simp; omega) | simp)).trans (by assumption)))
                  clear hK K
                  try simp only [Act.put, List.getElem_toArray, List.getElem_cons_zero, List.getElem_cons_succ, List.setIfInBounds_toArray, List.set_cons_zero, List.set_cons_succ]
                  refine wpAnyH_ready (rs := [4]) (by kernel_rfl) (by simp) ?_
                  refine AllReadyH.cons rfl (fun K hK => ?_) AllReadyH.nil
                  try simp only [List.getElem_toArray, List.getElem_cons_zero, List.getElem_cons_succ]
                  rw [if_pos]
                  rotate_left
                  · rfl
                  refine wp_appendU (.tmp 38) (.tmp 41) (by rfl) W0.heap.size (some ⟨W0.heap.size + 1, 0, none⟩) (0) (0) ([]) (by simp [Act.eval, Act.put]) (own_emptyUG (W0.alloc (.cells #[.int .u64 (sk : Nat)] 25)) _ (W0.heap.size + 1) W0.heap.size (by simp) (by first | omega | (simp; omega) | simp) rfl) (some ⟨gk, 0, none⟩) (n) (ck) (XP) (by simp [Act.eval, Act.put]) HLP.out (fun _ => ⟨gk, 0, rfl, HC1.out _ (by repeat (first | exact Below.refl _ _ | assumption | (refine below_drewN ?_ _) | (refine Below.drew ?_) | (refine Below.alloc ?_ (by first | omega | (simp; omega) | simp) _) | (refine Below.setCell ?_ (by first | omega | (simp; omega) | simp) _) | (refine below_trans ?_ (by assumption) (by first | omega | (simp; omega) | simp))))⟩) HP1.out (by omega) (by first | omega | (simp; omega) | simp) ?_
                  intro Aw4 capw4 w4 ownw4 hgr_w4 hb_w4 hs_w4
                  (try simp only [World.size_drew, World.heap_drewN, World.size_alloc] at hs_w4)
                  have jw40 : w4.cell? ⟨gb, 1, none⟩ = some (.int .u64 (sk : Nat)) := (hb_w4.cell (p := ⟨gb, 1, none⟩) (by first | omega | (simp; omega) | simp)).trans (by first | assumption | (simp [go_sem]; done) | exact (World.cell?_alloc_lt _ _ ⟨_, _, _⟩ (by first | omega | (simp; omega) | simp)).trans (by assumption) | exact (World.cell?_alloc_lt _ _ ⟨_, _, _⟩ (by first | omega | (simp; omega) | simp)).trans ((World.cell?_alloc_lt _ _ ⟨_, _, _⟩ (by first | omega | (simp; omega) | simp)).trans (by assumption)))
                  simp only [Nat.zero_add, List.nil_append] at ownw4
                  refine hK.out _ _ ?_ (fun hHeld => ?_)
                  · (try dsimp only); exact (by first | assumption | (simp [go_sem]; done) | exact (World.cell?_alloc_lt _ _ ⟨_, _, _⟩ (by first | omega | (simp; omega) | simp)).trans (by assumption) | exact (World.cell?_alloc_lt _ _ ⟨_, _, _⟩ (by first | omega | (simp; omega) | simp)).trans ((World.cell?_alloc_lt _ _ ⟨_, _, _⟩ (by first | omega | (simp; omega) | simp)).trans (by assumption)))
                  clear hK K
                  try simp only [Act.put, List.getElem_toArray, List.getElem_cons_zero, List.getElem_cons_succ, List.setIfInBounds_toArray, List.set_cons_zero, List.set_cons_succ]
                  refine wpAnyH_ready (rs := [8]) (by kernel_rfl) (by simp) ?_
                  refine AllReadyH.cons rfl (fun K hK => ?_) AllReadyH.nil
                  try simp only [List.getElem_toArray, List.getElem_cons_zero, List.getElem_cons_succ]
                  rw [if_pos]
                  rotate_left
                  · rfl
                  refine wp_appendU (.tmp 42) (.tmp 45) (by rfl) W0.heap.size Aw4 (capw4) (n) (XP) (by simp [Act.eval, Act.put]) (ownw4) (some ⟨W0.heap.size, 0, none⟩) (1) (1) ([.int .u64 (sk : Nat)]) (by simp [Act.eval, Act.put]) rfl (fun _ => ⟨W0.heap.size, 0, rfl, HS0.out _ _ ((hgr_w4.block _ (by first | omega | (simp; omega) | simp) (by simp)).trans (by exact HBK3.out _))⟩) HX1.out (by omega) (by first | omega | (simp; omega) | simp) ?_
                  intro Aw8 capw8 w8 ownw8 hgr_w8 hb_w8 hs_w8
                  (try simp only [World.size_drew, World.heap_drewN, World.size_alloc] at hs_w8)
                  have jw80 : w8.cell? ⟨gb, 1, none⟩ = some (.int .u64 (sk : Nat)) := (hb_w8.cell (p := ⟨gb, 1, none⟩) (by first | omega | (simp; omega) | simp)).trans (by first | assumption | (simp [go_sem]; done) | exact (World.cell?_alloc_lt _ _ ⟨_, _, _⟩ (by first | omega | (simp; omega) | simp)).trans (by assumption) | exact (World.cell?_alloc_lt _ _ ⟨_, _, _⟩ (by first | omega | (simp; omega) | simp)).trans ((World.cell?_alloc_lt _ _ ⟨_, _, _⟩ (by first | omega | (simp; omega) | simp)).trans (by assumption)))
                  refine hK.out _ _ ?_ (fun hHeld => ?_)
                  · (try dsimp only); exact (by first | assumption | (simp [go_sem]; done) | exact (World.cell?_alloc_lt _ _ ⟨_, _, _⟩ (by first | omega | (simp; omega) | simp)).trans (by assumption) | exact (World.cell?_alloc_lt _ _ ⟨_, _, _⟩ (by first | omega | (simp; omega) | simp)).trans ((World.cell?_alloc_lt _ _ ⟨_, _, _⟩ (by first | omega | (simp; omega) | simp)).trans (by assumption)))
                  clear hK K
                  try simp only [Act.put, List.getElem_toArray, List.getElem_cons_zero, List.getElem_cons_succ, List.setIfInBounds_toArray, List.set_cons_zero, List.set_cons_succ]
                  refine wpAnyH_ready (rs := [12]) (by kernel_rfl) (by simp) ?_
                  refine AllReadyH.cons rfl (fun K hK => ?_) AllReadyH.nil
                  try simp only [List.getElem_toArray, List.getElem_cons_zero, List.getElem_cons_succ]
                  rw [if_pos]
                  rotate_left
                  · rfl
                  refine wp_appendU (.tmp 46) (.tmp 49) (by rfl) W0.heap.size Aw8 (capw8) (n + 1) (XP ++ [.int .u64 (sk : Nat)]) (by simp [Act.eval, Act.put]) (ownw8) (some ⟨gk, n, none⟩) (L - n) (ck - n) (XQ) (by simp [Act.eval, Act.put]) HLQ.out (fun _ => ⟨gk, n, rfl, HC2.out _ (by repeat (first | exact Below.refl _ _ | assumption | (refine below_drewN ?_ _) | (refine Below.drew ?_) | (refine Below.alloc ?_ (by first | omega | (simp; omega) | simp) _) | (refine Below.setCell ?_ (by first | omega | (simp; omega) | simp) _) | (refine below_trans ?_ (by assumption) (by first | omega | (simp; omega) | simp))))⟩) HQ1.out (by omega) (by first | omega | (simp; omega) | simp) ?_
                  intro Aw12 capw12 w12 ownw12 hgr_w12 hb_w12 hs_w12
                  (try simp only [World.size_drew, World.heap_drewN, World.size_alloc] at hs_w12)
                  have jw120 : w12.cell? ⟨gb, 1, none⟩ = some (.int .u64 (sk : Nat)) := (hb_w12.cell (p := ⟨gb, 1, none⟩) (by first | omega | (simp; omega) | simp)).trans (by first | assumption | (simp [go_sem]; done) | exact (World.cell?_alloc_lt _ _ ⟨_, _, _⟩ (by first | omega | (simp; omega) | simp)).trans (by assumption) | exact (World.cell?_alloc_lt _ _ ⟨_, _, _⟩ (by first | omega | (simp; omega) | simp)).trans ((World.cell?_alloc_lt _ _ ⟨_, _, _⟩ (by first | omega | (simp; omega) | simp)).trans (by assumption)))
                  try go_wp2_with fail
                  refine hK.out _ _ ?_ (fun hHeld => ?_)
                  · (try dsimp only); exact (by first | assumption | (simp [go_sem]; done) | exact (World.cell?_alloc_lt _ _ ⟨_, _, _⟩ (by first | omega | (simp; omega) | simp)).trans (by assumption) | exact (World.cell?_alloc_lt _ _ ⟨_, _, _⟩ (by first | omega | (simp; omega) | simp)).trans ((World.cell?_alloc_lt _ _ ⟨_, _, _⟩ (by first | omega | (simp; omega) | simp)).trans (by assumption)))
                  clear hK K
                  try simp only [Act.put, List.getElem_toArray, List.getElem_cons_zero, List.getElem_cons_succ, List.setIfInBounds_toArray, List.set_cons_zero, List.set_cons_succ]
                  refine wpAnyH_take (i := 13) (v := ?_) rfl (by kernel_rfl) (by kernel_rfl) (by kernel_rfl) (fun _ _ _ h => h) (Or.inl ⟨by rfl, ?_⟩) (by assumption) ?_
                  rotate_left
                  · (intro w hSw; (try dsimp only at hSw); go_simp; first | done | with_reducible rfl)
                  try simp only [Act.put, List.getElem_toArray, List.getElem_cons_zero, List.getElem_cons_succ, List.setIfInBounds_toArray, List.set_cons_zero, List.set_cons_succ]
                  refine wpAnyH_done (by kernel_rfl) ?_ _
                  try go_wp2_with fail
                  go_meet
                  case rel => exact ⟨_, _, by rw [HN.out], by rw [HN.out, HFIN.out]; exact ownw12, (by repeat (first | exact Below.refl _ _ | assumption | (refine below_drewN ?_ _) | (refine Below.drew ?_) | (refine Below.alloc ?_ (by first | omega | (simp; omega) | simp) _) | (refine Below.setCell ?_ (by first | omega | (simp; omega) | simp) _) | (refine below_trans ?_ (by assumption) (by first | omega | (simp; omega) | simp))))⟩
          case rest =>
            obtain ⟨A5, c5, rfl, o5, b5⟩ := hcut
            have O5 := Lib.hid (owns_monoN o5 hs0)
            have OV5 := Lib.hid (owns_laterN OV0.out b5)
            have hs5 := b5.size
            have hb5 : Below w1.heap.size w1 wc := below_trans hb0 b5 (by first | omega | (simp; omega) | simp)
            have hgb5 : gb < wc.heap.size := by omega
            have q5 : wc.cell? ⟨gb, 2, none⟩ = some (.int .u64 (sv : Nat)) := (b5.cell (p := ⟨gb, 2, none⟩) hgb).trans q2
            have hs55 : w1.heap.size ≤ wc.heap.size := by omega
            clear o5 OK0 OV0 q1 q2 hb0
            generalize wc = W5 at *
            clear b5 hs5 hgb hs0
            go_upto_region 12 with fail
            have HFIN := Lib.hid (vals_ins ts n ⟨1, sk, sv⟩)
            have oVV := OV5.out
            rw [vals_cut ts n] at oVV
            have HLPn : Hid ((vals (valsE (ts.take n))).length = n) := Lib.hid (by rw [len_vv, List.length_take, hLn.out]; omega)
            have HLQn : Hid ((vals (valsE (ts.drop n))).length = L - n) := Lib.hid (by rw [len_vv, List.length_drop, hLn.out])
            have HSRC := Lib.hid (srcU_of oVV HLPn.out)
            have HP1 := Lib.hid (vals_one (valsE (ts.take n)))
            have HQ1 := Lib.hid (vals_one (valsE (ts.drop n)))
            clear oVV OV5
            generalize vals (valsE (ts.take n)) = XP at *
            generalize vals (valsE (ts.drop n)) = XQ at *
            have HX1 : Hid (∀ u ∈ ([.int .u64 (sv : Nat)] : List Value), u.oneCell' = true) := Lib.hid (by intro u hu; simp only [List.mem_cons, List.not_mem_nil, or_false] at hu; subst hu; rfl)
            have HS0 : Hid (∀ (W : World) (xb : Nat), W.heap[xb]? = some (.cells #[.int .u64 (sv : Nat)] 25 (0, 0)) → ∀ (j : Nat) u, ([.int .u64 (sv : Nat)] : List Value)[j]? = some u → W.cell? ⟨xb, 0 + j, none⟩ = some u) := Lib.hid fun W xb hx j u hj => by
              rw [Nat.zero_add, cell_of_row W xb j _ _ _ hx, ← hj]
              simp
            have HBK : Hid (∀ o1, ((W5.alloc o1).alloc (.cells #[.int .u64 (sv : Nat)] 25)).heap[W5.heap.size + 1]? = some (.cells #[.int .u64 (sv : Nat)] 25 (0, 0))) := Lib.hid fun o1 => block2U W5 o1 _
            have HBK3 : Hid (∀ o1, ((W5.alloc (.cells #[.int .u64 (sv : Nat)] 25)).alloc o1).heap[W5.heap.size]? = some (.cells #[.int .u64 (sv : Nat)] 25 (0, 0))) := Lib.hid fun o1 => (heap_alloc_old _ _ (by simp)).trans (heap_alloc_new _ _)
            rcases HSRC.out with ⟨hL0, hK0, hc0⟩ | ⟨gk, hK0, hgk, hcap, hS1, hS2⟩
            · subst hK0 hc0
              obtain rfl : n = 0 := by omega
              have HLP : Hid (XP.length = 0) := Lib.hid (by have := HLPn.out; omega)
              have HLQ : Hid (XQ.length = 0) := Lib.hid (by have := HLQn.out; omega)
              obtain rfl : L = 0 := by omega
              clear hL0
              refine wp_region_held_drew (S := (fun X : World => X.cell? ⟨gb, 2, none⟩ = some (.int .u64 (sv : Nat)))) (by kernel_rfl) ?_ (fun hHeld => ?_)
              · (try dsimp only); exact (by first | assumption | (simp [go_sem]; done) | exact (World.cell?_alloc_lt _ _ ⟨_, _, _⟩ (by first | omega | (simp; omega) | simp)).trans (by assumption) | exact (World.cell?_alloc_lt _ _ ⟨_, _, _⟩ (by first | omega | (simp; omega) | simp)).trans ((World.cell?_alloc_lt _ _ ⟨_, _, _⟩ (by first | omega | (simp; omega) | simp)).trans (by assumption)))
              refine wpAnyH_take (i := 1) (v := ?_) rfl (by kernel_rfl) (by kernel_rfl) (by kernel_rfl) (fun _ _ _ h => h) (Or.inl ⟨by rfl, ?_⟩) (by assumption) ?_
              rotate_left
              · (intro w hSw; (try dsimp only at hSw); go_simp; first | done | with_reducible rfl)
              try simp only [Act.put, List.getElem_toArray, List.getElem_cons_zero, List.getElem_cons_succ, List.setIfInBounds_toArray, List.set_cons_zero, List.set_cons_succ]
              refine wpAnyH_take (i := 2) (v := ?_) rfl (by kernel_rfl) (by kernel_rfl) (by kernel_rfl) (fun _ _ _ h => h) (Or.inl ⟨by rfl, ?_⟩) (by assumption) ?_
              rotate_left
              · (intro w hSw; (try dsimp only at hSw); go_simp; first | done | with_reducible rfl)
              try simp only [Act.put, List.getElem_toArray, List.getElem_cons_zero, List.getElem_cons_succ, List.setIfInBounds_toArray, List.set_cons_zero, List.set_cons_succ]
              refine wpAnyH_take (i := 3) (v := ?_) rfl (by kernel_rfl) (by kernel_rfl) (by kernel_rfl) (fun _ _ _ h => h) (Or.inl ⟨by rfl, ?_⟩) (by assumption) ?_
              rotate_left
              · (intro w hSw; (try dsimp only at hSw); go_simp; first | done | with_reducible rfl)
              try simp only [Act.put, List.getElem_toArray, List.getElem_cons_zero, List.getElem_cons_succ, List.setIfInBounds_toArray, List.set_cons_zero, List.set_cons_succ]
              refine wpAnyH_take (i := 5) (v := ?_) rfl (by kernel_rfl) (by kernel_rfl) (by kernel_rfl) (fun _ _ _ h => h) (Or.inl ⟨by rfl, ?_⟩) (by assumption) ?_
              rotate_left
              · (intro w hSw; (try dsimp only at hSw); go_simp; first | done | with_reducible rfl)
              try simp only [Act.put, List.getElem_toArray, List.getElem_cons_zero, List.getElem_cons_succ, List.setIfInBounds_toArray, List.set_cons_zero, List.set_cons_succ]
              refine wpAnyH_take (i := 6) (v := ?_) rfl (by kernel_rfl) (by kernel_rfl) (by kernel_rfl) (fun _ _ _ h => h) (Or.inl ⟨by rfl, ?_⟩) (by assumption) ?_
              rotate_left
              · (intro w hSw; (try dsimp only at hSw); go_simp; first | done | with_reducible rfl)
              try simp only [Act.put, List.getElem_toArray, List.getElem_cons_zero, List.getElem_cons_succ, List.setIfInBounds_toArray, List.set_cons_zero, List.set_cons_succ]
              refine wpAnyH_take (i := 9) (v := ?_) rfl (by kernel_rfl) (by kernel_rfl) (by kernel_rfl) (fun _ _ _ h => h) (Or.inl ⟨by rfl, ?_⟩) (by assumption) ?_
              rotate_left
              · (intro w hSw; (try dsimp only at hSw); go_simp; first | done | with_reducible rfl)
              try simp only [Act.put, List.getElem_toArray, List.getElem_cons_zero, List.getElem_cons_succ, List.setIfInBounds_toArray, List.set_cons_zero, List.set_cons_succ]
              refine wpAnyH_take (i := 10) (v := ?_) rfl (by kernel_rfl) (by kernel_rfl) (by kernel_rfl) (fun _ _ _ h => h) (Or.inl ⟨by rfl, ?_⟩) (by assumption) ?_
              rotate_left
              · (intro w hSw; (try dsimp only at hSw); go_simp; first | done | with_reducible rfl)
              try simp only [Act.put, List.getElem_toArray, List.getElem_cons_zero, List.getElem_cons_succ, List.setIfInBounds_toArray, List.set_cons_zero, List.set_cons_succ]
              refine wpAnyH_take (i := 11) (v := ?_) rfl (by kernel_rfl) (by kernel_rfl) (by kernel_rfl) (fun _ _ _ h => h) (Or.inl ⟨by rfl, ?_⟩) (by assumption) ?_
              rotate_left
              · (intro w hSw; (try dsimp only at hSw); go_simp; first | done | with_reducible rfl)
              try simp only [Act.put, List.getElem_toArray, List.getElem_cons_zero, List.getElem_cons_succ, List.setIfInBounds_toArray, List.set_cons_zero, List.set_cons_succ]
              refine wpAnyH_ready (rs := [0, 7]) (by kernel_rfl) (by simp) ?_
              refine AllReadyH.cons rfl (fun K hK => ?_) (AllReadyH.cons rfl (fun K hK => ?_) AllReadyH.nil)
              · try simp only [List.getElem_toArray, List.getElem_cons_zero, List.getElem_cons_succ]
                go_simp
                refine hK.out _ _ ?_ (fun hHeld => ?_)
                · (try dsimp only); exact (by first | assumption | (simp [go_sem]; done) | exact (World.cell?_alloc_lt _ _ ⟨_, _, _⟩ (by first | omega | (simp; omega) | simp)).trans (by assumption) | exact (World.cell?_alloc_lt _ _ ⟨_, _, _⟩ (by first | omega | (simp; omega) | simp)).trans ((World.cell?_alloc_lt _ _ ⟨_, _, _⟩ (by first | omega | (simp; omega) | simp)).trans (by assumption)))
                clear hK K
                try simp only [Act.put, List.getElem_toArray, List.getElem_cons_zero, List.getElem_cons_succ, List.setIfInBounds_toArray, List.set_cons_zero, List.set_cons_succ]
                refine wpAnyH_ready (rs := [4, 7]) (by kernel_rfl) (by simp) ?_
                refine AllReadyH.cons rfl (fun K hK => ?_) (AllReadyH.cons rfl (fun K hK => ?_) AllReadyH.nil)
                · try simp only [List.getElem_toArray, List.getElem_cons_zero, List.getElem_cons_succ]
                  rw [if_pos]
                  rotate_left
                  · rfl
                  refine wp_appendU (.tmp 51) (.tmp 54) (by rfl) W5.heap.size (some ⟨W5.heap.size, 0, none⟩) (0) (0) ([]) (by simp [Act.eval, Act.put]) (own_emptyU W5 _ W5.heap.size (by first | omega | (simp; omega) | simp) rfl) none (0) (0) (XP) (by simp [Act.eval, Act.put]) HLP.out (fun hm => absurd hm (by omega)) HP1.out (by omega) (by first | omega | (simp; omega) | simp) ?_
                  intro Aw4 capw4 w4 ownw4 hgr_w4 hb_w4 hs_w4
                  (try simp only [World.size_drew, World.heap_drewN, World.size_alloc] at hs_w4)
                  have jw40 : w4.cell? ⟨gb, 2, none⟩ = some (.int .u64 (sv : Nat)) := (hb_w4.cell (p := ⟨gb, 2, none⟩) (by first | omega | (simp; omega) | simp)).trans (by first | assumption | (simp [go_sem]; done) | exact (World.cell?_alloc_lt _ _ ⟨_, _, _⟩ (by first | omega | (simp; omega) | simp)).trans (by assumption) | exact (World.cell?_alloc_lt _ _ ⟨_, _, _⟩ (by first | omega | (simp; omega) | simp)).trans ((World.cell?_alloc_lt _ _ ⟨_, _, _⟩ (by first | omega | (simp; omega) | simp)).trans (by assumption)))
                  simp only [Nat.zero_add, List.nil_append] at ownw4
                  refine hK.out _ _ ?_ (fun hHeld => ?_)
                  · (try dsimp only); exact (by first | assumption | (simp [go_sem]; done) | exact (World.cell?_alloc_lt _ _ ⟨_, _, _⟩ (by first | omega | (simp; omega) | simp)).trans (by assumption) | exact (World.cell?_alloc_lt _ _ ⟨_, _, _⟩ (by first | omega | (simp; omega) | simp)).trans ((World.cell?_alloc_lt _ _ ⟨_, _, _⟩ (by first | omega | (simp; omega) | simp)).trans (by assumption)))
                  clear hK K
                  try simp only [Act.put, List.getElem_toArray, List.getElem_cons_zero, List.getElem_cons_succ, List.setIfInBounds_toArray, List.set_cons_zero, List.set_cons_succ]
                  refine wpAnyH_ready (rs := [7]) (by kernel_rfl) (by simp) ?_
                  refine AllReadyH.cons rfl (fun K hK => ?_) AllReadyH.nil
                  try simp only [List.getElem_toArray, List.getElem_cons_zero, List.getElem_cons_succ]
                  go_simp
                  refine hK.out _ _ ?_ (fun hHeld => ?_)
                  · (try dsimp only); exact (by first | assumption | (simp [go_sem]; done) | exact (World.cell?_alloc_lt _ _ ⟨_, _, _⟩ (by first | omega | (simp; omega) | simp)).trans (by assumption) | exact (World.cell?_alloc_lt _ _ ⟨_, _, _⟩ (by first | omega | (simp; omega) | simp)).trans ((World.cell?_alloc_lt _ _ ⟨_, _, _⟩ (by first | omega | (simp; omega) | simp)).trans (by assumption)))
                  clear hK K
                  try simp only [Act.put, List.getElem_toArray, List.getElem_cons_zero, List.getElem_cons_succ, List.setIfInBounds_toArray, List.set_cons_zero, List.set_cons_succ]
                  refine wpAnyH_ready (rs := [8]) (by kernel_rfl) (by simp) ?_
                  refine AllReadyH.cons rfl (fun K hK => ?_) AllReadyH.nil
                  try simp only [List.getElem_toArray, List.getElem_cons_zero, List.getElem_cons_succ]
                  rw [if_pos]
                  rotate_left
                  · rfl
                  refine wp_appendU (.tmp 55) (.tmp 58) (by rfl) W5.heap.size Aw4 (capw4) (0) (XP) (by simp [Act.eval, Act.put]) (ownw4.alloc _) (some ⟨w4.heap.size, 0, none⟩) (1) (1) ([.int .u64 (sv : Nat)]) (by simp [Act.eval, Act.put]) rfl (fun _ => ⟨w4.heap.size, 0, rfl, HS0.out _ _ (heap_alloc_new _ _)⟩) HX1.out (by omega) (by first | omega | (simp; omega) | simp) ?_
                  intro Aw8 capw8 w8 ownw8 hgr_w8 hb_w8 hs_w8
                  (try simp only [World.size_drew, World.heap_drewN, World.size_alloc] at hs_w8)
                  have jw80 : w8.cell? ⟨gb, 2, none⟩ = some (.int .u64 (sv : Nat)) := (hb_w8.cell (p := ⟨gb, 2, none⟩) (by first | omega | (simp; omega) | simp)).trans (by first | assumption | (simp [go_sem]; done) | exact (World.cell?_alloc_lt _ _ ⟨_, _, _⟩ (by first | omega | (simp; omega) | simp)).trans (by assumption) | exact (World.cell?_alloc_lt _ _ ⟨_, _, _⟩ (by first | omega | (simp; omega) | simp)).trans ((World.cell?_alloc_lt _ _ ⟨_, _, _⟩ (by first | omega | (simp; omega) | simp)).trans (by assumption)))
                  refine hK.out _ _ ?_ (fun hHeld => ?_)
                  · (try dsimp only); exact (by first | assumption | (simp [go_sem]; done) | exact (World.cell?_alloc_lt _ _ ⟨_, _, _⟩ (by first | omega | (simp; omega) | simp)).trans (by assumption) | exact (World.cell?_alloc_lt _ _ ⟨_, _, _⟩ (by first | omega | (simp; omega) | simp)).trans ((World.cell?_alloc_lt _ _ ⟨_, _, _⟩ (by first | omega | (simp; omega) | simp)).trans (by assumption)))
                  clear hK K
                  try simp only [Act.put, List.getElem_toArray, List.getElem_cons_zero, List.getElem_cons_succ, List.setIfInBounds_toArray, List.set_cons_zero, List.set_cons_succ]
                  refine wpAnyH_ready (rs := [12]) (by kernel_rfl) (by simp) ?_
                  refine AllReadyH.cons rfl (fun K hK => ?_) AllReadyH.nil
                  try simp only [List.getElem_toArray, List.getElem_cons_zero, List.getElem_cons_succ]
                  rw [if_pos]
                  rotate_left
                  · rfl
                  refine wp_appendU (.tmp 59) (.tmp 62) (by rfl) W5.heap.size Aw8 (capw8) (0 + 1) (XP ++ [.int .u64 (sv : Nat)]) (by simp [Act.eval, Act.put]) (ownw8) none (0) (0) (XQ) (by simp [Act.eval, Act.put]) HLQ.out (fun hm => absurd hm (by omega)) HQ1.out (by omega) (by first | omega | (simp; omega) | simp) ?_
                  intro Aw12 capw12 w12 ownw12 hgr_w12 hb_w12 hs_w12
                  (try simp only [World.size_drew, World.heap_drewN, World.size_alloc] at hs_w12)
                  have jw120 : w12.cell? ⟨gb, 2, none⟩ = some (.int .u64 (sv : Nat)) := (hb_w12.cell (p := ⟨gb, 2, none⟩) (by first | omega | (simp; omega) | simp)).trans (by first | assumption | (simp [go_sem]; done) | exact (World.cell?_alloc_lt _ _ ⟨_, _, _⟩ (by first | omega | (simp; omega) | simp)).trans (by assumption) | exact (World.cell?_alloc_lt _ _ ⟨_, _, _⟩ (by first | omega | (simp; omega) | simp)).trans ((World.cell?_alloc_lt _ _ ⟨_, _, _⟩ (by first | omega | (simp; omega) | simp)).trans (by assumption)))
                  try go_wp2_with fail
                  refine hK.out _ _ ?_ (fun hHeld => ?_)
                  · (try dsimp only); exact (by first | assumption | (simp [go_sem]; done) | exact (World.cell?_alloc_lt _ _ ⟨_, _, _⟩ (by first | omega | (simp; omega) | simp)).trans (by assumption) | exact (World.cell?_alloc_lt _ _ ⟨_, _, _⟩ (by first | omega | (simp; omega) | simp)).trans ((World.cell?_alloc_lt _ _ ⟨_, _, _⟩ (by first | omega | (simp; omega) | simp)).trans (by assumption)))
                  clear hK K
                  try simp only [Act.put, List.getElem_toArray, List.getElem_cons_zero, List.getElem_cons_succ, List.setIfInBounds_toArray, List.set_cons_zero, List.set_cons_succ]
                  refine wpAnyH_take (i := 13) (v := ?_) rfl (by kernel_rfl) (by kernel_rfl) (by kernel_rfl) (fun _ _ _ h => h) (Or.inl ⟨by rfl, ?_⟩) (by assumption) ?_
                  rotate_left
                  · (intro w hSw; (try dsimp only at hSw); go_simp; first | done | with_reducible rfl)
                  try simp only [Act.put, List.getElem_toArray, List.getElem_cons_zero, List.getElem_cons_succ, List.setIfInBounds_toArray, List.set_cons_zero, List.set_cons_succ]
                  refine wpAnyH_done (by kernel_rfl) ?_ _
                  have O6 : W5.heap.size ≤ w12.heap.size := (show Below W5.heap.size W5 w12 from (by repeat (first | exact Below.refl _ _ | assumption | (refine below_drewN ?_ _) | (refine Below.drew ?_) | (refine Below.alloc ?_ (by first | omega | (simp; omega) | simp) _) | (refine Below.setCell ?_ (by first | omega | (simp; omega) | simp) _) | (refine below_trans ?_ (by assumption) (by first | omega | (simp; omega) | simp))))).size
                  have O56 := Lib.hid (owns_laterN O5.out (show Below W5.heap.size W5 w12 from (by repeat (first | exact Below.refl _ _ | assumption | (refine below_drewN ?_ _) | (refine Below.drew ?_) | (refine Below.alloc ?_ (by first | omega | (simp; omega) | simp) _) | (refine Below.setCell ?_ (by first | omega | (simp; omega) | simp) _) | (refine below_trans ?_ (by assumption) (by first | omega | (simp; omega) | simp))))))
                  have HO12 := Lib.hid ownw12
                  have HB12 := below_trans hb5 (show Below W5.heap.size W5 w12 from (by repeat (first | exact Below.refl _ _ | assumption | (refine below_drewN ?_ _) | (refine Below.drew ?_) | (refine Below.alloc ?_ (by first | omega | (simp; omega) | simp) _) | (refine Below.setCell ?_ (by first | omega | (simp; omega) | simp) _) | (refine below_trans ?_ (by assumption) (by first | omega | (simp; omega) | simp))))) (by first | omega | (simp; omega) | simp)
                  clear ownw12 ownw8 ownw4 hgr_w4 hgr_w8 hgr_w12 HSRC HS0 HBK HBK3
                  go_wp2
                  go_roundw
                  case rel => exact ⟨k + 1, by go_num, by omega, _, 0 + 1, A5, Aw12, c5, capw12, Lib.hid HNEW.out, Lib.hid HLI.out, by omega, rfl, rfl, O56.out, by rw [HFIN.out]; exact owns_monoN HO12.out (by omega), by omega, HB12⟩
                  case measure => simp [intOf]; omega
                · try simp only [List.getElem_toArray, List.getElem_cons_zero, List.getElem_cons_succ]
                  go_simp
                  refine hK.out _ _ ?_ (fun hHeld => ?_)
                  · (try dsimp only); exact (by first | assumption | (simp [go_sem]; done) | exact (World.cell?_alloc_lt _ _ ⟨_, _, _⟩ (by first | omega | (simp; omega) | simp)).trans (by assumption) | exact (World.cell?_alloc_lt _ _ ⟨_, _, _⟩ (by first | omega | (simp; omega) | simp)).trans ((World.cell?_alloc_lt _ _ ⟨_, _, _⟩ (by first | omega | (simp; omega) | simp)).trans (by assumption)))
                  clear hK K
                  try simp only [Act.put, List.getElem_toArray, List.getElem_cons_zero, List.getElem_cons_succ, List.setIfInBounds_toArray, List.set_cons_zero, List.set_cons_succ]
                  refine wpAnyH_ready (rs := [4]) (by kernel_rfl) (by simp) ?_
                  refine AllReadyH.cons rfl (fun K hK => ?_) AllReadyH.nil
                  try simp only [List.getElem_toArray, List.getElem_cons_zero, List.getElem_cons_succ]
                  rw [if_pos]
                  rotate_left
                  · rfl
                  refine wp_appendU (.tmp 51) (.tmp 54) (by rfl) W5.heap.size (some ⟨W5.heap.size, 0, none⟩) (0) (0) ([]) (by simp [Act.eval, Act.put]) ((own_emptyU W5 _ W5.heap.size (by first | omega | (simp; omega) | simp) rfl).alloc _) none (0) (0) (XP) (by simp [Act.eval, Act.put]) HLP.out (fun hm => absurd hm (by omega)) HP1.out (by omega) (by first | omega | (simp; omega) | simp) ?_
                  intro Aw4 capw4 w4 ownw4 hgr_w4 hb_w4 hs_w4
                  (try simp only [World.size_drew, World.heap_drewN, World.size_alloc] at hs_w4)
                  have jw40 : w4.cell? ⟨gb, 2, none⟩ = some (.int .u64 (sv : Nat)) := (hb_w4.cell (p := ⟨gb, 2, none⟩) (by first | omega | (simp; omega) | simp)).trans (by first | assumption | (simp [go_sem]; done) | exact (World.cell?_alloc_lt _ _ ⟨_, _, _⟩ (by first | omega | (simp; omega) | simp)).trans (by assumption) | exact (World.cell?_alloc_lt _ _ ⟨_, _, _⟩ (by first | omega | (simp; omega) | simp)).trans ((World.cell?_alloc_lt _ _ ⟨_, _, _⟩ (by first | omega | (simp; omega) | simp)).trans (by assumption)))
                  simp only [Nat.zero_add, List.nil_append] at ownw4
                  refine hK.out _ _ ?_ (fun hHeld => ?_)
                  · (try dsimp only); exact (by first | assumption | (simp [go_sem]; done) | exact (World.cell?_alloc_lt _ _ ⟨_, _, _⟩ (by first | omega | (simp; omega) | simp)).trans (by assumption) | exact (World.cell?_alloc_lt _ _ ⟨_, _, _⟩ (by first | omega | (simp; omega) | simp)).trans ((World.cell?_alloc_lt _ _ ⟨_, _, _⟩ (by first | omega | (simp; omega) | simp)).trans (by assumption)))
                  clear hK K
                  try simp only [Act.put, List.getElem_toArray, List.getElem_cons_zero, List.getElem_cons_succ, List.setIfInBounds_toArray, List.set_cons_zero, List.set_cons_succ]
                  refine wpAnyH_ready (rs := [8]) (by kernel_rfl) (by simp) ?_
                  refine AllReadyH.cons rfl (fun K hK => ?_) AllReadyH.nil
                  try simp only [List.getElem_toArray, List.getElem_cons_zero, List.getElem_cons_succ]
                  rw [if_pos]
                  rotate_left
                  · rfl
                  refine wp_appendU (.tmp 55) (.tmp 58) (by rfl) W5.heap.size Aw4 (capw4) (0) (XP) (by simp [Act.eval, Act.put]) (ownw4) (some ⟨W5.heap.size + 1, 0, none⟩) (1) (1) ([.int .u64 (sv : Nat)]) (by simp [Act.eval, Act.put]) rfl (fun _ => ⟨W5.heap.size + 1, 0, rfl, HS0.out _ _ ((hgr_w4.block _ (by first | omega | (simp; omega) | simp) (by simp)).trans (by exact HBK.out _))⟩) HX1.out (by omega) (by first | omega | (simp; omega) | simp) ?_
                  intro Aw8 capw8 w8 ownw8 hgr_w8 hb_w8 hs_w8
                  (try simp only [World.size_drew, World.heap_drewN, World.size_alloc] at hs_w8)
                  have jw80 : w8.cell? ⟨gb, 2, none⟩ = some (.int .u64 (sv : Nat)) := (hb_w8.cell (p := ⟨gb, 2, none⟩) (by first | omega | (simp; omega) | simp)).trans (by first | assumption | (simp [go_sem]; done) | exact (World.cell?_alloc_lt _ _ ⟨_, _, _⟩ (by first | omega | (simp; omega) | simp)).trans (by assumption) | exact (World.cell?_alloc_lt _ _ ⟨_, _, _⟩ (by first | omega | (simp; omega) | simp)).trans ((World.cell?_alloc_lt _ _ ⟨_, _, _⟩ (by first | omega | (simp; omega) | simp)).trans (by assumption)))
                  refine hK.out _ _ ?_ (fun hHeld => ?_)
                  · (try dsimp only); exact (by first | assumption | (simp [go_sem]; done) | exact (World.cell?_alloc_lt _ _ ⟨_, _, _⟩ (by first | omega | (simp; omega) | simp)).trans (by assumption) | exact (World.cell?_alloc_lt _ _ ⟨_, _, _⟩ (by first | omega | (simp; omega) | simp)).trans ((World.cell?_alloc_lt _ _ ⟨_, _, _⟩ (by first | omega | (simp; omega) | simp)).trans (by assumption)))
                  clear hK K
                  try simp only [Act.put, List.getElem_toArray, List.getElem_cons_zero, List.getElem_cons_succ, List.setIfInBounds_toArray, List.set_cons_zero, List.set_cons_succ]
                  refine wpAnyH_ready (rs := [12]) (by kernel_rfl) (by simp) ?_
                  refine AllReadyH.cons rfl (fun K hK => ?_) AllReadyH.nil
                  try simp only [List.getElem_toArray, List.getElem_cons_zero, List.getElem_cons_succ]
                  rw [if_pos]
                  rotate_left
                  · rfl
                  refine wp_appendU (.tmp 59) (.tmp 62) (by rfl) W5.heap.size Aw8 (capw8) (0 + 1) (XP ++ [.int .u64 (sv : Nat)]) (by simp [Act.eval, Act.put]) (ownw8) none (0) (0) (XQ) (by simp [Act.eval, Act.put]) HLQ.out (fun hm => absurd hm (by omega)) HQ1.out (by omega) (by first | omega | (simp; omega) | simp) ?_
                  intro Aw12 capw12 w12 ownw12 hgr_w12 hb_w12 hs_w12
                  (try simp only [World.size_drew, World.heap_drewN, World.size_alloc] at hs_w12)
                  have jw120 : w12.cell? ⟨gb, 2, none⟩ = some (.int .u64 (sv : Nat)) := (hb_w12.cell (p := ⟨gb, 2, none⟩) (by first | omega | (simp; omega) | simp)).trans (by first | assumption | (simp [go_sem]; done) | exact (World.cell?_alloc_lt _ _ ⟨_, _, _⟩ (by first | omega | (simp; omega) | simp)).trans (by assumption) | exact (World.cell?_alloc_lt _ _ ⟨_, _, _⟩ (by first | omega | (simp; omega) | simp)).trans ((World.cell?_alloc_lt _ _ ⟨_, _, _⟩ (by first | omega | (simp; omega) | simp)).trans (by assumption)))
                  try go_wp2_with fail
                  refine hK.out _ _ ?_ (fun hHeld => ?_)
                  · (try dsimp only); exact (by first | assumption | (simp [go_sem]; done) | exact (World.cell?_alloc_lt _ _ ⟨_, _, _⟩ (by first | omega | (simp; omega) | simp)).trans (by assumption) | exact (World.cell?_alloc_lt _ _ ⟨_, _, _⟩ (by first | omega | (simp; omega) | simp)).trans ((World.cell?_alloc_lt _ _ ⟨_, _, _⟩ (by first | omega | (simp; omega) | simp)).trans (by assumption)))
                  clear hK K
                  try simp only [Act.put, List.getElem_toArray, List.getElem_cons_zero, List.getElem_cons_succ, List.setIfInBounds_toArray, List.set_cons_zero, List.set_cons_succ]
                  refine wpAnyH_take (i := 13) (v := ?_) rfl (by kernel_rfl) (by kernel_rfl) (by kernel_rfl) (fun _ _ _ h => h) (Or.inl ⟨by rfl, ?_⟩) (by assumption) ?_
                  rotate_left
                  · (intro w hSw; (try dsimp only at hSw); go_simp; first | done | with_reducible rfl)
                  try simp only [Act.put, List.getElem_toArray, List.getElem_cons_zero, List.getElem_cons_succ, List.setIfInBounds_toArray, List.set_cons_zero, List.set_cons_succ]
                  refine wpAnyH_done (by kernel_rfl) ?_ _
                  have O6 : W5.heap.size ≤ w12.heap.size := (show Below W5.heap.size W5 w12 from (by repeat (first | exact Below.refl _ _ | assumption | (refine below_drewN ?_ _) | (refine Below.drew ?_) | (refine Below.alloc ?_ (by first | omega | (simp; omega) | simp) _) | (refine Below.setCell ?_ (by first | omega | (simp; omega) | simp) _) | (refine below_trans ?_ (by assumption) (by first | omega | (simp; omega) | simp))))).size
                  have O56 := Lib.hid (owns_laterN O5.out (show Below W5.heap.size W5 w12 from (by repeat (first | exact Below.refl _ _ | assumption | (refine below_drewN ?_ _) | (refine Below.drew ?_) | (refine Below.alloc ?_ (by first | omega | (simp; omega) | simp) _) | (refine Below.setCell ?_ (by first | omega | (simp; omega) | simp) _) | (refine below_trans ?_ (by assumption) (by first | omega | (simp; omega) | simp))))))
                  have HO12 := Lib.hid ownw12
                  have HB12 := below_trans hb5 (show Below W5.heap.size W5 w12 from (by repeat (first | exact Below.refl _ _ | assumption | (refine below_drewN ?_ _) | (refine Below.drew ?_) | (refine Below.alloc ?_ (by first | omega | (simp; omega) | simp) _) | (refine Below.setCell ?_ (by first | omega | (simp; omega) | simp) _) | (refine below_trans ?_ (by assumption) (by first | omega | (simp; omega) | simp))))) (by first | omega | (simp; omega) | simp)
                  clear ownw12 ownw8 ownw4 hgr_w4 hgr_w8 hgr_w12 HSRC HS0 HBK HBK3
                  go_wp2
                  go_roundw
                  case rel => exact ⟨k + 1, by go_num, by omega, _, 0 + 1, A5, Aw12, c5, capw12, Lib.hid HNEW.out, Lib.hid HLI.out, by omega, rfl, rfl, O56.out, by rw [HFIN.out]; exact owns_monoN HO12.out (by omega), by omega, HB12⟩
                  case measure => simp [intOf]; omega
              · try simp only [List.getElem_toArray, List.getElem_cons_zero, List.getElem_cons_succ]
                go_simp
                refine hK.out _ _ ?_ (fun hHeld => ?_)
                · (try dsimp only); exact (by first | assumption | (simp [go_sem]; done) | exact (World.cell?_alloc_lt _ _ ⟨_, _, _⟩ (by first | omega | (simp; omega) | simp)).trans (by assumption) | exact (World.cell?_alloc_lt _ _ ⟨_, _, _⟩ (by first | omega | (simp; omega) | simp)).trans ((World.cell?_alloc_lt _ _ ⟨_, _, _⟩ (by first | omega | (simp; omega) | simp)).trans (by assumption)))
                clear hK K
                try simp only [Act.put, List.getElem_toArray, List.getElem_cons_zero, List.getElem_cons_succ, List.setIfInBounds_toArray, List.set_cons_zero, List.set_cons_succ]
                refine wpAnyH_ready (rs := [0]) (by kernel_rfl) (by simp) ?_
                refine AllReadyH.cons rfl (fun K hK => ?_) AllReadyH.nil
                try simp only [List.getElem_toArray, List.getElem_cons_zero, List.getElem_cons_succ]
                go_simp
                refine hK.out _ _ ?_ (fun hHeld => ?_)
                · (try dsimp only); exact (by first | assumption | (simp [go_sem]; done) | exact (World.cell?_alloc_lt _ _ ⟨_, _, _⟩ (by first | omega | (simp; omega) | simp)).trans (by assumption) | exact (World.cell?_alloc_lt _ _ ⟨_, _, _⟩ (by first | omega | (simp; omega) | simp)).trans ((World.cell?_alloc_lt _ _ ⟨_, _, _⟩ (by first | omega | (simp; omega) | simp)).trans (by assumption)))
                clear hK K
                try simp only [Act.put, List.getElem_toArray, List.getElem_cons_zero, List.getElem_cons_succ, List.setIfInBounds_toArray, List.set_cons_zero, List.set_cons_succ]
                refine wpAnyH_ready (rs := [4]) (by kernel_rfl) (by simp) ?_
                refine AllReadyH.cons rfl (fun K hK => ?_) AllReadyH.nil
                try simp only [List.getElem_toArray, List.getElem_cons_zero, List.getElem_cons_succ]
                rw [if_pos]
                rotate_left
                · rfl
                refine wp_appendU (.tmp 51) (.tmp 54) (by rfl) W5.heap.size (some ⟨W5.heap.size + 1, 0, none⟩) (0) (0) ([]) (by simp [Act.eval, Act.put]) (own_emptyUG (W5.alloc (.cells #[.int .u64 (sv : Nat)] 25)) _ (W5.heap.size + 1) W5.heap.size (by simp) (by first | omega | (simp; omega) | simp) rfl) none (0) (0) (XP) (by simp [Act.eval, Act.put]) HLP.out (fun hm => absurd hm (by omega)) HP1.out (by omega) (by first | omega | (simp; omega) | simp) ?_
                intro Aw4 capw4 w4 ownw4 hgr_w4 hb_w4 hs_w4
                (try simp only [World.size_drew, World.heap_drewN, World.size_alloc] at hs_w4)
                have jw40 : w4.cell? ⟨gb, 2, none⟩ = some (.int .u64 (sv : Nat)) := (hb_w4.cell (p := ⟨gb, 2, none⟩) (by first | omega | (simp; omega) | simp)).trans (by first | assumption | (simp [go_sem]; done) | exact (World.cell?_alloc_lt _ _ ⟨_, _, _⟩ (by first | omega | (simp; omega) | simp)).trans (by assumption) | exact (World.cell?_alloc_lt _ _ ⟨_, _, _⟩ (by first | omega | (simp; omega) | simp)).trans ((World.cell?_alloc_lt _ _ ⟨_, _, _⟩ (by first | omega | (simp; omega) | simp)).trans (by assumption)))
                simp only [Nat.zero_add, List.nil_append] at ownw4
                refine hK.out _ _ ?_ (fun hHeld => ?_)
                · (try dsimp only); exact (by first | assumption | (simp [go_sem]; done) | exact (World.cell?_alloc_lt _ _ ⟨_, _, _⟩ (by first | omega | (simp; omega) | simp)).trans (by assumption) | exact (World.cell?_alloc_lt _ _ ⟨_, _, _⟩ (by first | omega | (simp; omega) | simp)).trans ((World.cell?_alloc_lt _ _ ⟨_, _, _⟩ (by first | omega | (simp; omega) | simp)).trans (by assumption)))
                clear hK K
                try simp only [Act.put, List.getElem_toArray, List.getElem_cons_zero, List.getElem_cons_succ, List.setIfInBounds_toArray, List.set_cons_zero, List.set_cons_succ]
                refine wpAnyH_ready (rs := [8]) (by kernel_rfl) (by simp) ?_
                refine AllReadyH.cons rfl (fun K hK => ?_) AllReadyH.nil
                try simp only [List.getElem_toArray, List.getElem_cons_zero, List.getElem_cons_succ]
                rw [if_pos]
                rotate_left
                · rfl
                refine wp_appendU (.tmp 55) (.tmp 58) (by rfl) W5.heap.size Aw4 (capw4) (0) (XP) (by simp [Act.eval, Act.put]) (ownw4) (some ⟨W5.heap.size, 0, none⟩) (1) (1) ([.int .u64 (sv : Nat)]) (by simp [Act.eval, Act.put]) rfl (fun _ => ⟨W5.heap.size, 0, rfl, HS0.out _ _ ((hgr_w4.block _ (by first | omega | (simp; omega) | simp) (by simp)).trans (by exact HBK3.out _))⟩) HX1.out (by omega) (by first | omega | (simp; omega) | simp) ?_
                intro Aw8 capw8 w8 ownw8 hgr_w8 hb_w8 hs_w8
                (try simp only [World.size_drew, World.heap_drewN, World.size_alloc] at hs_w8)
                have jw80 : w8.cell? ⟨gb, 2, none⟩ = some (.int .u64 (sv : Nat)) := (hb_w8.cell (p := ⟨gb, 2, none⟩) (by first | omega | (simp; omega) | simp)).trans (by first | assumption | (simp [go_sem]; done) | exact (World.cell?_alloc_lt _ _ ⟨_, _, _⟩ (by first | omega | (simp; omega) | simp)).trans (by assumption) | exact (World.cell?_alloc_lt _ _ ⟨_, _, _⟩ (by first | omega | (simp; omega) | simp)).trans ((World.cell?_alloc_lt _ _ ⟨_, _, _⟩ (by first | omega | (simp; omega) | simp)).trans (by assumption)))
                refine hK.out _ _ ?_ (fun hHeld => ?_)
                · (try dsimp only); exact (by first | assumption | (simp [go_sem]; done) | exact (World.cell?_alloc_lt _ _ ⟨_, _, _⟩ (by first | omega | (simp; omega) | simp)).trans (by assumption) | exact (World.cell?_alloc_lt _ _ ⟨_, _, _⟩ (by first | omega | (simp; omega) | simp)).trans ((World.cell?_alloc_lt _ _ ⟨_, _, _⟩ (by first | omega | (simp; omega) | simp)).trans (by assumption)))
                clear hK K
                try simp only [Act.put, List.getElem_toArray, List.getElem_cons_zero, List.getElem_cons_succ, List.setIfInBounds_toArray, List.set_cons_zero, List.set_cons_succ]
                refine wpAnyH_ready (rs := [12]) (by kernel_rfl) (by simp) ?_
                refine AllReadyH.cons rfl (fun K hK => ?_) AllReadyH.nil
                try simp only [List.getElem_toArray, List.getElem_cons_zero, List.getElem_cons_succ]
                rw [if_pos]
                rotate_left
                · rfl
                refine wp_appendU (.tmp 59) (.tmp 62) (by rfl) W5.heap.size Aw8 (capw8) (0 + 1) (XP ++ [.int .u64 (sv : Nat)]) (by simp [Act.eval, Act.put]) (ownw8) none (0) (0) (XQ) (by simp [Act.eval, Act.put]) HLQ.out (fun hm => absurd hm (by omega)) HQ1.out (by omega) (by first | omega | (simp; omega) | simp) ?_
                intro Aw12 capw12 w12 ownw12 hgr_w12 hb_w12 hs_w12
                (try simp only [World.size_drew, World.heap_drewN, World.size_alloc] at hs_w12)
                have jw120 : w12.cell? ⟨gb, 2, none⟩ = some (.int .u64 (sv : Nat)) := (hb_w12.cell (p := ⟨gb, 2, none⟩) (by first | omega | (simp; omega) | simp)).trans (by first | assumption | (simp [go_sem]; done) | exact (World.cell?_alloc_lt _ _ ⟨_, _, _⟩ (by first | omega | (simp; omega) | simp)).trans (by assumption) | exact (World.cell?_alloc_lt _ _ ⟨_, _, _⟩ (by first | omega | (simp; omega) | simp)).trans ((World.cell?_alloc_lt _ _ ⟨_, _, _⟩ (by first | omega | (simp; omega) | simp)).trans (by assumption)))
                try go_wp2_with fail
                refine hK.out _ _ ?_ (fun hHeld => ?_)
                · (try dsimp only); exact (by first | assumption | (simp [go_sem]; done) | exact (World.cell?_alloc_lt _ _ ⟨_, _, _⟩ (by first | omega | (simp; omega) | simp)).trans (by assumption) | exact (World.cell?_alloc_lt _ _ ⟨_, _, _⟩ (by first | omega | (simp; omega) | simp)).trans ((World.cell?_alloc_lt _ _ ⟨_, _, _⟩ (by first | omega | (simp; omega) | simp)).trans (by assumption)))
                clear hK K
                try simp only [Act.put, List.getElem_toArray, List.getElem_cons_zero, List.getElem_cons_succ, List.setIfInBounds_toArray, List.set_cons_zero, List.set_cons_succ]
                refine wpAnyH_take (i := 13) (v := ?_) rfl (by kernel_rfl) (by kernel_rfl) (by kernel_rfl) (fun _ _ _ h => h) (Or.inl ⟨by rfl, ?_⟩) (by assumption) ?_
                rotate_left
                · (intro w hSw; (try dsimp only at hSw); go_simp; first | done | with_reducible rfl)
                try simp only [Act.put, List.getElem_toArray, List.getElem_cons_zero, List.getElem_cons_succ, List.setIfInBounds_toArray, List.set_cons_zero, List.set_cons_succ]
                refine wpAnyH_done (by kernel_rfl) ?_ _
                have O6 : W5.heap.size ≤ w12.heap.size := (show Below W5.heap.size W5 w12 from (by repeat (first | exact Below.refl _ _ | assumption | (refine below_drewN ?_ _) | (refine Below.drew ?_) | (refine Below.alloc ?_ (by first | omega | (simp; omega) | simp) _) | (refine Below.setCell ?_ (by first | omega | (simp; omega) | simp) _) | (refine below_trans ?_ (by assumption) (by first | omega | (simp; omega) | simp))))).size
                have O56 := Lib.hid (owns_laterN O5.out (show Below W5.heap.size W5 w12 from (by repeat (first | exact Below.refl _ _ | assumption | (refine below_drewN ?_ _) | (refine Below.drew ?_) | (refine Below.alloc ?_ (by first | omega | (simp; omega) | simp) _) | (refine Below.setCell ?_ (by first | omega | (simp; omega) | simp) _) | (refine below_trans ?_ (by assumption) (by first | omega | (simp; omega) | simp))))))
                have HO12 := Lib.hid ownw12
                have HB12 := below_trans hb5 (show Below W5.heap.size W5 w12 from (by repeat (first | exact Below.refl _ _ | assumption | (refine below_drewN ?_ _) | (refine Below.drew ?_) | (refine Below.alloc ?_ (by first | omega | (simp; omega) | simp) _) | (refine Below.setCell ?_ (by first | omega | (simp; omega) | simp) _) | (refine below_trans ?_ (by assumption) (by first | omega | (simp; omega) | simp))))) (by first | omega | (simp; omega) | simp)
                clear ownw12 ownw8 ownw4 hgr_w4 hgr_w8 hgr_w12 HSRC HS0 HBK HBK3
                go_wp2
                go_roundw
                case rel => exact ⟨k + 1, by go_num, by omega, _, 0 + 1, A5, Aw12, c5, capw12, Lib.hid HNEW.out, Lib.hid HLI.out, by omega, rfl, rfl, O56.out, by rw [HFIN.out]; exact owns_monoN HO12.out (by omega), by omega, HB12⟩
                case measure => simp [intOf]; omega
            · subst hK0
              have HC1 := Lib.hid hS1
              have HC2 := Lib.hid hS2
              have HLP := HLPn
              clear hS1 hS2
              have hn0 : (0 : Int) ≤ (n : Int) := by omega
              have hn1 : (n : Int) ≤ (L : Int) := by omega
              have hn2 : (n : Int) ≤ (cv : Int) := by omega
              by_cases hca : cv = n
              · subst hca
                have HLQ : Hid (XQ.length = 0) := Lib.hid (by have := HLQn.out; omega)
                have HN : Hid (L + 1 = cv + 1 + 0) := Lib.hid (by omega)
                refine wp_region_held_drew (S := (fun X : World => X.cell? ⟨gb, 2, none⟩ = some (.int .u64 (sv : Nat)))) (by kernel_rfl) ?_ (fun hHeld => ?_)
                · (try dsimp only); exact (by first | assumption | (simp [go_sem]; done) | exact (World.cell?_alloc_lt _ _ ⟨_, _, _⟩ (by first | omega | (simp; omega) | simp)).trans (by assumption) | exact (World.cell?_alloc_lt _ _ ⟨_, _, _⟩ (by first | omega | (simp; omega) | simp)).trans ((World.cell?_alloc_lt _ _ ⟨_, _, _⟩ (by first | omega | (simp; omega) | simp)).trans (by assumption)))
                refine wpAnyH_take (i := 1) (v := ?_) rfl (by kernel_rfl) (by kernel_rfl) (by kernel_rfl) (fun _ _ _ h => h) (Or.inl ⟨by rfl, ?_⟩) (by assumption) ?_
                rotate_left
                · (intro w hSw; (try dsimp only at hSw); go_simp; first | done | with_reducible rfl)
                try simp only [Act.put, List.getElem_toArray, List.getElem_cons_zero, List.getElem_cons_succ, List.setIfInBounds_toArray, List.set_cons_zero, List.set_cons_succ]
                refine wpAnyH_take (i := 2) (v := ?_) rfl (by kernel_rfl) (by kernel_rfl) (by kernel_rfl) (fun _ _ _ h => h) (Or.inl ⟨by rfl, ?_⟩) (by assumption) ?_
                rotate_left
                · (intro w hSw; (try dsimp only at hSw); go_simp; first | done | with_reducible rfl)
                try simp only [Act.put, List.getElem_toArray, List.getElem_cons_zero, List.getElem_cons_succ, List.setIfInBounds_toArray, List.set_cons_zero, List.set_cons_succ]
                refine wpAnyH_take (i := 3) (v := ?_) rfl (by kernel_rfl) (by kernel_rfl) (by kernel_rfl) (fun _ _ _ h => h) (Or.inl ⟨by rfl, ?_⟩) (by assumption) ?_
                rotate_left
                · (intro w hSw; (try dsimp only at hSw); go_simp; first | done | with_reducible rfl)
                try simp only [Act.put, List.getElem_toArray, List.getElem_cons_zero, List.getElem_cons_succ, List.setIfInBounds_toArray, List.set_cons_zero, List.set_cons_succ]
                refine wpAnyH_take (i := 5) (v := ?_) rfl (by kernel_rfl) (by kernel_rfl) (by kernel_rfl) (fun _ _ _ h => h) (Or.inl ⟨by rfl, ?_⟩) (by assumption) ?_
                rotate_left
                · (intro w hSw; (try dsimp only at hSw); go_simp; first | done | with_reducible rfl)
                try simp only [Act.put, List.getElem_toArray, List.getElem_cons_zero, List.getElem_cons_succ, List.setIfInBounds_toArray, List.set_cons_zero, List.set_cons_succ]
                refine wpAnyH_take (i := 6) (v := ?_) rfl (by kernel_rfl) (by kernel_rfl) (by kernel_rfl) (fun _ _ _ h => h) (Or.inl ⟨by rfl, ?_⟩) (by assumption) ?_
                rotate_left
                · (intro w hSw; (try dsimp only at hSw); go_simp; first | done | with_reducible rfl)
                try simp only [Act.put, List.getElem_toArray, List.getElem_cons_zero, List.getElem_cons_succ, List.setIfInBounds_toArray, List.set_cons_zero, List.set_cons_succ]
                refine wpAnyH_take (i := 9) (v := ?_) rfl (by kernel_rfl) (by kernel_rfl) (by kernel_rfl) (fun _ _ _ h => h) (Or.inl ⟨by rfl, ?_⟩) (by assumption) ?_
                rotate_left
                · (intro w hSw; (try dsimp only at hSw); go_simp; first | done | with_reducible rfl)
                try simp only [Act.put, List.getElem_toArray, List.getElem_cons_zero, List.getElem_cons_succ, List.setIfInBounds_toArray, List.set_cons_zero, List.set_cons_succ]
                refine wpAnyH_take (i := 10) (v := ?_) rfl (by kernel_rfl) (by kernel_rfl) (by kernel_rfl) (fun _ _ _ h => h) (Or.inl ⟨by rfl, ?_⟩) (by assumption) ?_
                rotate_left
                · (intro w hSw; (try dsimp only at hSw); go_simp; first | done | with_reducible rfl)
                try simp only [Act.put, List.getElem_toArray, List.getElem_cons_zero, List.getElem_cons_succ, List.setIfInBounds_toArray, List.set_cons_zero, List.set_cons_succ]
                refine wpAnyH_take (i := 11) (v := ?_) rfl (by kernel_rfl) (by kernel_rfl) (by kernel_rfl) (fun _ _ _ h => h) (Or.inl ⟨by rfl, ?_⟩) (by assumption) ?_
                rotate_left
                · (intro w hSw; (try dsimp only at hSw); go_simp; first | done | with_reducible rfl)
                try simp only [Act.put, List.getElem_toArray, List.getElem_cons_zero, List.getElem_cons_succ, List.setIfInBounds_toArray, List.set_cons_zero, List.set_cons_succ]
                refine wpAnyH_ready (rs := [0, 7]) (by kernel_rfl) (by simp) ?_
                refine AllReadyH.cons rfl (fun K hK => ?_) (AllReadyH.cons rfl (fun K hK => ?_) AllReadyH.nil)
                · try simp only [List.getElem_toArray, List.getElem_cons_zero, List.getElem_cons_succ]
                  go_simp
                  refine hK.out _ _ ?_ (fun hHeld => ?_)
                  · (try dsimp only); exact (by first | assumption | (simp [go_sem]; done) | exact (World.cell?_alloc_lt _ _ ⟨_, _, _⟩ (by first | omega | (simp; omega) | simp)).trans (by assumption) | exact (World.cell?_alloc_lt _ _ ⟨_, _, _⟩ (by first | omega | (simp; omega) | simp)).trans ((World.cell?_alloc_lt _ _ ⟨_, _, _⟩ (by first | omega | (simp; omega) | simp)).trans (by assumption)))
                  clear hK K
                  try simp only [Act.put, List.getElem_toArray, List.getElem_cons_zero, List.getElem_cons_succ, List.setIfInBounds_toArray, List.set_cons_zero, List.set_cons_succ]
                  refine wpAnyH_ready (rs := [4, 7]) (by kernel_rfl) (by simp) ?_
                  refine AllReadyH.cons rfl (fun K hK => ?_) (AllReadyH.cons rfl (fun K hK => ?_) AllReadyH.nil)
                  · try simp only [List.getElem_toArray, List.getElem_cons_zero, List.getElem_cons_succ]
                    rw [if_pos]
                    rotate_left
                    · rfl
                    refine wp_appendU (.tmp 51) (.tmp 54) (by rfl) W5.heap.size (some ⟨W5.heap.size, 0, none⟩) (0) (0) ([]) (by simp [Act.eval, Act.put]) (own_emptyU W5 _ W5.heap.size (by first | omega | (simp; omega) | simp) rfl) (some ⟨gk, 0, none⟩) (cv) (cv) (XP) (by simp [Act.eval, Act.put]) HLP.out (fun _ => ⟨gk, 0, rfl, HC1.out _ (by repeat (first | exact Below.refl _ _ | assumption | (refine below_drewN ?_ _) | (refine Below.drew ?_) | (refine Below.alloc ?_ (by first | omega | (simp; omega) | simp) _) | (refine Below.setCell ?_ (by first | omega | (simp; omega) | simp) _) | (refine below_trans ?_ (by assumption) (by first | omega | (simp; omega) | simp))))⟩) HP1.out (by omega) (by first | omega | (simp; omega) | simp) ?_
                    intro Aw4 capw4 w4 ownw4 hgr_w4 hb_w4 hs_w4
                    (try simp only [World.size_drew, World.heap_drewN, World.size_alloc] at hs_w4)
                    have jw40 : w4.cell? ⟨gb, 2, none⟩ = some (.int .u64 (sv : Nat)) := (hb_w4.cell (p := ⟨gb, 2, none⟩) (by first | omega | (simp; omega) | simp)).trans (by first | assumption | (simp [go_sem]; done) | exact (World.cell?_alloc_lt _ _ ⟨_, _, _⟩ (by first | omega | (simp; omega) | simp)).trans (by assumption) | exact (World.cell?_alloc_lt _ _ ⟨_, _, _⟩ (by first | omega | (simp; omega) | simp)).trans ((World.cell?_alloc_lt _ _ ⟨_, _, _⟩ (by first | omega | (simp; omega) | simp)).trans (by assumption)))
                    simp only [Nat.zero_add, List.nil_append] at ownw4
                    refine hK.out _ _ ?_ (fun hHeld => ?_)
                    · (try dsimp only); exact (by first | assumption | (simp [go_sem]; done) | exact (World.cell?_alloc_lt _ _ ⟨_, _, _⟩ (by first | omega | (simp; omega) | simp)).trans (by assumption) | exact (World.cell?_alloc_lt _ _ ⟨_, _, _⟩ (by first | omega | (simp; omega) | simp)).trans ((World.cell?_alloc_lt _ _ ⟨_, _, _⟩ (by first | omega | (simp; omega) | simp)).trans (by assumption)))
                    clear hK K
                    try simp only [Act.put, List.getElem_toArray, List.getElem_cons_zero, List.getElem_cons_succ, List.setIfInBounds_toArray, List.set_cons_zero, List.set_cons_succ]
                    refine wpAnyH_ready (rs := [7]) (by kernel_rfl) (by simp) ?_
                    refine AllReadyH.cons rfl (fun K hK => ?_) AllReadyH.nil
                    try simp only [List.getElem_toArray, List.getElem_cons_zero, List.getElem_cons_succ]
                    go_simp
                    refine hK.out _ _ ?_ (fun hHeld => ?_)
                    · (try dsimp only); exact (by first | assumption | (simp [go_sem]; done) | exact (World.cell?_alloc_lt _ _ ⟨_, _, _⟩ (by first | omega | (simp; omega) | simp)).trans (by assumption) | exact (World.cell?_alloc_lt _ _ ⟨_, _, _⟩ (by first | omega | (simp; omega) | simp)).trans ((World.cell?_alloc_lt _ _ ⟨_, _, _⟩ (by first | omega | (simp; omega) | simp)).trans (by assumption)))
                    clear hK K
                    try simp only [Act.put, List.getElem_toArray, List.getElem_cons_zero, List.getElem_cons_succ, List.setIfInBounds_toArray, List.set_cons_zero, List.set_cons_succ]
                    refine wpAnyH_ready (rs := [8]) (by kernel_rfl) (by simp) ?_
                    refine AllReadyH.cons rfl (fun K hK => ?_) AllReadyH.nil
                    try simp only [List.getElem_toArray, List.getElem_cons_zero, List.getElem_cons_succ]
                    rw [if_pos]
                    rotate_left
                    · rfl
                    refine wp_appendU (.tmp 55) (.tmp 58) (by rfl) W5.heap.size Aw4 (capw4) (cv) (XP) (by simp [Act.eval, Act.put]) (ownw4.alloc _) (some ⟨w4.heap.size, 0, none⟩) (1) (1) ([.int .u64 (sv : Nat)]) (by simp [Act.eval, Act.put]) rfl (fun _ => ⟨w4.heap.size, 0, rfl, HS0.out _ _ (heap_alloc_new _ _)⟩) HX1.out (by omega) (by first | omega | (simp; omega) | simp) ?_
                    intro Aw8 capw8 w8 ownw8 hgr_w8 hb_w8 hs_w8
                    (try simp only [World.size_drew, World.heap_drewN, World.size_alloc] at hs_w8)
                    have jw80 : w8.cell? ⟨gb, 2, none⟩ = some (.int .u64 (sv : Nat)) := (hb_w8.cell (p := ⟨gb, 2, none⟩) (by first | omega | (simp; omega) | simp)).trans (by first | assumption | (simp [go_sem]; done) | exact (World.cell?_alloc_lt _ _ ⟨_, _, _⟩ (by first | omega | (simp; omega) | simp)).trans (by assumption) | exact (World.cell?_alloc_lt _ _ ⟨_, _, _⟩ (by first | omega | (simp; omega) | simp)).trans ((World.cell?_alloc_lt _ _ ⟨_, _, _⟩ (by first | omega | (simp; omega) | simp)).trans (by assumption)))
                    refine hK.out _ _ ?_ (fun hHeld => ?_)
                    · (try dsimp only); exact (by first | assumption | (simp [go_sem]; done) | exact (World.cell?_alloc_lt _ _ ⟨_, _, _⟩ (by first | omega | (simp; omega) | simp)).trans (by assumption) | exact (World.cell?_alloc_lt _ _ ⟨_, _, _⟩ (by first | omega | (simp; omega) | simp)).trans ((World.cell?_alloc_lt _ _ ⟨_, _, _⟩ (by first | omega | (simp; omega) | simp)).trans (by assumption)))
                    clear hK K
                    try simp only [Act.put, List.getElem_toArray, List.getElem_cons_zero, List.getElem_cons_succ, List.setIfInBounds_toArray, List.set_cons_zero, List.set_cons_succ]
                    refine wpAnyH_ready (rs := [12]) (by kernel_rfl) (by simp) ?_
                    refine AllReadyH.cons rfl (fun K hK => ?_) AllReadyH.nil
                    try simp only [List.getElem_toArray, List.getElem_cons_zero, List.getElem_cons_succ]
                    rw [if_pos]
                    rotate_left
                    · rfl
                    refine wp_appendU (.tmp 59) (.tmp 62) (by rfl) W5.heap.size Aw8 (capw8) (cv + 1) (XP ++ [.int .u64 (sv : Nat)]) (by simp [Act.eval, Act.put]) (ownw8) (some ⟨gk, 0, none⟩) (0) (0) (XQ) (by simp [Act.eval, Act.put]) HLQ.out (fun hm => absurd hm (by omega)) HQ1.out (by omega) (by first | omega | (simp; omega) | simp) ?_
                    intro Aw12 capw12 w12 ownw12 hgr_w12 hb_w12 hs_w12
                    (try simp only [World.size_drew, World.heap_drewN, World.size_alloc] at hs_w12)
                    have jw120 : w12.cell? ⟨gb, 2, none⟩ = some (.int .u64 (sv : Nat)) := (hb_w12.cell (p := ⟨gb, 2, none⟩) (by first | omega | (simp; omega) | simp)).trans (by first | assumption | (simp [go_sem]; done) | exact (World.cell?_alloc_lt _ _ ⟨_, _, _⟩ (by first | omega | (simp; omega) | simp)).trans (by assumption) | exact (World.cell?_alloc_lt _ _ ⟨_, _, _⟩ (by first | omega | (simp; omega) | simp)).trans ((World.cell?_alloc_lt _ _ ⟨_, _, _⟩ (by first | omega | (simp; omega) | simp)).trans (by assumption)))
                    try go_wp2_with fail
                    refine hK.out _ _ ?_ (fun hHeld => ?_)
                    · (try dsimp only); exact (by first | assumption | (simp [go_sem]; done) | exact (World.cell?_alloc_lt _ _ ⟨_, _, _⟩ (by first | omega | (simp; omega) | simp)).trans (by assumption) | exact (World.cell?_alloc_lt _ _ ⟨_, _, _⟩ (by first | omega | (simp; omega) | simp)).trans ((World.cell?_alloc_lt _ _ ⟨_, _, _⟩ (by first | omega | (simp; omega) | simp)).trans (by assumption)))
                    clear hK K
                    try simp only [Act.put, List.getElem_toArray, List.getElem_cons_zero, List.getElem_cons_succ, List.setIfInBounds_toArray, List.set_cons_zero, List.set_cons_succ]
                    refine wpAnyH_take (i := 13) (v := ?_) rfl (by kernel_rfl) (by kernel_rfl) (by kernel_rfl) (fun _ _ _ h => h) (Or.inl ⟨by rfl, ?_⟩) (by assumption) ?_
                    rotate_left
                    · (intro w hSw; (try dsimp only at hSw); go_simp; first | done | with_reducible rfl)
                    try simp only [Act.put, List.getElem_toArray, List.getElem_cons_zero, List.getElem_cons_succ, List.setIfInBounds_toArray, List.set_cons_zero, List.set_cons_succ]
                    refine wpAnyH_done (by kernel_rfl) ?_ _
                    have O6 : W5.heap.size ≤ w12.heap.size := (show Below W5.heap.size W5 w12 from (by repeat (first | exact Below.refl _ _ | assumption | (refine below_drewN ?_ _) | (refine Below.drew ?_) | (refine Below.alloc ?_ (by first | omega | (simp; omega) | simp) _) | (refine Below.setCell ?_ (by first | omega | (simp; omega) | simp) _) | (refine below_trans ?_ (by assumption) (by first | omega | (simp; omega) | simp))))).size
                    have O56 := Lib.hid (owns_laterN O5.out (show Below W5.heap.size W5 w12 from (by repeat (first | exact Below.refl _ _ | assumption | (refine below_drewN ?_ _) | (refine Below.drew ?_) | (refine Below.alloc ?_ (by first | omega | (simp; omega) | simp) _) | (refine Below.setCell ?_ (by first | omega | (simp; omega) | simp) _) | (refine below_trans ?_ (by assumption) (by first | omega | (simp; omega) | simp))))))
                    have HO12 := Lib.hid ownw12
                    have HB12 := below_trans hb5 (show Below W5.heap.size W5 w12 from (by repeat (first | exact Below.refl _ _ | assumption | (refine below_drewN ?_ _) | (refine Below.drew ?_) | (refine Below.alloc ?_ (by first | omega | (simp; omega) | simp) _) | (refine Below.setCell ?_ (by first | omega | (simp; omega) | simp) _) | (refine below_trans ?_ (by assumption) (by first | omega | (simp; omega) | simp))))) (by first | omega | (simp; omega) | simp)
                    clear ownw12 ownw8 ownw4 hgr_w4 hgr_w8 hgr_w12 HSRC HS0 HBK HBK3
                    go_wp2
                    go_roundw
                    case rel => exact ⟨k + 1, by go_num, by omega, _, L + 1, A5, Aw12, c5, capw12, Lib.hid HNEW.out, Lib.hid HLI.out, by omega, rfl, by rw [HN.out], O56.out, by rw [HN.out, HFIN.out]; exact owns_monoN HO12.out (by omega), by omega, HB12⟩
                    case measure => simp [intOf]; omega
                  · try simp only [List.getElem_toArray, List.getElem_cons_zero, List.getElem_cons_succ]
                    go_simp
                    refine hK.out _ _ ?_ (fun hHeld => ?_)
                    · (try dsimp only); exact (by first | assumption | (simp [go_sem]; done) | exact (World.cell?_alloc_lt _ _ ⟨_, _, _⟩ (by first | omega | (simp; omega) | simp)).trans (by assumption) | exact (World.cell?_alloc_lt _ _ ⟨_, _, _⟩ (by first | omega | (simp; omega) | simp)).trans ((World.cell?_alloc_lt _ _ ⟨_, _, _⟩ (by first | omega | (simp; omega) | simp)).trans (by assumption)))
                    clear hK K
                    try simp only [Act.put, List.getElem_toArray, List.getElem_cons_zero, List.getElem_cons_succ, List.setIfInBounds_toArray, List.set_cons_zero, List.set_cons_succ]
                    refine wpAnyH_ready (rs := [4]) (by kernel_rfl) (by simp) ?_
                    refine AllReadyH.cons rfl (fun K hK => ?_) AllReadyH.nil
                    try simp only [List.getElem_toArray, List.getElem_cons_zero, List.getElem_cons_succ]
                    rw [if_pos]
                    rotate_left
                    · rfl
                    refine wp_appendU (.tmp 51) (.tmp 54) (by rfl) W5.heap.size (some ⟨W5.heap.size, 0, none⟩) (0) (0) ([]) (by simp [Act.eval, Act.put]) ((own_emptyU W5 _ W5.heap.size (by first | omega | (simp; omega) | simp) rfl).alloc _) (some ⟨gk, 0, none⟩) (cv) (cv) (XP) (by simp [Act.eval, Act.put]) HLP.out (fun _ => ⟨gk, 0, rfl, HC1.out _ (by repeat (first | exact Below.refl _ _ | assumption | (refine below_drewN ?_ _) | (refine Below.drew ?_) | (refine Below.alloc ?_ (by first | omega | (simp; omega) | simp) _) | (refine Below.setCell ?_ (by first | omega | (simp; omega) | simp) _) | (refine below_trans ?_ (by assumption) (by first | omega | (simp; omega) | simp))))⟩) HP1.out (by omega) (by first | omega | (simp; omega) | simp) ?_
                    intro Aw4 capw4 w4 ownw4 hgr_w4 hb_w4 hs_w4
                    (try simp only [World.size_drew, World.heap_drewN, World.size_alloc] at hs_w4)
                    have jw40 : w4.cell? ⟨gb, 2, none⟩ = some (.int .u64 (sv : Nat)) := (hb_w4.cell (p := ⟨gb, 2, none⟩) (by first | omega | (simp; omega) | simp)).trans (by first | assumption | (simp [go_sem]; done) | exact (World.cell?_alloc_lt _ _ ⟨_, _, _⟩ (by first | omega | (simp; omega) | simp)).trans (by assumption) | exact (World.cell?_alloc_lt _ _ ⟨_, _, _⟩ (by first | omega | (simp; omega) | simp)).trans ((World.cell?_alloc_lt _ _ ⟨_, _, _⟩ (by first | omega | (simp; omega) | simp)).trans (by assumption)))
                    simp only [Nat.zero_add, List.nil_append] at ownw4
                    refine hK.out _ _ ?_ (fun hHeld => ?_)
                    · (try dsimp only); exact (by first | assumption | (simp [go_sem]; done) | exact (World.cell?_alloc_lt _ _ ⟨_, _, _⟩ (by first | omega | (simp; omega) | simp)).trans (by assumption) | exact (World.cell?_alloc_lt _ _ ⟨_, _, _⟩ (by first | omega | (simp; omega) | simp)).trans ((World.cell?_alloc_lt _ _ ⟨_, _, _⟩ (by first | omega | (simp; omega) | simp)).trans (by assumption)))
                    clear hK K
                    try simp only [Act.put, List.getElem_toArray, List.getElem_cons_zero, List.getElem_cons_succ, List.setIfInBounds_toArray, List.set_cons_zero, List.set_cons_succ]
                    refine wpAnyH_ready (rs := [8]) (by kernel_rfl) (by simp) ?_
                    refine AllReadyH.cons rfl (fun K hK => ?_) AllReadyH.nil
                    try simp only [List.getElem_toArray, List.getElem_cons_zero, List.getElem_cons_succ]
                    rw [if_pos]
                    rotate_left
                    · rfl
                    refine wp_appendU (.tmp 55) (.tmp 58) (by rfl) W5.heap.size Aw4 (capw4) (cv) (XP) (by simp [Act.eval, Act.put]) (ownw4) (some ⟨W5.heap.size + 1, 0, none⟩) (1) (1) ([.int .u64 (sv : Nat)]) (by simp [Act.eval, Act.put]) rfl (fun _ => ⟨W5.heap.size + 1, 0, rfl, HS0.out _ _ ((hgr_w4.block _ (by first | omega | (simp; omega) | simp) (by simp)).trans (by exact HBK.out _))⟩) HX1.out (by omega) (by first | omega | (simp; omega) | simp) ?_
                    intro Aw8 capw8 w8 ownw8 hgr_w8 hb_w8 hs_w8
                    (try simp only [World.size_drew, World.heap_drewN, World.size_alloc] at hs_w8)
                    have jw80 : w8.cell? ⟨gb, 2, none⟩ = some (.int .u64 (sv : Nat)) := (hb_w8.cell (p := ⟨gb, 2, none⟩) (by first | omega | (simp; omega) | simp)).trans (by first | assumption | (simp [go_sem]; done) | exact (World.cell?_alloc_lt _ _ ⟨_, _, _⟩ (by first | omega | (simp; omega) | simp)).trans (by assumption) | exact (World.cell?_alloc_lt _ _ ⟨_, _, _⟩ (by first | omega | (simp; omega) | simp)).trans ((World.cell?_alloc_lt _ _ ⟨_, _, _⟩ (by first | omega | (simp; omega) | simp)).trans (by assumption)))
                    refine hK.out _ _ ?_ (fun hHeld => ?_)
                    · (try dsimp only); exact (by first | assumption | (simp [go_sem]; done) | exact (World.cell?_alloc_lt _ _ ⟨_, _, _⟩ (by first | omega | (simp; omega) | simp)).trans (by assumption) | exact (World.cell?_alloc_lt _ _ ⟨_, _, _⟩ (by first | omega | (simp; omega) | simp)).trans ((World.cell?_alloc_lt _ _ ⟨_, _, _⟩ (by first | omega | (simp; omega) | simp)).trans (by assumption)))
                    clear hK K
                    try simp only [Act.put, List.getElem_toArray, List.getElem_cons_zero, List.getElem_cons_succ, List.setIfInBounds_toArray, List.set_cons_zero, List.set_cons_succ]
                    refine wpAnyH_ready (rs := [12]) (by kernel_rfl) (by simp) ?_
                    refine AllReadyH.cons rfl (fun K hK => ?_) AllReadyH.nil
                    try simp only [List.getElem_toArray, List.getElem_cons_zero, List.getElem_cons_succ]
                    rw [if_pos]
                    rotate_left
                    · rfl
                    refine wp_appendU (.tmp 59) (.tmp 62) (by rfl) W5.heap.size Aw8 (capw8) (cv + 1) (XP ++ [.int .u64 (sv : Nat)]) (by simp [Act.eval, Act.put]) (ownw8) (some ⟨gk, 0, none⟩) (0) (0) (XQ) (by simp [Act.eval, Act.put]) HLQ.out (fun hm => absurd hm (by omega)) HQ1.out (by omega) (by first | omega | (simp; omega) | simp) ?_
                    intro Aw12 capw12 w12 ownw12 hgr_w12 hb_w12 hs_w12
                    (try simp only [World.size_drew, World.heap_drewN, World.size_alloc] at hs_w12)
                    have jw120 : w12.cell? ⟨gb, 2, none⟩ = some (.int .u64 (sv : Nat)) := (hb_w12.cell (p := ⟨gb, 2, none⟩) (by first | omega | (simp; omega) | simp)).trans (by first | assumption | (simp [go_sem]; done) | exact (World.cell?_alloc_lt _ _ ⟨_, _, _⟩ (by first | omega | (simp; omega) | simp)).trans (by assumption) | exact (World.cell?_alloc_lt _ _ ⟨_, _, _⟩ (by first | omega | (simp; omega) | simp)).trans ((World.cell?_alloc_lt _ _ ⟨_, _, _⟩ (by first | omega | (simp; omega) | simp)).trans (by assumption)))
                    try go_wp2_with fail
                    refine hK.out _ _ ?_ (fun hHeld => ?_)
                    · (try dsimp only); exact (by first | assumption | (simp [go_sem]; done) | exact (World.cell?_alloc_lt _ _ ⟨_, _, _⟩ (by first | omega | (simp; omega) | simp)).trans (by assumption) | exact (World.cell?_alloc_lt _ _ ⟨_, _, _⟩ (by first | omega | (simp; omega) | simp)).trans ((World.cell?_alloc_lt _ _ ⟨_, _, _⟩ (by first | omega | (simp; omega) | simp)).trans (by assumption)))
                    clear hK K
                    try simp only [Act.put, List.getElem_toArray, List.getElem_cons_zero, List.getElem_cons_succ, List.setIfInBounds_toArray, List.set_cons_zero, List.set_cons_succ]
                    refine wpAnyH_take (i := 13) (v := ?_) rfl (by kernel_rfl) (by kernel_rfl) (by kernel_rfl) (fun _ _ _ h => h) (Or.inl ⟨by rfl, ?_⟩) (by assumption) ?_
                    rotate_left
                    · (intro w hSw; (try dsimp only at hSw); go_simp; first | done | with_reducible rfl)
                    try simp only [Act.put, List.getElem_toArray, List.getElem_cons_zero, List.getElem_cons_succ, List.setIfInBounds_toArray, List.set_cons_zero, List.set_cons_succ]
                    refine wpAnyH_done (by kernel_rfl) ?_ _
                    have O6 : W5.heap.size ≤ w12.heap.size := (show Below W5.heap.size W5 w12 from (by repeat (first | exact Below.refl _ _ | assumption | (refine below_drewN ?_ _) | (refine Below.drew ?_) | (refine Below.alloc ?_ (by first | omega | (simp; omega) | simp) _) | (refine Below.setCell ?_ (by first | omega | (simp; omega) | simp) _) | (refine below_trans ?_ (by assumption) (by first | omega | (simp; omega) | simp))))).size
                    have O56 := Lib.hid (owns_laterN O5.out (show Below W5.heap.size W5 w12 from (by repeat (first | exact Below.refl _ _ | assumption | (refine below_drewN ?_ _) | (refine Below.drew ?_) | (refine Below.alloc ?_ (by first | omega | (simp; omega) | simp) _) | (refine Below.setCell ?_ (by first | omega | (simp; omega) | simp) _) | (refine below_trans ?_ (by assumption) (by first | omega | (simp; omega) | simp))))))
                    have HO12 := Lib.hid ownw12
                    have HB12 := below_trans hb5 (show Below W5.heap.size W5 w12 from (by repeat (first | exact Below.refl _ _ | assumption | (refine below_drewN ?_ _) | (refine Below.drew ?_) | (refine Below.alloc ?_ (by first | omega | (simp; omega) | simp) _) | (refine Below.setCell ?_ (by first | omega | (simp; omega) | simp) _) | (refine below_trans ?_ (by assumption) (by first | omega | (simp; omega) | simp))))) (by first | omega | (simp; omega) | simp)
                    clear ownw12 ownw8 ownw4 hgr_w4 hgr_w8 hgr_w12 HSRC HS0 HBK HBK3
                    go_wp2
                    go_roundw
                    case rel => exact ⟨k + 1, by go_num, by omega, _, L + 1, A5, Aw12, c5, capw12, Lib.hid HNEW.out, Lib.hid HLI.out, by omega, rfl, by rw [HN.out], O56.out, by rw [HN.out, HFIN.out]; exact owns_monoN HO12.out (by omega), by omega, HB12⟩
                    case measure => simp [intOf]; omega
                · try simp only [List.getElem_toArray, List.getElem_cons_zero, List.getElem_cons_succ]
                  go_simp
                  refine hK.out _ _ ?_ (fun hHeld => ?_)
                  · (try dsimp only); exact (by first | assumption | (simp [go_sem]; done) | exact (World.cell?_alloc_lt _ _ ⟨_, _, _⟩ (by first | omega | (simp; omega) | simp)).trans (by assumption) | exact (World.cell?_alloc_lt _ _ ⟨_, _, _⟩ (by first | omega | (simp; omega) | simp)).trans ((World.cell?_alloc_lt _ _ ⟨_, _, _⟩ (by first | omega | (simp; omega) | simp)).trans (by assumption)))
                  clear hK K
                  try simp only [Act.put, List.getElem_toArray, List.getElem_cons_zero, List.getElem_cons_succ, List.setIfInBounds_toArray, List.set_cons_zero, List.set_cons_succ]
                  refine wpAnyH_ready (rs := [0]) (by kernel_rfl) (by simp) ?_
                  refine AllReadyH.cons rfl (fun K hK => ?_) AllReadyH.nil
                  try simp only [List.getElem_toArray, List.getElem_cons_zero, List.getElem_cons_succ]
                  go_simp
                  refine hK.out _ _ ?_ (fun hHeld => ?_)
                  · (try dsimp only); exact (by first | assumption | (simp [go_sem]; done) | exact (World.cell?_alloc_lt _ _ ⟨_, _, _⟩ (by first | omega | (simp; omega) | simp)).trans (by assumption) | exact (World.cell?_alloc_lt _ _ ⟨_, _, _⟩ (by first | omega | (simp; omega) | simp)).trans ((World.cell?_alloc_lt _ _ ⟨_, _, _⟩ (by first | omega | (simp; omega) | simp)).trans (by assumption)))
                  clear hK K
                  try simp only [Act.put, List.getElem_toArray, List.getElem_cons_zero, List.getElem_cons_succ, List.setIfInBounds_toArray, List.set_cons_zero, List.set_cons_succ]
                  refine wpAnyH_ready (rs := [4]) (by kernel_rfl) (by simp) ?_
                  refine AllReadyH.cons rfl (fun K hK => ?_) AllReadyH.nil
                  try simp only [List.getElem_toArray, List.getElem_cons_zero, List.getElem_cons_succ]
                  rw [if_pos]
                  rotate_left
                  · rfl
                  refine wp_appendU (.tmp 51) (.tmp 54) (by rfl) W5.heap.size (some ⟨W5.heap.size + 1, 0, none⟩) (0) (0) ([]) (by simp [Act.eval, Act.put]) (own_emptyUG (W5.alloc (.cells #[.int .u64 (sv : Nat)] 25)) _ (W5.heap.size + 1) W5.heap.size (by simp) (by first | omega | (simp; omega) | simp) rfl) (some ⟨gk, 0, none⟩) (cv) (cv) (XP) (by simp [Act.eval, Act.put]) HLP.out (fun _ => ⟨gk, 0, rfl, HC1.out _ (by repeat (first | exact Below.refl _ _ | assumption | (refine below_drewN ?_ _) | (refine Below.drew ?_) | (refine Below.alloc ?_ (by first | omega | (simp; omega) | simp) _) | (refine Below.setCell ?_ (by first | omega | (simp; omega) | simp) _) | (refine below_trans ?_ (by assumption) (by first | omega | (simp; omega) | simp))))⟩) HP1.out (by omega) (by first | omega | (simp; omega) | simp) ?_
                  intro Aw4 capw4 w4 ownw4 hgr_w4 hb_w4 hs_w4
                  (try simp only [World.size_drew, World.heap_drewN, World.size_alloc] at hs_w4)
                  have jw40 : w4.cell? ⟨gb, 2, none⟩ = some (.int .u64 (sv : Nat)) := (hb_w4.cell (p := ⟨gb, 2, none⟩) (by first | omega | (simp; omega) | simp)).trans (by first | assumption | (simp [go_sem]; done) | exact (World.cell?_alloc_lt _ _ ⟨_, _, _⟩ (by first | omega | (simp; omega) | simp)).trans (by assumption) | exact (World.cell?_alloc_lt _ _ ⟨_, _, _⟩ (by first | omega | (simp; omega) | simp)).trans ((World.cell?_alloc_lt _ _ ⟨_, _, _⟩ (by first | omega | (simp; omega) | simp)).trans (by assumption)))
                  simp only [Nat.zero_add, List.nil_append] at ownw4
                  refine hK.out _ _ ?_ (fun hHeld => ?_)
                  · (try dsimp only); exact (by first | assumption | (simp [go_sem]; done) | exact (World.cell?_alloc_lt _ _ ⟨_, _, _⟩ (by first | omega | (simp; omega) | simp)).trans (by assumption) | exact (World.cell?_alloc_lt _ _ ⟨_, _, _⟩ (by first | omega | (simp; omega) | simp)).trans ((World.cell?_alloc_lt _ _ ⟨_, _, _⟩ (by first | omega | (simp; omega) | simp)).trans (by assumption)))
                  clear hK K
                  try simp only [Act.put, List.getElem_toArray, List.getElem_cons_zero, List.getElem_cons_succ, List.setIfInBounds_toArray, List.set_cons_zero, List.set_cons_succ]
                  refine wpAnyH_ready (rs := [8]) (by kernel_rfl) (by simp) ?_
                  refine AllReadyH.cons rfl (fun K hK => ?_) AllReadyH.nil
                  try simp only [List.getElem_toArray, List.getElem_cons_zero, List.getElem_cons_succ]
                  rw [if_pos]
                  rotate_left
                  · rfl
                  refine wp_appendU (.tmp 55) (.tmp 58) (by rfl) W5.heap.size Aw4 (capw4) (cv) (XP) (by simp [Act.eval, Act.put]) (ownw4) (some ⟨W5.heap.size, 0, none⟩) (1) (1) ([.int .u64 (sv : Nat)]) (by simp [Act.eval, Act.put]) rfl (fun _ => ⟨W5.heap.size, 0, rfl, HS0.out _ _ ((hgr_w4.block _ (by first | omega | (simp; omega) | simp) (by simp)).trans (by exact HBK3.out _))⟩) HX1.out (by omega) (by first | omega | (simp; omega) | simp) ?_
                  intro Aw8 capw8 w8 ownw8 hgr_w8 hb_w8 hs_w8
                  (try simp only [World.size_drew, World.heap_drewN, World.size_alloc] at hs_w8)
                  have jw80 : w8.cell? ⟨gb, 2, none⟩ = some (.int .u64 (sv : Nat)) := (hb_w8.cell (p := ⟨gb, 2, none⟩) (by first | omega | (simp; omega) | simp)).trans (by first | assumption | (simp [go_sem]; done) | exact (World.cell?_alloc_lt _ _ ⟨_, _, _⟩ (by first | omega | (simp; omega) | simp)).trans (by assumption) | exact (World.cell?_alloc_lt _ _ ⟨_, _, _⟩ (by first | omega | (simp; omega) | simp)).trans ((World.cell?_alloc_lt _ _ ⟨_, _, _⟩ (by first | omega | (simp; omega) | simp)).trans (by assumption)))
                  refine hK.out _ _ ?_ (fun hHeld => ?_)
                  · (try dsimp only); exact (by first | assumption | (simp [go_sem]; done) | exact (World.cell?_alloc_lt _ _ ⟨_, _, _⟩ (by first | omega | (simp; omega) | simp)).trans (by assumption) | exact (World.cell?_alloc_lt _ _ ⟨_, _, _⟩ (by first | omega | (simp; omega) | simp)).trans ((World.cell?_alloc_lt _ _ ⟨_, _, _⟩ (by first | omega | (simp; omega) | simp)).trans (by assumption)))
                  clear hK K
                  try simp only [Act.put, List.getElem_toArray, List.getElem_cons_zero, List.getElem_cons_succ, List.setIfInBounds_toArray, List.set_cons_zero, List.set_cons_succ]
                  refine wpAnyH_ready (rs := [12]) (by kernel_rfl) (by simp) ?_
                  refine AllReadyH.cons rfl (fun K hK => ?_) AllReadyH.nil
                  try simp only [List.getElem_toArray, List.getElem_cons_zero, List.getElem_cons_succ]
                  rw [if_pos]
                  rotate_left
                  · rfl
                  refine wp_appendU (.tmp 59) (.tmp 62) (by rfl) W5.heap.size Aw8 (capw8) (cv + 1) (XP ++ [.int .u64 (sv : Nat)]) (by simp [Act.eval, Act.put]) (ownw8) (some ⟨gk, 0, none⟩) (0) (0) (XQ) (by simp [Act.eval, Act.put]) HLQ.out (fun hm => absurd hm (by omega)) HQ1.out (by omega) (by first | omega | (simp; omega) | simp) ?_
                  intro Aw12 capw12 w12 ownw12 hgr_w12 hb_w12 hs_w12
                  (try simp only [World.size_drew, World.heap_drewN, World.size_alloc] at hs_w12)
                  have jw120 : w12.cell? ⟨gb, 2, none⟩ = some (.int .u64 (sv : Nat)) := (hb_w12.cell (p := ⟨gb, 2, none⟩) (by first | omega | (simp; omega) | simp)).trans (by first | assumption | (simp [go_sem]; done) | exact (World.cell?_alloc_lt _ _ ⟨_, _, _⟩ (by first | omega | (simp; omega) | simp)).trans (by assumption) | exact (World.cell?_alloc_lt _ _ ⟨_, _, _⟩ (by first | omega | (simp; omega) | simp)).trans ((World.cell?_alloc_lt _ _ ⟨_, _, _⟩ (by first | omega | (simp; omega) | simp)).trans (by assumption)))
                  try go_wp2_with fail
                  refine hK.out _ _ ?_ (fun hHeld => ?_)
                  · (try dsimp only); exact (by first | assumption | (simp [go_sem]; done) | exact (World.cell?_alloc_lt _ _ ⟨_, _, _⟩ (by first | omega | (simp; omega) | simp)).trans (by assumption) | exact (World.cell?_alloc_lt _ _ ⟨_, _, _⟩ (by first | omega | (simp; omega) | simp)).trans ((World.cell?_alloc_lt _ _ ⟨_, _, _⟩ (by first | omega | (simp; omega) | simp)).trans (by assumption)))
                  clear hK K
                  try simp only [Act.put, List.getElem_toArray, List.getElem_cons_zero, List.getElem_cons_succ, List.setIfInBounds_toArray, List.set_cons_zero, List.set_cons_succ]
                  refine wpAnyH_take (i := 13) (v := ?_) rfl (by kernel_rfl) (by kernel_rfl) (by kernel_rfl) (fun _ _ _ h => h) (Or.inl ⟨by rfl, ?_⟩) (by assumption) ?_
                  rotate_left
                  · (intro w hSw; (try dsimp only at hSw); go_simp; first | done | with_reducible rfl)
                  try simp only [Act.put, List.getElem_toArray, List.getElem_cons_zero, List.getElem_cons_succ, List.setIfInBounds_toArray, List.set_cons_zero, List.set_cons_succ]
                  refine wpAnyH_done (by kernel_rfl) ?_ _
                  have O6 : W5.heap.size ≤ w12.heap.size := (show Below W5.heap.size W5 w12 from (by repeat (first | exact Below.refl _ _ | assumption | (refine below_drewN ?_ _) | (refine Below.drew ?_) | (refine Below.alloc ?_ (by first | omega | (simp; omega) | simp) _) | (refine Below.setCell ?_ (by first | omega | (simp; omega) | simp) _) | (refine below_trans ?_ (by assumption) (by first | omega | (simp; omega) | simp))))).size
                  have O56 := Lib.hid (owns_laterN O5.out (show Below W5.heap.size W5 w12 from (by repeat (first | exact Below.refl _ _ | assumption | (refine below_drewN ?_ _) | (refine Below.drew ?_) | (refine Below.alloc ?_ (by first | omega | (simp; omega) | simp) _) | (refine Below.setCell ?_ (by first | omega | (simp; omega) | simp) _) | (refine below_trans ?_ (by assumption) (by first | omega | (simp; omega) | simp))))))
                  have HO12 := Lib.hid ownw12
                  have HB12 := below_trans hb5 (show Below W5.heap.size W5 w12 from (by repeat (first | exact Below.refl _ _ | assumption | (refine below_drewN ?_ _) | (refine Below.drew ?_) | (refine Below.alloc ?_ (by first | omega | (simp; omega) | simp) _) | (refine Below.setCell ?_ (by first | omega | (simp; omega) | simp) _) | (refine below_trans ?_ (by assumption) (by first | omega | (simp; omega) | simp))))) (by first | omega | (simp; omega) | simp)
                  clear ownw12 ownw8 ownw4 hgr_w4 hgr_w8 hgr_w12 HSRC HS0 HBK HBK3
                  go_wp2
                  go_roundw
                  case rel => exact ⟨k + 1, by go_num, by omega, _, L + 1, A5, Aw12, c5, capw12, Lib.hid HNEW.out, Lib.hid HLI.out, by omega, rfl, by rw [HN.out], O56.out, by rw [HN.out, HFIN.out]; exact owns_monoN HO12.out (by omega), by omega, HB12⟩
                  case measure => simp [intOf]; omega
              · have HLQ := HLQn
                have HN : Hid (L + 1 = n + 1 + (L - n)) := Lib.hid (by omega)
                refine wp_region_held_drew (S := (fun X : World => X.cell? ⟨gb, 2, none⟩ = some (.int .u64 (sv : Nat)))) (by kernel_rfl) ?_ (fun hHeld => ?_)
                · (try dsimp only); exact (by first | assumption | (simp [go_sem]; done) | exact (World.cell?_alloc_lt _ _ ⟨_, _, _⟩ (by first | omega | (simp; omega) | simp)).trans (by assumption) | exact (World.cell?_alloc_lt _ _ ⟨_, _, _⟩ (by first | omega | (simp; omega) | simp)).trans ((World.cell?_alloc_lt _ _ ⟨_, _, _⟩ (by first | omega | (simp; omega) | simp)).trans (by assumption)))
                refine wpAnyH_take (i := 1) (v := ?_) rfl (by kernel_rfl) (by kernel_rfl) (by kernel_rfl) (fun _ _ _ h => h) (Or.inl ⟨by rfl, ?_⟩) (by assumption) ?_
                rotate_left
                · (intro w hSw; (try dsimp only at hSw); go_simp; first | done | with_reducible rfl)
                try simp only [Act.put, List.getElem_toArray, List.getElem_cons_zero, List.getElem_cons_succ, List.setIfInBounds_toArray, List.set_cons_zero, List.set_cons_succ]
                refine wpAnyH_take (i := 2) (v := ?_) rfl (by kernel_rfl) (by kernel_rfl) (by kernel_rfl) (fun _ _ _ h => h) (Or.inl ⟨by rfl, ?_⟩) (by assumption) ?_
                rotate_left
                · (intro w hSw; (try dsimp only at hSw); go_simp; first | done | with_reducible rfl)
                try simp only [Act.put, List.getElem_toArray, List.getElem_cons_zero, List.getElem_cons_succ, List.setIfInBounds_toArray, List.set_cons_zero, List.set_cons_succ]
                refine wpAnyH_take (i := 3) (v := ?_) rfl (by kernel_rfl) (by kernel_rfl) (by kernel_rfl) (fun _ _ _ h => h) (Or.inl ⟨by rfl, ?_⟩) (by assumption) ?_
                rotate_left
                · (intro w hSw; (try dsimp only at hSw); go_simp; first | done | with_reducible rfl)
                try simp only [Act.put, List.getElem_toArray, List.getElem_cons_zero, List.getElem_cons_succ, List.setIfInBounds_toArray, List.set_cons_zero, List.set_cons_succ]
                refine wpAnyH_take (i := 5) (v := ?_) rfl (by kernel_rfl) (by kernel_rfl) (by kernel_rfl) (fun _ _ _ h => h) (Or.inl ⟨by rfl, ?_⟩) (by assumption) ?_
                rotate_left
                · (intro w hSw; (try dsimp only at hSw); go_simp; first | done | with_reducible rfl)
                try simp only [Act.put, List.getElem_toArray, List.getElem_cons_zero, List.getElem_cons_succ, List.setIfInBounds_toArray, List.set_cons_zero, List.set_cons_succ]
                refine wpAnyH_take (i := 6) (v := ?_) rfl (by kernel_rfl) (by kernel_rfl) (by kernel_rfl) (fun _ _ _ h => h) (Or.inl ⟨by rfl, ?_⟩) (by assumption) ?_
                rotate_left
                · (intro w hSw; (try dsimp only at hSw); go_simp; first | done | with_reducible rfl)
                try simp only [Act.put, List.getElem_toArray, List.getElem_cons_zero, List.getElem_cons_succ, List.setIfInBounds_toArray, List.set_cons_zero, List.set_cons_succ]
                refine wpAnyH_take (i := 9) (v := ?_) rfl (by kernel_rfl) (by kernel_rfl) (by kernel_rfl) (fun _ _ _ h => h) (Or.inl ⟨by rfl, ?_⟩) (by assumption) ?_
                rotate_left
                · (intro w hSw; (try dsimp only at hSw); go_simp; first | done | with_reducible rfl)
                try simp only [Act.put, List.getElem_toArray, List.getElem_cons_zero, List.getElem_cons_succ, List.setIfInBounds_toArray, List.set_cons_zero, List.set_cons_succ]
                refine wpAnyH_take (i := 10) (v := ?_) rfl (by kernel_rfl) (by kernel_rfl) (by kernel_rfl) (fun _ _ _ h => h) (Or.inl ⟨by rfl, ?_⟩) (by assumption) ?_
                rotate_left
                · (intro w hSw; (try dsimp only at hSw); go_simp; first | done | with_reducible rfl)
                try simp only [Act.put, List.getElem_toArray, List.getElem_cons_zero, List.getElem_cons_succ, List.setIfInBounds_toArray, List.set_cons_zero, List.set_cons_succ]
                refine wpAnyH_take (i := 11) (v := ?_) rfl (by kernel_rfl) (by kernel_rfl) (by kernel_rfl) (fun _ _ _ h => h) (Or.inl ⟨by rfl, ?_⟩) (by assumption) ?_
                rotate_left
                · (intro w hSw; (try dsimp only at hSw); go_simp; first | done | with_reducible rfl)
                try simp only [Act.put, List.getElem_toArray, List.getElem_cons_zero, List.getElem_cons_succ, List.setIfInBounds_toArray, List.set_cons_zero, List.set_cons_succ]
                refine wpAnyH_ready (rs := [0, 7]) (by kernel_rfl) (by simp) ?_
                refine AllReadyH.cons rfl (fun K hK => ?_) (AllReadyH.cons rfl (fun K hK => ?_) AllReadyH.nil)
                · try simp only [List.getElem_toArray, List.getElem_cons_zero, List.getElem_cons_succ]
                  go_simp
                  refine hK.out _ _ ?_ (fun hHeld => ?_)
                  · (try dsimp only); exact (by first | assumption | (simp [go_sem]; done) | exact (World.cell?_alloc_lt _ _ ⟨_, _, _⟩ (by first | omega | (simp; omega) | simp)).trans (by assumption) | exact (World.cell?_alloc_lt _ _ ⟨_, _, _⟩ (by first | omega | (simp; omega) | simp)).trans ((World.cell?_alloc_lt _ _ ⟨_, _, _⟩ (by first | omega | (simp; omega) | simp)).trans (by assumption)))
                  clear hK K
                  try simp only [Act.put, List.getElem_toArray, List.getElem_cons_zero, List.getElem_cons_succ, List.setIfInBounds_toArray, List.set_cons_zero, List.set_cons_succ]
                  refine wpAnyH_ready (rs := [4, 7]) (by kernel_rfl) (by simp) ?_
                  refine AllReadyH.cons rfl (fun K hK => ?_) (AllReadyH.cons rfl (fun K hK => ?_) AllReadyH.nil)
                  · try simp only [List.getElem_toArray, List.getElem_cons_zero, List.getElem_cons_succ]
                    rw [if_pos]
                    rotate_left
                    · rfl
                    refine wp_appendU (.tmp 51) (.tmp 54) (by rfl) W5.heap.size (some ⟨W5.heap.size, 0, none⟩) (0) (0) ([]) (by simp [Act.eval, Act.put]) (own_emptyU W5 _ W5.heap.size (by first | omega | (simp; omega) | simp) rfl) (some ⟨gk, 0, none⟩) (n) (cv) (XP) (by simp [Act.eval, Act.put]) HLP.out (fun _ => ⟨gk, 0, rfl, HC1.out _ (by repeat (first | exact Below.refl _ _ | assumption | (refine below_drewN ?_ _) | (refine Below.drew ?_) | (refine Below.alloc ?_ (by first | omega | (simp; omega) | simp) _) | (refine Below.setCell ?_ (by first | omega | (simp; omega) | simp) _) | (refine below_trans ?_ (by assumption) (by first | omega | (simp; omega) | simp))))⟩) HP1.out (by omega) (by first | omega | (simp; omega) | simp) ?_
                    intro Aw4 capw4 w4 ownw4 hgr_w4 hb_w4 hs_w4
                    (try simp only [World.size_drew, World.heap_drewN, World.size_alloc] at hs_w4)
                    have jw40 : w4.cell? ⟨gb, 2, none⟩ = some (.int .u64 (sv : Nat)) := (hb_w4.cell (p := ⟨gb, 2, none⟩) (by first | omega | (simp; omega) | simp)).trans (by first | assumption | (simp [go_sem]; done) | exact (World.cell?_alloc_lt _ _ ⟨_, _, _⟩ (by first | omega | (simp; omega) | simp)).trans (by assumption) | exact (World.cell?_alloc_lt _ _ ⟨_, _, _⟩ (by first | omega | (simp; omega) | simp)).trans ((World.cell?_alloc_lt _ _ ⟨_, _, _⟩ (by first | omega | (simp; omega) | simp)).trans (by assumption)))
                    simp only [Nat.zero_add, List.nil_append] at ownw4
                    refine hK.out _ _ ?_ (fun hHeld => ?_)
                    · (try dsimp only); exact (by first | assumption | (simp [go_sem]; done) | exact (World.cell?_alloc_lt _ _ ⟨_, _, _⟩ (by first | omega | (simp; omega) | simp)).trans (by assumption) | exact (World.cell?_alloc_lt _ _ ⟨_, _, _⟩ (by first | omega | (simp; omega) | simp)).trans ((World.cell?_alloc_lt _ _ ⟨_, _, _⟩ (by first | omega | (simp; omega) | simp)).trans (by assumption)))
                    clear hK K
                    try simp only [Act.put, List.getElem_toArray, List.getElem_cons_zero, List.getElem_cons_succ, List.setIfInBounds_toArray, List.set_cons_zero, List.set_cons_succ]
                    refine wpAnyH_ready (rs := [7]) (by kernel_rfl) (by simp) ?_
                    refine AllReadyH.cons rfl (fun K hK => ?_) AllReadyH.nil
                    try simp only [List.getElem_toArray, List.getElem_cons_zero, List.getElem_cons_succ]
                    go_simp
                    refine hK.out _ _ ?_ (fun hHeld => ?_)
                    · (try dsimp only); exact (by first | assumption | (simp [go_sem]; done) | exact (World.cell?_alloc_lt _ _ ⟨_, _, _⟩ (by first | omega | (simp; omega) | simp)).trans (by assumption) | exact (World.cell?_alloc_lt _ _ ⟨_, _, _⟩ (by first | omega | (simp; omega) | simp)).trans ((World.cell?_alloc_lt _ _ ⟨_, _, _⟩ (by first | omega | (simp; omega) | simp)).trans (by assumption)))
                    clear hK K
                    try simp only [Act.put, List.getElem_toArray, List.getElem_cons_zero, List.getElem_cons_succ, List.setIfInBounds_toArray, List.set_cons_zero, List.set_cons_succ]
                    refine wpAnyH_ready (rs := [8]) (by kernel_rfl) (by simp) ?_
                    refine AllReadyH.cons rfl (fun K hK => ?_) AllReadyH.nil
                    try simp only [List.getElem_toArray, List.getElem_cons_zero, List.getElem_cons_succ]
                    rw [if_pos]
                    rotate_left
                    · rfl
                    refine wp_appendU (.tmp 55) (.tmp 58) (by rfl) W5.heap.size Aw4 (capw4) (n) (XP) (by simp [Act.eval, Act.put]) (ownw4.alloc _) (some ⟨w4.heap.size, 0, none⟩) (1) (1) ([.int .u64 (sv : Nat)]) (by simp [Act.eval, Act.put]) rfl (fun _ => ⟨w4.heap.size, 0, rfl, HS0.out _ _ (heap_alloc_new _ _)⟩) HX1.out (by omega) (by first | omega | (simp; omega) | simp) ?_
                    intro Aw8 capw8 w8 ownw8 hgr_w8 hb_w8 hs_w8
                    (try simp only [World.size_drew, World.heap_drewN, World.size_alloc] at hs_w8)
                    have jw80 : w8.cell? ⟨gb, 2, none⟩ = some (.int .u64 (sv : Nat)) := (hb_w8.cell (p := ⟨gb, 2, none⟩) (by first | omega | (simp; omega) | simp)).trans (by first | assumption | (simp [go_sem]; done) | exact (World.cell?_alloc_lt _ _ ⟨_, _, _⟩ (by first | omega | (simp; omega) | simp)).trans (by assumption) | exact (World.cell?_alloc_lt _ _ ⟨_, _, _⟩ (by first | omega | (simp; omega) | simp)).trans ((World.cell?_alloc_lt _ _ ⟨_, _, _⟩ (by first | omega | (simp; omega) | simp)).trans (by assumption)))
                    refine hK.out _ _ ?_ (fun hHeld => ?_)
                    · (try dsimp only); exact (by first | assumption | (simp [go_sem]; done) | exact (World.cell?_alloc_lt _ _ ⟨_, _, _⟩ (by first | omega | (simp; omega) | simp)).trans (by assumption) | exact (World.cell?_alloc_lt _ _ ⟨_, _, _⟩ (by first | omega | (simp; omega) | simp)).trans ((World.cell?_alloc_lt _ _ ⟨_, _, _⟩ (by first | omega | (simp; omega) | simp)).trans (by assumption)))
                    clear hK K
                    try simp only [Act.put, List.getElem_toArray, List.getElem_cons_zero, List.getElem_cons_succ, List.setIfInBounds_toArray, List.set_cons_zero, List.set_cons_succ]
                    refine wpAnyH_ready (rs := [12]) (by kernel_rfl) (by simp) ?_
                    refine AllReadyH.cons rfl (fun K hK => ?_) AllReadyH.nil
                    try simp only [List.getElem_toArray, List.getElem_cons_zero, List.getElem_cons_succ]
                    rw [if_pos]
                    rotate_left
                    · rfl
                    refine wp_appendU (.tmp 59) (.tmp 62) (by rfl) W5.heap.size Aw8 (capw8) (n + 1) (XP ++ [.int .u64 (sv : Nat)]) (by simp [Act.eval, Act.put]) (ownw8) (some ⟨gk, n, none⟩) (L - n) (cv - n) (XQ) (by simp [Act.eval, Act.put]) HLQ.out (fun _ => ⟨gk, n, rfl, HC2.out _ (by repeat (first | exact Below.refl _ _ | assumption | (refine below_drewN ?_ _) | (refine Below.drew ?_) | (refine Below.alloc ?_ (by first | omega | (simp; omega) | simp) _) | (refine Below.setCell ?_ (by first | omega | (simp; omega) | simp) _) | (refine below_trans ?_ (by assumption) (by first | omega | (simp; omega) | simp))))⟩) HQ1.out (by omega) (by first | omega | (simp; omega) | simp) ?_
                    intro Aw12 capw12 w12 ownw12 hgr_w12 hb_w12 hs_w12
                    (try simp only [World.size_drew, World.heap_drewN, World.size_alloc] at hs_w12)
                    have jw120 : w12.cell? ⟨gb, 2, none⟩ = some (.int .u64 (sv : Nat)) := (hb_w12.cell (p := ⟨gb, 2, none⟩) (by first | omega | (simp; omega) | simp)).trans (by first | assumption | (simp [go_sem]; done) | exact (World.cell?_alloc_lt _ _ ⟨_, _, _⟩ (by first | omega | (simp; omega) | simp)).trans (by assumption) | exact (World.cell?_alloc_lt _ _ ⟨_, _, _⟩ (by first | omega | (simp; omega) | simp)).trans ((World.cell?_alloc_lt _ _ ⟨_, _, _⟩ (by first | omega | (simp; omega) | simp)).trans (by assumption)))
                    try go_wp2_with fail
                    refine hK.out _ _ ?_ (fun hHeld => ?_)
                    · (try dsimp only); exact (by first | assumption | (simp [go_sem]; done) | exact (World.cell?_alloc_lt _ _ ⟨_, _, _⟩ (by first | omega | (simp; omega) | simp)).trans (by assumption) | exact (World.cell?_alloc_lt _ _ ⟨_, _, _⟩ (by first | omega | (simp; omega) | simp)).trans ((World.cell?_alloc_lt _ _ ⟨_, _, _⟩ (by first | omega | (simp; omega) | simp)).trans (by assumption)))
                    clear hK K
                    try simp only [Act.put, List.getElem_toArray, List.getElem_cons_zero, List.getElem_cons_succ, List.setIfInBounds_toArray, List.set_cons_zero, List.set_cons_succ]
                    refine wpAnyH_take (i := 13) (v := ?_) rfl (by kernel_rfl) (by kernel_rfl) (by kernel_rfl) (fun _ _ _ h => h) (Or.inl ⟨by rfl, ?_⟩) (by assumption) ?_
                    rotate_left
                    · (intro w hSw; (try dsimp only at hSw); go_simp; first | done | with_reducible rfl)
                    try simp only [Act.put, List.getElem_toArray, List.getElem_cons_zero, List.getElem_cons_succ, List.setIfInBounds_toArray, List.set_cons_zero, List.set_cons_succ]
                    refine wpAnyH_done (by kernel_rfl) ?_ _
                    have O6 : W5.heap.size ≤ w12.heap.size := (show Below W5.heap.size W5 w12 from (by repeat (first | exact Below.refl _ _ | assumption | (refine below_drewN ?_ _) | (refine Below.drew ?_) | (refine Below.alloc ?_ (by first | omega | (simp; omega) | simp) _) | (refine Below.setCell ?_ (by first | omega | (simp; omega) | simp) _) | (refine below_trans ?_ (by assumption) (by first | omega | (simp; omega) | simp))))).size
                    have O56 := Lib.hid (owns_laterN O5.out (show Below W5.heap.size W5 w12 from (by repeat (first | exact Below.refl _ _ | assumption | (refine below_drewN ?_ _) | (refine Below.drew ?_) | (refine Below.alloc ?_ (by first | omega | (simp; omega) | simp) _) | (refine Below.setCell ?_ (by first | omega | (simp; omega) | simp) _) | (refine below_trans ?_ (by assumption) (by first | omega | (simp; omega) | simp))))))
                    have HO12 := Lib.hid ownw12
                    have HB12 := below_trans hb5 (show Below W5.heap.size W5 w12 from (by repeat (first | exact Below.refl _ _ | assumption | (refine below_drewN ?_ _) | (refine Below.drew ?_) | (refine Below.alloc ?_ (by first | omega | (simp; omega) | simp) _) | (refine Below.setCell ?_ (by first | omega | (simp; omega) | simp) _) | (refine below_trans ?_ (by assumption) (by first | omega | (simp; omega) | simp))))) (by first | omega | (simp; omega) | simp)
                    clear ownw12 ownw8 ownw4 hgr_w4 hgr_w8 hgr_w12 HSRC HS0 HBK HBK3
                    go_wp2
                    go_roundw
                    case rel => exact ⟨k + 1, by go_num, by omega, _, L + 1, A5, Aw12, c5, capw12, Lib.hid HNEW.out, Lib.hid HLI.out, by omega, rfl, by rw [HN.out], O56.out, by rw [HN.out, HFIN.out]; exact owns_monoN HO12.out (by omega), by omega, HB12⟩
                    case measure => simp [intOf]; omega
                  · try simp only [List.getElem_toArray, List.getElem_cons_zero, List.getElem_cons_succ]
                    go_simp
                    refine hK.out _ _ ?_ (fun hHeld => ?_)
                    · (try dsimp only); exact (by first | assumption | (simp [go_sem]; done) | exact (World.cell?_alloc_lt _ _ ⟨_, _, _⟩ (by first | omega | (simp; omega) | simp)).trans (by assumption) | exact (World.cell?_alloc_lt _ _ ⟨_, _, _⟩ (by first | omega | (simp; omega) | simp)).trans ((World.cell?_alloc_lt _ _ ⟨_, _, _⟩ (by first | omega | (simp; omega) | simp)).trans (by assumption)))
                    clear hK K
                    try simp only [Act.put, List.getElem_toArray, List.getElem_cons_zero, List.getElem_cons_succ, List.setIfInBounds_toArray, List.set_cons_zero, List.set_cons_succ]
                    refine wpAnyH_ready (rs := [4]) (by kernel_rfl) (by simp) ?_
                    refine AllReadyH.cons rfl (fun K hK => ?_) AllReadyH.nil
                    try simp only [List.getElem_toArray, List.getElem_cons_zero, List.getElem_cons_succ]
                    rw [if_pos]
                    rotate_left
                    · rfl
                    refine wp_appendU (.tmp 51) (.tmp 54) (by rfl) W5.heap.size (some ⟨W5.heap.size, 0, none⟩) (0) (0) ([]) (by simp [Act.eval, Act.put]) ((own_emptyU W5 _ W5.heap.size (by first | omega | (simp; omega) | simp) rfl).alloc _) (some ⟨gk, 0, none⟩) (n) (cv) (XP) (by simp [Act.eval, Act.put]) HLP.out (fun _ => ⟨gk, 0, rfl, HC1.out _ (by repeat (first | exact Below.refl _ _ | assumption | (refine below_drewN ?_ _) | (refine Below.drew ?_) | (refine Below.alloc ?_ (by first | omega | (simp; omega) | simp) _) | (refine Below.setCell ?_ (by first | omega | (simp; omega) | simp) _) | (refine below_trans ?_ (by assumption) (by first | omega | (simp; omega) | simp))))⟩) HP1.out (by omega) (by first | omega | (simp; omega) | simp) ?_
                    intro Aw4 capw4 w4 ownw4 hgr_w4 hb_w4 hs_w4
                    (try simp only [World.size_drew, World.heap_drewN, World.size_alloc] at hs_w4)
                    have jw40 : w4.cell? ⟨gb, 2, none⟩ = some (.int .u64 (sv : Nat)) := (hb_w4.cell (p := ⟨gb, 2, none⟩) (by first | omega | (simp; omega) | simp)).trans (by first | assumption | (simp [go_sem]; done) | exact (World.cell?_alloc_lt _ _ ⟨_, _, _⟩ (by first | omega | (simp; omega) | simp)).trans (by assumption) | exact (World.cell?_alloc_lt _ _ ⟨_, _, _⟩ (by first | omega | (simp; omega) | simp)).trans ((World.cell?_alloc_lt _ _ ⟨_, _, _⟩ (by first | omega | (simp; omega) | simp)).trans (by assumption)))
                    simp only [Nat.zero_add, List.nil_append] at ownw4
                    refine hK.out _ _ ?_ (fun hHeld => ?_)
                    · (try dsimp only); exact (by first | assumption | (simp [go_sem]; done) | exact (World.cell?_alloc_lt _ _ ⟨_, _, _⟩ (by first | omega | (simp; omega) | simp)).trans (by assumption) | exact (World.cell?_alloc_lt _ _ ⟨_, _, _⟩ (by first | omega | (simp; omega) | simp)).trans ((World.cell?_alloc_lt _ _ ⟨_, _, _⟩ (by first | omega | (simp; omega) | simp)).trans (by assumption)))
                    clear hK K
                    try simp only [Act.put, List.getElem_toArray, List.getElem_cons_zero, List.getElem_cons_succ, List.setIfInBounds_toArray, List.set_cons_zero, List.set_cons_succ]
                    refine wpAnyH_ready (rs := [8]) (by kernel_rfl) (by simp) ?_
                    refine AllReadyH.cons rfl (fun K hK => ?_) AllReadyH.nil
                    try simp only [List.getElem_toArray, List.getElem_cons_zero, List.getElem_cons_succ]
                    rw [if_pos]
                    rotate_left
                    · rfl
                    refine wp_appendU (.tmp 55) (.tmp 58) (by rfl) W5.heap.size Aw4 (capw4) (n) (XP) (by simp [Act.eval, Act.put]) (ownw4) (some ⟨W5.heap.size + 1, 0, none⟩) (1) (1) ([.int .u64 (sv : Nat)]) (by simp [Act.eval, Act.put]) rfl (fun _ => ⟨W5.heap.size + 1, 0, rfl, HS0.out _ _ ((hgr_w4.block _ (by first | omega | (simp; omega) | simp) (by simp)).trans (by exact HBK.out _))⟩) HX1.out (by omega) (by first | omega | (simp; omega) | simp) ?_
                    intro Aw8 capw8 w8 ownw8 hgr_w8 hb_w8 hs_w8
                    (try simp only [World.size_drew, World.heap_drewN, World.size_alloc] at hs_w8)
                    have jw80 : w8.cell? ⟨gb, 2, none⟩ = some (.int .u64 (sv : Nat)) := (hb_w8.cell (p := ⟨gb, 2, none⟩) (by first | omega | (simp; omega) | simp)).trans (by first | assumption | (simp [go_sem]; done) | exact (World.cell?_alloc_lt _ _ ⟨_, _, _⟩ (by first | omega | (simp; omega) | simp)).trans (by assumption) | exact (World.cell?_alloc_lt _ _ ⟨_, _, _⟩ (by first | omega | (simp; omega) | simp)).trans ((World.cell?_alloc_lt _ _ ⟨_, _, _⟩ (by first | omega | (simp; omega) | simp)).trans (by assumption)))
                    refine hK.out _ _ ?_ (fun hHeld => ?_)
                    · (try dsimp only); exact (by first | assumption | (simp [go_sem]; done) | exact (World.cell?_alloc_lt _ _ ⟨_, _, _⟩ (by first | omega | (simp; omega) | simp)).trans (by assumption) | exact (World.cell?_alloc_lt _ _ ⟨_, _, _⟩ (by first | omega | (simp; omega) | simp)).trans ((World.cell?_alloc_lt _ _ ⟨_, _, _⟩ (by first | omega | (simp; omega) | simp)).trans (by assumption)))
                    clear hK K
                    try simp only [Act.put, List.getElem_toArray, List.getElem_cons_zero, List.getElem_cons_succ, List.setIfInBounds_toArray, List.set_cons_zero, List.set_cons_succ]
                    refine wpAnyH_ready (rs := [12]) (by kernel_rfl) (by simp) ?_
                    refine AllReadyH.cons rfl (fun K hK => ?_) AllReadyH.nil
                    try simp only [List.getElem_toArray, List.getElem_cons_zero, List.getElem_cons_succ]
                    rw [if_pos]
                    rotate_left
                    · rfl
                    refine wp_appendU (.tmp 59) (.tmp 62) (by rfl) W5.heap.size Aw8 (capw8) (n + 1) (XP ++ [.int .u64 (sv : Nat)]) (by simp [Act.eval, Act.put]) (ownw8) (some ⟨gk, n, none⟩) (L - n) (cv - n) (XQ) (by simp [Act.eval, Act.put]) HLQ.out (fun _ => ⟨gk, n, rfl, HC2.out _ (by repeat (first | exact Below.refl _ _ | assumption | (refine below_drewN ?_ _) | (refine Below.drew ?_) | (refine Below.alloc ?_ (by first | omega | (simp; omega) | simp) _) | (refine Below.setCell ?_ (by first | omega | (simp; omega) | simp) _) | (refine below_trans ?_ (by assumption) (by first | omega | (simp; omega) | simp))))⟩) HQ1.out (by omega) (by first | omega | (simp; omega) | simp) ?_
                    intro Aw12 capw12 w12 ownw12 hgr_w12 hb_w12 hs_w12
                    (try simp only [World.size_drew, World.heap_drewN, World.size_alloc] at hs_w12)
                    have jw120 : w12.cell? ⟨gb, 2, none⟩ = some (.int .u64 (sv : Nat)) := (hb_w12.cell (p := ⟨gb, 2, none⟩) (by first | omega | (simp; omega) | simp)).trans (by first | assumption | (simp [go_sem]; done) | exact (World.cell?_alloc_lt _ _ ⟨_, _, _⟩ (by first | omega | (simp; omega) | simp)).trans (by assumption) | exact (World.cell?_alloc_lt _ _ ⟨_, _, _⟩ (by first | omega | (simp; omega) | simp)).trans ((World.cell?_alloc_lt _ _ ⟨_, _, _⟩ (by first | omega | (simp; omega) | simp)).trans (by assumption)))
                    try go_wp2_with fail
                    refine hK.out _ _ ?_ (fun hHeld => ?_)
                    · (try dsimp only); exact (by first | assumption | (simp [go_sem]; done) | exact (World.cell?_alloc_lt _ _ ⟨_, _, _⟩ (by first | omega | (simp; omega) | simp)).trans (by assumption) | exact (World.cell?_alloc_lt _ _ ⟨_, _, _⟩ (by first | omega | (simp; omega) | simp)).trans ((World.cell?_alloc_lt _ _ ⟨_, _, _⟩ (by first | omega | (simp; omega) | simp)).trans (by assumption)))
                    clear hK K
                    try simp only [Act.put, List.getElem_toArray, List.getElem_cons_zero, List.getElem_cons_succ, List.setIfInBounds_toArray, List.set_cons_zero, List.set_cons_succ]
                    refine wpAnyH_take (i := 13) (v := ?_) rfl (by kernel_rfl) (by kernel_rfl) (by kernel_rfl) (fun _ _ _ h => h) (Or.inl ⟨by rfl, ?_⟩) (by assumption) ?_
                    rotate_left
                    · (intro w hSw; (try dsimp only at hSw); go_simp; first | done | with_reducible rfl)
                    try simp only [Act.put, List.getElem_toArray, List.getElem_cons_zero, List.getElem_cons_succ, List.setIfInBounds_toArray, List.set_cons_zero, List.set_cons_succ]
                    refine wpAnyH_done (by kernel_rfl) ?_ _
                    have O6 : W5.heap.size ≤ w12.heap.size := (show Below W5.heap.size W5 w12 from (by repeat (first | exact Below.refl _ _ | assumption | (refine below_drewN ?_ _) | (refine Below.drew ?_) | (refine Below.alloc ?_ (by first | omega | (simp; omega) | simp) _) | (refine Below.setCell ?_ (by first | omega | (simp; omega) | simp) _) | (refine below_trans ?_ (by assumption) (by first | omega | (simp; omega) | simp))))).size
                    have O56 := Lib.hid (owns_laterN O5.out (show Below W5.heap.size W5 w12 from (by repeat (first | exact Below.refl _ _ | assumption | (refine below_drewN ?_ _) | (refine Below.drew ?_) | (refine Below.alloc ?_ (by first | omega | (simp; omega) | simp) _) | (refine Below.setCell ?_ (by first | omega | (simp; omega) | simp) _) | (refine below_trans ?_ (by assumption) (by first | omega | (simp; omega) | simp))))))
                    have HO12 := Lib.hid ownw12
                    have HB12 := below_trans hb5 (show Below W5.heap.size W5 w12 from (by repeat (first | exact Below.refl _ _ | assumption | (refine below_drewN ?_ _) | (refine Below.drew ?_) | (refine Below.alloc ?_ (by first | omega | (simp; omega) | simp) _) | (refine Below.setCell ?_ (by first | omega | (simp; omega) | simp) _) | (refine below_trans ?_ (by assumption) (by first | omega | (simp; omega) | simp))))) (by first | omega | (simp; omega) | simp)
                    clear ownw12 ownw8 ownw4 hgr_w4 hgr_w8 hgr_w12 HSRC HS0 HBK HBK3
                    go_wp2
                    go_roundw
                    case rel => exact ⟨k + 1, by go_num, by omega, _, L + 1, A5, Aw12, c5, capw12, Lib.hid HNEW.out, Lib.hid HLI.out, by omega, rfl, by rw [HN.out], O56.out, by rw [HN.out, HFIN.out]; exact owns_monoN HO12.out (by omega), by omega, HB12⟩
                    case measure => simp [intOf]; omega
                · try simp only [List.getElem_toArray, List.getElem_cons_zero, List.getElem_cons_succ]
                  go_simp
                  refine hK.out _ _ ?_ (fun hHeld => ?_)
                  · (try dsimp only); exact (by first | assumption | (simp [go_sem]; done) | exact (World.cell?_alloc_lt _ _ ⟨_, _, _⟩ (by first | omega | (simp; omega) | simp)).trans (by assumption) | exact (World.cell?_alloc_lt _ _ ⟨_, _, _⟩ (by first | omega | (simp; omega) | simp)).trans ((World.cell?_alloc_lt _ _ ⟨_, _, _⟩ (by first | omega | (simp; omega) | simp)).trans (by assumption)))
                  clear hK K
                  try simp only [Act.put, List.getElem_toArray, List.getElem_cons_zero, List.getElem_cons_succ, List.setIfInBounds_toArray, List.set_cons_zero, List.set_cons_succ]
                  refine wpAnyH_ready (rs := [0]) (by kernel_rfl) (by simp) ?_
                  refine AllReadyH.cons rfl (fun K hK => ?_) AllReadyH.nil
                  try simp only [List.getElem_toArray, List.getElem_cons_zero, List.getElem_cons_succ]
                  go_simp
                  refine hK.out _ _ ?_ (fun hHeld => ?_)
                  · (try dsimp only); exact (by first | assumption | (simp [go_sem]; done) | exact (World.cell?_alloc_lt _ _ ⟨_, _, _⟩ (by first | omega | (simp; omega) | simp)).trans (by assumption) | exact (World.cell?_alloc_lt _ _ ⟨_, _, _⟩ (by first | omega | (simp; omega) | simp)).trans ((World.cell?_alloc_lt _ _ ⟨_, _, _⟩ (by first | omega | (simp; omega) | simp)).trans (by assumption)))
                  clear hK K
                  try simp only [Act.put, List.getElem_toArray, List.getElem_cons_zero, List.getElem_cons_succ, List.setIfInBounds_toArray, List.set_cons_zero, List.set_cons_succ]
                  refine wpAnyH_ready (rs := [4]) (by kernel_rfl) (by simp) ?_
                  refine AllReadyH.cons rfl (fun K hK => ?_) AllReadyH.nil
                  try simp only [List.getElem_toArray, List.getElem_cons_zero, List.getElem_cons_succ]
                  rw [if_pos]
                  rotate_left
                  · rfl
                  refine wp_appendU (.tmp 51) (.tmp 54) (by rfl) W5.heap.size (some ⟨W5.heap.size + 1, 0, none⟩) (0) (0) ([]) (by simp [Act.eval, Act.put]) (own_emptyUG (W5.alloc (.cells #[.int .u64 (sv : Nat)] 25)) _ (W5.heap.size + 1) W5.heap.size (by simp) (by first | omega | (simp; omega) | simp) rfl) (some ⟨gk, 0, none⟩) (n) (cv) (XP) (by simp [Act.eval, Act.put]) HLP.out (fun _ => ⟨gk, 0, rfl, HC1.out _ (by repeat (first | exact Below.refl _ _ | assumption | (refine below_drewN ?_ _) | (refine Below.drew ?_) | (refine Below.alloc ?_ (by first | omega | (simp; omega) | simp) _) | (refine Below.setCell ?_ (by first | omega | (simp; omega) | simp) _) | (refine below_trans ?_ (by assumption) (by first | omega | (simp; omega) | simp))))⟩) HP1.out (by omega) (by first | omega | (simp; omega) | simp) ?_
                  intro Aw4 capw4 w4 ownw4 hgr_w4 hb_w4 hs_w4
                  (try simp only [World.size_drew, World.heap_drewN, World.size_alloc] at hs_w4)
                  have jw40 : w4.cell? ⟨gb, 2, none⟩ = some (.int .u64 (sv : Nat)) := (hb_w4.cell (p := ⟨gb, 2, none⟩) (by first | omega | (simp; omega) | simp)).trans (by first | assumption | (simp [go_sem]; done) | exact (World.cell?_alloc_lt _ _ ⟨_, _, _⟩ (by first | omega | (simp; omega) | simp)).trans (by assumption) | exact (World.cell?_alloc_lt _ _ ⟨_, _, _⟩ (by first | omega | (simp; omega) | simp)).trans ((World.cell?_alloc_lt _ _ ⟨_, _, _⟩ (by first | omega | (simp; omega) | simp)).trans (by assumption)))
                  simp only [Nat.zero_add, List.nil_append] at ownw4
                  refine hK.out _ _ ?_ (fun hHeld => ?_)
                  · (try dsimp only); exact (by first | assumption | (simp [go_sem]; done) | exact (World.cell?_alloc_lt _ _ ⟨_, _, _⟩ (by first | omega | (simp; omega) | simp)).trans (by assumption) | exact (World.cell?_alloc_lt _ _ ⟨_, _, _⟩ (by first | omega | (simp; omega) | simp)).trans ((World.cell?_alloc_lt _ _ ⟨_, _, _⟩ (by first | omega | (simp; omega) | simp)).trans (by assumption)))
                  clear hK K
                  try simp only [Act.put, List.getElem_toArray, List.getElem_cons_zero, List.getElem_cons_succ, List.setIfInBounds_toArray, List.set_cons_zero, List.set_cons_succ]
                  refine wpAnyH_ready (rs := [8]) (by kernel_rfl) (by simp) ?_
                  refine AllReadyH.cons rfl (fun K hK => ?_) AllReadyH.nil
                  try simp only [List.getElem_toArray, List.getElem_cons_zero, List.getElem_cons_succ]
                  rw [if_pos]
                  rotate_left
                  · rfl
                  refine wp_appendU (.tmp 55) (.tmp 58) (by rfl) W5.heap.size Aw4 (capw4) (n) (XP) (by simp [Act.eval, Act.put]) (ownw4) (some ⟨W5.heap.size, 0, none⟩) (1) (1) ([.int .u64 (sv : Nat)]) (by simp [Act.eval, Act.put]) rfl (fun _ => ⟨W5.heap.size, 0, rfl, HS0.out _ _ ((hgr_w4.block _ (by first | omega | (simp; omega) | simp) (by simp)).trans (by exact HBK3.out _))⟩) HX1.out (by omega) (by first | omega | (simp; omega) | simp) ?_
                  intro Aw8 capw8 w8 ownw8 hgr_w8 hb_w8 hs_w8
                  (try simp only [World.size_drew, World.heap_drewN, World.size_alloc] at hs_w8)
                  have jw80 : w8.cell? ⟨gb, 2, none⟩ = some (.int .u64 (sv : Nat)) := (hb_w8.cell (p := ⟨gb, 2, none⟩) (by first | omega | (simp; omega) | simp)).trans (by first | assumption | (simp [go_sem]; done) | exact (World.cell?_alloc_lt _ _ ⟨_, _, _⟩ (by first | omega | (simp; omega) | simp)).trans (by assumption) | exact (World.cell?_alloc_lt _ _ ⟨_, _, _⟩ (by first | omega | (simp; omega) | simp)).trans ((World.cell?_alloc_lt _ _ ⟨_, _, _⟩ (by first | omega | (simp; omega) | simp)).trans (by assumption)))
                  refine hK.out _ _ ?_ (fun hHeld => ?_)
                  · (try dsimp only); exact (by first | assumption | (simp [go_sem]; done) | exact (World.cell?_alloc_lt _ _ ⟨_, _, _⟩ (by first | omega | (simp; omega) | simp)).trans (by assumption) | exact (World.cell?_alloc_lt _ _ ⟨_, _, _⟩ (by first | omega | (simp; omega) | simp)).trans ((World.cell?_alloc_lt _ _ ⟨_, _, _⟩ (by first | omega | (simp; omega) | simp)).trans (by assumption)))
                  clear hK K
                  try simp only [Act.put, List.getElem_toArray, List.getElem_cons_zero, List.getElem_cons_succ, List.setIfInBounds_toArray, List.set_cons_zero, List.set_cons_succ]
                  refine wpAnyH_ready (rs := [12]) (by kernel_rfl) (by simp) ?_
                  refine AllReadyH.cons rfl (fun K hK => ?_) AllReadyH.nil
                  try simp only [List.getElem_toArray, List.getElem_cons_zero, List.getElem_cons_succ]
                  rw [if_pos]
                  rotate_left
                  · rfl
                  refine wp_appendU (.tmp 59) (.tmp 62) (by rfl) W5.heap.size Aw8 (capw8) (n + 1) (XP ++ [.int .u64 (sv : Nat)]) (by simp [Act.eval, Act.put]) (ownw8) (some ⟨gk, n, none⟩) (L - n) (cv - n) (XQ) (by simp [Act.eval, Act.put]) HLQ.out (fun _ => ⟨gk, n, rfl, HC2.out _ (by repeat (first | exact Below.refl _ _ | assumption | (refine below_drewN ?_ _) | (refine Below.drew ?_) | (refine Below.alloc ?_ (by first | omega | (simp; omega) | simp) _) | (refine Below.setCell ?_ (by first | omega | (simp; omega) | simp) _) | (refine below_trans ?_ (by assumption) (by first | omega | (simp; omega) | simp))))⟩) HQ1.out (by omega) (by first | omega | (simp; omega) | simp) ?_
                  intro Aw12 capw12 w12 ownw12 hgr_w12 hb_w12 hs_w12
                  (try simp only [World.size_drew, World.heap_drewN, World.size_alloc] at hs_w12)
                  have jw120 : w12.cell? ⟨gb, 2, none⟩ = some (.int .u64 (sv : Nat)) := (hb_w12.cell (p := ⟨gb, 2, none⟩) (by first | omega | (simp; omega) | simp)).trans (by first | assumption | (simp [go_sem]; done) | exact (World.cell?_alloc_lt _ _ ⟨_, _, _⟩ (by first | omega | (simp; omega) | simp)).trans (by assumption) | exact (World.cell?_alloc_lt _ _ ⟨_, _, _⟩ (by first | omega | (simp; omega) | simp)).trans ((World.cell?_alloc_lt _ _ ⟨_, _, _⟩ (by first | omega | (simp; omega) | simp)).trans (by assumption)))
                  try go_wp2_with fail
                  refine hK.out _ _ ?_ (fun hHeld => ?_)
                  · (try dsimp only); exact (by first | assumption | (simp [go_sem]; done) | exact (World.cell?_alloc_lt _ _ ⟨_, _, _⟩ (by first | omega | (simp; omega) | simp)).trans (by assumption) | exact (World.cell?_alloc_lt _ _ ⟨_, _, _⟩ (by first | omega | (simp; omega) | simp)).trans ((World.cell?_alloc_lt _ _ ⟨_, _, _⟩ (by first | omega | (simp; omega) | simp)).trans (by assumption)))
                  clear hK K
                  try simp only [Act.put, List.getElem_toArray, List.getElem_cons_zero, List.getElem_cons_succ, List.setIfInBounds_toArray, List.set_cons_zero, List.set_cons_succ]
                  refine wpAnyH_take (i := 13) (v := ?_) rfl (by kernel_rfl) (by kernel_rfl) (by kernel_rfl) (fun _ _ _ h => h) (Or.inl ⟨by rfl, ?_⟩) (by assumption) ?_
                  rotate_left
                  · (intro w hSw; (try dsimp only at hSw); go_simp; first | done | with_reducible rfl)
                  try simp only [Act.put, List.getElem_toArray, List.getElem_cons_zero, List.getElem_cons_succ, List.setIfInBounds_toArray, List.set_cons_zero, List.set_cons_succ]
                  refine wpAnyH_done (by kernel_rfl) ?_ _
                  have O6 : W5.heap.size ≤ w12.heap.size := (show Below W5.heap.size W5 w12 from (by repeat (first | exact Below.refl _ _ | assumption | (refine below_drewN ?_ _) | (refine Below.drew ?_) | (refine Below.alloc ?_ (by first | omega | (simp; omega) | simp) _) | (refine Below.setCell ?_ (by first | omega | (simp; omega) | simp) _) | (refine below_trans ?_ (by assumption) (by first | omega | (simp; omega) | simp))))).size
                  have O56 := Lib.hid (owns_laterN O5.out (show Below W5.heap.size W5 w12 from (by repeat (first | exact Below.refl _ _ | assumption | (refine below_drewN ?_ _) | (refine Below.drew ?_) | (refine Below.alloc ?_ (by first | omega | (simp; omega) | simp) _) | (refine Below.setCell ?_ (by first | omega | (simp; omega) | simp) _) | (refine below_trans ?_ (by assumption) (by first | omega | (simp; omega) | simp))))))
                  have HO12 := Lib.hid ownw12
                  have HB12 := below_trans hb5 (show Below W5.heap.size W5 w12 from (by repeat (first | exact Below.refl _ _ | assumption | (refine below_drewN ?_ _) | (refine Below.drew ?_) | (refine Below.alloc ?_ (by first | omega | (simp; omega) | simp) _) | (refine Below.setCell ?_ (by first | omega | (simp; omega) | simp) _) | (refine below_trans ?_ (by assumption) (by first | omega | (simp; omega) | simp))))) (by first | omega | (simp; omega) | simp)
                  clear ownw12 ownw8 ownw4 hgr_w4 hgr_w8 hgr_w12 HSRC HS0 HBK HBK3
                  go_wp2
                  go_roundw
                  case rel => exact ⟨k + 1, by go_num, by omega, _, L + 1, A5, Aw12, c5, capw12, Lib.hid HNEW.out, Lib.hid HLI.out, by omega, rfl, by rw [HN.out], O56.out, by rw [HN.out, HFIN.out]; exact owns_monoN HO12.out (by omega), by omega, HB12⟩
                  case measure => simp [intOf]; omega
      · have HI1 := Lib.hid (HSKk h1 hI.out)
        have f1 : ((s.s : Int) != 1) = true := by simpa using (fun h => h1 (by omega))
        obtain ⟨ss, sk, sv⟩ := s
        simp only at c0 c1 c2 f1
        clear HSKk HADDk h1
        go_wp2
        go_roundw
        case rel => exact ⟨k + 1, by go_num, by omega, ts, L, K, V, ck, cv, Lib.hid HI1.out, hLn, by omega, rfl, rfl, owns_laterN OK9.out (by repeat (first | exact Below.refl _ _ | assumption | (refine below_drewN ?_ _) | (refine Below.drew ?_) | (refine Below.alloc ?_ (by first | omega | (simp; omega) | simp) _) | (refine Below.setCell ?_ (by first | omega | (simp; omega) | simp) _) | (refine below_trans ?_ (by assumption) (by first | omega | (simp; omega) | simp)))), owns_laterN OV9.out (by repeat (first | exact Below.refl _ _ | assumption | (refine below_drewN ?_ _) | (refine Below.drew ?_) | (refine Below.alloc ?_ (by first | omega | (simp; omega) | simp) _) | (refine Below.setCell ?_ (by first | omega | (simp; omega) | simp) _) | (refine below_trans ?_ (by assumption) (by first | omega | (simp; omega) | simp)))), (by first | omega | (simp; omega) | simp), (by repeat (first | exact Below.refl _ _ | assumption | (refine below_drewN ?_ _) | (refine Below.drew ?_) | (refine Below.alloc ?_ (by first | omega | (simp; omega) | simp) _) | (refine Below.setCell ?_ (by first | omega | (simp; omega) | simp) _) | (refine below_trans ?_ (by assumption) (by first | omega | (simp; omega) | simp))))⟩
        case measure => simp [intOf]; omega
    · obtain rfl : k = l.length := by omega
      have HWD9 := Lib.hid (HWD.out _ _ hI.out)
      have HSRT := Lib.hid (HEND.out _ hI.out)
      have HL1 : Hid ((keysE ts).length = L) := Lib.hid (by rw [← hLn.out]; simp [keysE])
      have HL2 : Hid ((valsE ts).length = L) := Lib.hid (by rw [← hLn.out]; simp [valsE])
      go_wp2
      go_ret3
      refine ⟨ts, K, V, ck, cv, HSRT.out, HWD9.out, by rw [HL1.out, HL2.out]; rfl, ⟨rfl, fun x hx => ?_, by rw [HL1.out]; exact owns_monoN OK9.out (by omega)⟩, ⟨rfl, fun x hx => ?_, by rw [HL2.out]; exact owns_monoN OV9.out (by omega)⟩, below_trans b1 hb_wr (by omega)⟩
      · simp only [keysE, List.mem_map] at hx
        obtain ⟨s, hs, rfl⟩ := hx
        exact (HWD9.out s hs).2.1
      · simp only [valsE, List.mem_map] at hx
        obtain ⟨s, hs, rfl⟩ := hx
        exact (HWD9.out s hs).2.2
end
end Go.Proofs.YtloemeinpknamaaDoor
