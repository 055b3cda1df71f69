/- The walk of the law EphemAll. -/
import Derived.Test.YtloemeinpknamaaDoorY21
import Derived.Test.YtloemeinpknamaaDoorY22
namespace Go.Proofs.YtloemeinpknamaaDoor
open Go.RowKit
set_option linter.unusedVariables false
set_option linter.unusedSimpArgs false

theorem srt_get {l vs : List Es} (hs : Srt l vs) {i : Nat} (hi : i < vs.length) : Has l (nthE vs i).k (nthE vs i).v := by
  rw [us_has]
  have hm : nthE vs i ∈ us l := hs.1.mem_iff.1 (nthE_mem vs i hi)
  obtain ⟨j, hj, e⟩ := List.getElem_of_mem hm
  exact ⟨j, hj, by rw [nthE_get _ _ hj, e], by rw [nthE_get _ _ hj, e]⟩
theorem srt_has {l vs : List Es} (hs : Srt l vs) {k v : Nat} (h : Has l k v) : ∃ i, i < vs.length ∧ (nthE vs i).k = k ∧ (nthE vs i).v = v := by
  rw [us_has] at h
  obtain ⟨j, hj, e1, e2⟩ := h
  have hm : nthE (us l) j ∈ vs := hs.1.mem_iff.2 (nthE_mem _ j hj)
  obtain ⟨i, hi, e⟩ := List.getElem_of_mem hm
  exact ⟨i, hi, by rw [nthE_get _ _ hi, e, e1], by rw [nthE_get _ _ hi, e, e2]⟩
theorem srt_rise {l vs : List Es} (hok : OkT l) (hs : Srt l vs) {i j : Nat} (hij : i < j) (hj : j < vs.length) : (nthE vs i).k < (nthE vs j).k := by
  have h1 := hs.2 i j hij hj
  have hlen : vs.length = (us l).length := hs.1.length_eq
  have hp : vs.Pairwise fun a b => a.k ≠ b.k := (hs.1.pairwise_iff (fun h => Ne.symm h)).2 (us_pair (hok.gd (by omega)))
  have h2 := List.pairwise_iff_getElem.1 hp i j (by omega) hj hij
  rw [nthE_get _ _ hj, nthE_get _ _ (by omega : i < vs.length)] at *
  omega
def anyK (vs : List Es) (other k : Nat) : Bool := (vs.take k).any fun s => s.k == other
theorem anyK_succ (vs : List Es) (other k : Nat) (hk : k < vs.length) : anyK vs other (k + 1) = (anyK vs other k || (nthE vs k).k == other) := by
  unfold anyK
  rw [take_nthE vs k hk, List.any_append]
  simp
theorem anyK_all {l vs : List Es} (hs : Srt l vs) (other : Nat) : anyK vs other vs.length = true ↔ ∃ v, Has l other v := by
  unfold anyK
  rw [List.take_length, List.any_eq_true]
  constructor
  · rintro ⟨s, hm, e⟩
    obtain ⟨i, hi, rfl⟩ := List.getElem_of_mem hm
    have := srt_get hs hi
    rw [nthE_get _ _ hi] at this
    have e : vs[i].k = other := by simpa using e
    rw [e] at this
    exact ⟨_, this⟩
  · rintro ⟨v, h⟩
    obtain ⟨i, hi, e, _⟩ := srt_has hs h
    exact ⟨nthE vs i, nthE_mem vs i hi, by simpa using e⟩
theorem keysE_at (vs : List Es) (i : Nat) (hi : i < vs.length) : (keysE vs).getD i 0 = (nthE vs i).k := by
  unfold keysE nthE
  simp [List.getD_eq_getElem?_getD, hi]
theorem valsE_at (vs : List Es) (i : Nat) (hi : i < vs.length) : (valsE vs).getD i 0 = (nthE vs i).v := by
  unfold valsE nthE
  simp [List.getD_eq_getElem?_getD, hi]
theorem keysE_len (vs : List Es) : (keysE vs).length = vs.length := by simp [keysE]
theorem valsE_len (vs : List Es) : (valsE vs).length = vs.length := by simp [valsE]
/-- All, where all is right, with what the laws read of its answer -/
theorem eall_rows {w : World} {A : Option Addr} {l : List Es} (cap : Nat) (hT : Tz w) (hr : ERow w w.heap.size A l) (hl : l.length ≤ 5864062014805) (hn : A = none → cap = 0) (hok : OkT l) :
    Calls Tryd.prog 19 #[eph A l.length cap] w fun e w' => ∃ (vs : List Es) (K V : Option Addr) (ck cv : Nat), Hid (Srt l vs) ∧ vs.length = useds l ∧ e = .returned (.tuple #[.slice K vs.length ck, .slice V vs.length cv, .int .i64 0]) ∧ Row w' w'.heap.size K (keysE vs) ∧ Row w' w'.heap.size V (valsE vs) ∧ Below w.heap.size w w' := by
  refine (eall_any cap hT hr hl hn hok).mono ?_
  rintro e w' ⟨vs, K, V, ck, cv, hs, hwd, rfl, oK, oV, hb⟩
  exact ⟨vs, K, V, ck, cv, Lib.hid hs, by rw [hs.1.length_eq, us_len], by rw [keysE_len, valsE_len], oK.row, oV.row, hb⟩
set_option maxHeartbeats 2000000 in
set_option maxRecDepth 100000 in
theorem ephemAll_walk (A : Option Addr) (cap : Nat) (l : List Es) (other : Nat) (w : World) (hT : Tz w) (hr : ERow w w.heap.size A l) (hl : l.length ≤ 5864062014805) (hnil : A = none → cap = 0) (hoth : other < W64) :
    Calls Tryd.prog 7 #[eph A l.length cap, .int .u64 (other : Nat)] w fun e w' => e = .returned (.bool true) ∧ Below w.heap.size w w' := by
  by_cases hok : OkT l
  · have HA := Lib.hid fun (w : World) hT hr => eall_rows (w := w) (A := A) (l := l) cap hT hr hl hnil hok
    have HG := Lib.hid fun (w : World) hT hr key v y hE => eget_any (w := w) (A := A) (l := l) cap hT hr hl hnil key v y hE
    obtain ⟨x, y, hGo⟩ := GetT.ex l other
    have hu64 : useds l ≤ 64 := by have := useds_le l; have := hok.le; omega
    have HK := Lib.hid hok
    clear hok
    unfold eph at *
    go_enter Tryd.func7, Tryd.ntmps7
    go_wp2_with fail
    go_at_call 15
    refine (elives_any _ (hT.later (by repeat (first | exact Below.refl _ _ | assumption | (refine below_drewN ?_ _) | (refine Below.drew ?_) | (refine Below.alloc ?_ (by first | omega | (simp; omega) | simp) _) | (refine Below.setCell ?_ (by first | omega | (simp; omega) | simp) _) | (refine below_trans ?_ (by assumption) (by first | omega | (simp; omega) | simp)))))).mono ?_
    rintro e w0 ⟨rfl, hb_w0⟩
    obtain ⟨hc_w0, hf_w0⟩ := bcell hb_w0; have hs_w0 := hb_w0.size; (try simp only [World.size_alloc, World.size_setCell, World.size_drew, World.heap_drewN] at hs_w0)
    have k_w0 : Below w.heap.size w w0 := (by repeat (first | exact Below.refl _ _ | assumption | (refine below_drewN ?_ _) | (refine Below.drew ?_) | (refine Below.alloc ?_ (by first | omega | (simp; omega) | simp) _) | (refine Below.setCell ?_ (by first | omega | (simp; omega) | simp) _) | (refine below_trans ?_ (by assumption) (by first | omega | (simp; omega) | simp))))
    have b_w0 := k_w0
    have P2 := ((Bx.new w _ _).later hb_w0 : Bx w0 _ _)
    (try simp only [World.size_alloc] at P2)
    clear hc_w0 hf_w0
    obtain ⟨P2_c, P2_f⟩ := id P2
    have P2_l := P2.lt
    go_wp2_with fail
    go_at_call 19
    refine (HA.out _ (hT.later (by repeat (first | exact Below.refl _ _ | assumption | (refine below_drewN ?_ _) | (refine Below.drew ?_) | (refine Below.alloc ?_ (by first | omega | (simp; omega) | simp) _) | (refine Below.setCell ?_ (by first | omega | (simp; omega) | simp) _) | (refine below_trans ?_ (by assumption) (by first | omega | (simp; omega) | simp))))) (hr.later (by repeat (first | exact Below.refl _ _ | assumption | (refine below_drewN ?_ _) | (refine Below.drew ?_) | (refine Below.alloc ?_ (by first | omega | (simp; omega) | simp) _) | (refine Below.setCell ?_ (by first | omega | (simp; omega) | simp) _) | (refine below_trans ?_ (by assumption) (by first | omega | (simp; omega) | simp)))))).mono ?_
    rintro e w2 ⟨vs, K, V, ck, cv, hs, hwd, rfl, rK, rV, hb_w2⟩
    obtain ⟨hc_w2, hf_w2⟩ := bcell hb_w2; have hs_w2 := hb_w2.size; (try simp only [World.size_alloc, World.size_setCell, World.size_drew, World.heap_drewN] at hs_w2)
    have k_w2 : Below w0.heap.size w0 w2 := (by repeat (first | exact Below.refl _ _ | assumption | (refine below_drewN ?_ _) | (refine Below.drew ?_) | (refine Below.alloc ?_ (by first | omega | (simp; omega) | simp) _) | (refine Below.setCell ?_ (by first | omega | (simp; omega) | simp) _) | (refine below_trans ?_ (by assumption) (by first | omega | (simp; omega) | simp))))
    have b_w2 : Below w.heap.size w w2 := below_trans b_w0 k_w2 (by first | omega | (simp; omega) | simp)
    clear P2_c P2_f P2_l
    have P2 := (P2.later k_w2 : Bx w2 _ _)
    clear hc_w2 hf_w2
    obtain ⟨P2_c, P2_f⟩ := id P2
    have P2_l := P2.lt
    have P' := Lib.hid P2
    have HFIN : Hid ((anyK vs other vs.length = true ∧ (y == 0) = true) ∨ (anyK vs other vs.length = false ∧ (y == 0) = false)) := by
      refine Lib.hid ?_
      by_cases h : ∃ v, Has l other v
      · refine .inl ⟨(anyK_all hs.out other).2 h, ?_⟩
        rcases hGo.has HK.out with ⟨h1, _⟩ | ⟨_, _, h1⟩
        · rw [h1]; rfl
        · exact absurd h h1
      · refine .inr ⟨Bool.eq_false_iff.2 fun h9 => h ((anyK_all hs.out other).1 h9), ?_⟩
        rcases hGo.has HK.out with ⟨_, h1⟩ | ⟨h1, _⟩
        · exact absurd ⟨_, h1⟩ h
        · rcases h1 with ⟨h1, _⟩ | ⟨h1, _⟩ <;> rw [h1] <;> rfl
    have HGO := Lib.hid fun (w : World) hT hr => HG.out w hT hr other x y hGo
    have HGK := Lib.hid fun (k : Nat) (hk : k < vs.length) (w : World) hT hr => HG.out w hT hr _ _ 0 (GetT.of_has HK.out (srt_get hs.out hk))
    have HAS := Lib.hid fun k hk => anyK_succ vs other k hk
    have HRI := Lib.hid fun (i j : Nat) (hij : i < j) (hj : j < vs.length) => srt_rise HK.out hs.out hij hj
    have HA0 : Hid (anyK vs other 0 = false) := Lib.hid (by simp [anyK])
    have hsz2 := b_w2.size
    clear HA HG hGo hs P2_c P2_f P2_l P2
    go_wp2_with fail
    go_loopw [8, 30] (fun ss ii wr => ∃ k : Nat, ii = .int .i64 (k : Nat) ∧ k ≤ vs.length ∧ ss = .bool (anyK vs other k) ∧ Bx wr w.heap.size (.slice A l.length cap) ∧ w2.heap.size ≤ wr.heap.size ∧ Below w2.heap.size w2 wr) (fun ss ii _ => vs.length - (intOf ii).toNat)
    case atStart => exact ⟨0, rfl, Nat.zero_le _, by rw [HA0.out], P'.out, (by first | omega | (simp; omega) | simp), (by repeat (first | exact Below.refl _ _ | assumption | (refine below_drewN ?_ _) | (refine Below.drew ?_) | (refine Below.alloc ?_ (by first | omega | (simp; omega) | simp) _) | (refine Below.setCell ?_ (by first | omega | (simp; omega) | simp) _) | (refine below_trans ?_ (by assumption) (by first | omega | (simp; omega) | simp))))⟩
    case round =>
      clear P'
      obtain ⟨k, rfl, hk, rfl, P, hsz, hb_wr⟩ := hrel
      have hsr := hb_wr.size
      have b_wr : Below w.heap.size w wr := below_trans b_w2 hb_wr (by first | omega | (simp; omega) | simp)
      have hTr := hT.later b_wr
      have hrr := hr.later b_wr
      obtain ⟨p0, p1⟩ := id P
      have p2 := P.lt
      by_cases hlt : k < vs.length
      · obtain ⟨b, off, rfl, hbb, hcK⟩ := (rK.later hb_wr).at_ (by rw [keysE_len]; omega)
        obtain ⟨b', off', rfl, hbb', hcV⟩ := (rV.later hb_wr).at_ (by rw [valsE_len]; omega)
        have k0 := hcK k (by rw [keysE_len]; exact hlt)
        have v0 := hcV k (by rw [valsE_len]; exact hlt)
        rw [keysE_at _ _ hlt] at k0
        rw [valsE_at _ _ hlt] at v0
        have HPV : Hid (0 < k → ∃ pa, wr.cell? ⟨b, off + (k - 1), none⟩ = some (.int .u64 (pa : Nat)) ∧ pa < (nthE vs k).k) := Lib.hid fun h0 => by
          have := hcK (k - 1) (by rw [keysE_len]; omega)
          rw [keysE_at _ _ (by omega)] at this
          exact ⟨_, this, HRI.out (k - 1) k (by omega) hlt⟩
        have HGk := Lib.hid fun (w : World) hT hr => HGK.out k hlt w hT hr
        have hsu := HAS.out k hlt
        have i1 : (k : Int) < (vs.length : Int) := by omega
        have i2 : (0 : Int) ≤ (k : Int) := by omega
        clear hcK hcV
        generalize (nthE vs k).k = key at *
        generalize (nthE vs k).v = val at *
        have hany : (anyK vs other k = true ∧ Hid (anyK vs other (k + 1) = true)) ∨ (anyK vs other k = false ∧ ((key : Int) == (other : Int)) = true ∧ Hid (anyK vs other (k + 1) = true)) ∨ (anyK vs other k = false ∧ ((key : Int) == (other : Int)) = false ∧ Hid (anyK vs other (k + 1) = false)) := by
          cases ha : anyK vs other k with
          | true => exact .inl ⟨rfl, Lib.hid (by rw [hsu, ha]; rfl)⟩
          | false =>
            by_cases he : key = other
            · exact .inr (.inl ⟨rfl, by simp [he], Lib.hid (by rw [hsu, ha, he]; simp)⟩)
            · exact .inr (.inr ⟨rfl, by rw [beq_eq_false_iff_ne]; omega, Lib.hid (by rw [hsu, ha]; simpa using he)⟩)
        have vv : ((val : Int) != (val : Int)) = false := by simp
        clear hsu P
        have P := Lib.hid (show Bx wr w.heap.size (.slice A l.length cap) from ⟨p0, p1⟩)
        generalize anyK vs other k = bk at *
        by_cases hk0 : 0 < k
        · obtain ⟨pa, u0, u1⟩ := HPV.out hk0
          have dk : decide (0 < k) = true := decide_eq_true hk0
          have hm0 : (1 : Int) ≤ (k : Int) := by omega
          have hm1 : (k : Int) - 1 < (vs.length : Int) := by omega
          have hmw : IntKind.i64.wrap ((k : Int) - 1) = (k : Int) - 1 := by rw [IntWalk.i64_in _ (by omega)]
          have dg : decide (key ≤ pa) = false := decide_eq_false (by omega)
          clear HPV
          rcases hany with ⟨rfl, HN⟩ | ⟨rfl, f1, HN⟩ | ⟨rfl, f1, HN⟩
          all_goals
            go_wp2_with fail
            go_at_call 17
            refine (HGk.out _ (hTr.later (by repeat (first | exact Below.refl _ _ | assumption | (refine below_drewN ?_ _) | (refine Below.drew ?_) | (refine Below.alloc ?_ (by first | omega | (simp; omega) | simp) _) | (refine Below.setCell ?_ (by first | omega | (simp; omega) | simp) _) | (refine below_trans ?_ (by assumption) (by first | omega | (simp; omega) | simp))))) (hrr.later (by repeat (first | exact Below.refl _ _ | assumption | (refine below_drewN ?_ _) | (refine Below.drew ?_) | (refine Below.alloc ?_ (by first | omega | (simp; omega) | simp) _) | (refine Below.setCell ?_ (by first | omega | (simp; omega) | simp) _) | (refine below_trans ?_ (by assumption) (by first | omega | (simp; omega) | simp)))))).mono ?_
            rintro e w3 ⟨rfl, hb_w3⟩
            obtain ⟨hc_w3, hf_w3⟩ := bcell hb_w3; have hs_w3 := hb_w3.size; (try simp only [World.size_alloc, World.size_setCell, World.size_drew, World.heap_drewN] at hs_w3)
            have P3 := Lib.hid (P.out.later hb_w3 : Bx w3 _ _)
            clear p0 p1
            go_wp2
            go_roundw
            case rel => exact ⟨k + 1, by go_num, by omega, by rw [HN.out], P3.out, (by first | omega | (simp; omega) | simp), (by repeat (first | exact Below.refl _ _ | assumption | (refine below_drewN ?_ _) | (refine Below.drew ?_) | (refine Below.alloc ?_ (by first | omega | (simp; omega) | simp) _) | (refine Below.setCell ?_ (by first | omega | (simp; omega) | simp) _) | (refine below_trans ?_ (by assumption) (by first | omega | (simp; omega) | simp))))⟩
            case measure => simp [intOf]; omega
        · have dk : decide (0 < k) = false := decide_eq_false hk0
          clear HPV
          rcases hany with ⟨rfl, HN⟩ | ⟨rfl, f1, HN⟩ | ⟨rfl, f1, HN⟩
          all_goals
            go_wp2_with fail
            go_at_call 17
            refine (HGk.out _ (hTr.later (by repeat (first | exact Below.refl _ _ | assumption | (refine below_drewN ?_ _) | (refine Below.drew ?_) | (refine Below.alloc ?_ (by first | omega | (simp; omega) | simp) _) | (refine Below.setCell ?_ (by first | omega | (simp; omega) | simp) _) | (refine below_trans ?_ (by assumption) (by first | omega | (simp; omega) | simp))))) (hrr.later (by repeat (first | exact Below.refl _ _ | assumption | (refine below_drewN ?_ _) | (refine Below.drew ?_) | (refine Below.alloc ?_ (by first | omega | (simp; omega) | simp) _) | (refine Below.setCell ?_ (by first | omega | (simp; omega) | simp) _) | (refine below_trans ?_ (by assumption) (by first | omega | (simp; omega) | simp)))))).mono ?_
            rintro e w3 ⟨rfl, hb_w3⟩
            obtain ⟨hc_w3, hf_w3⟩ := bcell hb_w3; have hs_w3 := hb_w3.size; (try simp only [World.size_alloc, World.size_setCell, World.size_drew, World.heap_drewN] at hs_w3)
            have P3 := Lib.hid (P.out.later hb_w3 : Bx w3 _ _)
            clear p0 p1 hk0
            go_wp2
            go_roundw
            case rel => exact ⟨k + 1, by go_num, by omega, by rw [HN.out], P3.out, (by first | omega | (simp; omega) | simp), (by repeat (first | exact Below.refl _ _ | assumption | (refine below_drewN ?_ _) | (refine Below.drew ?_) | (refine Below.alloc ?_ (by first | omega | (simp; omega) | simp) _) | (refine Below.setCell ?_ (by first | omega | (simp; omega) | simp) _) | (refine below_trans ?_ (by assumption) (by first | omega | (simp; omega) | simp))))⟩
            case measure => simp [intOf]; omega
      · obtain rfl : k = vs.length := by omega
        have hfin := HFIN.out
        generalize anyK vs other vs.length = bk at *
        rcases hfin with ⟨rfl, f1⟩ | ⟨rfl, f1⟩
        all_goals
          go_wp2_with fail
          go_at_call 17
          refine (HGO.out _ (hTr.later (by repeat (first | exact Below.refl _ _ | assumption | (refine below_drewN ?_ _) | (refine Below.drew ?_) | (refine Below.alloc ?_ (by first | omega | (simp; omega) | simp) _) | (refine Below.setCell ?_ (by first | omega | (simp; omega) | simp) _) | (refine below_trans ?_ (by assumption) (by first | omega | (simp; omega) | simp))))) (hrr.later (by repeat (first | exact Below.refl _ _ | assumption | (refine below_drewN ?_ _) | (refine Below.drew ?_) | (refine Below.alloc ?_ (by first | omega | (simp; omega) | simp) _) | (refine Below.setCell ?_ (by first | omega | (simp; omega) | simp) _) | (refine below_trans ?_ (by assumption) (by first | omega | (simp; omega) | simp)))))).mono ?_
          rintro e w3 ⟨rfl, hb_w3⟩
          obtain ⟨hc_w3, hf_w3⟩ := bcell hb_w3; have hs_w3 := hb_w3.size; (try simp only [World.size_alloc, World.size_setCell, World.size_drew, World.heap_drewN] at hs_w3)
          go_wp2
          go_ret
          exact ⟨rfl, (by repeat (first | exact Below.refl _ _ | assumption | (refine below_drewN ?_ _) | (refine Below.drew ?_) | (refine Below.alloc ?_ (by first | omega | (simp; omega) | simp) _) | (refine Below.setCell ?_ (by first | omega | (simp; omega) | simp) _) | (refine below_trans ?_ (by assumption) (by first | omega | (simp; omega) | simp))))⟩
  · have HA := Lib.hid fun (w : World) hT hr => eall_bad (w := w) (A := A) (l := l) cap hT hr hl hnil hok
    clear hok
    unfold eph at *
    go_enter Tryd.func7, Tryd.ntmps7
    go_wp2_with fail
    go_at_call 15
    refine (elives_any _ (hT.later (by repeat (first | exact Below.refl _ _ | assumption | (refine below_drewN ?_ _) | (refine Below.drew ?_) | (refine Below.alloc ?_ (by first | omega | (simp; omega) | simp) _) | (refine Below.setCell ?_ (by first | omega | (simp; omega) | simp) _) | (refine below_trans ?_ (by assumption) (by first | omega | (simp; omega) | simp)))))).mono ?_
    rintro e w0 ⟨rfl, hb_w0⟩
    obtain ⟨hc_w0, hf_w0⟩ := bcell hb_w0; have hs_w0 := hb_w0.size; (try simp only [World.size_alloc, World.size_setCell, World.size_drew, World.heap_drewN] at hs_w0)
    have k_w0 : Below w.heap.size w w0 := (by repeat (first | exact Below.refl _ _ | assumption | (refine below_drewN ?_ _) | (refine Below.drew ?_) | (refine Below.alloc ?_ (by first | omega | (simp; omega) | simp) _) | (refine Below.setCell ?_ (by first | omega | (simp; omega) | simp) _) | (refine below_trans ?_ (by assumption) (by first | omega | (simp; omega) | simp))))
    have b_w0 := k_w0
    have P2 := ((Bx.new w _ _).later hb_w0 : Bx w0 _ _)
    (try simp only [World.size_alloc] at P2)
    clear hc_w0 hf_w0
    obtain ⟨P2_c, P2_f⟩ := id P2
    have P2_l := P2.lt
    go_wp2_with fail
    go_at_call 19
    refine (HA.out _ (hT.later (by repeat (first | exact Below.refl _ _ | assumption | (refine below_drewN ?_ _) | (refine Below.drew ?_) | (refine Below.alloc ?_ (by first | omega | (simp; omega) | simp) _) | (refine Below.setCell ?_ (by first | omega | (simp; omega) | simp) _) | (refine below_trans ?_ (by assumption) (by first | omega | (simp; omega) | simp))))) (hr.later (by repeat (first | exact Below.refl _ _ | assumption | (refine below_drewN ?_ _) | (refine Below.drew ?_) | (refine Below.alloc ?_ (by first | omega | (simp; omega) | simp) _) | (refine Below.setCell ?_ (by first | omega | (simp; omega) | simp) _) | (refine below_trans ?_ (by assumption) (by first | omega | (simp; omega) | simp)))))).mono ?_
    rintro e w2 ⟨rfl, hb_w2⟩
    obtain ⟨hc_w2, hf_w2⟩ := bcell hb_w2; have hs_w2 := hb_w2.size; (try simp only [World.size_alloc, World.size_setCell, World.size_drew, World.heap_drewN] at hs_w2)
    have k_w2 : Below w0.heap.size w0 w2 := (by repeat (first | exact Below.refl _ _ | assumption | (refine below_drewN ?_ _) | (refine Below.drew ?_) | (refine Below.alloc ?_ (by first | omega | (simp; omega) | simp) _) | (refine Below.setCell ?_ (by first | omega | (simp; omega) | simp) _) | (refine below_trans ?_ (by assumption) (by first | omega | (simp; omega) | simp))))
    have b_w2 : Below w.heap.size w w2 := below_trans b_w0 k_w2 (by first | omega | (simp; omega) | simp)
    clear P2_c P2_f P2_l
    have P2 := (P2.later k_w2 : Bx w2 _ _)
    clear hc_w2 hf_w2
    obtain ⟨P2_c, P2_f⟩ := id P2
    have P2_l := P2.lt
    go_wp2
    go_ret
    exact ⟨rfl, (by repeat (first | exact Below.refl _ _ | assumption | (refine below_drewN ?_ _) | (refine Below.drew ?_) | (refine Below.alloc ?_ (by first | omega | (simp; omega) | simp) _) | (refine Below.setCell ?_ (by first | omega | (simp; omega) | simp) _) | (refine below_trans ?_ (by assumption) (by first | omega | (simp; omega) | simp))))⟩
end Go.Proofs.YtloemeinpknamaaDoor
