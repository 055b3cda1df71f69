/- parts ZT, Z26, P2, ZY, Z43, Z51, Z53, Z49, Z54 -/
import Derived.Test.YtogfbdeplogcfaaGreatDoorMY19
import Derived.Deep.RegionHeld3
set_option linter.unusedVariables false
set_option linter.unusedSimpArgs false
namespace Go.Proofs.YtogfbdeplogcfaaGreatDoor
open Go.RowKit
set_option maxRecDepth 100000

theorem asc_ext {s t : List Nat} (hs : s.Pairwise (· < ·)) (ht : t.Pairwise (· < ·)) (h : ∀ a, a ∈ s ↔ a ∈ t) : s = t := by
  induction s generalizing t with
  | nil =>
    cases t with
    | nil => rfl
    | cons b t => exact absurd ((h b).2 (by simp)) (by simp)
  | cons a s ih =>
    cases t with
    | nil => exact absurd ((h a).1 (by simp)) (by simp)
    | cons b t =>
      rw [List.pairwise_cons] at hs ht
      have e : a = b := by
        have h1 := (h a).1 (by simp)
        have h2 := (h b).2 (by simp)
        rw [List.mem_cons] at h1 h2
        rcases h1 with h1 | h1
        · exact h1
        · rcases h2 with h2 | h2
          · exact h2.symm
          · have := hs.1 b h2
            have := ht.1 a h1
            omega
      subst e
      rw [ih hs.2 ht.2 fun x => ?_]
      constructor
      · intro hx
        have := (h x).1 (by simp [hx])
        rw [List.mem_cons] at this
        rcases this with rfl | h1
        · exact absurd (hs.1 _ hx) (by omega)
        · exact h1
      · intro hx
        have := (h x).2 (by simp [hx])
        rw [List.mem_cons] at this
        rcases this with rfl | h1
        · exact absurd (ht.1 _ hx) (by omega)
        · exact h1
theorem addrs_asc {h : Hp} (hl : OkL h.l) : (addrs (cursH h)).Pairwise (· < ·) := by
  unfold addrs
  rw [List.pairwise_map]
  exact (cursH_asc hl).imp fun h => h
theorem addrs_ext {h h' : Hp} (hl : OkL h.l) (hl' : OkL h'.l) (e : ∀ a, Cur h a ↔ Cur h' a) : addrs (cursH h) = addrs (cursH h') :=
  asc_ext (addrs_asc hl) (addrs_asc hl') fun a => by rw [mem_addrs hl, mem_addrs hl', e]
end Go.Proofs.YtogfbdeplogcfaaGreatDoor
namespace Go.Proofs.YtogfbdeplogcfaaGreatDoor
open Go.RowKit
set_option maxRecDepth 100000

theorem TrnE.ex (h : Hp) : ∃ h' y, TrnE h h' y := by
  by_cases hk : OkH h
  · by_cases h0 : SweptH h
    · by_cases h1 : ClosedH h
      · exact ⟨_, _, .inr (.inr (.inr ⟨hk, h0, h1, rfl, rfl⟩))⟩
      · exact ⟨_, _, .inr (.inr (.inl ⟨hk, h0, h1, rfl, rfl⟩))⟩
    · exact ⟨_, _, .inr (.inl ⟨hk, h0, rfl, rfl⟩)⟩
  · exact ⟨_, _, .inl ⟨hk, rfl, rfl⟩⟩
end Go.Proofs.YtogfbdeplogcfaaGreatDoor
namespace Go.Proofs.YtogfbdeplogcfaaGreatDoor
open Go.RowKit

section
variable {n : Int} {A : Option Addr} {ws : List Nat} {w : World} (cap : Nat)
theorem free_ok (hr : Row w w.heap.size A ws) (h : Right n ws) :
    Calls Tryz.prog 42 #[.agg #[.int .i64 n, .slice A ws.length cap]] w fun e w' => e = .returned (.tuple #[.int .i64 (n - (countTo ws n.toNat : Nat)), .int .i64 0]) ∧ Below w.heap.size w w' := by
  have hn := h.1
  have hn2 := h.2.1
  have hcl := countTo_le ws n.toNat
  have hR := Lib.hid h
  clear h
  go_enter Tryz.func42, Tryz.ntmps42
  go_wp2_with fail
  go_at_call 101
  refine (pview_ok _ (hr.later (by repeat (first|exact bR _ _|assumption|refine bN ?_ _|refine bD ?_|refine bA ?_ (by first|omega|simp;omega|simp) _|refine bS ?_ (by first|omega|simp;omega|simp) _|refine bT ?_ (by assumption) (by first|omega|simp;omega|simp)))) hR.out).mono ?_
  rintro e w1 ⟨rfl, hb_w1⟩
  obtain ⟨hc_w1, hf_w1⟩ := bcell hb_w1; have hz_w1_w_0 : w.heap.size < w1.heap.size := (by have hzz := hb_w1.size; (try simp only [zA, zS, zD, zN] at hzz); omega); have hs_w1 := hb_w1.size; (try simp only [zA, zS, zD, zN] at hs_w1)
  go_wp2_with fail
  go_at_call 102
  refine (count_ok cap (hr.later (by repeat (first|exact bR _ _|assumption|refine bN ?_ _|refine bD ?_|refine bA ?_ (by first|omega|simp;omega|simp) _|refine bS ?_ (by first|omega|simp;omega|simp) _|refine bT ?_ (by assumption) (by first|omega|simp;omega|simp)))) hR.out).mono ?_
  rintro e w2 ⟨rfl, hb_w2⟩
  obtain ⟨hc_w2, hf_w2⟩ := bcell hb_w2; have hz_w2_w_0 : w.heap.size < w2.heap.size := (by have hzz := hb_w2.size; (try simp only [zA, zS, zD, zN] at hzz); omega); have hz_w2_w1_0 : w1.heap.size < w2.heap.size := (by have hzz := hb_w2.size; (try simp only [zA, zS, zD, zN] at hzz); omega); have hs_w2 := hb_w2.size; (try simp only [zA, zS, zD, zN] at hs_w2)
  go_wp2
  go_ret2
  exact ⟨rfl, (by repeat (first|exact bR _ _|assumption|refine bN ?_ _|refine bD ?_|refine bA ?_ (by first|omega|simp;omega|simp) _|refine bS ?_ (by first|omega|simp;omega|simp) _|refine bT ?_ (by assumption) (by first|omega|simp;omega|simp)))⟩
end
end Go.Proofs.YtogfbdeplogcfaaGreatDoor
namespace Go.Proofs.YtogfbdeplogcfaaGreatDoor
open Go.RowKit
set_option maxRecDepth 100000

theorem clnH_cur {h : Hp} (hk : OkH h) {i : Nat} (hi : i < h.l.length) (hs : (nth h.l i).s = false) (a : Nat) : Cur (clnH h i) a ↔ Cur h a := by
  unfold clnH
  split
  · rename_i h0
    exact (droH_cur (cl1H_ok hk hi hs) (by rw [(cl1H_like hk hi).l]; exact hi) (cln_empty hk hi h0) a).trans (cl1H_cur hk hi hs a)
  · exact cl1H_cur hk hi hs a
end Go.Proofs.YtogfbdeplogcfaaGreatDoor
namespace Go.Proofs.YtogfbdeplogcfaaGreatDoor
open Go.RowKit
set_option maxRecDepth 100000

theorem HIn.lt {w : World} {b : Nat} {v : Hv} {h : Hp} (x : HIn w b v h) : b < w.heap.size := x.box.lt
section
variable {w : World} {v v' : Hv} {h : Hp}
end
end Go.Proofs.YtogfbdeplogcfaaGreatDoor
namespace Go.Proofs.YtogfbdeplogcfaaGreatDoor
open Go.RowKit
set_option maxRecDepth 100000

def WdC (w : World) (B : Nat) (A : Option Addr) (n : Nat) : Prop := ∀ i, i < n → ∃ g t, A = some ⟨g, 0, none⟩ ∧ B ≤ g ∧ w.cell? ⟨g, i, none⟩ = some (.int .u64 t) ∧ w.frozen? ⟨g, i, none⟩ = false
def SpC (w : World) (B : Nat) (V : Option Addr) (n : Nat) : Prop := ∀ i, i < n → ∃ g s M m cm, V = some ⟨g, 0, none⟩ ∧ B ≤ g ∧ w.cell? ⟨g, i * 8 + 7, none⟩ = some (.bool s) ∧ w.frozen? ⟨g, i * 8 + 7, none⟩ = false ∧ w.cell? ⟨g, i * 8 + 6, none⟩ = some (.slice M m cm) ∧ m ≤ 17592186044416 ∧ WdC w B M m
structure HC (w : World) (B : Nat) (v : Hv) (h : Hp) : Prop where
  a : WdC w B v.A h.ws.length
  u : WdC w B v.U h.us.length
  s : SpC w B v.V h.l.length
  s0 : Short h
structure H4 (w : World) (G o : Nat) (v : Hv) (h : Hp) : Prop where
  c0 : w.cell? ⟨G, o, none⟩ = some (.slice v.A h.ws.length v.ca)
  c1 : w.cell? ⟨G, o + 1, none⟩ = some (.int .i64 h.n)
  c2 : w.cell? ⟨G, o + 2, none⟩ = some (.slice v.U h.us.length v.cu)
  c3 : w.cell? ⟨G, o + 3, none⟩ = some (.slice v.V h.l.length v.cv)
def hcl (v : Hv) (h : Hp) : List Value := [.slice v.A h.ws.length v.ca, .int .i64 h.n, .slice v.U h.us.length v.cu, .slice v.V h.l.length v.cv]
theorem short0 : Short hp0 := ⟨Nat.zero_le _, Nat.zero_le _, Nat.zero_le _, fun d hd => (by cases hd)⟩
end Go.Proofs.YtogfbdeplogcfaaGreatDoor
namespace Go.Proofs.YtogfbdeplogcfaaGreatDoor
open Go.RowKit
set_option maxRecDepth 100000

theorem trn_us (d : Sd) (k : Nat) : unmA (trnD d) k = unmA d k := by
  induction k with
  | zero => rfl
  | succ k ih => rw [unmA, unmA, ih]; rfl
theorem len_unm (d : Sd) (k : Nat) : (unmA d k).length = cntB (fun j => tb d.aw j && !tb d.mw j) k := by
  induction k with
  | zero => rfl
  | succ k ih =>
    rw [unmA, cntB, List.length_append, ih]
    split <;> rfl
theorem len_cur (ws : List Nat) (d : Sd) (i k : Nat) (hs : ∀ j, j < k → tb (curW d) j = true → tb d.aw j = true) : ((obsS ws d i k).filter (·.c)).length = cntB (tb (curW d)) k := by
  induction k with
  | zero => rfl
  | succ k ih =>
    rw [obsS, cntB, List.filter_append, List.length_append, ih (fun j hj => hs j (by omega))]
    congr 1
    cases hc : tb (curW d) k with
    | false =>
      split
      · simp [obAt, hc]
      · rfl
    | true => rw [if_pos (hs k (by omega) hc), if_pos rfl]; simp [obAt, hc]
def sumC (f : Sd → Nat) (l : List Sd) : Nat → Nat
  | 0 => 0
  | i + 1 => sumC f l i + f (nth l i)
def curN (d : Sd) : Nat := cntB (tb (curW d)) (slN d)
theorem len_curL {ws : List Nat} {l : List Sd} (h : OkL l) {i : Nat} (hi : i ≤ l.length) : ((obsL ws l i).filter (·.c)).length = sumC curN l i := by
  induction i with
  | zero => rfl
  | succ i ih =>
    rw [obsL, sumC, List.filter_append, List.length_append, ih (by omega), len_cur _ _ _ _ fun j hj hc => (h.at_ (by omega)).cur_sub hj hc]
    rfl
theorem len_curs {h : Hp} (hl : OkL h.l) : (addrs (cursH h)).length = sumC curN h.l h.l.length := by
  unfold addrs
  rw [List.length_map]
  exact len_curL hl (Nat.le_refl _)
theorem cntB_add {f g u : Nat → Bool} {n : Nat} (h : ∀ j, j < n → f j = (g j || u j) ∧ (g j && u j) = false) : cntB f n = cntB g n + cntB u n := by
  induction n with
  | zero => rfl
  | succ n ih =>
    rw [cntB, cntB, cntB, ih fun j hj => h j (by omega)]
    obtain ⟨h1, h2⟩ := h n (by omega)
    rw [h1]
    cases hg : g n <;> cases hu : u n
    · simp
    · simp; omega
    · simp; omega
    · rw [hg, hu] at h2; cases h2
theorem sumC_add {f g u : Sd → Nat} {l : List Sd} {n : Nat} (h : ∀ j, j < n → f (nth l j) = g (nth l j) + u (nth l j)) : sumC f l n = sumC g l n + sumC u l n := by
  induction n with
  | zero => rfl
  | succ n ih => rw [sumC, sumC, sumC, ih fun j hj => h j (by omega), h n (by omega)]; omega
theorem sumC_congr {f g : Sd → Nat} {l m : List Sd} {n : Nat} (h : ∀ j, j < n → f (nth l j) = g (nth m j)) : sumC f l n = sumC g m n := by
  induction n with
  | zero => rfl
  | succ n ih => rw [sumC, sumC, ih fun j hj => h j (by omega), h n (by omega)]
theorem swept_count {h : Hp} (hk : OkH h) (hs : SweptH h) : (addrs (cursH h)).length = (addrs (cursH (trnH h))).length + sumC (fun d => (usD d).length) h.l h.l.length := by
  have hl := hk.framed.spans
  have hL : (trnH h).l.length = h.l.length := by simp [trnH]
  have hl2 : OkL (trnH h).l := ((trnH_like hk).framed hk.framed).spans
  rw [len_curs hl, len_curs hl2, hL]
  have e : sumC curN (trnH h).l h.l.length = sumC (fun d => cntB (tb d.mw) (slN d)) h.l h.l.length := sumC_congr fun j hj => by
    show curN (nth (h.l.map trnD) j) = _
    rw [nth_map _ _ _ hj]
    rfl
  rw [e]
  refine sumC_add fun j hj => ?_
  have ok := hl.at_ hj
  unfold curN curW usD
  rw [hs j hj, len_unm]
  refine cntB_add fun q hq => ?_
  show tb (nth h.l j).aw q = _ ∧ _
  have h1 := ok.slK
  cases hm : tb (nth h.l j).mw q with
  | false => simp
  | true => rw [ok.sub q (by omega) hm]; simp
structure SwI (h : Hp) (i : Nat) (G : Hp) : Prop where
  ok : OkH G
  cur : ∀ a, Cur G a ↔ Mkd h a
  n : G.n = h.n
  split : ∃ dn : List Sd, G.l = dn ++ (h.l.drop i).map trnD ∧ ∀ d ∈ dn, d.s = true
theorem SwI.start {h : Hp} (hk : OkH h) (hc : ClosedH h) : SwI h 0 (trnH h) := ⟨trnH_ok hk hc, trnH_cur hk, rfl, [], by simp [trnH], fun d hd => (by cases hd)⟩
theorem SwI.step {h G : Hp} {i : Nat} (s : SwI h i G) (hi : i < h.l.length) : ∃ G', ClnE G (nth h.l i).f G' (usD (nth h.l i)) 0 ∧ SwI h (i + 1) G' := by
  obtain ⟨dn, e, hd⟩ := s.split
  have hn : nth h.l i = h.l[i] := by unfold nth; rw [List.getD_eq_getElem?_getD, List.getElem?_eq_getElem hi]; rfl
  have e2 : G.l = dn ++ trnD (nth h.l i) :: (h.l.drop (i + 1)).map trnD := by
    rw [e, hn, List.drop_eq_getElem_cons hi]; rfl
  have hidx : dn.length < G.l.length := by rw [e2]; simp
  have en : nth G.l dn.length = trnD (nth h.l i) := by
    unfold nth
    rw [e2, List.getD_eq_getElem?_getD, List.getElem?_append_right (Nat.le_refl _), Nat.sub_self]
    rfl
  have hsw : (nth G.l dn.length).s = false := by rw [en]; rfl
  have hI := idx_first s.ok.framed.spans hidx
  have hf : (nth G.l dn.length).f = (nth h.l i).f := by rw [en]; rfl
  rw [hf] at hI
  have hus : usD (nth G.l dn.length) = usD (nth h.l i) := by rw [en]; exact trn_us _ _
  refine ⟨clnH G dn.length, .inr (.inr (.inr ⟨dn.length, s.ok, hI, hsw, rfl, hus.symm, rfl⟩)), clnH_ok s.ok hidx hsw, fun a => (clnH_cur s.ok hidx hsw a).trans (s.cur a), ?_, ?_⟩
  · unfold clnH
    split
    · exact s.n
    · exact s.n
  · unfold clnH
    split
    · refine ⟨dn, ?_, hd⟩
      show droL (G.l.set dn.length _) dn.length = _
      rw [e2, List.set_append_right _ _ (Nat.le_refl _), Nat.sub_self]
      unfold droL
      simp
    · refine ⟨dn ++ [clnD (nth G.l dn.length)], ?_, fun d hdd => ?_⟩
      · show G.l.set dn.length _ = _
        rw [e2, List.set_append_right _ _ (Nat.le_refl _), Nat.sub_self]
        simp
      · rw [List.mem_append, List.mem_singleton] at hdd
        rcases hdd with hdd | rfl
        · exact hd d hdd
        · rfl
theorem SwI.done {h G : Hp} (s : SwI h h.l.length G) : (∀ j, j < G.l.length → (nth G.l j).s = true) := by
  obtain ⟨dn, e, hd⟩ := s.split
  rw [List.drop_length, List.map_nil, List.append_nil] at e
  intro j hj
  rw [e] at hj ⊢
  unfold nth
  rw [List.getD_eq_getElem?_getD, List.getElem?_eq_getElem hj]
  exact hd _ (List.getElem_mem hj)
theorem SwI.same {h G : Hp} {i : Nat} (s : SwI h i G) (hk : OkH h) : addrs (cursH G) = addrs (cursH (trnH h)) :=
  addrs_ext s.ok.framed.spans ((trnH_like hk).framed hk.framed).spans fun a => (s.cur a).trans (trnH_cur hk a).symm
theorem OkH.pages {h : Hp} (hk : OkH h) : ((countTo h.us h.n.toNat : Nat) : Int) = sumP h.l h.l.length := ((ownedC_iff hk.framed).2 hk.owned).count
theorem mkd_marked {h : Hp} (hk : OkH h) (hs : SweptH h) {a : Nat} (ha : a ∈ addrs (cursH (trnH h))) : a < W64 ∧ MkdE h a true 0 := by
  obtain ⟨j, k, hj, hk1, hm, rfl⟩ := (trnH_cur hk a).1 ((mem_addrs ((trnH_like hk).framed hk.framed).spans a).1 ha)
  have ok := hk.framed.spans.at_ hj
  have hc : tb (curW (nth h.l j)) k = true := by
    unfold curW
    rw [hs j hj]
    exact ok.sub k (by have := ok.slK; omega) hm
  obtain ⟨F1, F2⟩ := fn_at hk hj hk1 hc
  have w1 := hk.slotW hj hk1
  have w2 := hk.framed.words
  exact ⟨by unfold W64; omega, .inr ⟨hk, by rw [F1]; exact hm.symm, F2.symm⟩⟩
theorem TrnE.facts {h h' : Hp} (hE : TrnE h h' 0) : OkH h ∧ SweptH h ∧ ClosedH h ∧ h' = trnH h := by
  rcases hE with ⟨_, _, e⟩ | ⟨_, _, _, e⟩ | ⟨_, _, _, _, e⟩ | ⟨hk, hs, hc, e, _⟩
  · cases e
  · cases e
  · cases e
  · exact ⟨hk, hs, hc, e⟩
theorem usD_le {h : Hp} (hl : OkL h.l) {i : Nat} (hi : i < h.l.length) : (usD (nth h.l i)).length ≤ 8 := by
  have h1 := unmA_len (nth h.l i) (slN (nth h.l i))
  have h2 := (hl.at_ hi).slK
  unfold usD
  omega
theorem sumU_le {h : Hp} (hl : OkL h.l) {i : Nat} (hi : i ≤ h.l.length) : sumC (fun d => (usD d).length) h.l i ≤ 8 * i := by
  induction i with
  | zero => exact Nat.le_refl _
  | succ i ih =>
    have := usD_le hl (i := i) (by omega)
    have := ih (by omega)
    rw [sumC]
    omega
end Go.Proofs.YtogfbdeplogcfaaGreatDoor
namespace Go.Proofs.YtogfbdeplogcfaaGreatDoor
open Go.RowKit
set_option maxRecDepth 100000

theorem hsameaddrs_any {w : World} {A C : Option Addr} {t : List Nat} (ca cc : Nat) (hl : t.length ≤ 17592186044416) (hr : Row w w.heap.size A t) (hq : Row w w.heap.size C t) :
    Calls Tryz.prog 37 #[.slice A t.length ca, .slice C t.length cc] w fun e w' => e = .returned (.bool true) ∧ Below w.heap.size w w' := by
  have HA := Lib.hid fun (w : World) h1 h2 => asame_ok t (by unfold maxLen; omega) w A C ca cc h1 h2
  go_enter Tryz.func37, Tryz.ntmps37
  go_wp2_with fail
  go_at_call 71
  refine (HA.out _ (hr.later (by repeat (first|exact bR _ _|assumption|refine bN ?_ _|refine bD ?_|refine bA ?_ (by first|omega|simp;omega|simp) _|refine bS ?_ (by first|omega|simp;omega|simp) _|refine bT ?_ (by assumption) (by first|omega|simp;omega|simp)))) (hq.later (by repeat (first|exact bR _ _|assumption|refine bN ?_ _|refine bD ?_|refine bA ?_ (by first|omega|simp;omega|simp) _|refine bS ?_ (by first|omega|simp;omega|simp) _|refine bT ?_ (by assumption) (by first|omega|simp;omega|simp))))).mono ?_
  rintro e w1 ⟨rfl, hb_w1⟩
  have b1 : Below w.heap.size w w1 := (by repeat (first|exact bR _ _|assumption|refine bN ?_ _|refine bD ?_|refine bA ?_ (by first|omega|simp;omega|simp) _|refine bS ?_ (by first|omega|simp;omega|simp) _|refine bT ?_ (by assumption) (by first|omega|simp;omega|simp)))
  go_wp2
  go_ret
  exact ⟨rfl, b1⟩
end Go.Proofs.YtogfbdeplogcfaaGreatDoor
namespace Go.Proofs.YtogfbdeplogcfaaGreatDoor
open Go.RowKit
set_option maxRecDepth 100000

theorem run_append_noneU {w : World} (ty : TypeId) (v : Value) (n c : Nat) (xs : List Value) (base : Nat) (hown : w.ownsRow base 32 1 v n xs) :
    (Builtin.append_ #[22, 22] ty #[v, .slice none 0 c]).run Tryz.prog w = .ok v w := by
  obtain ⟨i0, hi, hz0, hz1, hz2⟩ := info_parts info_u64
  obtain ⟨_, ⟨rfl, rfl⟩ | ⟨g, cap, cur, rfl, _, hg, hc, hm, _, _⟩⟩ := hown
  · simp [Builtin.append_, run_underlying Tryz.underlying22, sizeOf, typeInfo, hi, hz1, Builtin.lenOf, Builtin.firstCells, storeCells]
  · have h1 : ¬ (9223372036854775807 < (n : Int)) := by unfold maxLen at hm; omega
    have hl : ∀ (x : Addr), (loadCells x 0).run Tryz.prog w = .ok #[] w := fun x => by simpa using run_loadCells_list (P := Tryz.prog) w x [] (by simp)
    simp [Builtin.append_, run_underlying Tryz.underlying22, sizeOf, typeInfo, hi, hz1, Builtin.lenOf, Builtin.firstCells, storeCells, hc, hl, h1]
theorem wp_appendU {w : World} {o : Oper} {a : Act} {K : Act → World → Prop} {Q : Exit → Act → World → Prop} (s x : Operand)
    (ho : o.op = .call { callee := .builtin .append, args := #[s, x], argTypes := #[22, 22] })
    (base : Nat) (A : Option Addr) (cap n : Nat) (xs : List Value) (hs : a.eval s = .slice A n cap) (hown : w.ownsRow base 32 1 (.slice A n cap) n xs)
    (Ao : Option Addr) (m c : Nat) (news : List Value) (hx : a.eval x = .slice Ao m c) (hl : news.length = m) (hpos : 0 < m → ∃ b off, Ao = some ⟨b, off, none⟩ ∧ ∀ j u, news[j]? = some u → w.cell? ⟨b, off + j, none⟩ = some u) (h1 : ∀ u ∈ news, u.oneCell' = true)
    (hsm : n + m ≤ 2000000000) (hbase : base ≤ w.heap.size)
    (h : ∀ A' cap' w', w'.ownsRow base 32 1 (.slice A' (n + m) cap') (n + m) (xs ++ news) → w.grownBy w' (A.map fun a => a.block) → Below base w w' → w.heap.size ≤ w'.heap.size → K (a.put o.dst (.slice A' (n + m) cap')) w') :
    Oper.wp Tryz.prog o a w K Q := by
  obtain ⟨i0, hi, hz0, hz1, hz2⟩ := info_parts info_u64
  have key : ∃ A' cap' w', (Builtin.append_ #[22, 22] o.type #[.slice A n cap, .slice Ao m c]).run Tryz.prog w = .ok (.slice A' (n + m) cap') w' ∧ w'.ownsRow base 32 1 (.slice A' (n + m) cap') (n + m) (xs ++ news) ∧ w.grownBy w' (A.map fun a => a.block) ∧ Below base w w' := by
    have hob : (Value.slice A n cap).ownBlock = A.map fun a => a.block := by cases A <;> rfl
    by_cases hm : 0 < m
    · obtain ⟨b, off, rfl, hc⟩ := hpos hm
      obtain ⟨g, cap', w', h2, h3, h4, _, _⟩ := run_append_lies (P := Tryz.prog) w 22 o.type base 32 i0 _ 1 8 Tryz.underlying22 hi hz0 hz1 hz2 rfl (by omega) (.slice A n cap) n xs hown ⟨b, off, none⟩ m c news (by omega) (fun j u hj => by rw [add_form]; exact hc j u hj) h1 hm (by unfold maxLen; omega) (by omega) hbase _ rfl
      exact ⟨_, cap', w', h2, h3, by rw [← hob]; exact h4, (Below.refl _ _).grown h4 hbase (fun k hk => (hown.lt k hk).1)⟩
    · obtain rfl : m = 0 := by omega
      obtain rfl : news = [] := List.eq_nil_of_length_eq_zero (by omega)
      cases Ao with
      | none => exact ⟨A, cap, w, run_append_noneU _ _ n c xs base hown, by simpa using hown, ⟨rfl, rfl, rfl, Nat.le_refl _, fun _ _ _ => rfl⟩, Below.refl _ _⟩
      | some ad =>
        obtain ⟨v', w', h2, h3, h4, h5, _⟩ := run_append_own_at (P := Tryz.prog) w base 22 o.type 32 i0 _ 1 8 Tryz.underlying22 hi hz0 hz1 hz2 rfl (by omega) (.slice A n cap) n xs hown ad 0 c [] (by simp) (fun j u hj => by simp at hj) (by simp) (by unfold maxLen; omega) (by omega) hbase
        have hb := (Below.refl base w).grown h4 hbase (fun k hk => (hown.lt k hk).1)
        rcases h3.2 with ⟨e, e2⟩ | ⟨g, cap', cur, e, _⟩
        · obtain rfl : n = 0 := by omega
          rw [e] at h2 h3
          exact ⟨none, 0, w', h2, by simpa using h3, by rw [← hob]; exact h4, hb⟩
        · rw [e] at h2 h3
          exact ⟨_, cap', w', h2, by simpa using h3, by rw [← hob]; exact h4, hb⟩
  obtain ⟨A', cap', w', h2, h3, h5, h4⟩ := key
  unfold Oper.wp execOp
  simp only [ho, resolve, invoke, builtin, Sem.run_bind, Sem.run_pure, Result.andThen_ok, List.map_toArray, List.map_cons, List.map_nil, hs, hx, h2]
  exact h A' cap' w' h3 h5 h4 h4.size
theorem B4.grown {w w' : World} {b g : Nat} {v0 v1 v2 v3 : Value} (h : B4 w b v0 v1 v2 v3) (hg : w.grownBy w' (some g)) (hne : b ≠ g) : B4 w' b v0 v1 v2 v3 := by
  have hb := hg.block b h.lt (by intro e; injection e with e; exact hne e)
  exact ⟨(World.cell?_of_block (a := ⟨b, 0, none⟩) hb).trans h.c0, (World.cell?_of_block (a := ⟨b, 1, none⟩) hb).trans h.c1, (World.cell?_of_block (a := ⟨b, 2, none⟩) hb).trans h.c2, (World.cell?_of_block (a := ⟨b, 3, none⟩) hb).trans h.c3,
    (World.frozen?_of_block (a := ⟨b, 0, none⟩) hb).trans h.f0, (World.frozen?_of_block (a := ⟨b, 1, none⟩) hb).trans h.f1, (World.frozen?_of_block (a := ⟨b, 2, none⟩) hb).trans h.f2, (World.frozen?_of_block (a := ⟨b, 3, none⟩) hb).trans h.f3⟩
theorem grown_base {a b c : World} {g B : Nat} (h : a.grownBy b (some g)) (k : Below B b c) (hB : a.heap.size ≤ B) (hs : B ≤ b.heap.size) : a.grownBy c (some g) :=
  ⟨k.os.trans h.os, k.tape.trans h.tape, k.output.trans h.output, Nat.le_trans h.size k.size, fun q hq hne => (k.block q (by omega)).trans (h.block q hq hne)⟩
theorem grown_pick {w w' : World} {A : Option Addr} {B : Nat} (hg : w.grownBy w' (A.map fun a => a.block)) (hA : ∀ q, (A.map fun a => a.block) = some q → q < B) (hB : 0 < B) : ∃ g, g < B ∧ w.grownBy w' (some g) := by
  cases A with
  | none => exact ⟨0, hB, hg.os, hg.tape, hg.output, hg.size, fun q hq _ => hg.block q hq (by intro e; cases e)⟩
  | some a => exact ⟨a.block, hA _ rfl, hg⟩
theorem OwnsH.grownLt {w w' : World} {B g : Nat} {v : Hv} {h : Hp} (o : OwnsH w B v h) (hg : w.grownBy w' (some g)) (hB : g < B) : OwnsH w' B v h := by
  obtain ⟨vs, e, hs⟩ := o.s
  exact ⟨o.a.grownLt hg hB, o.u.grownLt hg hB, vs, e, hs.grown hg hB⟩
theorem ownBlk {w : World} {B n cap : Nat} {A : Option Addr} {xs : List Value} (h : w.ownsRow B 32 1 (.slice A n cap) n xs) : ∀ q, (A.map fun a => a.block) = some q → B ≤ q ∧ q < w.heap.size := fun q hq => h.lt q (by cases A with | none => cases hq | some a => exact hq)
def srcW (w : World) (A : Option Addr) (us : List Nat) : Prop := 0 < us.length → ∃ b off, A = some ⟨b, off, none⟩ ∧ ∀ j u, (vals us)[j]? = some u → w.cell? ⟨b, off + j, none⟩ = some u
theorem srcW.of {w : World} {B : Nat} {A : Option Addr} {us : List Nat} (h : Own w B A us) : srcW w A us := fun hl => by
  obtain ⟨g, e, h1, h2, hc⟩ := h.at_ hl
  refine ⟨g, 0, e, fun j u hj => ?_⟩
  have hjl : j < us.length := by
    have := (List.getElem?_eq_some_iff.1 hj).1
    simpa [vals] using this
  have hu : u = .int .u64 (us.getD j 0 : Nat) := by
    have := hj
    simp [vals, List.getElem?_map, List.getElem?_eq_getElem hjl] at this
    rw [← this]
    simp [List.getD_eq_getElem?_getD, List.getElem?_eq_getElem hjl]
  rw [Nat.zero_add, hu]
  exact (hc j hjl).1
set_option maxHeartbeats 16000000 in
theorem heapSwept_walk (v : Hv) (h : Hp) (w : World) (hz : Sizes w) (hM : HM w w.heap.size v h) (hs : Short h) (hnil : v.V = none → v.cv = 0) :
    Calls Tryz.prog 9 #[hpV v h] w fun e w' => e = .returned (.bool true) ∧ Below w.heap.size w w' := by
  have X0 := HIn.new hM 31
  obtain ⟨h1, y1, E1⟩ := TrnE.ex h
  have HTRN := Lib.hid fun (w : World) hz hM => zturnH_any (w := w) (v := v) (h := h) hz hM (by have := hs.l; omega) hs.ws hnil h1 y1 E1
  unfold FreshH at HTRN
  by_cases hy : y1 = 0
  · subst hy
    obtain ⟨hk, hsw, hcl, e1⟩ := E1.facts
    subst e1
    have S0 : SwI h 0 (trnH h) := SwI.start hk hcl
    have hct := swept_count hk hsw
    have hul := fun (i : Nat) (hi : i ≤ h.l.length) => sumU_le hk.framed.spans hi
    have hl256 := hk.framed.spans.1
    have hsame := fun (i : Nat) (G : Hp) (s : SwI h i G) => s.same hk
    have hmk := fun (a : Nat) (ha : a ∈ addrs (cursH (trnH h))) => mkd_marked hk hsw ha
    have OB0 : ObjE h (addrs (cursH h)) 0 := .inr ⟨hk, rfl, rfl⟩
    have OB1 : ObjE (trnH h) (addrs (cursH (trnH h))) 0 := .inr ⟨S0.ok, rfl, rfl⟩
    have ht0 := addrs_len hk
    have ht1 := addrs_len S0.ok
    have hk1 := S0.ok
    generalize addrs (cursH (trnH h)) = t1 at *
    generalize addrs (cursH h) = t0 at *
    generalize trnH h = h1 at *
    have HO0 := Lib.hid fun (w : World) hz hM => zobjH_any (w := w) (v := v) (h := h) hz hM (by have := hs.l; omega) hs.ws t0 0 OB0
    have HO1 := Lib.hid fun (w : World) (v : Hv) hz hM => zobjH_any (w := w) (v := v) (h := h1) hz hM hk1.lens.1 hk1.lens.2 t1 0 OB1
    have HCLN := Lib.hid fun (w : World) (v : Hv) (G G' : Hp) (f : Int) (us : List Nat) (hG : OkH G) hz hM hn hE => zcleanH_any (w := w) (v := v) (h := G) hz hM hG.lens.1 hG.lens.2 hn f G' us 0 hE
    have HO3 := Lib.hid fun (w : World) (v : Hv) (G : Hp) (hG : OkH G) (e : addrs (cursH G) = t1) hz hM => zobjH_any (w := w) (v := v) (h := G) hz hM hG.lens.1 hG.lens.2 t1 0 (.inr ⟨hG, e.symm, rfl⟩)
    have HFR := Lib.hid fun (w : World) (A : Option Addr) (cu : Nat) (G : Hp) (hG : OkH G) hr => free_ok (w := w) (n := G.n) (A := A) (ws := G.us) cu hr hG.framed.pages
    have HMK := Lib.hid fun (w : World) (b : Nat) hz hM hb hE => zmarked_any (w := w) (v := v) (h := h) hz hM (by have := hs.l; omega) hs.ws b hb true 0 hE
    have HCK := Lib.hid fun (w : World) (v : Hv) (G : Hp) (hG : OkH G) hz hM => zcheck_any (w := w) (v := v) (h := G) hz hM hG.lens.1 hG.lens.2 0 (.inl ⟨hG, rfl⟩)
    have HSA := Lib.hid fun (w : World) (A C : Option Addr) (ca cc : Nat) hr hq => hsameaddrs_any (w := w) (A := A) (C := C) (t := t1) ca cc (by omega) hr hq
    have HS0 := Lib.hid S0
    have HCT := Lib.hid hct
    have HUL := Lib.hid hul
    have HSM := Lib.hid hsame
    have HMD := Lib.hid hmk
    have HT1 := Lib.hid ht1
    have HT0 := Lib.hid ht0
    have HMO := Lib.hid hM
    unfold FreshW at HO0 HO1 HO3
    unfold FreshHw at HCLN
    clear E1 hk hsw hcl S0 hct hul hsame hmk OB0 OB1 ht0 ht1 hk1 hs hM hnil
    unfold hpV hpv at HTRN HO0 HO1 HCLN HO3 HMK HCK ⊢
    obtain ⟨vA, vca, vU, vcu, vV, vcv⟩ := v
    go_enter Tryz.func9, Tryz.ntmps9
    go_wp2_with fail
    go_at_call 19
    refine (hlives_any _ (hz.later (by repeat (first|exact bR _ _|assumption|refine bN ?_ _|refine bD ?_|refine bA ?_ (by first|omega|simp;omega|simp) _|refine bS ?_ (by first|omega|simp;omega|simp) _|refine bT ?_ (by assumption) (by first|omega|simp;omega|simp))))).mono ?_
    rintro e w1 ⟨rfl, hb_w1⟩
    have b_w1 : Below w.heap.size w w1 := (by repeat (first|exact bR _ _|assumption|refine bN ?_ _|refine bD ?_|refine bA ?_ (by first|omega|simp;omega|simp) _|refine bS ?_ (by first|omega|simp;omega|simp) _|refine bT ?_ (by assumption) (by first|omega|simp;omega|simp)))
    replace X0 := X0.later hb_w1
    obtain ⟨X0_c0, X0_c1, X0_c2, X0_c3, X0_f0, X0_f1, X0_f2, X0_f3⟩ := id X0.box
    go_wp2_with fail
    go_at_call 38
    refine (HTRN.out _ (hz.later (by exact b_w1)) X0.m).mono ?_
    rintro e w2 ⟨v2, rfl, o2, hb_w2⟩
    clear X0_c0 X0_c1 X0_c2 X0_c3 X0_f0 X0_f1 X0_f2 X0_f3
    have b_w2 : Below w.heap.size w w2 := b_w1.trans (hb_w2.mono b_w1.size)
    replace X0 := X0.later hb_w2
    have a_w2_0 : Below w2.heap.size w2 (w2.alloc (.cells #[.slice v2.A h1.ws.length v2.ca, .int .i64 h1.n, .slice v2.U h1.us.length v2.cu, .slice v2.V h1.l.length v2.cv] 31)) := Below.alloc (Below.refl _ _) (Nat.le_refl _) _
    replace X0 := X0.later a_w2_0
    have X2 := HIn.new o2.hm 31
    have b_w2_0 : Below w.heap.size w (w2.alloc (.cells #[.slice v2.A h1.ws.length v2.ca, .int .i64 h1.n, .slice v2.U h1.us.length v2.cu, .slice v2.V h1.l.length v2.cv] 31)) := b_w2.trans (a_w2_0.mono b_w2.size)
    have n2 := o2.nil
    clear o2
    obtain ⟨X0_c0, X0_c1, X0_c2, X0_c3, X0_f0, X0_f1, X0_f2, X0_f3⟩ := id X0.box
    go_wp2_with fail
    go_at_call 35
    refine (HO0.out _ (hz.later (by exact b_w2_0)) (by exact X0.m)).mono ?_
    rintro e w3 ⟨A3, c3, rfl, o3, hb_w3⟩
    clear X0_c0 X0_c1 X0_c2 X0_c3 X0_f0 X0_f1 X0_f2 X0_f3
    have b_w3 : Below w.heap.size w w3 := b_w2_0.trans (hb_w3.mono b_w2_0.size)
    replace X0 := X0.later hb_w3
    replace X2 := X2.later hb_w3
    clear o3
    obtain ⟨X0_c0, X0_c1, X0_c2, X0_c3, X0_f0, X0_f1, X0_f2, X0_f3⟩ := id X0.box
    obtain ⟨X2_c0, X2_c1, X2_c2, X2_c3, X2_f0, X2_f1, X2_f2, X2_f3⟩ := id X2.box
    go_wp2_with fail
    go_at_call 35
    refine (HO1.out _ _ (hz.later (by exact b_w3)) (by exact X2.m)).mono ?_
    rintro e w4 ⟨A4, c4, rfl, o4, hb_w4⟩
    clear X0_c0 X0_c1 X0_c2 X0_c3 X0_f0 X0_f1 X0_f2 X0_f3 X2_c0 X2_c1 X2_c2 X2_c3 X2_f0 X2_f1 X2_f2 X2_f3
    have b_w4 : Below w.heap.size w w4 := b_w3.trans (hb_w4.mono b_w3.size)
    replace X0 := X0.later hb_w4
    replace X2 := X2.later hb_w4
    obtain ⟨X0_c0, X0_c1, X0_c2, X0_c3, X0_f0, X0_f1, X0_f2, X0_f3⟩ := id X0.box
    have X0B := Lib.hid X0.box
    have N4 := Lib.hid o4
    have hs24 : w2.heap.size + 1 ≤ w3.heap.size := by have := hb_w3.size; rw [World.size_alloc] at this; exact this
    have hs34 := hb_w4.size
    have hs02 := b_w2.size
    have hw2 := X2.lt
    have h0w : w.heap.size < w2.heap.size := by have h1 := hb_w2.size; have h2 := b_w1.size; have h3 := hb_w1.size; rw [World.size_alloc] at h3; omega
    go_wp2_with fail
    clear X0_c0 X0_c1 X0_c2 X0_c3 X0_f0 X0_f1 X0_f2 X0_f3
    go_loopw [9, 48] (fun gv ii wr => ∃ (i : Nat) (G : Hp) (vG : Hv) (Ag : Option Addr) (cg n : Nat) (xs : List Value), ii = .int .i64 (i : Nat) ∧ i ≤ h.l.length ∧ gv = .slice Ag n cg ∧ n = sumC (fun d => (usD d).length) h.l i ∧ wr.ownsRow w4.heap.size 32 1 (.slice Ag n cg) n xs ∧ HIn wr w2.heap.size vG G ∧ (vG.V = none → vG.cv = 0) ∧ Hid (SwI h i G) ∧ w4.grownBy wr (some w2.heap.size) ∧ Below w.heap.size w wr) (fun gv ii _ => h.l.length - (intOf ii).toNat)
    case atStart => exact ⟨0, h1, v2, none, 0, 0, [], rfl, Nat.zero_le _, rfl, rfl, World.ownsRow_nil _ _ _ _, X2, n2, HS0, grown_some _ (Below.refl _ _), b_w4⟩
    case round =>
      clear X0 X2 n2 o4 b_w1 b_w2 b_w3
      obtain ⟨i, G, vG, Ag, cg, n, xs, rfl, hi, rfl, hn, hown, XG, nG, HSW, hgr, b_wr⟩ := hrel
      have hsr := hgr.size
      have X0 := X0B.out.grown hgr (by omega)
      have M0 := (HMO.out.below b_wr).more b_wr.size
      by_cases hlt : i < h.l.length
      · obtain ⟨G', EC, SS⟩ := HSW.out.step hlt
        have hGk := HSW.out.ok
        have hu8 := HUL.out (i + 1) (by omega)
        have hn1 : Hid (n + (usD (nth h.l i)).length = sumC (fun d => (usD d).length) h.l (i + 1)) := Lib.hid (by rw [hn, sumC])
        have HSS := Lib.hid SS
        obtain ⟨bs, off, hV, hbs, hcs⟩ := M0.v.at_ (by omega)
        obtain ⟨As, ca, Ms, cm, q8, _, _⟩ := hcs i hlt
        simp only at hV
        subst hV
        have hnl : n + (usD (nth h.l i)).length ≤ 2048 := by have := hn1.out; omega
        generalize usD (nth h.l i) = us at *
        generalize nth h.l i = d at *
        obtain ⟨df, dp, dz, dan, daw, dmn, dmw, ds⟩ := d
        obtain ⟨e0, e1, e2, e3, e4, e5, e6, e7⟩ := id q8
        simp only at e0 e1 e2 e3 e4 e5 e6 e7 EC
        obtain ⟨x0, x1, x2, x3, fx0, fx1, fx2, fx3⟩ := id X0
        have i3 : (i : Int) < (h.l.length : Int) := by omega
        have i4 : (0 : Int) ≤ (i : Int) := by omega
        have aS : Below wr.heap.size wr (wr.alloc (.cells #[.int .i64 df, .int .i64 dp, .int .i64 dz, .int .i64 dan, .slice As daw.length ca, .int .i64 dmn, .slice Ms dmw.length cm, .bool ds] 65)) := Below.alloc (Below.refl _ _) (Nat.le_refl _) _
        have XG2 := XG.later aS
        have bS := b_wr.trans (aS.mono b_wr.size)
        have hS0 : (wr.alloc (.cells #[.int .i64 df, .int .i64 dp, .int .i64 dz, .int .i64 dan, .slice As daw.length ca, .int .i64 dmn, .slice Ms dmw.length cm, .bool ds] 65)).cell? ⟨wr.heap.size, 0, none⟩ = some (.int .i64 df) := by simp [go_sem]
        obtain ⟨g0, g1, g2, g3, fg0, fg1, fg2, fg3⟩ := id XG2.box
        have HE := Lib.hid EC
        have HN := Lib.hid hn
        clear hcs q8 M0 EC hn
        go_wp2_with fail
        go_at_call 40
        refine (HCLN.out _ vG G G' df us hGk (hz.later (by exact bS)) (by exact XG2.m) nG HE.out).mono ?_
        rintro e w5 ⟨v5, A5, c5, rfl, o5, n5, hb_w5⟩
        clear e0 e1 e2 e3 e4 e5 e6 e7 x0 x1 x2 x3 fx0 fx1 fx2 fx3 g0 g1 g2 g3 fg0 fg1 fg2 fg3
        have hs5 := hb_w5.size
        rw [World.size_alloc] at hs5
        have a5 : Below w5.heap.size w5 (w5.alloc (.cells #[.slice v5.A G'.ws.length v5.ca, .int .i64 G'.n, .slice v5.U G'.us.length v5.cu, .slice v5.V G'.l.length v5.cv] 31)) := Below.alloc (Below.refl _ _) (Nat.le_refl _) _
        have k5 : Below wr.heap.size wr w5 := aS.trans (hb_w5.mono (by rw [World.size_alloc]; omega))
        have k5' : Below wr.heap.size wr (w5.alloc (.cells #[.slice v5.A G'.ws.length v5.ca, .int .i64 G'.n, .slice v5.U G'.us.length v5.cu, .slice v5.V G'.l.length v5.cv] 31)) := k5.trans (a5.mono (by omega))
        have X5 := B4.new w5 (.slice v5.A G'.ws.length v5.ca) (.int .i64 G'.n) (.slice v5.U G'.us.length v5.cu) (.slice v5.V G'.l.length v5.cv) 31
        have O5 := (o5.later a5).mono (B' := wr.heap.size + 1) (by rw [World.size_alloc]; omega)
        have N5 := (n5.later a5)
        have hl5 := N5.len
        have n5' := o5.nil
        have XB := (XG2.box.later hb_w5).later a5
        have OW := owns_laterN hown k5'
        have gr5 := grown_trans hgr (grown_some w2.heap.size k5')
        have b5 : Below w.heap.size w (w5.alloc (.cells #[.slice v5.A G'.ws.length v5.ca, .int .i64 G'.n, .slice v5.U G'.us.length v5.cu, .slice v5.V G'.l.length v5.cv] 31)) := b_wr.trans (k5'.mono b_wr.size)
        have HBK := Lib.hid (ownBlk hown)
        clear o5 n5 k5 XG XG2 aS bS hown hgr b_wr hb_w5 hS0 X0
        have hs5' : (w5.alloc (.cells #[.slice v5.A G'.ws.length v5.ca, .int .i64 G'.n, .slice v5.U G'.us.length v5.cu, .slice v5.V G'.l.length v5.cv] 31)).heap.size = w5.heap.size + 1 := World.size_alloc _ _
        go_wp2_with fail
        generalize w5.alloc (.cells #[.slice v5.A G'.ws.length v5.ca, .int .i64 G'.n, .slice v5.U G'.us.length v5.cu, .slice v5.V G'.l.length v5.cv] 31) = W5 at *
        generalize wr = wA at *
        have SRC := srcW.of N5.own
        have dS : Below W5.heap.size W5 W5.drew := (Below.refl _ _).drew
        have OWd := owns_laterN OW dS
        have SRC := srcW.of (N5.own.later dS)
        have X5d := X5.later dS
        have XBd := XB.later dS
        have O5d := O5.later dS
        have gr5d := grown_trans gr5 (grown_some w2.heap.size dS)
        have b5d := b5.drew
        have hsd : W5.drew.heap.size = W5.heap.size := rfl
        obtain ⟨s0, s1, s2, s3, t0', t1', t2', t3'⟩ := id X5d
        clear OW N5 XB O5 gr5 b5 X5
        refine wp_region_held_drew (S := (fun X : World => X.cell? ⟨w5.heap.size, 0, none⟩ = some (.slice v5.A G'.ws.length v5.ca) ∧ X.cell? ⟨w5.heap.size, 1, none⟩ = some (.int .i64 G'.n) ∧ X.cell? ⟨w5.heap.size, 2, none⟩ = some (.slice v5.U G'.us.length v5.cu) ∧ X.cell? ⟨w5.heap.size, 3, none⟩ = some (.slice v5.V G'.l.length v5.cv))) (by kernel_rfl) ?_ (fun hHeld => ?_)
        · (try dsimp only); exact ⟨s0, s1, s2, s3⟩
        refine wpAnyH_take (i := 0) (v := ?_) rfl (by kernel_rfl) (by kernel_rfl) (by kernel_rfl) (fun _ _ _ h => h) (Or.inl ⟨by rfl, ?_⟩) (by assumption) ?_
        rotate_left
        · (intro w hSw; (try dsimp only at hSw); go_simp; first | done | with_reducible rfl)
        try simp only [Act.put, List.getElem_toArray, List.getElem_cons_zero, List.getElem_cons_succ, List.setIfInBounds_toArray, List.set_cons_zero, List.set_cons_succ]
        refine wpAnyH_take (i := 1) (v := ?_) rfl (by kernel_rfl) (by kernel_rfl) (by kernel_rfl) (fun _ _ _ h => h) (Or.inl ⟨by rfl, ?_⟩) (by assumption) ?_
        rotate_left
        · (intro w hSw; (try dsimp only at hSw); go_simp; first | done | with_reducible rfl)
        try simp only [Act.put, List.getElem_toArray, List.getElem_cons_zero, List.getElem_cons_succ, List.setIfInBounds_toArray, List.set_cons_zero, List.set_cons_succ]
        refine wpAnyH_take (i := 2) (v := ?_) rfl (by kernel_rfl) (by kernel_rfl) (by kernel_rfl) (fun _ _ _ h => h) (Or.inl ⟨by rfl, ?_⟩) (by assumption) ?_
        rotate_left
        · (intro w hSw; (try dsimp only at hSw); go_simp; first | done | with_reducible rfl)
        try simp only [Act.put, List.getElem_toArray, List.getElem_cons_zero, List.getElem_cons_succ, List.setIfInBounds_toArray, List.set_cons_zero, List.set_cons_succ]
        refine wpAnyH_ready (rs := [3]) (by kernel_rfl) (by simp) ?_
        refine AllReadyH.cons rfl (fun K hK => ?_) AllReadyH.nil
        try simp only [List.getElem_toArray, List.getElem_cons_zero, List.getElem_cons_succ]
        rw [if_pos]
        rotate_left
        · rfl
        refine wp_appendU (.tmp 63) (.tmp 64) (by rfl) w4.heap.size Ag cg n xs (by simp [Act.eval, Act.put]) OWd A5 us.length c5 (vals us) (by simp [Act.eval, Act.put]) (by simp [vals]) SRC (vals_one us) (by omega) (by omega) ?_
        intro Aq cq w6 own6 hg6 hb6 hs6
        obtain ⟨gq, hgq, hg7⟩ := grown_pick hg6 (B := wA.heap.size) (fun q hq => (HBK.out q hq).2) (by omega)
        have X6 := X5d.grown hg7 (by omega)
        have XB6 := XBd.below hb6 (by omega)
        have O6 := O5d.grownLt hg7 (by omega)
        have gr6 := grown_base gr5d hb6 (Nat.le_refl _) (by omega)
        have b6 : Below w.heap.size w w6 := b5d.trans (hb6.mono (by omega))
        refine hK.out _ _ ?_ (fun hHeld => ?_)
        · (try dsimp only); exact ⟨X6.c0, X6.c1, X6.c2, X6.c3⟩
        clear hK K s0 s1 s2 s3 t0' t1' t2' t3' X5d XBd O5d gr5d b5d OWd SRC hg6
        try simp only [Act.put, List.getElem_toArray, List.getElem_cons_zero, List.getElem_cons_succ, List.setIfInBounds_toArray, List.set_cons_zero, List.set_cons_succ]
        obtain ⟨z0, z1, z2, z3, zf0, zf1, zf2, zf3⟩ := id XB6
        refine wpAnyH_ready (rs := [4]) (by kernel_rfl) (by simp) ?_
        refine AllReadyH.cons rfl (fun K hK => ?_) AllReadyH.nil
        try simp only [List.getElem_toArray, List.getElem_cons_zero, List.getElem_cons_succ]
        go_simp
        have X9 := (((X6.far (p := ⟨w2.heap.size, 0, none⟩) (by show w2.heap.size ≠ w5.heap.size; omega) (.slice v5.A G'.ws.length v5.ca)).far (p := ⟨w2.heap.size, 1, none⟩) (by show w2.heap.size ≠ w5.heap.size; omega) (.int .i64 G'.n)).far (p := ⟨w2.heap.size, 2, none⟩) (by show w2.heap.size ≠ w5.heap.size; omega) (.slice v5.U G'.us.length v5.cu)).far (p := ⟨w2.heap.size, 3, none⟩) (by show w2.heap.size ≠ w5.heap.size; omega) (.slice v5.V G'.l.length v5.cv)
        refine hK.out _ _ ?_ (fun hHeld => ?_)
        · (try dsimp only); exact ⟨X9.c0, X9.c1, X9.c2, X9.c3⟩
        clear hK K z0 z1 z2 z3 zf0 zf1 zf2 zf3 X6
        try simp only [Act.put, List.getElem_toArray, List.getElem_cons_zero, List.getElem_cons_succ, List.setIfInBounds_toArray, List.set_cons_zero, List.set_cons_succ]
        refine wpAnyH_take (i := 5) (v := ?_) rfl (by kernel_rfl) (by kernel_rfl) (by kernel_rfl) (fun _ _ _ h => h) (Or.inl ⟨by rfl, ?_⟩) (by assumption) ?_
        rotate_left
        · (intro w hSw; (try dsimp only at hSw); go_simp; first | done | with_reducible rfl)
        try simp only [Act.put, List.getElem_toArray, List.getElem_cons_zero, List.getElem_cons_succ, List.setIfInBounds_toArray, List.set_cons_zero, List.set_cons_succ]
        refine wpAnyH_done (by kernel_rfl) ?_ _
        have XG9 : HIn _ w2.heap.size v5 G' := ⟨XB6.all (.slice v5.A G'.ws.length v5.ca) (.int .i64 G'.n) (.slice v5.U G'.us.length v5.cu) (.slice v5.V G'.l.length v5.cv), (O6.all (b := w2.heap.size) (by omega) (.slice v5.A G'.ws.length v5.ca) (.int .i64 G'.n) (.slice v5.U G'.us.length v5.cu) (.slice v5.V G'.l.length v5.cv)).hm⟩
        have own9 := ownsRow_far (ownsRow_far (ownsRow_far (ownsRow_far own6 (p := ⟨w2.heap.size, 0, none⟩) (by show w2.heap.size < _; omega) (.slice v5.A G'.ws.length v5.ca)) (p := ⟨w2.heap.size, 1, none⟩) (by show w2.heap.size < _; omega) (.int .i64 G'.n)) (p := ⟨w2.heap.size, 2, none⟩) (by show w2.heap.size < _; omega) (.slice v5.U G'.us.length v5.cu)) (p := ⟨w2.heap.size, 3, none⟩) (by show w2.heap.size < _; omega) (.slice v5.V G'.l.length v5.cv)
        have gr9 := grown_trans gr6 (grown_trans (grown_setg w6 w2.heap.size 0 (.slice v5.A G'.ws.length v5.ca)) (grown_trans (grown_setg _ w2.heap.size 1 (.int .i64 G'.n)) (grown_trans (grown_setg _ w2.heap.size 2 (.slice v5.U G'.us.length v5.cu)) (grown_setg _ w2.heap.size 3 (.slice v5.V G'.l.length v5.cv)))))
        have b9 := below_all b6 (b := w2.heap.size) (by omega) (.slice v5.A G'.ws.length v5.ca) (.int .i64 G'.n) (.slice v5.U G'.us.length v5.cu) (.slice v5.V G'.l.length v5.cv)
        clear X9 XB6 O6 own6 gr6 b6 hb6 hg7
        go_wp2
        go_roundw
        case rel => exact ⟨i + 1, G', v5, Aq, cq, n + us.length, xs ++ vals us, by go_num, by omega, rfl, hn1.out, own9, XG9, n5', HSS, gr9, b9⟩
        case measure => simp [intOf]; omega
      · obtain rfl : i = h.l.length := by omega
        have hGk := HSW.out.ok
        have eG := HSM.out _ G HSW.out
        have hSw := HSW.out.done
        have hPg := hGk.pages
        have hGn := hGk.n1024
        have hGn0 := hGk.framed.some_
        have hGl := hGk.framed.spans.1
        have HGO := Lib.hid hGk.framed.spans
        have XH : HIn wr w.heap.size ⟨vA, vca, vU, vcu, vV, vcv⟩ h := ⟨X0, M0⟩
        have R1 := (N4.out.grownLt hgr (by omega)).row
        have hnn : n ≤ 2048 := by have := HUL.out h.l.length (Nat.le_refl _); omega
        have HLN : Hid (t0.length = t1.length + n) := Lib.hid (by rw [HCT.out, ← hn])
        have HGK := Lib.hid hGk
        have HPG := Lib.hid hPg
        have HSWD := Lib.hid hSw
        obtain ⟨gA, gca, gU, gcu, gV, gcv⟩ := vG
        clear X0 M0 hn hown hgr nG hPg hSw HSW
        obtain ⟨XG_c0, XG_c1, XG_c2, XG_c3, XG_f0, XG_f1, XG_f2, XG_f3⟩ := id XG.box
        go_wp2_with fail
        go_at_call 35
        refine (HO3.out _ ⟨gA, gca, gU, gcu, gV, gcv⟩ G hGk eG (hz.later (by exact b_wr)) (by exact XG.m)).mono ?_
        rintro e w6 ⟨A6, c6, rfl, o6, hb_w6⟩
        clear XG_c0 XG_c1 XG_c2 XG_c3 XG_f0 XG_f1 XG_f2 XG_f3
        have b_w6 : Below w.heap.size w w6 := b_wr.trans (hb_w6.mono b_wr.size)
        replace XH := XH.later hb_w6
        replace XG := XG.later hb_w6
        replace R1 := R1.later hb_w6
        have R6 := o6.row
        clear o6 eG
        obtain ⟨XG_c0, XG_c1, XG_c2, XG_c3, XG_f0, XG_f1, XG_f2, XG_f3⟩ := id XG.box
        go_wp2_with fail
        go_at_call 42
        refine (HFR.out _ gU gcu G hGk (by exact XG.m.u)).mono ?_
        rintro e w7 ⟨rfl, hb_w7⟩
        clear XG_c0 XG_c1 XG_c2 XG_c3 XG_f0 XG_f1 XG_f2 XG_f3
        have b_w7 : Below w.heap.size w w7 := b_w6.trans (hb_w7.mono b_w6.size)
        replace XH := XH.later hb_w7
        replace XG := XG.later hb_w7
        replace R1 := R1.later hb_w7
        replace R6 := R6.later hb_w7
        obtain ⟨XG_c0, XG_c1, XG_c2, XG_c3, XG_f0, XG_f1, XG_f2, XG_f3⟩ := id XG.box
        clear hGk
        go_wp2_with fail
        clear XG_c0 XG_c1 XG_c2 XG_c3 XG_f0 XG_f1 XG_f2 XG_f3
        generalize wr = wA at *
        go_loopw [19, 81] (fun nv ii wr => ∃ j : Nat, ii = .int .i64 (j : Nat) ∧ j ≤ G.l.length ∧ nv = .int .i64 (sumP G.l j) ∧ HIn wr w.heap.size ⟨vA, vca, vU, vcu, vV, vcv⟩ h ∧ HIn wr w2.heap.size ⟨gA, gca, gU, gcu, gV, gcv⟩ G ∧ Row wr wr.heap.size A4 t1 ∧ Row wr wr.heap.size A6 t1 ∧ Below w.heap.size w wr) (fun nv ii _ => G.l.length - (intOf ii).toNat)
        case atStart => exact ⟨0, rfl, Nat.zero_le _, rfl, XH, XG, R1, R6, b_w7⟩
        case round =>
          clear XH XG R1 R6 b_w7
          obtain ⟨j, rfl, hj, rfl, XH, XG, R1, R6, b_wr⟩ := hrel
          by_cases hjl : j < G.l.length
          · obtain ⟨bs, off, hV, hbs, hcs⟩ := XG.m.v.at_ (by omega)
            obtain ⟨As, ca, Ms, cm, q8, _, _⟩ := hcs j hjl
            simp only at hV
            subst hV
            have hsj := HSWD.out j hjl
            have ok := HGO.out.at_ hjl
            have hps := ok.sized.slots
            have hsp := sumP_le HGO.out (k := j) (by omega)
            have hs1 : sumP G.l (j + 1) = sumP G.l j + (nth G.l j).p := rfl
            have HS1 := Lib.hid hs1
            clear hs1 ok hcs
            generalize sumP G.l j = sj at *
            generalize nth G.l j = d at *
            obtain ⟨df, dp, dz, dan, daw, dmn, dmw, ds⟩ := d
            simp only at hsj hps HS1
            subst hsj
            obtain ⟨e0, e1, e2, e3, e4, e5, e6, e7⟩ := id q8
            simp only at e0 e1 e2 e3 e4 e5 e6 e7
            obtain ⟨g0, g1, g2, g3, fg0, fg1, fg2, fg3⟩ := id XG.box
            have i3 : (j : Int) < (G.l.length : Int) := by omega
            have i4 : (0 : Int) ≤ (j : Int) := by omega
            have aS : Below wr.heap.size wr (wr.alloc (.cells #[.int .i64 df, .int .i64 dp, .int .i64 dz, .int .i64 dan, .slice As daw.length ca, .int .i64 dmn, .slice Ms dmw.length cm, .bool true] 65)) := Below.alloc (Below.refl _ _) (Nat.le_refl _) _
            have XH2 := XH.later aS
            have XG2 := XG.later aS
            have R12 := R1.later aS
            have R62 := R6.later aS
            have bS := b_wr.trans (aS.mono b_wr.size)
            have hp0 : 0 ≤ dp ∧ dp ≤ 4 := by omega
            have hsj2 : 1 ≤ sj ∧ sj ≤ 1025 := by omega
            clear q8 XH XG R1 R6 b_wr aS hps hsp
            go_wp2
            go_roundw
            case rel => exact ⟨j + 1, by go_num, by omega, by rw [HS1.out], XH2, XG2, R12, R62, bS⟩
            case measure => simp [intOf]; omega
          · obtain rfl : j = G.l.length := by omega
            generalize sumP G.l G.l.length = SP at *
            have hspb := HPG.out
            obtain ⟨x0, x1, x2, x3, fx0, fx1, fx2, fx3⟩ := id XH.box
            go_wp2_with fail
            clear x0 x1 x2 x3 fx0 fx1 fx2 fx3
            generalize wr = wB at *
            go_loopw [95] (fun ii wr => ∃ k : Nat, ii = .int .i64 (k : Nat) ∧ k ≤ t1.length ∧ HIn wr w.heap.size ⟨vA, vca, vU, vcu, vV, vcv⟩ h ∧ HIn wr w2.heap.size ⟨gA, gca, gU, gcu, gV, gcv⟩ G ∧ Row wr wr.heap.size A4 t1 ∧ Row wr wr.heap.size A6 t1 ∧ Below w.heap.size w wr) (fun ii _ => t1.length - (intOf ii).toNat)
            case atStart => exact ⟨0, rfl, Nat.zero_le _, XH, XG, R1, R6, b_wr⟩
            case round =>
              clear XH XG R1 R6 b_wr
              obtain ⟨k, rfl, hk, XH, XG, R1, R6, b_wr⟩ := hrel
              by_cases hkl : k < t1.length
              · obtain ⟨bk, off, rfl, hbl, hc8⟩ := R1.at_ (by omega)
                have q8 := hc8 k hkl
                have hmem : t1.getD k 0 ∈ t1 := by rw [List.getD_eq_getElem?_getD, List.getElem?_eq_getElem hkl]; exact List.getElem_mem hkl
                obtain ⟨hb64, EM⟩ := HMD.out _ hmem
                generalize t1.getD k 0 = b at *
                have ht1 := HT1.out
                have j0 : (0 : Int) ≤ (k : Int) := by omega
                have j1 : (k : Int) < (t1.length : Int) := by omega
                obtain ⟨x0, x1, x2, x3, fx0, fx1, fx2, fx3⟩ := id XH.box
                clear hc8 hmem
                go_wp2_with fail
                go_at_call 31
                refine (HMK.out _ b (hz.later (by exact b_wr)) (by exact XH.m) hb64 EM).mono ?_
                rintro e w9 ⟨rfl, hb_w9⟩
                have XH2 := XH.later hb_w9
                have XG2 := XG.later hb_w9
                have R12 := R1.later hb_w9
                have R62 := R6.later hb_w9
                have b9 := b_wr.trans (hb_w9.mono b_wr.size)
                clear XH XG R1 R6 b_wr hb_w9 q8 x0 x1 x2 x3 fx0 fx1 fx2 fx3
                go_wp2
                go_roundw
                case rel => exact ⟨k + 1, by go_num, by omega, XH2, XG2, R12, R62, b9⟩
                case measure => simp [intOf]; omega
              · obtain rfl : k = t1.length := by omega
                have ht1 := HT1.out
                have ht0 := HT0.out
                have hln := HLN.out
                have dl : (((t1.length : Nat) : Int) + ((n : Nat) : Int) == ((t0.length : Nat) : Int)) = true := by simp; omega
                have df : (G.n - ((countTo G.us G.n.toNat : Nat) : Int) + SP == G.n) = true := by simp; omega
                have hcb : 0 ≤ ((countTo G.us G.n.toNat : Nat) : Int) ∧ ((countTo G.us G.n.toNat : Nat) : Int) = SP := ⟨by omega, hspb⟩
                generalize ((countTo G.us G.n.toNat : Nat) : Int) = CT at *
                clear hln
                obtain ⟨g0, g1, g2, g3, fg0, fg1, fg2, fg3⟩ := id XG.box
                go_wp2_with fail
                go_at_call 37
                refine (HSA.out _ _ _ _ _ (by exact R1) (by exact R6)).mono ?_
                rintro e w10 ⟨rfl, hb_w10⟩
                have XG2 := XG.later hb_w10
                have b10 := b_wr.trans (hb_w10.mono b_wr.size)
                clear g0 g1 g2 g3 fg0 fg1 fg2 fg3 XG XH R1 R6 b_wr
                obtain ⟨g0, g1, g2, g3, fg0, fg1, fg2, fg3⟩ := id XG2.box
                go_wp2_with fail
                go_at_call 21
                refine (HCK.out _ ⟨gA, gca, gU, gcu, gV, gcv⟩ G HGK.out (hz.later (by exact b10)) (by exact XG2.m)).mono ?_
                rintro e w11 ⟨rfl, hb_w11⟩
                have b11 := b10.trans (hb_w11.mono b10.size)
                go_wp2
                go_ret
                exact ⟨rfl, b11⟩
  · have d3 : (y1 != (0 : Int)) = true := by simpa using hy
    clear E1 hs hM hnil hy
    unfold hpV hpv at HTRN ⊢
    go_enter Tryz.func9, Tryz.ntmps9
    go_wp2_with fail
    go_at_call 19
    refine (hlives_any _ (hz.later (by repeat (first|exact bR _ _|assumption|refine bN ?_ _|refine bD ?_|refine bA ?_ (by first|omega|simp;omega|simp) _|refine bS ?_ (by first|omega|simp;omega|simp) _|refine bT ?_ (by assumption) (by first|omega|simp;omega|simp))))).mono ?_
    rintro e w1 ⟨rfl, hb_w1⟩
    have b_w1 : Below w.heap.size w w1 := (by repeat (first|exact bR _ _|assumption|refine bN ?_ _|refine bD ?_|refine bA ?_ (by first|omega|simp;omega|simp) _|refine bS ?_ (by first|omega|simp;omega|simp) _|refine bT ?_ (by assumption) (by first|omega|simp;omega|simp)))
    replace X0 := X0.later hb_w1
    obtain ⟨X0_c0, X0_c1, X0_c2, X0_c3, X0_f0, X0_f1, X0_f2, X0_f3⟩ := id X0.box
    go_wp2_with fail
    go_at_call 38
    refine (HTRN.out _ (hz.later (by exact b_w1)) X0.m).mono ?_
    rintro e w2 ⟨v2, rfl, o2, hb_w2⟩
    clear X0_c0 X0_c1 X0_c2 X0_c3 X0_f0 X0_f1 X0_f2 X0_f3
    have b_w2 : Below w.heap.size w w2 := b_w1.trans (hb_w2.mono b_w1.size)
    replace X0 := X0.later hb_w2
    have a_w2_0 : Below w2.heap.size w2 (w2.alloc (.cells #[.slice v2.A h1.ws.length v2.ca, .int .i64 h1.n, .slice v2.U h1.us.length v2.cu, .slice v2.V h1.l.length v2.cv] 31)) := Below.alloc (Below.refl _ _) (Nat.le_refl _) _
    replace X0 := X0.later a_w2_0
    have X2 := HIn.new o2.hm 31
    have b_w2_0 : Below w.heap.size w (w2.alloc (.cells #[.slice v2.A h1.ws.length v2.ca, .int .i64 h1.n, .slice v2.U h1.us.length v2.cu, .slice v2.V h1.l.length v2.cv] 31)) := b_w2.trans (a_w2_0.mono b_w2.size)
    obtain ⟨X2_c0, X2_c1, X2_c2, X2_c3, X2_f0, X2_f1, X2_f2, X2_f3⟩ := id X2.box
    go_wp2
    go_ret
    exact ⟨rfl, b_w2_0⟩
end Go.Proofs.YtogfbdeplogcfaaGreatDoor
