/- parts Z17, ZU, Z26, Z38, Z45, Z46 -/
import Derived.Test.YtogfbdeplogcfaaGreatDoorMY19
set_option linter.unusedVariables false
set_option linter.unusedSimpArgs false
namespace Go.Proofs.YtogfbdeplogcfaaGreatDoor
open Go.RowKit
set_option maxRecDepth 100000

theorem MkdE.ex (h : Hp) (a : Nat) : ∃ b y, MkdE h a b y := by
  by_cases hk : OkH h
  · exact ⟨_, _, .inr ⟨hk, rfl, rfl⟩⟩
  · exact ⟨_, _, .inl ⟨hk, rfl, rfl⟩⟩
section
variable {w : World} {v : Hv} {h : Hp}
end
end Go.Proofs.YtogfbdeplogcfaaGreatDoor
namespace Go.Proofs.YtogfbdeplogcfaaGreatDoor
open Go.RowKit
set_option maxRecDepth 100000

theorem Ok1.unm {d : Sd} (h : Ok1 d) : Ok1 (unmD d) ∧ ∀ i, i < slN d → tb (unmD d).mw i = false := by
  have hN := h.slK
  have hmn := h.mn
  have hl := h.m.long
  have key : ∀ i, i < slN d → tb (fillW d.mw 0 d.mn.toNat false) i = false := fun i hi => by
    rw [tb_fillW _ _ _ _ _ (by omega), if_pos (by omega)]
  refine ⟨⟨h.sized, h.placed, h.a, h.an, right_fillW h.m 0 d.mn.toNat false (by omega), h.mn, fun i hi ht => ?_⟩, key⟩
  have ht : tb (fillW d.mw 0 d.mn.toNat false) i = true := ht
  rw [key i hi] at ht
  cases ht
theorem unmH_like {h : Hp} (hk : OkH h) : Like h (unmH h) := by
  refine ⟨rfl, rfl, rfl, by simp [unmH], fun j hj => ?_, fun j hj => ?_⟩
  · show Pl _ (nth (h.l.map unmD) j)
    rw [nth_map _ _ _ hj]
    exact ⟨rfl, rfl, rfl⟩
  · show Ok1 (nth (h.l.map unmD) j)
    rw [nth_map _ _ _ hj]
    exact (hk.framed.spans.at_ hj).unm.1
theorem unmH_cur {h : Hp} (hk : OkH h) (hs : SweptH h) (a : Nat) : Cur (unmH h) a ↔ Cur h a := by
  refine cur_like (unmH_like hk) (fun j q hj hq => ?_) a
  show tb (curW (nth (h.l.map unmD) j)) q = _
  rw [nth_map _ _ _ hj]
  unfold curW unmD
  simp [hs j hj]
theorem unmH_ok {h : Hp} (hk : OkH h) (hs : SweptH h) : OkH (unmH h) := by
  refine hk.recur (unmH_like hk) rfl (fun j q hj hq => ?_) (fun j q hj hq hc' => ?_)
  · show tb (nth (h.l.map unmD) j).aw q = _
    rw [nth_map _ _ _ hj]
    rfl
  · have hc2 : tb (curW (nth h.l j)) q = true := by
      rw [← hc']
      show _ = tb (curW (nth (h.l.map unmD) j)) q
      rw [nth_map _ _ _ hj]
      unfold curW unmD
      simp [hs j hj]
    exact ((linked_iff hk.framed.spans).1 hk.linked j q hj hq hc2).mono fun a h => (unmH_cur hk hs a).2 h
end Go.Proofs.YtogfbdeplogcfaaGreatDoor
namespace Go.Proofs.YtogfbdeplogcfaaGreatDoor
open Go.RowKit
set_option maxRecDepth 100000

theorem UnmE.ex (h : Hp) : ∃ h' y, UnmE h h' y := by
  by_cases hk : OkH h
  · by_cases h0 : SweptH h
    · exact ⟨_, _, .inr (.inr ⟨hk, h0, rfl, rfl⟩)⟩
    · exact ⟨_, _, .inr (.inl ⟨hk, h0, rfl, rfl⟩)⟩
  · exact ⟨_, _, .inl ⟨hk, rfl, rfl⟩⟩
end Go.Proofs.YtogfbdeplogcfaaGreatDoor
namespace Go.Proofs.YtogfbdeplogcfaaGreatDoor
open Go.RowKit
set_option maxRecDepth 100000

theorem fnY_zero {h : Hp} (hk : OkH h) (a : Nat) : fnY h a = 0 ↔ Cur h a := by
  constructor
  · intro hy
    obtain ⟨j, k, hj, hk', hc, ha, _⟩ := fn_case hk hy
    exact ⟨j, k, hj, hk', hc, ha⟩
  · rintro ⟨j, k, hj, hk', hc, rfl⟩
    exact (fn_at hk hj hk' hc).2
theorem fnY_of {h : Hp} (hk : OkH h) (a : Nat) : (a = 0 ∧ fnY h a = 7) ∨ (a ≠ 0 ∧ ¬ Cur h a ∧ fnY h a = 10) ∨ (a ≠ 0 ∧ Cur h a ∧ fnY h a = 0) := by
  by_cases h0 : a = 0
  · exact .inl ⟨h0, by unfold fnY; rw [if_pos h0]⟩
  · by_cases hc : Cur h a
    · exact .inr (.inr ⟨h0, hc, (fnY_zero hk a).2 hc⟩)
    · refine .inr (.inl ⟨h0, hc, ?_⟩)
      rcases fnY_case h a with e | e | e
      · exact absurd ((fnY_zero hk a).1 e) hc
      · unfold fnY at e
        rw [if_neg h0] at e
        split at e <;> cases e
      · exact e
theorem fnY_ext {h h' : Hp} (hk : OkH h) (hk' : OkH h') (e : ∀ a, Cur h' a ↔ Cur h a) (a : Nat) : fnY h' a = fnY h a := by
  rcases fnY_of hk a with ⟨h0, h1⟩ | ⟨h0, h1, h2⟩ | ⟨h0, h1, h2⟩ <;> rcases fnY_of hk' a with ⟨g0, g1⟩ | ⟨g0, g1, g2⟩ | ⟨g0, g1, g2⟩
  · rw [h1, g1]
  · exact absurd h0 g0
  · exact absurd h0 g0
  · exact absurd g0 h0
  · rw [h2, g2]
  · exact absurd ((e a).1 g1) h1
  · exact absurd g0 h0
  · exact absurd ((e a).2 h1) g1
  · rw [h2, g2]
end Go.Proofs.YtogfbdeplogcfaaGreatDoor
namespace Go.Proofs.YtogfbdeplogcfaaGreatDoor
open Go.RowKit
set_option maxRecDepth 100000

theorem fnO_dead {h : Hp} {a : Nat} (hy : fnY h a ≠ 0) : fnO h a = ob0 := by
  unfold fnY at hy
  unfold fnO
  by_cases h0 : a = 0
  · have : hin (addrs (cursH h)) a = 0 := by
      by_cases e : hin (addrs (cursH h)) a = 0
      · exact e
      · exact absurd h0 ((hin_mem _ _).1 e).1
    rw [if_pos this]
  · rw [if_neg h0] at hy
    split at hy
    · rename_i e
      rw [if_pos e]
    · exact absurd rfl hy
theorem fn_like {h h' : Hp} (hk : OkH h) (hk' : OkH h') (L : Like h h') (e : ∀ j k, j < h.l.length → k < slN (nth h.l j) → tb (curW (nth h'.l j)) k = tb (curW (nth h.l j)) k) {a : Nat} (hy : fnY h a = 0) :
    ∃ j k, j < h.l.length ∧ k < slN (nth h.l j) ∧ tb (curW (nth h.l j)) k = true ∧ slA (nth h.l j) k = a ∧ fnO h a = obAt h.ws (nth h.l j) j k ∧ fnO h' a = obAt h'.ws (nth h'.l j) j k ∧ fnY h' a = 0 := by
  obtain ⟨j, k, hj, hk2, hc, ha, e1⟩ := fn_case hk hy
  have p := L.pl j hj
  have h2 := fn_at hk' (j := j) (k := k) (by rw [L.l]; exact hj) (by rw [p.slN]; exact hk2) (by rw [e j k hj hk2]; exact hc)
  rw [p.slA, ha] at h2
  exact ⟨j, k, hj, hk2, hc, ha, e1, h2.1, h2.2⟩
theorem slot_addr {h : Hp} (hk : OkH h) {j k j' k' : Nat} (hj : j < h.l.length) (hk1 : k < slN (nth h.l j)) (hj' : j' < h.l.length) (hk2 : k' < slN (nth h.l j')) (e : slA (nth h.l j) k = slA (nth h.l j') k') : j = j' ∧ k = k' := by
  have w1 := hk.slotW hj hk1
  have w2 := hk.slotW hj' hk2
  exact slot_one hk.framed hj hk1 hj' hk2 (i := slA (nth h.l j) k) (by omega) (by omega) (by omega) (by omega)
theorem mar_mark {h : Hp} (hk : OkH h) {i k : Nat} (hi : i < h.l.length) (hk1 : k < slN (nth h.l i)) (hc : tb (curW (nth h.l i)) k = true) (a : Nat) :
    fnY (marH h i k) a = fnY h a ∧ (fnO (marH h i k) a).b = if a = slA (nth h.l i) k then true else (fnO h a).b := by
  have ha := (hk.framed.spans.at_ hi).cur_sub hk1 hc
  have L := marH_like hk hi hk1 ha
  have hk' := marH_ok hk hi hk1 hc
  have ok := hk.framed.spans.at_ hi
  have hcc : ∀ j q, j < h.l.length → q < slN (nth h.l j) → tb (curW (nth (marH h i k).l j)) q = tb (curW (nth h.l j)) q := by
    intro j q hj hq
    show tb (curW (nth (h.l.set i _) j)) q = _
    rw [nth_set _ _ _ _ hi]
    split
    · rename_i e
      rw [e]
      exact mk_cur ok hk1 (fun hs => by unfold curW at hc; rw [hs] at hc; exact hc) q
    · rfl
  have hY := fnY_ext hk hk' (marH_cur hk hi hk1 hc) a
  refine ⟨hY, ?_⟩
  by_cases hy : fnY h a = 0
  · obtain ⟨j, q, hj, hq, hcq, hadr, e1, e2, _⟩ := fn_like hk hk' L hcc hy
    rw [e1, e2]
    show tb (nth (h.l.set i _) j).mw q = if _ then true else tb (nth h.l j).mw q
    rw [nth_set _ _ _ _ hi]
    have h64 : k < 64 * (nth h.l i).mw.length := by have := ok.mw; have := ok.slK; omega
    by_cases e : j = i
    · subst e
      rw [if_pos rfl]
      show tb (putW _ _ _) _ = _
      rw [tb_putW _ _ _ _ h64]
      by_cases e : q = k
      · subst e
        rw [if_pos rfl, if_pos hadr.symm]
      · rw [if_neg e, if_neg (fun e3 => e (slot_addr hk hj hq hi hk1 (by rw [hadr, e3])).2)]
    · rw [if_neg e, if_neg (fun e3 => e (slot_addr hk hj hq hi hk1 (by rw [hadr, e3])).1)]
  · have hy2 : fnY (marH h i k) a ≠ 0 := by rw [hY]; exact hy
    rw [fnO_dead hy, fnO_dead hy2]
    rw [if_neg]
    rintro rfl
    exact hy (fn_at hk hi hk1 hc).2
theorem unm_mark {h : Hp} (hk : OkH h) (hs : SweptH h) (a : Nat) : fnY (unmH h) a = fnY h a ∧ (fnO (unmH h) a).b = false := by
  have L := unmH_like hk
  have hk' := unmH_ok hk hs
  have hY := fnY_ext hk hk' (unmH_cur hk hs) a
  refine ⟨hY, ?_⟩
  by_cases hy : fnY (unmH h) a = 0
  · obtain ⟨j, q, hj, hq, _, _, e⟩ := fn_case hk' hy
    rw [e]
    have hj2 : j < h.l.length := by rw [L.l] at hj; exact hj
    have hn : nth (unmH h).l j = unmD (nth h.l j) := nth_map _ _ _ hj2
    show tb (nth (unmH h).l j).mw q = false
    rw [hn] at hq ⊢
    exact ((hk.framed.spans.at_ hj2).unm).2 q hq
  · rw [fnO_dead hy]; rfl
theorem MarE.self {h : Hp} {a : Nat} {h' : Hp} {b : Bool} (hE : MarE h a h' b 0) : OkH h ∧ OkH h' ∧ MkdE h' a true 0 ∧ (∀ o b y, MkdE h o b y → ∃ b', MkdE h' o b' y ∧ (o ≠ a → b' = b)) := by
  rcases hE with ⟨_, _, _, h2⟩ | ⟨_, h2, _, _, h3⟩ | ⟨hk, h0, rfl, _, _⟩
  · cases h2
  · exact absurd h3.symm h2
  · obtain ⟨j, k, hj, hk1, hc, ha, e⟩ := fn_case hk h0
    rw [e]
    have hk' : OkH (marH h j k) := marH_ok hk hj hk1 hc
    have M := mar_mark hk hj hk1 hc
    refine ⟨hk, hk', .inr ⟨hk', ?_, ?_⟩, fun o b y hE => ?_⟩
    · have := (M a).2
      rw [if_pos ha.symm] at this
      exact this.symm
    · rw [show (obAt h.ws (nth h.l j) j k).i = j from rfl, show (obAt h.ws (nth h.l j) j k).k = k from rfl, (M a).1, h0]
    · rcases hE with ⟨h1, _⟩ | ⟨_, rfl, rfl⟩
      · exact absurd hk h1
      · refine ⟨(fnO (marH h j k) o).b, .inr ⟨hk', rfl, ((M o).1).symm⟩, fun hne => ?_⟩
        rw [(M o).2, if_neg (fun e2 => hne (by rw [e2, ha]))]
theorem UnmE.none_ {h : Hp} {h' : Hp} (hE : UnmE h h' 0) {a : Nat} (hy : fnY h a = 0) : OkH h' ∧ MkdE h' a false 0 := by
  rcases hE with ⟨_, _, h2⟩ | ⟨_, _, _, h2⟩ | ⟨hk, hs, rfl, _⟩
  · cases h2
  · cases h2
  · have M := unm_mark hk hs a
    exact ⟨unmH_ok hk hs, .inr ⟨unmH_ok hk hs, M.2.symm, by rw [M.1, hy]⟩⟩
end Go.Proofs.YtogfbdeplogcfaaGreatDoor
namespace Go.Proofs.YtogfbdeplogcfaaGreatDoor
open Go.RowKit
set_option maxRecDepth 100000

set_option maxHeartbeats 8000000 in
theorem heapMarked_walk (v : Hv) (h : Hp) (a o : Nat) (w : World) (hz : Sizes w) (hM : HM w w.heap.size v h) (hs : Short h) (hnil : v.V = none → v.cv = 0) (ha : a < W64) (ho : o < W64) :
    Calls Tryz.prog 10 #[hpV v h, .int .u64 (a : Nat), .int .u64 (o : Nat)] w fun e w' => e = .returned (.bool true) ∧ Below w.heap.size w w' := by
  have X0 := HIn.new hM 31
  obtain ⟨h3, b3, y3, E3⟩ := MarE.ex h a
  by_cases hy : y3 = 0
  · rw [hy] at E3
    obtain ⟨hk, hk3, M1, M2⟩ := E3.self
    clear hy y3
    obtain ⟨b2, y2, E2⟩ := MkdE.ex h o
    obtain ⟨b4, E4, hne⟩ := M2 _ _ _ E2
    obtain ⟨hu, yu, EU⟩ := UnmE.ex h3
    have HMAR := Lib.hid fun (w : World) hz hM => zmarkH_any (w := w) (v := v) (h := h) hz hM (by have := hs.l; omega) hs.ws hnil a ha h3 b3 0 E3
    have hs3 := hk3.short
    have HM1 := Lib.hid fun (w : World) (v : Hv) hz hM => zmarked_any (w := w) (v := v) (h := h3) hz hM (by have := hs3.l; omega) hs3.ws a ha true 0 M1
    have HM2 := Lib.hid fun (w : World) hz hM => zmarked_any (w := w) (v := v) (h := h) hz hM (by have := hs.l; omega) hs.ws o ho b2 y2 E2
    have HM3 := Lib.hid fun (w : World) (v : Hv) hz hM => zmarked_any (w := w) (v := v) (h := h3) hz hM (by have := hs3.l; omega) hs3.ws o ho b4 y2 E4
    have HC := Lib.hid fun (w : World) (v : Hv) hz hM => zcheck_any (w := w) (v := v) (h := h3) hz hM (by have := hs3.l; omega) hs3.ws 0 (.inl ⟨hk3, rfl⟩)
    have HU := Lib.hid fun (w : World) (v : Hv) hz hM hn => zunmarkH_any (w := w) (v := v) (h := h3) hz hM (by have := hs3.l; omega) hs3.ws hn hu yu EU
    have ru : (yu = 5) ∨ (yu = 0 ∧ OkH hu ∧ MkdE hu a false 0) := by
      rcases id EU with ⟨q, _⟩ | ⟨_, _, _, q⟩ | ⟨_, _, _, q⟩
      · exact absurd hk3 q
      · exact .inl q
      · subst q
        exact .inr ⟨rfl, EU.none_ (by rcases M1 with ⟨q, _⟩ | ⟨_, _, q⟩; exact absurd hk3 q; exact q.symm)⟩
    have RU := Lib.hid ru
    have hne2 : o = a ∨ (b4 = b2 ∧ (((o : Nat) : Int) != ((a : Nat) : Int)) = true) := by
      by_cases e : o = a
      · exact .inl e
      · exact .inr ⟨hne e, by simp; omega⟩
    have RN := Lib.hid hne2
    have d2 : (y2 != y2) = false := by simp
    unfold FreshHb at HMAR
    unfold FreshH at HU
    clear E2 E3 E4 EU M1 M2 hne hne2 ru hk hk3 hs hs3 hM hnil
    unfold hpV hpv at HC HM1 HM2 HM3 HU HMAR ⊢
    go_enter Tryz.func10, Tryz.ntmps10
    go_wp2_with fail
    go_at_call 19
    refine (hlives_any _ (hz.later (by repeat (first|exact bR _ _|assumption|refine bN ?_ _|refine bD ?_|refine bA ?_ (by first|omega|simp;omega|simp) _|refine bS ?_ (by first|omega|simp;omega|simp) _|refine bT ?_ (by assumption) (by first|omega|simp;omega|simp))))).mono ?_
    rintro e w1 ⟨rfl, hb_w1⟩
    have b_w1 : Below w.heap.size w w1 := (by repeat (first|exact bR _ _|assumption|refine bN ?_ _|refine bD ?_|refine bA ?_ (by first|omega|simp;omega|simp) _|refine bS ?_ (by first|omega|simp;omega|simp) _|refine bT ?_ (by assumption) (by first|omega|simp;omega|simp)))
    replace X0 := X0.later hb_w1
    obtain ⟨X0_c0, X0_c1, X0_c2, X0_c3, X0_f0, X0_f1, X0_f2, X0_f3⟩ := id X0.box
    go_wp2_with fail
    go_at_call 29
    refine (HMAR.out _ (hz.later (by exact b_w1)) X0.m).mono ?_
    rintro e w3 ⟨v3, rfl, o3, hb_w3⟩
    have n3 := o3.nil
    clear X0_c0 X0_c1 X0_c2 X0_c3 X0_f0 X0_f1 X0_f2 X0_f3
    have b_w3 : Below w.heap.size w w3 := b_w1.trans (hb_w3.mono b_w1.size)
    replace X0 := X0.later hb_w3
    have a_w3_0 : Below w3.heap.size w3 (w3.alloc (.cells #[.slice v3.A h3.ws.length v3.ca, .int .i64 h3.n, .slice v3.U h3.us.length v3.cu, .slice v3.V h3.l.length v3.cv] 31)) := Below.alloc (Below.refl _ _) (Nat.le_refl _) _
    replace X0 := X0.later a_w3_0
    have X3 := HIn.new o3.hm 31
    have b_w3_0 : Below w.heap.size w (w3.alloc (.cells #[.slice v3.A h3.ws.length v3.ca, .int .i64 h3.n, .slice v3.U h3.us.length v3.cu, .slice v3.V h3.l.length v3.cv] 31)) := b_w3.trans (a_w3_0.mono b_w3.size)
    obtain ⟨X0_c0, X0_c1, X0_c2, X0_c3, X0_f0, X0_f1, X0_f2, X0_f3⟩ := id X0.box
    obtain ⟨X3_c0, X3_c1, X3_c2, X3_c3, X3_f0, X3_f1, X3_f2, X3_f3⟩ := id X3.box
    go_wp2_with fail
    go_at_call 31
    refine (HM1.out _ _ (hz.later (by exact b_w3_0)) (by exact X3.m)).mono ?_
    rintro e w4 ⟨rfl, hb_w4⟩
    clear X0_c0 X0_c1 X0_c2 X0_c3 X0_f0 X0_f1 X0_f2 X0_f3 X3_c0 X3_c1 X3_c2 X3_c3 X3_f0 X3_f1 X3_f2 X3_f3
    have b_w4 : Below w.heap.size w w4 := b_w3_0.trans (hb_w4.mono b_w3_0.size)
    replace X0 := X0.later hb_w4
    replace X3 := X3.later hb_w4
    obtain ⟨X0_c0, X0_c1, X0_c2, X0_c3, X0_f0, X0_f1, X0_f2, X0_f3⟩ := id X0.box
    obtain ⟨X3_c0, X3_c1, X3_c2, X3_c3, X3_f0, X3_f1, X3_f2, X3_f3⟩ := id X3.box
    go_wp2_with fail
    go_at_call 31
    refine (HM2.out _ (hz.later (by exact b_w4)) (by exact X0.m)).mono ?_
    rintro e w5 ⟨rfl, hb_w5⟩
    clear X0_c0 X0_c1 X0_c2 X0_c3 X0_f0 X0_f1 X0_f2 X0_f3 X3_c0 X3_c1 X3_c2 X3_c3 X3_f0 X3_f1 X3_f2 X3_f3
    have b_w5 : Below w.heap.size w w5 := b_w4.trans (hb_w5.mono b_w4.size)
    replace X0 := X0.later hb_w5
    replace X3 := X3.later hb_w5
    obtain ⟨X0_c0, X0_c1, X0_c2, X0_c3, X0_f0, X0_f1, X0_f2, X0_f3⟩ := id X0.box
    obtain ⟨X3_c0, X3_c1, X3_c2, X3_c3, X3_f0, X3_f1, X3_f2, X3_f3⟩ := id X3.box
    go_wp2_with fail
    go_at_call 31
    refine (HM3.out _ _ (hz.later (by exact b_w5)) (by exact X3.m)).mono ?_
    rintro e w6 ⟨rfl, hb_w6⟩
    clear X0_c0 X0_c1 X0_c2 X0_c3 X0_f0 X0_f1 X0_f2 X0_f3 X3_c0 X3_c1 X3_c2 X3_c3 X3_f0 X3_f1 X3_f2 X3_f3
    have b_w6 : Below w.heap.size w w6 := b_w5.trans (hb_w6.mono b_w5.size)
    replace X0 := X0.later hb_w6
    replace X3 := X3.later hb_w6
    clear o3
    rcases RN.out with rfl | ⟨rfl, dn⟩
    · have d3 : (((o : Nat) : Int) != ((o : Nat) : Int)) = false := by simp
      obtain ⟨X0_c0, X0_c1, X0_c2, X0_c3, X0_f0, X0_f1, X0_f2, X0_f3⟩ := id X0.box
      obtain ⟨X3_c0, X3_c1, X3_c2, X3_c3, X3_f0, X3_f1, X3_f2, X3_f3⟩ := id X3.box
      go_wp2_with fail
      go_at_call 21
      refine (HC.out _ _ (hz.later (by exact b_w6)) (by exact X3.m)).mono ?_
      rintro e w7 ⟨rfl, hb_w7⟩
      clear X0_c0 X0_c1 X0_c2 X0_c3 X0_f0 X0_f1 X0_f2 X0_f3 X3_c0 X3_c1 X3_c2 X3_c3 X3_f0 X3_f1 X3_f2 X3_f3
      have b_w7 : Below w.heap.size w w7 := b_w6.trans (hb_w7.mono b_w6.size)
      replace X0 := X0.later hb_w7
      replace X3 := X3.later hb_w7
      obtain ⟨X0_c0, X0_c1, X0_c2, X0_c3, X0_f0, X0_f1, X0_f2, X0_f3⟩ := id X0.box
      obtain ⟨X3_c0, X3_c1, X3_c2, X3_c3, X3_f0, X3_f1, X3_f2, X3_f3⟩ := id X3.box
      go_wp2_with fail
      go_at_call 33
      refine (HU.out _ _ (hz.later (by exact b_w7)) (by exact X3.m) n3).mono ?_
      rintro e w8 ⟨v8, rfl, o8, hb_w8⟩
      clear X0_c0 X0_c1 X0_c2 X0_c3 X0_f0 X0_f1 X0_f2 X0_f3 X3_c0 X3_c1 X3_c2 X3_c3 X3_f0 X3_f1 X3_f2 X3_f3
      have b_w8 : Below w.heap.size w w8 := b_w7.trans (hb_w8.mono b_w7.size)
      replace X0 := X0.later hb_w8
      replace X3 := X3.later hb_w8
      have a_w8_0 : Below w8.heap.size w8 (w8.alloc (.cells #[.slice v8.A hu.ws.length v8.ca, .int .i64 hu.n, .slice v8.U hu.us.length v8.cu, .slice v8.V hu.l.length v8.cv] 31)) := Below.alloc (Below.refl _ _) (Nat.le_refl _) _
      replace X0 := X0.later a_w8_0
      replace X3 := X3.later a_w8_0
      have X8 := HIn.new o8.hm 31
      have b_w8_0 : Below w.heap.size w (w8.alloc (.cells #[.slice v8.A hu.ws.length v8.ca, .int .i64 hu.n, .slice v8.U hu.us.length v8.cu, .slice v8.V hu.l.length v8.cv] 31)) := b_w8.trans (a_w8_0.mono b_w8.size)
      clear o8
      rcases RU.out with rfl | ⟨rfl, hku, MU⟩
      · obtain ⟨X3_c0, X3_c1, X3_c2, X3_c3, X3_f0, X3_f1, X3_f2, X3_f3⟩ := id X3.box
        obtain ⟨X8_c0, X8_c1, X8_c2, X8_c3, X8_f0, X8_f1, X8_f2, X8_f3⟩ := id X8.box
        go_wp2
        go_ret
        exact ⟨rfl, b_w8_0⟩
      · have HMU := Lib.hid fun (w : World) (v : Hv) hz hM => zmarked_any (w := w) (v := v) (h := hu) hz hM (by have := hku.short.l; omega) hku.short.ws _ ha false 0 MU
        have HCU := Lib.hid fun (w : World) (v : Hv) hz hM => zcheck_any (w := w) (v := v) (h := hu) hz hM (by have := hku.short.l; omega) hku.short.ws 0 (.inl ⟨hku, rfl⟩)
        clear hku MU
        unfold hpV hpv at HMU HCU
        obtain ⟨X3_c0, X3_c1, X3_c2, X3_c3, X3_f0, X3_f1, X3_f2, X3_f3⟩ := id X3.box
        obtain ⟨X8_c0, X8_c1, X8_c2, X8_c3, X8_f0, X8_f1, X8_f2, X8_f3⟩ := id X8.box
        go_wp2_with fail
        go_at_call 31
        refine (HMU.out _ _ (hz.later (by exact b_w8_0)) (by exact X8.m)).mono ?_
        rintro e w9 ⟨rfl, hb_w9⟩
        clear X3_c0 X3_c1 X3_c2 X3_c3 X3_f0 X3_f1 X3_f2 X3_f3 X8_c0 X8_c1 X8_c2 X8_c3 X8_f0 X8_f1 X8_f2 X8_f3
        have b_w9 : Below w.heap.size w w9 := b_w8_0.trans (hb_w9.mono b_w8_0.size)
        replace X0 := X0.later hb_w9
        replace X3 := X3.later hb_w9
        replace X8 := X8.later hb_w9
        obtain ⟨X3_c0, X3_c1, X3_c2, X3_c3, X3_f0, X3_f1, X3_f2, X3_f3⟩ := id X3.box
        obtain ⟨X8_c0, X8_c1, X8_c2, X8_c3, X8_f0, X8_f1, X8_f2, X8_f3⟩ := id X8.box
        go_wp2_with fail
        go_at_call 21
        refine (HCU.out _ _ (hz.later (by exact b_w9)) (by exact X8.m)).mono ?_
        rintro e w10 ⟨rfl, hb_w10⟩
        clear X3_c0 X3_c1 X3_c2 X3_c3 X3_f0 X3_f1 X3_f2 X3_f3 X8_c0 X8_c1 X8_c2 X8_c3 X8_f0 X8_f1 X8_f2 X8_f3
        have b_w10 : Below w.heap.size w w10 := b_w9.trans (hb_w10.mono b_w9.size)
        replace X0 := X0.later hb_w10
        replace X3 := X3.later hb_w10
        replace X8 := X8.later hb_w10
        obtain ⟨X3_c0, X3_c1, X3_c2, X3_c3, X3_f0, X3_f1, X3_f2, X3_f3⟩ := id X3.box
        obtain ⟨X8_c0, X8_c1, X8_c2, X8_c3, X8_f0, X8_f1, X8_f2, X8_f3⟩ := id X8.box
        go_wp2
        go_ret
        exact ⟨rfl, b_w10⟩
    · have d4 : (b4 != b4) = false := by simp
      obtain ⟨X0_c0, X0_c1, X0_c2, X0_c3, X0_f0, X0_f1, X0_f2, X0_f3⟩ := id X0.box
      obtain ⟨X3_c0, X3_c1, X3_c2, X3_c3, X3_f0, X3_f1, X3_f2, X3_f3⟩ := id X3.box
      go_wp2_with fail
      go_at_call 21
      refine (HC.out _ _ (hz.later (by exact b_w6)) (by exact X3.m)).mono ?_
      rintro e w7 ⟨rfl, hb_w7⟩
      clear X0_c0 X0_c1 X0_c2 X0_c3 X0_f0 X0_f1 X0_f2 X0_f3 X3_c0 X3_c1 X3_c2 X3_c3 X3_f0 X3_f1 X3_f2 X3_f3
      have b_w7 : Below w.heap.size w w7 := b_w6.trans (hb_w7.mono b_w6.size)
      replace X0 := X0.later hb_w7
      replace X3 := X3.later hb_w7
      obtain ⟨X0_c0, X0_c1, X0_c2, X0_c3, X0_f0, X0_f1, X0_f2, X0_f3⟩ := id X0.box
      obtain ⟨X3_c0, X3_c1, X3_c2, X3_c3, X3_f0, X3_f1, X3_f2, X3_f3⟩ := id X3.box
      go_wp2_with fail
      go_at_call 33
      refine (HU.out _ _ (hz.later (by exact b_w7)) (by exact X3.m) n3).mono ?_
      rintro e w8 ⟨v8, rfl, o8, hb_w8⟩
      clear X0_c0 X0_c1 X0_c2 X0_c3 X0_f0 X0_f1 X0_f2 X0_f3 X3_c0 X3_c1 X3_c2 X3_c3 X3_f0 X3_f1 X3_f2 X3_f3
      have b_w8 : Below w.heap.size w w8 := b_w7.trans (hb_w8.mono b_w7.size)
      replace X0 := X0.later hb_w8
      replace X3 := X3.later hb_w8
      have a_w8_0 : Below w8.heap.size w8 (w8.alloc (.cells #[.slice v8.A hu.ws.length v8.ca, .int .i64 hu.n, .slice v8.U hu.us.length v8.cu, .slice v8.V hu.l.length v8.cv] 31)) := Below.alloc (Below.refl _ _) (Nat.le_refl _) _
      replace X0 := X0.later a_w8_0
      replace X3 := X3.later a_w8_0
      have X8 := HIn.new o8.hm 31
      have b_w8_0 : Below w.heap.size w (w8.alloc (.cells #[.slice v8.A hu.ws.length v8.ca, .int .i64 hu.n, .slice v8.U hu.us.length v8.cu, .slice v8.V hu.l.length v8.cv] 31)) := b_w8.trans (a_w8_0.mono b_w8.size)
      clear o8
      rcases RU.out with rfl | ⟨rfl, hku, MU⟩
      · obtain ⟨X3_c0, X3_c1, X3_c2, X3_c3, X3_f0, X3_f1, X3_f2, X3_f3⟩ := id X3.box
        obtain ⟨X8_c0, X8_c1, X8_c2, X8_c3, X8_f0, X8_f1, X8_f2, X8_f3⟩ := id X8.box
        go_wp2
        go_ret
        exact ⟨rfl, b_w8_0⟩
      · have HMU := Lib.hid fun (w : World) (v : Hv) hz hM => zmarked_any (w := w) (v := v) (h := hu) hz hM (by have := hku.short.l; omega) hku.short.ws _ ha false 0 MU
        have HCU := Lib.hid fun (w : World) (v : Hv) hz hM => zcheck_any (w := w) (v := v) (h := hu) hz hM (by have := hku.short.l; omega) hku.short.ws 0 (.inl ⟨hku, rfl⟩)
        clear hku MU
        unfold hpV hpv at HMU HCU
        obtain ⟨X3_c0, X3_c1, X3_c2, X3_c3, X3_f0, X3_f1, X3_f2, X3_f3⟩ := id X3.box
        obtain ⟨X8_c0, X8_c1, X8_c2, X8_c3, X8_f0, X8_f1, X8_f2, X8_f3⟩ := id X8.box
        go_wp2_with fail
        go_at_call 31
        refine (HMU.out _ _ (hz.later (by exact b_w8_0)) (by exact X8.m)).mono ?_
        rintro e w9 ⟨rfl, hb_w9⟩
        clear X3_c0 X3_c1 X3_c2 X3_c3 X3_f0 X3_f1 X3_f2 X3_f3 X8_c0 X8_c1 X8_c2 X8_c3 X8_f0 X8_f1 X8_f2 X8_f3
        have b_w9 : Below w.heap.size w w9 := b_w8_0.trans (hb_w9.mono b_w8_0.size)
        replace X0 := X0.later hb_w9
        replace X3 := X3.later hb_w9
        replace X8 := X8.later hb_w9
        obtain ⟨X3_c0, X3_c1, X3_c2, X3_c3, X3_f0, X3_f1, X3_f2, X3_f3⟩ := id X3.box
        obtain ⟨X8_c0, X8_c1, X8_c2, X8_c3, X8_f0, X8_f1, X8_f2, X8_f3⟩ := id X8.box
        go_wp2_with fail
        go_at_call 21
        refine (HCU.out _ _ (hz.later (by exact b_w9)) (by exact X8.m)).mono ?_
        rintro e w10 ⟨rfl, hb_w10⟩
        clear X3_c0 X3_c1 X3_c2 X3_c3 X3_f0 X3_f1 X3_f2 X3_f3 X8_c0 X8_c1 X8_c2 X8_c3 X8_f0 X8_f1 X8_f2 X8_f3
        have b_w10 : Below w.heap.size w w10 := b_w9.trans (hb_w10.mono b_w9.size)
        replace X0 := X0.later hb_w10
        replace X3 := X3.later hb_w10
        replace X8 := X8.later hb_w10
        obtain ⟨X3_c0, X3_c1, X3_c2, X3_c3, X3_f0, X3_f1, X3_f2, X3_f3⟩ := id X3.box
        obtain ⟨X8_c0, X8_c1, X8_c2, X8_c3, X8_f0, X8_f1, X8_f2, X8_f3⟩ := id X8.box
        go_wp2
        go_ret
        exact ⟨rfl, b_w10⟩
  · have hb3 : false = b3 := by
      rcases id E3 with ⟨_, _, q, _⟩ | ⟨_, _, _, q, _⟩ | ⟨_, _, _, _, q⟩
      · exact q.symm
      · exact q.symm
      · exact absurd q hy
    subst hb3
    have d3 : (y3 != (0 : Int)) = true := by simpa using hy
    have HMAR := Lib.hid fun (w : World) hz hM => zmarkH_any (w := w) (v := v) (h := h) hz hM (by have := hs.l; omega) hs.ws hnil a ha h3 false y3 E3
    unfold FreshHb at HMAR
    clear E3 hs hM hnil hy
    unfold hpV hpv at HMAR ⊢
    go_enter Tryz.func10, Tryz.ntmps10
    go_wp2_with fail
    go_at_call 19
    refine (hlives_any _ (hz.later (by repeat (first|exact bR _ _|assumption|refine bN ?_ _|refine bD ?_|refine bA ?_ (by first|omega|simp;omega|simp) _|refine bS ?_ (by first|omega|simp;omega|simp) _|refine bT ?_ (by assumption) (by first|omega|simp;omega|simp))))).mono ?_
    rintro e w1 ⟨rfl, hb_w1⟩
    have b_w1 : Below w.heap.size w w1 := (by repeat (first|exact bR _ _|assumption|refine bN ?_ _|refine bD ?_|refine bA ?_ (by first|omega|simp;omega|simp) _|refine bS ?_ (by first|omega|simp;omega|simp) _|refine bT ?_ (by assumption) (by first|omega|simp;omega|simp)))
    replace X0 := X0.later hb_w1
    obtain ⟨X0_c0, X0_c1, X0_c2, X0_c3, X0_f0, X0_f1, X0_f2, X0_f3⟩ := id X0.box
    go_wp2_with fail
    go_at_call 29
    refine (HMAR.out _ (hz.later (by exact b_w1)) X0.m).mono ?_
    rintro e w3 ⟨v3, rfl, o3, hb_w3⟩
    clear X0_c0 X0_c1 X0_c2 X0_c3 X0_f0 X0_f1 X0_f2 X0_f3
    have b_w3 : Below w.heap.size w w3 := b_w1.trans (hb_w3.mono b_w1.size)
    replace X0 := X0.later hb_w3
    have a_w3_0 : Below w3.heap.size w3 (w3.alloc (.cells #[.slice v3.A h3.ws.length v3.ca, .int .i64 h3.n, .slice v3.U h3.us.length v3.cu, .slice v3.V h3.l.length v3.cv] 31)) := Below.alloc (Below.refl _ _) (Nat.le_refl _) _
    replace X0 := X0.later a_w3_0
    have X3 := HIn.new o3.hm 31
    have b_w3_0 : Below w.heap.size w (w3.alloc (.cells #[.slice v3.A h3.ws.length v3.ca, .int .i64 h3.n, .slice v3.U h3.us.length v3.cu, .slice v3.V h3.l.length v3.cv] 31)) := b_w3.trans (a_w3_0.mono b_w3.size)
    obtain ⟨X3_c0, X3_c1, X3_c2, X3_c3, X3_f0, X3_f1, X3_f2, X3_f3⟩ := id X3.box
    go_wp2
    go_ret
    exact ⟨rfl, b_w3_0⟩
end Go.Proofs.YtogfbdeplogcfaaGreatDoor
