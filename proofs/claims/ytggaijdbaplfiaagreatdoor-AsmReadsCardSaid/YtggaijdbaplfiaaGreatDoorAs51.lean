/- Contracts of the document's package: Parse. -/
import Derived.Test.YtggaijdbaplfiaaGreatDoorAs50
import Derived.BigQuiet
import Derived.Deep.QuietTactic
namespace Go.Proofs.YtggaijdbaplfiaaGreatDoor
open Go.RowKit
set_option linter.unusedVariables false
set_option linter.unusedSimpArgs false
theorem splitc_len (c : UInt8) (s : List UInt8) : ∀ x ∈ Lib.split s [c], x.length ≤ s.length := by
  rw [← show wordsD c [] s = Lib.split s [c] from wordsD_split c s [] (by simp)]
  have : ∀ (l cur : List UInt8), ∀ x ∈ wordsD c cur l, x.length ≤ cur.length + l.length := by
    intro l
    induction l with
    | nil => intro cur x hx; simp [wordsD] at hx; subst hx; simp
    | cons y r ih =>
      intro cur x hx
      rw [wordsD] at hx
      split at hx
      · rw [List.mem_cons] at hx
        rcases hx with rfl | hx
        · simp
        · have := ih _ x hx
          simp at this ⊢
          omega
      · have := ih _ x hx
        simp at this ⊢
        omega
  intro x hx
  have := this s [] x hx
  simpa using this
theorem splitc_num (c : UInt8) (s : List UInt8) : (Lib.split s [c]).length ≤ s.length + 1 := by
  rw [← show wordsD c [] s = Lib.split s [c] from wordsD_split c s [] (by simp)]
  have : ∀ (l cur : List UInt8), (wordsD c cur l).length ≤ l.length + 1 := by
    intro l
    induction l with
    | nil => intro cur; simp [wordsD]
    | cons y r ih =>
      intro cur
      rw [wordsD]
      split
      · have := ih []
        simp
        omega
      · have := ih (cur ++ [y])
        simp
        omega
  exact this s []
theorem suf_ne (r : List UInt8) (c : UInt8) (h : c ≠ 58) : Lib.hasSuffix (r ++ [c]) [58] = false := by
  unfold Lib.hasSuffix
  cases hq : [58].isSuffixOf (r ++ [c]) with
  | false => rfl
  | true =>
    rw [List.isSuffixOf_iff_suffix] at hq
    obtain ⟨t, ht⟩ := hq
    have := List.append_inj_right' ht rfl
    injection this with this
    exact absurd this.symm h
theorem isDef_no {r : List UInt8} {c : UInt8} (h : c ≠ 58) : isDef (r ++ [c]) = false := by
  unfold isDef
  rw [suf_ne r c h, Bool.false_and]
theorem isDef_at (r : List UInt8) : isDef (r ++ [58]) = isLab r := by
  unfold isDef
  rw [(suffix_yes r).1, (suffix_yes r).2, Bool.true_and]
theorem step_def {r : List UInt8} {i : Nat} {lb : Lbs} {cs : Cms} (h : isLab r = true) : stepS (r ++ [58]) i lb cs = if (lb.lookup r).isSome then (4, lb, cs) else (0, lb ++ [(r, cs.length)], cs) := by
  unfold stepS
  rw [if_neg (by simp), isDef_at, h, if_pos rfl, (suffix_yes r).2]
theorem step_ins {s : List UInt8} {i : Nat} {lb : Lbs} {cs : Cms} (h0 : s ≠ []) (h : isDef s = false) : stepS s i lb cs = match parseS s with
    | none => (2, lb, cs)
    | some c => if 256 ≤ cs.length then (6, lb, cs) else (0, lb, cs ++ [(c.1, c.2, i)]) := by
  unfold stepS
  rw [if_neg h0, h]
  rfl
theorem ext_front (r : List UInt8) (c : UInt8) : (bs (r ++ [c])).extract 0 r.length = bs r := by
  have e : ((bs (r ++ [c])).extract 0 r.length).data.toList = r := by
    rw [ByteArray.data_extract]
    simp only [Array.toList_extract, List.extract_eq_take_drop, Nat.sub_zero, List.drop_zero]
    rw [bs_data, List.take_left']
    rfl
  rw [← bs_of ((bs (r ++ [c])).extract 0 r.length), e]
/-- what the rows hold of the labels and lines so far -/
def RowsOf (lb : Lbs) (cs : Cms) (xs : List In) (ns ws : List (List UInt8)) (ps ls : List Nat) : Prop := xs = cs.map (·.1) ∧ ns = lb.map (·.1) ∧ ws = cs.map (·.2.1) ∧ ps = lb.map (·.2) ∧ ls = cs.map (·.2.2)
theorem row_some {w : World} {B n cap s : Nat} {e : TypeId} {C : Option Addr} {xs : List Value} (h : w.ownsRow B e s (.slice C n cap) n xs) (hn : 0 < n) : ∃ g, C = some ⟨g, 0, none⟩ ∧ g < w.heap.size ∧ B ≤ g := by
  obtain ⟨_, ⟨h1, h2⟩ | ⟨g, cap', cur, e, hB, hg, hc, _, hs, ht⟩⟩ := id h
  · omega
  · injection e with e1 e2 e3
    subst e1
    exact ⟨g, rfl, heap_lt hg, hB⟩
section
variable {w : World}
set_option maxRecDepth 100000 in
set_option maxHeartbeats 16000000 in
theorem xparse_any (s : ByteArray) : Calls Tryz.prog 9 #[.string s] w fun e w' => ProgR w (readP s.data.toList) e w' := by
  have hlen : s.data.toList.length = s.size := Array.length_toList
  by_cases hbig : 65536 < s.size
  · have d1 : decide (65536 < (s.size : Int)) = true := decide_eq_true (by omega)
    have hR : readP s.data.toList = ([], 0, 1) := by unfold readP; rw [if_pos (by omega)]
    have HR := Lib.hid hR
    clear hR
    generalize readP s.data.toList = RT at *
    go_enter Tryz.func9, Tryz.ntmps9
    go_wp2
    go_ret3
    exact progR_no HR.out (by repeat (first | exact Below.refl _ _ | assumption | (refine below_drewN ?_ _) | (refine Below.drew ?_) | (refine Below.alloc ?_ (by first | omega | (simp; omega) | simp) _) | (refine Below.setCell ?_ (by first | omega | (simp; omega) | simp) _) | (refine below_trans ?_ (by assumption) (by first | omega | (simp; omega) | simp)))) _ rfl
  · have d1 : decide (65536 < (s.size : Int)) = false := decide_eq_false (by omega)
    have hR : ∃ RR, readL ((Lib.split s.data.toList [10]).drop 0) 0 [] [] = RR ∧ readP s.data.toList = (match RR with
        | .inl (lb, cs) => progL lb cs []
        | .inr (i, e) => ([], i, e)) := ⟨_, rfl, by unfold readP; rw [if_neg (by omega)]; rfl⟩
    obtain ⟨RR, hRR, hRP⟩ := hR
    have HWD := Lib.hid fun (W : World) => xwords_any (w := W) s (by omega) 10
    have HLE := Lib.hid (splitc_len 10 s.data.toList)
    have hN := splitc_num 10 s.data.toList
    have HRR := Lib.hid hRR
    have HPI : Hid (∀ lb cs, RR = .inl (lb, cs) → readP s.data.toList = progL lb cs []) := Lib.hid fun lb cs h => by rw [hRP, h]
    have HPE : Hid (∀ i e, RR = .inr (i, e) → readP s.data.toList = ([], i, e)) := Lib.hid fun i e h => by rw [hRP, h]
    clear hRR hRP
    generalize readP s.data.toList = RT at *
    generalize hLL : (Lib.split s.data.toList [10]) = LL at *
    clear hLL
    have hN2 : LL.length ≤ 65537 := by omega
    have HLZ : Hid (∀ x ∈ LL, x.length ≤ 65536) := Lib.hid fun x hx => by have := HLE.out x hx; omega
    clear HLE hlen
    generalize s.data.toList = sl at *
    go_enter Tryz.func9, Tryz.ntmps9
    go_wp2_with fail
    go_at_call 23
    refine (HWD.out _).mono ?_
    rintro e w1 ⟨A, cap, rfl, ow, hb_w1⟩
    obtain ⟨hc_w1, hf_w1⟩ := bcell hb_w1; have hs_w1 := hb_w1.size; (try simp only [World.size_alloc, World.size_setCell, World.size_drew, World.heap_drewN] at hs_w1)
    have HWL := Lib.hid (WdRow.of_owns ow)
    clear ow HWD hc_w1 hf_w1
    go_wp2_with fail
    go_loopw [5, 6, 7, 8, 9, 24] (fun v5 v6 v7 v8 v9 ii wr => ∃ (k : Nat) (lb : Lbs) (cs : Cms) (O N W P L : Option Addr) (oc nc wc pc lc : Nat) (xs : List In) (ns ws : List (List UInt8)) (ps ls : List Nat), v5 = .slice O xs.length oc ∧ v6 = .slice N ns.length nc ∧ v7 = .slice W ws.length wc ∧ v8 = .slice P ps.length pc ∧ v9 = .slice L ls.length lc ∧ ii = .int .i64 (k : Nat) ∧ k ≤ LL.length ∧ Hid (PQ wr w1.heap.size O N W P L oc nc wc pc lc xs ns ws ps ls) ∧ Hid (RowsOf lb cs xs ns ws ps ls) ∧ Hid (LbOk lb ∧ CmOk cs ∧ cs.length ≤ 256 ∧ lb.length ≤ k) ∧ Hid (readL (LL.drop k) k lb cs = RR) ∧ Below w1.heap.size w1 wr) (fun v5 v6 v7 v8 v9 ii _ => LL.length - (intOf ii).toNat)
    case atStart => exact ⟨0, [], [], none, none, none, none, none, 0, 0, 0, 0, 0, [], [], [], [], [], rfl, rfl, rfl, rfl, rfl, rfl, Nat.zero_le _, Lib.hid (PQ.nil _ _), Lib.hid ⟨rfl, rfl, rfl, rfl, rfl⟩, Lib.hid ⟨by simp [LbOk], fun c hc => by simp at hc, by simp, by simp⟩, HRR, Below.refl _ _⟩
    case round =>
      clear HRR
      obtain ⟨k, lb, cs, O, N, W, P, L, oc, nc, wc, pc, lc, xs, ns, ws, ps, ls, rfl, rfl, rfl, rfl, rfl, rfl, hk, HQ, HRO, HO, HT, hb_wr⟩ := hrel
      have hsr := hb_wr.size
      have hxl : xs.length = cs.length := by rw [HRO.out.1, List.length_map]
      have hnl : ns.length = lb.length := by rw [HRO.out.2.1, List.length_map]
      have hwl : ws.length = cs.length := by rw [HRO.out.2.2.1, List.length_map]
      have hpl : ps.length = lb.length := by rw [HRO.out.2.2.2.1, List.length_map]
      have hll : ls.length = cs.length := by rw [HRO.out.2.2.2.2, List.length_map]
      have hx6 : xs.length ≤ 256 := by have := HO.out.2.2.1; omega
      have hn6 : ns.length ≤ 65537 := by have := HO.out.2.2.2; omega
      have hw6 : ws.length ≤ 256 := by have := HO.out.2.2.1; omega
      have hp6 : ps.length ≤ 65537 := by have := HO.out.2.2.2; omega
      have hl6 : ls.length ≤ 256 := by have := HO.out.2.2.1; omega
      have HXL := Lib.hid hxl
      have HNL := Lib.hid hnl
      have HWLN := Lib.hid hwl
      have HPL := Lib.hid hpl
      have HLL := Lib.hid hll
      clear hxl hnl hwl hpl hll
      by_cases hlt : k < LL.length
      · obtain ⟨ab, aoff, rfl, hab, hac⟩ := HWL.out.at_ (by omega)
        have c0 := (hb_wr.cell (p := ⟨ab, aoff + k, none⟩) hab).trans (hac k hlt)
        rw [List.getD_eq_getElem?_getD, List.getElem?_eq_getElem hlt, Option.getD_some] at c0
        clear hac
        have hk0 : (0 : Int) ≤ (k : Int) := by omega
        have hk1 : (k : Int) < (LL.length : Int) := by omega
        have hrd := HT.out
        rw [List.drop_eq_getElem_cons hlt, readL_step] at hrd
        have hzs := HLZ.out _ (List.getElem_mem hlt)
        generalize hsk : LL[k] = sk at *
        clear hsk
        have HRD := Lib.hid hrd
        have HSO := Lib.hid fun h0 => stepS_ok (s := sk) (k := k + 1) HO.out.1 HO.out.2.1 HO.out.2.2.1 (by omega) h0
        clear hrd HT
        rcases List.eq_nil_or_concat sk with rfl | ⟨r, c, hrc⟩
        · have e1 : (bs []).toList.isEmpty = true := by rw [ByteArray.toList_eq, bs_data]; rfl
          have e2 : ((bs []).toList == []) = true := by rw [ByteArray.toList_eq, bs_data]; rfl
          have HT2 : Hid (readL (LL.drop (k + 1)) (k + 1) lb cs = RR) := Lib.hid (by simpa [stepS] using HRD.out)
          have HO2 : Hid (LbOk lb ∧ CmOk cs ∧ cs.length ≤ 256 ∧ lb.length ≤ k + 1) := Lib.hid ⟨HO.out.1, HO.out.2.1, HO.out.2.2.1, by have := HO.out.2.2.2; omega⟩
          clear HRD HSO
          go_wp2
          go_roundw
          case rel => exact ⟨k + 1, lb, cs, O, N, W, P, L, oc, nc, wc, pc, lc, xs, ns, ws, ps, ls, rfl, rfl, rfl, rfl, rfl, by go_num, by omega, HQ, HRO, HO2, HT2, hb_wr⟩
          case measure => (simp [intOf]; try omega)
        · rw [List.concat_eq_append] at hrc
          subst hrc
          have e1 : (bs (r ++ [c])).toList.isEmpty = false := by rw [ByteArray.toList_eq, bs_data]; simp
          have e2 : ((bs (r ++ [c])).toList == []) = false := by rw [ByteArray.toList_eq, bs_data]; simp
          have hzS : (bs (r ++ [c])).size = r.length + 1 := by rw [bs_size]; simp
          have hrl : r.length ≤ 65536 := by simp at hzs; omega
          have HEX := Lib.hid (ext_front r c)
          have HIN := Lib.hid fun (W : World) => (by
            have := xinstr_any (w := W) (bs (r ++ [c])) (by rw [hzS]; simp at hzs; omega)
            rw [bs_data] at this
            exact this : Calls Tryz.prog 26 #[.string (bs (r ++ [c]))] W fun e w' => InsR (r ++ [c]) e ∧ Below W.heap.size W w')
          have HIL := Lib.hid fun (W : World) => (by
            have := xislabel_any (w := W) (bs r) (by rw [bs_size]; omega)
            rw [bs_data] at this
            exact this : Calls Tryz.prog 24 #[.string (bs r)] W fun e w' => e = .returned (.bool (isLab r)) ∧ Below W.heap.size W w')
          have hC : ∀ h, ((bs (r ++ [c]))[r.length]'h).toNat = c.toNat := fun h => by
            have : (bs (r ++ [c]))[r.length]'h = (r ++ [c])[r.length]'(by simp) := rfl
            rw [this]
            simp
          have hq0 : ((r.length + 1 : Nat) : Int) - 1 = (r.length : Int) := by omega
          have hq1 : (r.length : Int) < ((r.length + 1 : Nat) : Int) := by omega
          have HNE : Hid (r ++ [c] ≠ []) := Lib.hid (by simp)
          have hVV := @UInt8.toNat_inj c 58
          have HIS := Lib.hid fun h => @step_ins (r ++ [c]) (k + 1) lb cs HNE.out h
          have HDN := Lib.hid fun h => @isDef_no r c h
          have HDA := Lib.hid (isDef_at r)
          have HSD := Lib.hid fun h => @step_def r (k + 1) lb cs h
          by_cases h58 : c = 58
          · subst h58
            have hC2 : ∀ h, ((bs (r ++ [58]))[r.length]'h).toNat = 58 := hC
            clear hC hVV HDN
            obtain ⟨ex, HEX2⟩ : ∃ ex, Hid (ex = bs r) := ⟨_, Lib.hid rfl⟩
            generalize hS : bs (r ++ [58]) = S at *
            clear hS
            have hex : S.extract 0 r.length = bs r := HEX.out
            generalize hq : r.length = q at *
            clear hq
            have hi : q < S.size := by omega
            have hC3 := hC2 hi
            clear hC2
            go_wp2_with fail
            go_at_call 24
            refine (HIL.out _).mono ?_
            rintro e w2 ⟨rfl, hb_w2⟩
            obtain ⟨hc_w2, hf_w2⟩ := bcell hb_w2; have hs_w2 := hb_w2.size; (try simp only [World.size_alloc, World.size_setCell, World.size_drew, World.heap_drewN] at hs_w2)
            have HQ2 := Lib.hid (HQ.out.later hb_w2)
            have b2 : Below w1.heap.size w1 w2 := (by repeat (first | exact Below.refl _ _ | assumption | (refine below_drewN ?_ _) | (refine Below.drew ?_) | (refine Below.alloc ?_ (by first | omega | (simp; omega) | simp) _) | (refine Below.setCell ?_ (by first | omega | (simp; omega) | simp) _) | (refine below_trans ?_ (by assumption) (by first | omega | (simp; omega) | simp))))
            clear hc_w2 hf_w2 HQ
            generalize hlb : isLab r = vl at *
            cases vl with
            | true =>
              have HST := Lib.hid (HSD.out rfl)
              clear HSD HIS HDA HIL HIN hlb
              have HAT := Lib.hid fun (W : World) (h : WdRow W W.heap.size N (lb.map (·.1))) => xat_any (w := W) lb nc h (by have := HO.out.2.2.2; omega) r
              have HWN := Lib.hid (WdRow.of_owns HQ2.out.n)
              have hnr : ns = lb.map (·.1) := HRO.out.2.1
              have HWN2 : Hid (∀ W, Below w2.heap.size w2 W → WdRow W W.heap.size N (lb.map (·.1))) := Lib.hid fun W hb => by rw [← hnr]; exact HWN.out.later hb
              rw [← HNL.out] at HAT
              clear hnr HWN
              go_wp2_with fail
              go_at_call 25
              refine (HAT.out _ (HWN2.out _ (by repeat (first | exact Below.refl _ _ | assumption | (refine below_drewN ?_ _) | (refine Below.drew ?_) | (refine Below.alloc ?_ (by first | omega | (simp; omega) | simp) _) | (refine Below.setCell ?_ (by first | omega | (simp; omega) | simp) _) | (refine below_trans ?_ (by assumption) (by first | omega | (simp; omega) | simp)))))).mono ?_
              rintro e w3 ⟨⟨y, rfl, hy⟩, rfl⟩
              have HY := Lib.hid hy
              clear hy HAT HWN2
              rcases HY.out with ⟨h1, h2⟩ | ⟨kk, hkk, h1, h2⟩
              · subst h1
                have hst : stepS (r ++ [58]) (k + 1) lb cs = (0, lb ++ [(r, cs.length)], cs) := by
                  rw [HST.out, h2]
                  rfl
                have HT2 : Hid (readL (LL.drop (k + 1)) (k + 1) (lb ++ [(r, cs.length)]) cs = RR) := Lib.hid (by
                  have h := HRD.out
                  rw [hst] at h
                  exact h)
                have HO2 : Hid (LbOk (lb ++ [(r, cs.length)]) ∧ CmOk cs ∧ cs.length ≤ 256 ∧ (lb ++ [(r, cs.length)]).length ≤ k + 1) := Lib.hid (by
                  have h := HSO.out (by rw [hst])
                  rw [hst] at h
                  exact ⟨h.1, h.2.1, h.2.2.1, by have := HO.out.2.2.2; simp; omega⟩)
                have HRO2 : Hid (RowsOf (lb ++ [(r, cs.length)]) cs xs (ns ++ [r]) ws (ps ++ [xs.length]) ls) := Lib.hid (by
                  have hx := HXL.out
                  obtain ⟨r1, r2, r3, r4, r5⟩ := HRO.out
                  exact ⟨r1, by rw [r2]; simp, r3, by rw [r4, hx]; simp, r5⟩)
                clear HRD HSO HST HY h2 hst
                have HQ5 := Lib.hid (HQ2.out.later (show Below w3.heap.size w3 (w3.alloc (.cells #[.string (bs r)] 9)) from (by repeat (first | exact Below.refl _ _ | assumption | (refine below_drewN ?_ _) | (refine Below.drew ?_) | (refine Below.alloc ?_ (by first | omega | (simp; omega) | simp) _) | (refine Below.setCell ?_ (by first | omega | (simp; omega) | simp) _) | (refine below_trans ?_ (by assumption) (by first | omega | (simp; omega) | simp))))))
                have b5 : Below w1.heap.size w1 (w3.alloc (.cells #[.string (bs r)] 9)) := (by repeat (first | exact Below.refl _ _ | assumption | (refine below_drewN ?_ _) | (refine Below.drew ?_) | (refine Below.alloc ?_ (by first | omega | (simp; omega) | simp) _) | (refine Below.setCell ?_ (by first | omega | (simp; omega) | simp) _) | (refine below_trans ?_ (by assumption) (by first | omega | (simp; omega) | simp))))
                have g2 : w1.heap.size ≤ w3.heap.size := b2.size
                go_upto_region 14 with (at_builtin; refine wpList_appendS ?_ (.tmp 55) (.tmp 61) ?_ w1.heap.size N nc ns.length (ns.map sv) ?_ HQ5.out.n (some ⟨w3.heap.size, 0, none⟩) 1 1 [.string (bs r)] ?_ rfl (fun _ => ⟨w3.heap.size, 0, rfl, fl_lies w3 [.string (bs r)] _⟩) (by intro u hu; simp at hu; subst hu; rfl) (by omega) (by simp; omega) ?_; rfl; rfl; rfl; rfl; intro A7 cap7 w7 hown7 hg7 hb_w7 hat7)
                have HQ7 := Lib.hid (HQ5.out.grow_n r (by rw [List.map_append]; exact hown7) hg7 hat7)
                have b7 : Below w1.heap.size w1 w7 := below_trans b5 hb_w7 (Nat.le_refl _)
                have g7 : w1.heap.size ≤ w7.heap.size := b7.size
                clear HQ5 b5 hown7 hg7 hb_w7 hat7 HQ2
                have hnn : (ns ++ [r]).length = ns.length + 1 := by simp
                have HNN := Lib.hid hnn
                clear hnn
                have HQ8 := Lib.hid (HQ7.out.later (show Below w7.heap.size w7 (w7.alloc (.cells #[.int .i64 (xs.length : Nat)] 3)) from (by repeat (first | exact Below.refl _ _ | assumption | (refine below_drewN ?_ _) | (refine Below.drew ?_) | (refine Below.alloc ?_ (by first | omega | (simp; omega) | simp) _) | (refine Below.setCell ?_ (by first | omega | (simp; omega) | simp) _) | (refine below_trans ?_ (by assumption) (by first | omega | (simp; omega) | simp))))))
                have b8 : Below w1.heap.size w1 (w7.alloc (.cells #[.int .i64 (xs.length : Nat)] 3)) := (by repeat (first | exact Below.refl _ _ | assumption | (refine below_drewN ?_ _) | (refine Below.drew ?_) | (refine Below.alloc ?_ (by first | omega | (simp; omega) | simp) _) | (refine Below.setCell ?_ (by first | omega | (simp; omega) | simp) _) | (refine below_trans ?_ (by assumption) (by first | omega | (simp; omega) | simp))))
                go_wp2_with (at_builtin; refine wpList_appendZ ?_ (.tmp 63) (.tmp 66) ?_ w1.heap.size P pc ps.length (ivN ps) ?_ HQ8.out.p (some ⟨w7.heap.size, 0, none⟩) 1 1 [.int .i64 (xs.length : Nat)] ?_ rfl (fun _ => ⟨w7.heap.size, 0, rfl, fl_lies w7 [.int .i64 (xs.length : Nat)] _⟩) (by intro u hu; simp at hu; subst hu; rfl) (by omega) (by simp; omega) ?_; rfl; rfl; rfl; rfl; intro A9 cap9 w9 hown9 hg9 hb_w9 hat9)
                have HQ9 := Lib.hid (HQ8.out.grow_p xs.length (by unfold ivN; rw [List.map_append]; exact hown9) hg9 hat9)
                have b9 : Below w1.heap.size w1 w9 := below_trans b8 hb_w9 (Nat.le_refl _)
                clear HQ8 b8 hown9 hg9 hb_w9 hat9 HQ7 b7 g7
                have hpn : (ps ++ [xs.length]).length = ps.length + 1 := by simp
                have HPN := Lib.hid hpn
                clear hpn
                go_wp2
                go_roundw
                case rel => exact ⟨k + 1, _, cs, O, A7, W, A9, L, oc, cap7, wc, cap9, lc, xs, ns ++ [r], ws, ps ++ [xs.length], ls, rfl, by rw [HNN.out], rfl, by rw [HPN.out], rfl, by go_num, by omega, HQ9, HRO2, HO2, HT2, b9⟩
                case measure => (simp [intOf]; try omega)
              · subst h1
                have HER : Hid (RT = ([], k + 1, 4)) := Lib.hid (by
                  have h := HRD.out
                  rw [HST.out, h2] at h
                  exact HPE.out _ _ h.symm)
                have d5 : decide ((0 : Int) ≤ (kk : Int)) = true := decide_eq_true (by omega)
                clear HRD HSO HST HY h2
                go_wp2
                go_ret3
                exact progR_no HER.out (by repeat (first | exact Below.refl _ _ | assumption | (refine below_drewN ?_ _) | (refine Below.drew ?_) | (refine Below.alloc ?_ (by first | omega | (simp; omega) | simp) _) | (refine Below.setCell ?_ (by first | omega | (simp; omega) | simp) _) | (refine below_trans ?_ (by assumption) (by first | omega | (simp; omega) | simp)))) _ (by first | rfl | omega | (simp; omega))
            | false =>
              have HIS2 := Lib.hid (HIS.out HDA.out)
              clear HSD HIS HDA HIL hlb hex hC3 hi hzS HEX HEX2
              go_wp2_with fail
              go_at_call 26
              refine (HIN.out _).mono ?_
              rintro e w4 ⟨⟨x, g, bb, rfl, hy1, hy0⟩, hb_w4⟩
              obtain ⟨hc_w4, hf_w4⟩ := bcell hb_w4; have hs_w4 := hb_w4.size; (try simp only [World.size_alloc, World.size_setCell, World.size_drew, World.heap_drewN] at hs_w4)
              have HY1 := Lib.hid hy1
              have HY0 := Lib.hid hy0
              clear hy1 hy0
              have b4 : Below w1.heap.size w1 w4 := (by repeat (first | exact Below.refl _ _ | assumption | (refine below_drewN ?_ _) | (refine Below.drew ?_) | (refine Below.alloc ?_ (by first | omega | (simp; omega) | simp) _) | (refine Below.setCell ?_ (by first | omega | (simp; omega) | simp) _) | (refine below_trans ?_ (by assumption) (by first | omega | (simp; omega) | simp))))
              have HQ4 := Lib.hid (HQ2.out.later hb_w4)
              have HX4 := Lib.hid (In11.new w4 x 37)
              have g4 : w1.heap.size ≤ w4.heap.size := b4.size
              clear hc_w4 hf_w4 HIN HQ2 hb_w4
              unfold inv
              cases bb with
              | false =>
                have HER : Hid (RT = ([], k + 1, 2)) := Lib.hid (by
                  have h := HRD.out
                  rw [HIS2.out, HY0.out rfl] at h
                  exact HPE.out _ _ h.symm)
                clear HRD HIS2 HSO HY1 HY0
                go_wp2
                go_ret3
                exact progR_no HER.out (by repeat (first | exact Below.refl _ _ | assumption | (refine below_drewN ?_ _) | (refine Below.drew ?_) | (refine Below.alloc ?_ (by first | omega | (simp; omega) | simp) _) | (refine Below.setCell ?_ (by first | omega | (simp; omega) | simp) _) | (refine below_trans ?_ (by assumption) (by first | omega | (simp; omega) | simp)))) _ (by first | rfl | omega | (simp; omega))
              | true =>
                by_cases h256 : cs.length = 256
                · have HER : Hid (RT = ([], k + 1, 6)) := Lib.hid (by
                    have h := HRD.out
                    rw [HIS2.out, HY1.out rfl] at h
                    simp only [h256, Nat.le_refl, if_true] at h
                    exact HPE.out _ _ h.symm)
                  have e5 : ((xs.length : Int) == 256) = true := by rw [HXL.out, h256]; rfl
                  have e5n : (xs.length == 256) = true := by rw [HXL.out, h256]; rfl
                  clear HRD HIS2 HSO HY1 HY0 h256
                  go_wp2
                  go_ret3
                  exact progR_no HER.out (by repeat (first | exact Below.refl _ _ | assumption | (refine below_drewN ?_ _) | (refine Below.drew ?_) | (refine Below.alloc ?_ (by first | omega | (simp; omega) | simp) _) | (refine Below.setCell ?_ (by first | omega | (simp; omega) | simp) _) | (refine below_trans ?_ (by assumption) (by first | omega | (simp; omega) | simp)))) _ (by first | rfl | omega | (simp; omega))
                · have hlt6 : ¬ 256 ≤ cs.length := by have := HO.out.2.2.1; omega
                  have hst : stepS (r ++ [58]) (k + 1) lb cs = (0, lb, cs ++ [(x, g, k + 1)]) := by
                    rw [HIS2.out, HY1.out rfl]
                    exact if_neg hlt6
                  have HT2 : Hid (readL (LL.drop (k + 1)) (k + 1) lb (cs ++ [(x, g, k + 1)]) = RR) := Lib.hid (by
                    have h := HRD.out
                    rw [hst] at h
                    exact h)
                  have HO2 : Hid (LbOk lb ∧ CmOk (cs ++ [(x, g, k + 1)]) ∧ (cs ++ [(x, g, k + 1)]).length ≤ 256 ∧ lb.length ≤ k + 1) := Lib.hid (by
                    have h := HSO.out (by rw [hst])
                    rw [hst] at h
                    exact ⟨h.1, h.2.1, h.2.2.1, by have := HO.out.2.2.2; omega⟩)
                  have HRO2 : Hid (RowsOf lb (cs ++ [(x, g, k + 1)]) (xs ++ [x]) ns (ws ++ [g]) ps (ls ++ [k + 1])) := Lib.hid (by
                    obtain ⟨r1, r2, r3, r4, r5⟩ := HRO.out
                    subst r1 r2 r3 r4 r5
                    exact ⟨by simp, rfl, by simp, rfl, by simp⟩)
                  have e5 : ((xs.length : Int) == 256) = false := by have := HXL.out; simp only [beq_eq_false_iff_ne, ne_eq]; omega
                  have e5n : (xs.length == 256) = false := by have := HXL.out; simp only [beq_eq_false_iff_ne, ne_eq]; omega
                  clear HRD HIS2 HSO HY1 HY0 h256 hst hlt6
                  obtain ⟨c0, c1, c2, c3, c4, c5, c6, c7, c8, c9, c10⟩ := id HX4.out
                  simp only [Nat.zero_add] at c0 c1 c2 c3 c4 c5 c6 c7 c8 c9 c10
                  have HQ5 := Lib.hid (HQ4.out.later (show Below w4.heap.size w4 ((w4.alloc (.cells #[.int .u8 x.kd, .int .u8 x.op, .int .i64 x.oa, .int .i64 x.ob, .int .i64 x.fd, .int .i64 x.n, .int .u64 x.m, .int .u64 x.w, .int .i64 x.a, .int .i64 x.b, .int .i64 x.to] 37)).alloc (.cells #[.int .u8 x.kd, .int .u8 x.op, .int .i64 x.oa, .int .i64 x.ob, .int .i64 x.fd, .int .i64 x.n, .int .u64 x.m, .int .u64 x.w, .int .i64 x.a, .int .i64 x.b, .int .i64 x.to] 37)) from (by repeat (first | exact Below.refl _ _ | assumption | (refine below_drewN ?_ _) | (refine Below.drew ?_) | (refine Below.alloc ?_ (by first | omega | (simp; omega) | simp) _) | (refine Below.setCell ?_ (by first | omega | (simp; omega) | simp) _) | (refine below_trans ?_ (by assumption) (by first | omega | (simp; omega) | simp))))))
                  have b5 : Below w1.heap.size w1 ((w4.alloc (.cells #[.int .u8 x.kd, .int .u8 x.op, .int .i64 x.oa, .int .i64 x.ob, .int .i64 x.fd, .int .i64 x.n, .int .u64 x.m, .int .u64 x.w, .int .i64 x.a, .int .i64 x.b, .int .i64 x.to] 37)).alloc (.cells #[.int .u8 x.kd, .int .u8 x.op, .int .i64 x.oa, .int .i64 x.ob, .int .i64 x.fd, .int .i64 x.n, .int .u64 x.m, .int .u64 x.w, .int .i64 x.a, .int .i64 x.b, .int .i64 x.to] 37)) := (by repeat (first | exact Below.refl _ _ | assumption | (refine below_drewN ?_ _) | (refine Below.drew ?_) | (refine Below.alloc ?_ (by first | omega | (simp; omega) | simp) _) | (refine Below.setCell ?_ (by first | omega | (simp; omega) | simp) _) | (refine below_trans ?_ (by assumption) (by first | omega | (simp; omega) | simp))))
                  go_upto_region 21 with (at_builtin; refine wpList_appendI ?_ (.tmp 83) (.tmp 85) ?_ w1.heap.size O oc xs.length (flatI xs) ?_ HQ5.out.o (some ⟨w4.heap.size + 1, 0, none⟩) 1 1 (inc x) ?_ rfl (fun _ => ⟨w4.heap.size + 1, 0, rfl, fl_liesG _ _ (by simp) (inc x) 37⟩) (inc_one _) (by omega) (by simp; omega) ?_; rfl; rfl; rfl; rfl; intro A7 cap7 w7 hown7 hg7 hb_w7 hat7)
                  rw [flatI_snoc] at hown7
                  have HQ7 := Lib.hid (HQ5.out.grow_o x hown7 hg7 hat7)
                  have b7 : Below w1.heap.size w1 w7 := below_trans b5 hb_w7 (Nat.le_refl _)
                  have g7 : w1.heap.size ≤ w7.heap.size := b7.size
                  clear HQ5 b5 hown7 hg7 hb_w7 hat7 HQ4 HX4 c0 c1 c2 c3 c4 c5 c6 c7 c8 c9 c10
                  have hxn : (xs ++ [x]).length = xs.length + 1 := by simp
                  have HXN := Lib.hid hxn
                  clear hxn
                  have HQ8 := Lib.hid (HQ7.out.later (show Below w7.heap.size w7 (w7.alloc (.cells #[.string (bs g)] 9)) from (by repeat (first | exact Below.refl _ _ | assumption | (refine below_drewN ?_ _) | (refine Below.drew ?_) | (refine Below.alloc ?_ (by first | omega | (simp; omega) | simp) _) | (refine Below.setCell ?_ (by first | omega | (simp; omega) | simp) _) | (refine below_trans ?_ (by assumption) (by first | omega | (simp; omega) | simp))))))
                  have b8 : Below w1.heap.size w1 (w7.alloc (.cells #[.string (bs g)] 9)) := (by repeat (first | exact Below.refl _ _ | assumption | (refine below_drewN ?_ _) | (refine Below.drew ?_) | (refine Below.alloc ?_ (by first | omega | (simp; omega) | simp) _) | (refine Below.setCell ?_ (by first | omega | (simp; omega) | simp) _) | (refine below_trans ?_ (by assumption) (by first | omega | (simp; omega) | simp))))
                  go_upto_region 22 with (at_builtin; refine wpList_appendS ?_ (.tmp 87) (.tmp 89) ?_ w1.heap.size W wc ws.length (ws.map sv) ?_ HQ8.out.x (some ⟨w7.heap.size, 0, none⟩) 1 1 [.string (bs g)] ?_ rfl (fun _ => ⟨w7.heap.size, 0, rfl, fl_lies w7 [.string (bs g)] _⟩) (by intro u hu; simp at hu; subst hu; rfl) (by omega) (by simp; omega) ?_; rfl; rfl; rfl; rfl; intro A9 cap9 w9 hown9 hg9 hb_w9 hat9)
                  have HQ9 := Lib.hid (HQ8.out.grow_x g (by rw [List.map_append]; exact hown9) hg9 hat9)
                  have b9 : Below w1.heap.size w1 w9 := below_trans b8 hb_w9 (Nat.le_refl _)
                  have g9 : w1.heap.size ≤ w9.heap.size := b9.size
                  clear HQ8 b8 hown9 hg9 hb_w9 hat9 HQ7 b7 g7
                  have hwn : (ws ++ [g]).length = ws.length + 1 := by simp
                  have HWN := Lib.hid hwn
                  clear hwn
                  have HQa := Lib.hid (HQ9.out.later (show Below w9.heap.size w9 (w9.alloc (.cells #[.int .i64 ((k : Int) + 1)] 3)) from (by repeat (first | exact Below.refl _ _ | assumption | (refine below_drewN ?_ _) | (refine Below.drew ?_) | (refine Below.alloc ?_ (by first | omega | (simp; omega) | simp) _) | (refine Below.setCell ?_ (by first | omega | (simp; omega) | simp) _) | (refine below_trans ?_ (by assumption) (by first | omega | (simp; omega) | simp))))))
                  have ba : Below w1.heap.size w1 (w9.alloc (.cells #[.int .i64 ((k : Int) + 1)] 3)) := (by repeat (first | exact Below.refl _ _ | assumption | (refine below_drewN ?_ _) | (refine Below.drew ?_) | (refine Below.alloc ?_ (by first | omega | (simp; omega) | simp) _) | (refine Below.setCell ?_ (by first | omega | (simp; omega) | simp) _) | (refine below_trans ?_ (by assumption) (by first | omega | (simp; omega) | simp))))
                  go_wp2_with (at_builtin; refine wpList_appendZ ?_ (.tmp 91) (.tmp 94) ?_ w1.heap.size L lc ls.length (ivN ls) ?_ HQa.out.l (some ⟨w9.heap.size, 0, none⟩) 1 1 [.int .i64 ((k : Int) + 1)] ?_ rfl (fun _ => ⟨w9.heap.size, 0, rfl, fl_lies w9 [.int .i64 ((k : Int) + 1)] _⟩) (by intro u hu; simp at hu; subst hu; rfl) (by omega) (by simp; omega) ?_; rfl; rfl; rfl; rfl; intro Ab capb wb hownb hgb hb_wb hatb)
                  have HQb := Lib.hid (HQa.out.grow_l (k + 1) (by unfold ivN; rw [List.map_append]; exact hownb) hgb hatb)
                  have bb : Below w1.heap.size w1 wb := below_trans ba hb_wb (Nat.le_refl _)
                  clear HQa ba hownb hgb hb_wb hatb HQ9 b9 g9
                  have hln : (ls ++ [k + 1]).length = ls.length + 1 := by simp
                  have HLN := Lib.hid hln
                  clear hln
                  go_wp2
                  go_roundw
                  case rel => exact ⟨k + 1, lb, _, A7, N, A9, P, Ab, cap7, nc, cap9, pc, capb, xs ++ [x], ns, ws ++ [g], ps, ls ++ [k + 1], by rw [HXN.out], rfl, by rw [HWN.out], rfl, by rw [HLN.out], by go_num, by omega, HQb, HRO2, HO2, HT2, bb⟩
                  case measure => (simp [intOf]; try omega)
          · have HIS2 := Lib.hid (HIS.out (HDN.out h58))
            have hne : ¬ c.toNat = 58 := fun h => h58 (hVV.1 h)
            generalize hcn : c.toNat = cn at *
            have e3 : ((cn : Int) == 58) = false := by simp only [beq_eq_false_iff_ne, ne_eq]; omega
            have e3n : (cn == 58) = false := by simp only [beq_eq_false_iff_ne, ne_eq]; exact hne
            clear HSD HIS HDA HIL HDN hVV HEX hcn
            generalize hS : bs (r ++ [c]) = S at *
            clear hS
            generalize hq : r.length = q at *
            clear hq h58 hne
            have hi : q < S.size := by omega
            have hC3 := hC hi
            clear hC
            have HQ2 := HQ
            clear HQ
            go_wp2_with fail
            go_at_call 26
            refine (HIN.out _).mono ?_
            rintro e w4 ⟨⟨x, g, bb, rfl, hy1, hy0⟩, hb_w4⟩
            obtain ⟨hc_w4, hf_w4⟩ := bcell hb_w4; have hs_w4 := hb_w4.size; (try simp only [World.size_alloc, World.size_setCell, World.size_drew, World.heap_drewN] at hs_w4)
            have HY1 := Lib.hid hy1
            have HY0 := Lib.hid hy0
            clear hy1 hy0
            have b4 : Below w1.heap.size w1 w4 := (by repeat (first | exact Below.refl _ _ | assumption | (refine below_drewN ?_ _) | (refine Below.drew ?_) | (refine Below.alloc ?_ (by first | omega | (simp; omega) | simp) _) | (refine Below.setCell ?_ (by first | omega | (simp; omega) | simp) _) | (refine below_trans ?_ (by assumption) (by first | omega | (simp; omega) | simp))))
            have HQ4 := Lib.hid (HQ2.out.later hb_w4)
            have HX4 := Lib.hid (In11.new w4 x 37)
            have g4 : w1.heap.size ≤ w4.heap.size := b4.size
            clear hc_w4 hf_w4 HIN HQ2 hb_w4
            unfold inv
            cases bb with
            | false =>
              have HER : Hid (RT = ([], k + 1, 2)) := Lib.hid (by
                have h := HRD.out
                rw [HIS2.out, HY0.out rfl] at h
                exact HPE.out _ _ h.symm)
              clear HRD HIS2 HSO HY1 HY0
              go_wp2
              go_ret3
              exact progR_no HER.out (by repeat (first | exact Below.refl _ _ | assumption | (refine below_drewN ?_ _) | (refine Below.drew ?_) | (refine Below.alloc ?_ (by first | omega | (simp; omega) | simp) _) | (refine Below.setCell ?_ (by first | omega | (simp; omega) | simp) _) | (refine below_trans ?_ (by assumption) (by first | omega | (simp; omega) | simp)))) _ (by first | rfl | omega | (simp; omega))
            | true =>
              by_cases h256 : cs.length = 256
              · have HER : Hid (RT = ([], k + 1, 6)) := Lib.hid (by
                  have h := HRD.out
                  rw [HIS2.out, HY1.out rfl] at h
                  simp only [h256, Nat.le_refl, if_true] at h
                  exact HPE.out _ _ h.symm)
                have e5 : ((xs.length : Int) == 256) = true := by rw [HXL.out, h256]; rfl
                have e5n : (xs.length == 256) = true := by rw [HXL.out, h256]; rfl
                clear HRD HIS2 HSO HY1 HY0 h256
                go_wp2
                go_ret3
                exact progR_no HER.out (by repeat (first | exact Below.refl _ _ | assumption | (refine below_drewN ?_ _) | (refine Below.drew ?_) | (refine Below.alloc ?_ (by first | omega | (simp; omega) | simp) _) | (refine Below.setCell ?_ (by first | omega | (simp; omega) | simp) _) | (refine below_trans ?_ (by assumption) (by first | omega | (simp; omega) | simp)))) _ (by first | rfl | omega | (simp; omega))
              · have hlt6 : ¬ 256 ≤ cs.length := by have := HO.out.2.2.1; omega
                have hst : stepS (r ++ [c]) (k + 1) lb cs = (0, lb, cs ++ [(x, g, k + 1)]) := by
                  rw [HIS2.out, HY1.out rfl]
                  exact if_neg hlt6
                have HT2 : Hid (readL (LL.drop (k + 1)) (k + 1) lb (cs ++ [(x, g, k + 1)]) = RR) := Lib.hid (by
                  have h := HRD.out
                  rw [hst] at h
                  exact h)
                have HO2 : Hid (LbOk lb ∧ CmOk (cs ++ [(x, g, k + 1)]) ∧ (cs ++ [(x, g, k + 1)]).length ≤ 256 ∧ lb.length ≤ k + 1) := Lib.hid (by
                  have h := HSO.out (by rw [hst])
                  rw [hst] at h
                  exact ⟨h.1, h.2.1, h.2.2.1, by have := HO.out.2.2.2; omega⟩)
                have HRO2 : Hid (RowsOf lb (cs ++ [(x, g, k + 1)]) (xs ++ [x]) ns (ws ++ [g]) ps (ls ++ [k + 1])) := Lib.hid (by
                  obtain ⟨r1, r2, r3, r4, r5⟩ := HRO.out
                  subst r1 r2 r3 r4 r5
                  exact ⟨by simp, rfl, by simp, rfl, by simp⟩)
                have e5 : ((xs.length : Int) == 256) = false := by have := HXL.out; simp only [beq_eq_false_iff_ne, ne_eq]; omega
                have e5n : (xs.length == 256) = false := by have := HXL.out; simp only [beq_eq_false_iff_ne, ne_eq]; omega
                clear HRD HIS2 HSO HY1 HY0 h256 hst hlt6
                obtain ⟨c0, c1, c2, c3, c4, c5, c6, c7, c8, c9, c10⟩ := id HX4.out
                simp only [Nat.zero_add] at c0 c1 c2 c3 c4 c5 c6 c7 c8 c9 c10
                have HQ5 := Lib.hid (HQ4.out.later (show Below w4.heap.size w4 ((w4.alloc (.cells #[.int .u8 x.kd, .int .u8 x.op, .int .i64 x.oa, .int .i64 x.ob, .int .i64 x.fd, .int .i64 x.n, .int .u64 x.m, .int .u64 x.w, .int .i64 x.a, .int .i64 x.b, .int .i64 x.to] 37)).alloc (.cells #[.int .u8 x.kd, .int .u8 x.op, .int .i64 x.oa, .int .i64 x.ob, .int .i64 x.fd, .int .i64 x.n, .int .u64 x.m, .int .u64 x.w, .int .i64 x.a, .int .i64 x.b, .int .i64 x.to] 37)) from (by repeat (first | exact Below.refl _ _ | assumption | (refine below_drewN ?_ _) | (refine Below.drew ?_) | (refine Below.alloc ?_ (by first | omega | (simp; omega) | simp) _) | (refine Below.setCell ?_ (by first | omega | (simp; omega) | simp) _) | (refine below_trans ?_ (by assumption) (by first | omega | (simp; omega) | simp))))))
                have b5 : Below w1.heap.size w1 ((w4.alloc (.cells #[.int .u8 x.kd, .int .u8 x.op, .int .i64 x.oa, .int .i64 x.ob, .int .i64 x.fd, .int .i64 x.n, .int .u64 x.m, .int .u64 x.w, .int .i64 x.a, .int .i64 x.b, .int .i64 x.to] 37)).alloc (.cells #[.int .u8 x.kd, .int .u8 x.op, .int .i64 x.oa, .int .i64 x.ob, .int .i64 x.fd, .int .i64 x.n, .int .u64 x.m, .int .u64 x.w, .int .i64 x.a, .int .i64 x.b, .int .i64 x.to] 37)) := (by repeat (first | exact Below.refl _ _ | assumption | (refine below_drewN ?_ _) | (refine Below.drew ?_) | (refine Below.alloc ?_ (by first | omega | (simp; omega) | simp) _) | (refine Below.setCell ?_ (by first | omega | (simp; omega) | simp) _) | (refine below_trans ?_ (by assumption) (by first | omega | (simp; omega) | simp))))
                go_upto_region 21 with (at_builtin; refine wpList_appendI ?_ (.tmp 83) (.tmp 85) ?_ w1.heap.size O oc xs.length (flatI xs) ?_ HQ5.out.o (some ⟨w4.heap.size + 1, 0, none⟩) 1 1 (inc x) ?_ rfl (fun _ => ⟨w4.heap.size + 1, 0, rfl, fl_liesG _ _ (by simp) (inc x) 37⟩) (inc_one _) (by omega) (by simp; omega) ?_; rfl; rfl; rfl; rfl; intro A7 cap7 w7 hown7 hg7 hb_w7 hat7)
                rw [flatI_snoc] at hown7
                have HQ7 := Lib.hid (HQ5.out.grow_o x hown7 hg7 hat7)
                have b7 : Below w1.heap.size w1 w7 := below_trans b5 hb_w7 (Nat.le_refl _)
                have g7 : w1.heap.size ≤ w7.heap.size := b7.size
                clear HQ5 b5 hown7 hg7 hb_w7 hat7 HQ4 HX4 c0 c1 c2 c3 c4 c5 c6 c7 c8 c9 c10
                have hxn : (xs ++ [x]).length = xs.length + 1 := by simp
                have HXN := Lib.hid hxn
                clear hxn
                have HQ8 := Lib.hid (HQ7.out.later (show Below w7.heap.size w7 (w7.alloc (.cells #[.string (bs g)] 9)) from (by repeat (first | exact Below.refl _ _ | assumption | (refine below_drewN ?_ _) | (refine Below.drew ?_) | (refine Below.alloc ?_ (by first | omega | (simp; omega) | simp) _) | (refine Below.setCell ?_ (by first | omega | (simp; omega) | simp) _) | (refine below_trans ?_ (by assumption) (by first | omega | (simp; omega) | simp))))))
                have b8 : Below w1.heap.size w1 (w7.alloc (.cells #[.string (bs g)] 9)) := (by repeat (first | exact Below.refl _ _ | assumption | (refine below_drewN ?_ _) | (refine Below.drew ?_) | (refine Below.alloc ?_ (by first | omega | (simp; omega) | simp) _) | (refine Below.setCell ?_ (by first | omega | (simp; omega) | simp) _) | (refine below_trans ?_ (by assumption) (by first | omega | (simp; omega) | simp))))
                go_upto_region 22 with (at_builtin; refine wpList_appendS ?_ (.tmp 87) (.tmp 89) ?_ w1.heap.size W wc ws.length (ws.map sv) ?_ HQ8.out.x (some ⟨w7.heap.size, 0, none⟩) 1 1 [.string (bs g)] ?_ rfl (fun _ => ⟨w7.heap.size, 0, rfl, fl_lies w7 [.string (bs g)] _⟩) (by intro u hu; simp at hu; subst hu; rfl) (by omega) (by simp; omega) ?_; rfl; rfl; rfl; rfl; intro A9 cap9 w9 hown9 hg9 hb_w9 hat9)
                have HQ9 := Lib.hid (HQ8.out.grow_x g (by rw [List.map_append]; exact hown9) hg9 hat9)
                have b9 : Below w1.heap.size w1 w9 := below_trans b8 hb_w9 (Nat.le_refl _)
                have g9 : w1.heap.size ≤ w9.heap.size := b9.size
                clear HQ8 b8 hown9 hg9 hb_w9 hat9 HQ7 b7 g7
                have hwn : (ws ++ [g]).length = ws.length + 1 := by simp
                have HWN := Lib.hid hwn
                clear hwn
                have HQa := Lib.hid (HQ9.out.later (show Below w9.heap.size w9 (w9.alloc (.cells #[.int .i64 ((k : Int) + 1)] 3)) from (by repeat (first | exact Below.refl _ _ | assumption | (refine below_drewN ?_ _) | (refine Below.drew ?_) | (refine Below.alloc ?_ (by first | omega | (simp; omega) | simp) _) | (refine Below.setCell ?_ (by first | omega | (simp; omega) | simp) _) | (refine below_trans ?_ (by assumption) (by first | omega | (simp; omega) | simp))))))
                have ba : Below w1.heap.size w1 (w9.alloc (.cells #[.int .i64 ((k : Int) + 1)] 3)) := (by repeat (first | exact Below.refl _ _ | assumption | (refine below_drewN ?_ _) | (refine Below.drew ?_) | (refine Below.alloc ?_ (by first | omega | (simp; omega) | simp) _) | (refine Below.setCell ?_ (by first | omega | (simp; omega) | simp) _) | (refine below_trans ?_ (by assumption) (by first | omega | (simp; omega) | simp))))
                go_wp2_with (at_builtin; refine wpList_appendZ ?_ (.tmp 91) (.tmp 94) ?_ w1.heap.size L lc ls.length (ivN ls) ?_ HQa.out.l (some ⟨w9.heap.size, 0, none⟩) 1 1 [.int .i64 ((k : Int) + 1)] ?_ rfl (fun _ => ⟨w9.heap.size, 0, rfl, fl_lies w9 [.int .i64 ((k : Int) + 1)] _⟩) (by intro u hu; simp at hu; subst hu; rfl) (by omega) (by simp; omega) ?_; rfl; rfl; rfl; rfl; intro Ab capb wb hownb hgb hb_wb hatb)
                have HQb := Lib.hid (HQa.out.grow_l (k + 1) (by unfold ivN; rw [List.map_append]; exact hownb) hgb hatb)
                have bb : Below w1.heap.size w1 wb := below_trans ba hb_wb (Nat.le_refl _)
                clear HQa ba hownb hgb hb_wb hatb HQ9 b9 g9
                have hln : (ls ++ [k + 1]).length = ls.length + 1 := by simp
                have HLN := Lib.hid hln
                clear hln
                go_wp2
                go_roundw
                case rel => exact ⟨k + 1, lb, _, A7, N, A9, P, Ab, cap7, nc, cap9, pc, capb, xs ++ [x], ns, ws ++ [g], ps, ls ++ [k + 1], by rw [HXN.out], rfl, by rw [HWN.out], rfl, by rw [HLN.out], by go_num, by omega, HQb, HRO2, HO2, HT2, bb⟩
                case measure => (simp [intOf]; try omega)
      · obtain rfl : k = LL.length := by omega
        have hrd := HT.out
        rw [List.drop_of_length_le (Nat.le_refl _), readL] at hrd
        have HP0 : Hid (progL lb (cs.drop 0) [] = RT) := Lib.hid (by rw [List.drop_zero]; exact (HPI.out _ _ hrd.symm).symm)
        have HX0 : Hid (PQ wr w1.heap.size O N W P L oc nc wc pc lc ([] ++ (cs.drop 0).map (·.1)) ns ws ps ls) := Lib.hid (by rw [List.drop_zero, List.nil_append, ← HRO.out.1]; exact HQ.out)
        have hl7 : lb.length ≤ 100000 := by have := HO.out.2.2.2; omega
        have HAT := Lib.hid fun (W : World) (h : WdRow W W.heap.size N (lb.map (·.1))) g => xat_any (w := W) lb nc h hl7 g
        have HNR : Hid (ns = lb.map (·.1)) := Lib.hid HRO.out.2.1
        rw [← HNL.out] at HAT
        have HWK : Hid (∀ k (hk : k < cs.length), (ws.map sv)[k]? = some (.string (bs (cs[k]).2.1))) := Lib.hid fun k hk => by
          rw [HRO.out.2.2.1, List.getElem?_map, List.getElem?_map, List.getElem?_eq_getElem hk]; rfl
        have HLK : Hid (∀ k (hk : k < cs.length), (ivN ls)[k]? = some (.int .i64 ((cs[k]).2.2 : Nat))) := Lib.hid fun k hk => by
          unfold ivN
          rw [HRO.out.2.2.2.2, List.getElem?_map, List.getElem?_map, List.getElem?_eq_getElem hk]; rfl
        have HPK : Hid (∀ k (hk : k < lb.length), (ivN ps)[k]? = some (.int .i64 ((lb[k]).2 : Nat))) := Lib.hid fun k hk => by
          unfold ivN
          rw [HRO.out.2.2.2.1, List.getElem?_map, List.getElem?_map, List.getElem?_eq_getElem hk]; rfl
        have b01 : Below w.heap.size w w1 := (by repeat (first | exact Below.refl _ _ | assumption | (refine below_drewN ?_ _) | (refine Below.drew ?_) | (refine Below.alloc ?_ (by first | omega | (simp; omega) | simp) _) | (refine Below.setCell ?_ (by first | omega | (simp; omega) | simp) _) | (refine below_trans ?_ (by assumption) (by first | omega | (simp; omega) | simp))))
        clear hrd HPI HPE HLZ HWL HQ HT HO HRO hN hN2 hn6 hp6 hb_w1
        go_wp2_with fail
        go_loopw [99] (fun ii wr => ∃ (k : Nat) (acc : List In), ii = .int .i64 (k : Nat) ∧ k ≤ ws.length ∧ Hid (acc.length = k) ∧ Hid (progL lb (cs.drop k) acc = RT) ∧ Hid (PQ wr w1.heap.size O N W P L oc nc wc pc lc (acc ++ (cs.drop k).map (·.1)) ns ws ps ls) ∧ Below w1.heap.size w1 wr) (fun ii _ => ws.length - (intOf ii).toNat)
        case atStart => exact ⟨0, [], rfl, Nat.zero_le _, Lib.hid rfl, HP0, HX0, hb_wr⟩
        case round =>
          clear HP0 HX0 hb_wr hsr
          generalize wr = wA at *
          obtain ⟨k, acc, rfl, hk2, hal, HP, HQ, hb_wA⟩ := hrel
          have hsA := hb_wA.size
          by_cases hlt2 : k < ws.length
          · have hkc : k < cs.length := by have := HWLN.out; omega
            have hdr := List.drop_eq_getElem_cons hkc
            have hp := HP.out
            have hq := HQ.out
            rw [hdr] at hp hq
            have hwk := HWK.out k hkc
            have hlk := HLK.out k hkc
            generalize cs[k] = cc at *
            obtain ⟨x, g, ln⟩ := cc
            rw [List.map_cons] at hq
            simp only at hwk hlk hq
            have HQ1 := Lib.hid hq
            have HP1 := Lib.hid hp
            obtain ⟨gw, rfl, hgw, _, cw⟩ := row_cell HQ1.out.x k hlt2
            rw [hwk] at cw
            have hk0 : (0 : Int) ≤ (k : Int) := by omega
            have hk1 : (k : Int) < (ws.length : Int) := by omega
            have HLK1 := Lib.hid hlk
            clear hdr hp hq hwk hlk HP HQ
            by_cases hgl : g = []
            · subst hgl
              have e1 : (bs []).toList.isEmpty = true := by rw [ByteArray.toList_eq, bs_data]; rfl
              have e2 : ((bs []).toList == []) = true := by rw [ByteArray.toList_eq, bs_data]; rfl
              have HP2 : Hid (progL lb (cs.drop (k + 1)) (acc ++ [x]) = RT) := Lib.hid (by rw [← HP1.out]; rfl)
              have HQ3 : Hid (PQ wA w1.heap.size O N (some ⟨gw, 0, none⟩) P L oc nc wc pc lc ((acc ++ [x]) ++ (cs.drop (k + 1)).map (·.1)) ns ws ps ls) := Lib.hid (by rw [List.append_assoc]; exact HQ1.out)
              have HA3 : Hid ((acc ++ [x]).length = k + 1) := Lib.hid (by rw [List.length_append, hal.out]; rfl)
              clear HP1 HQ1
              go_wp2
              go_roundw
              case rel => exact ⟨k + 1, acc ++ [x], by go_num, by omega, HA3, HP2, HQ3, hb_wA⟩
              case measure => (simp [intOf]; try omega)
            · have e1 : (bs g).toList.isEmpty = false := by rw [ByteArray.toList_eq, bs_data]; simpa using hgl
              have e2 : ((bs g).toList == []) = false := by rw [ByteArray.toList_eq, bs_data]; simpa using hgl
              have hp := HP1.out
              rw [progL, if_neg hgl] at hp
              simp only at hp
              have HP3 := Lib.hid hp
              have HWD : Hid (WdRow wA wA.heap.size N (lb.map (·.1))) := Lib.hid (by rw [← HNR.out]; exact WdRow.of_owns HQ1.out.n)
              clear hp HP1 hgl
              go_wp2_with fail
              go_at_call 25
              refine (HAT.out _ HWD.out g).mono ?_
              rintro e w3 ⟨⟨y, rfl, hy⟩, rfl⟩
              rcases hy with ⟨h1, h2⟩ | ⟨kk, hkk, h1, h2⟩
              · subst h1
                have HER : Hid (RT = ([], ln, 3)) := Lib.hid (by
                  have h := HP3.out
                  rw [h2] at h
                  exact h.symm)
                obtain ⟨gl, rfl, hgl, _, cl⟩ := row_cell HQ1.out.l k (by have := HLL.out; omega)
                rw [HLK1.out] at cl
                have hk3 : (k : Int) < (ls.length : Int) := by have := HLL.out; have := HWLN.out; omega
                clear h2 HP3
                go_wp2_with fail
                go_quiet (fail)
                go_wp2
                go_ret3
                exact progR_no HER.out (by repeat (first | exact Below.refl _ _ | assumption | (refine below_drewN ?_ _) | (refine Below.drew ?_) | (refine Below.alloc ?_ (by first | omega | (simp; omega) | simp) _) | (refine Below.setCell ?_ (by first | omega | (simp; omega) | simp) _) | (refine below_trans ?_ (by assumption) (by first | omega | (simp; omega) | simp)))) _ (by first | rfl | omega | (simp; omega))
              · subst h1
                have hpk := HPK.out kk hkk
                obtain ⟨gp, rfl, hgp, _, cp⟩ := row_cell HQ1.out.p kk (by have := HPL.out; omega)
                rw [hpk] at cp
                have hp := HP3.out
                rw [h2] at hp
                simp only at hp
                generalize (lb[kk]).2 = p at *
                have hxn : (acc ++ x :: (cs.drop (k + 1)).map (·.1)).length = xs.length := by
                  have := hal.out
                  have := HXL.out
                  simp
                  omega
                obtain ⟨go, rfl, hgo, hgB⟩ := row_some HQ1.out.o (by rw [hxn]; have := HXL.out; omega)
                have hin := (PRow.of_owns HQ1.out.o).at_ (by rw [hxn]; have := HXL.out; omega)
                obtain ⟨go2, off2, eg, _, hin2⟩ := hin
                simp only [Option.some.injEq, Addr.mk.injEq, and_true] at eg
                obtain ⟨rfl, rfl⟩ := eg
                have hnth : nthI (acc ++ x :: (cs.drop (k + 1)).map (·.1)) k = x := by
                  unfold nthI
                  rw [List.getD_eq_getElem?_getD, List.getElem?_append_right (by rw [hal.out]; exact Nat.le_refl _), hal.out, Nat.sub_self]
                  rfl
                have ci := (hin2 k (by rw [hxn]; have := HXL.out; omega)).c10
                rw [hnth, Nat.zero_add] at ci
                have fi := HQ1.out.o.frozenAt (k * 11 + 10)
                have HQ4 := Lib.hid (HQ1.out.put_to (p : Int) k hal.out)
                have HP4 : Hid (progL lb (cs.drop (k + 1)) (acc ++ [putO 9 (p : Int) x]) = RT) := Lib.hid hp
                have HQ5 : Hid (PQ (w3.setCell ⟨go, k * 11 + 10, none⟩ (.int .i64 (p : Int))) w1.heap.size (some ⟨go, 0, none⟩) N (some ⟨gw, 0, none⟩) (some ⟨gp, 0, none⟩) L oc nc wc pc lc ((acc ++ [putO 9 (p : Int) x]) ++ (cs.drop (k + 1)).map (·.1)) ns ws ps ls) := Lib.hid (by rw [List.append_assoc]; exact HQ4.out)
                have HA3 : Hid ((acc ++ [putO 9 (p : Int) x]).length = k + 1) := Lib.hid (by rw [List.length_append, hal.out]; rfl)
                have b5 : Below w1.heap.size w1 (w3.setCell ⟨go, k * 11 + 10, none⟩ (.int .i64 (p : Int))) := Below.setCell hb_wA hgB _
                have d5 : decide ((kk : Int) < 0) = false := decide_eq_false (by omega)
                have q0 : (0 : Int) ≤ (kk : Int) := by omega
                have q1 : (kk : Int) < (ps.length : Int) := by have := HPL.out; omega
                have q2 : (k : Int) < (xs.length : Int) := by have := HXL.out; omega
                clear hp hpk h2 HP3 hxn hin2 hnth HQ1 HQ4
                go_wp2
                go_roundw
                case rel => exact ⟨k + 1, acc ++ [putO 9 (p : Int) x], by go_num, by omega, HA3, HP4, HQ5, b5⟩
                case measure => (simp [intOf]; try omega)
          · obtain rfl : k = ws.length := by omega
            have hcl := HWLN.out
            have hp := HP.out
            have hq := HQ.out
            rw [List.drop_of_length_le (by omega)] at hp hq
            rw [progL] at hp
            rw [List.map_nil, List.append_nil] at hq
            have HQ6 := Lib.hid hq.o
            have hxa : acc.length = xs.length := by have := hal.out; have := HXL.out; omega
            have HXA := Lib.hid hxa
            have HRE := Lib.hid hp
            have hs01 := b01.size
            have b02 : Below w.heap.size w wA := below_trans b01 hb_wA hs01
            clear hp hq hcl hxa HP HQ
            go_wp2
            go_ret3
            rw [← HRE.out]
            exact ⟨O, oc, by rw [HXA.out]; rfl, owns_monoI HQ6.out hs01, b02⟩
end
end Go.Proofs.YtggaijdbaplfiaaGreatDoor
