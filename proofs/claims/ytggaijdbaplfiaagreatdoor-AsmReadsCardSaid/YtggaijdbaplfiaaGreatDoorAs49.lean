/- Contracts of the document's package: instr. -/
import Derived.Test.YtggaijdbaplfiaaGreatDoorAs47
import Derived.Test.YtggaijdbaplfiaaGreatDoorAs48
import Derived.Test.YtggaijdbaplfiaaGreatDoorAs41
import Derived.Test.YtggaijdbaplfiaaGreatDoorAs36
import Derived.IntWalk
namespace Go.Proofs.YtggaijdbaplfiaaGreatDoor
open Go.RowKit
set_option linter.unusedVariables false
set_option linter.unusedSimpArgs false
/-- what instr answers -/
def InsR (s : List UInt8) (e : Ending) : Prop := ∃ (x : In) (g : List UInt8) (b : Bool), e = .returned (.tuple #[inv x, .string (bs g), .bool b]) ∧ (b = true → parseS s = some (x, g)) ∧ (b = false → parseS s = none)
theorem InsR.no {s : List UInt8} (x : In) (h : parseS s = none) : InsR s (.returned (.tuple #[inv x, .string ⟨#[]⟩, .bool false])) := ⟨x, [], false, rfl, fun h => by (cases h), fun _ => h⟩
theorem res_in3 {fn : Func} {p u v : Tmp} (h : fn.results = #[.cell p 37, .tmp u, .tmp v]) {tmps : Array Value} {w : World} {g : Nat} {s : In} (hp : tmps.getD p undef = .pointer (some ⟨g, 0, none⟩)) (c : In11 w g 0 s) : (results fn tmps).run Tryz.prog w = .ok (.tuple #[inv s, tmps.getD u undef, tmps.getD v undef]) w := by
  obtain ⟨h0, h1, h2, h3, h4, h5, h6, h7, h8, h9, h10⟩ := c
  simp only [Nat.zero_add] at h0 h1 h2 h3 h4 h5 h6 h7 h8 h9 h10
  have hp2 : tmps[p]?.getD undef = .pointer (some ⟨g, 0, none⟩) := by rw [← hp]; simp
  simp only [results, h]
  simp [go_sem, Result.andThen, h0, h1, h2, h3, h4, h5, h6, h7, h8, h9, h10, asAddr, inv, hp2]
theorem xfill_any {w : World} (o : Nat) (h1 : 1 ≤ o) (h8 : o ≤ 8) (x : In) (l : List UInt8) (hl : l.length ≤ 65536) : Calls Tryz.prog 43 #[inv x, .int .u8 ((letW o).toNat : Nat), .string (bs l)] w fun e w' => FillR o l x e ∧ Below w.heap.size w w' := by
  have hc : o = 1 ∨ o = 2 ∨ o = 3 ∨ o = 4 ∨ o = 5 ∨ o = 6 ∨ o = 7 ∨ o = 8 := by omega
  rcases hc with rfl | rfl | rfl | rfl | rfl | rfl | rfl | rfl
  · exact xfill_1 x l hl
  · exact xfill_2 x l hl
  · exact xfill_3 x l hl
  · exact xfill_4 x l hl
  · exact xfill_5 x l hl
  · exact xfill_6 x l hl
  · exact xfill_7 x l hl
  · exact xfill_8 x l hl
/-- the letters by which a line is read -/
def hasW (f : Fm) : List UInt8 := f.os.map letW
theorem fms_hasW : ∀ f ∈ fms, (if hasF f = [97, 115] then [97, 110, 109] else hasF f) = hasW f := by decide
theorem fms_W9 : ∀ f ∈ fms, ∀ o ∈ f.os, (letW o).toNat = 116 ↔ o = 9 := by decide
theorem brs_nth (k : Nat) (hk : k < 20) : nthI brs k = bare (fms[k]'hk) := by
  rw [nthI_get brs k hk]
  exact List.getElem_map (f := bare) (l := fms) (i := k) (h := by rw [List.length_map]; exact hk)
theorem bare_form (k : Nat) (hk : k < 20) : formD (bare (fms[k]'hk)).kd (bare (fms[k]'hk)).op = fms[k]'hk := fms_formD _ (List.getElem_mem hk)
theorem bare_op (k : Nat) (hk : k < 20) : 0 ≤ (bare (fms[k]'hk)).op ∧ (bare (fms[k]'hk)).op < 256 := (show ∀ f ∈ fms, 0 ≤ (bare f).op ∧ (bare f).op < 256 by decide) _ (List.getElem_mem hk)
/-- behind the name -/
theorem parse_at {s : List UInt8} {ws : List (List UInt8)} (hs : Lib.split s [32] = ws) {f : Fm} (hf : fnamed (ws.headD []) = some f) : parseS s = if ws.length = f.os.length + 1 then (match tellL f.os (ws.drop 1) (bare f, []) with | none => none | some c => if Sh c.1.n c.1.m then some c else none) else none := by
  unfold parseS parseW
  rw [hs, hf]
  rfl
theorem parse_none {s : List UInt8} {ws : List (List UInt8)} (hs : Lib.split s [32] = ws) (hf : fnamed (ws.headD []) = none) : parseS s = none := by
  unfold parseS parseW
  rw [hs, hf]
theorem WdRow.far {w w' : World} {B X wb woff : Nat} {ss : List (List UInt8)} (h : WdRow w B (some ⟨wb, woff, none⟩) ss) (hb : Below X w w') (hx : wb < X) (hB : B ≤ w'.heap.size := by simp only [World.size_setCell]; exact Nat.le_refl _) : WdRow w' w'.heap.size (some ⟨wb, woff, none⟩) ss :=
  ⟨fun hl => by
    obtain ⟨b, off, e, hlt, hc⟩ := h.at_ hl
    simp only [Option.some.injEq, Addr.mk.injEq, and_true] at e
    obtain ⟨rfl, rfl⟩ := e
    exact ⟨wb, woff, rfl, Nat.lt_of_lt_of_le hlt hB, fun i hi => (hb.cell (p := ⟨wb, woff + i, none⟩) hx).trans (hc i hi)⟩⟩
theorem split_some (s : List UInt8) : 1 ≤ (Lib.split s [32]).length := by
  rw [← show wordsD 32 [] s = Lib.split s [32] from wordsD_split 32 s [] (by simp)]
  have : ∀ (l cur : List UInt8), 1 ≤ (wordsD 32 cur l).length := by
    intro l
    induction l with
    | nil => intro cur; simp [wordsD]
    | cons x r ih =>
      intro cur
      rw [wordsD]
      split
      · simp
      · exact ih _
  exact this s []
theorem split_len (s : List UInt8) : ∀ x ∈ Lib.split s [32], x.length ≤ s.length := by
  rw [← show wordsD 32 [] s = Lib.split s [32] from wordsD_split 32 s [] (by simp)]
  have : ∀ (l cur : List UInt8), ∀ x ∈ wordsD 32 cur l, x.length ≤ cur.length + l.length := by
    intro l
    induction l with
    | nil => intro cur x hx; simp [wordsD] at hx; subst hx; simp
    | cons y r ih =>
      intro cur x hx
      rw [wordsD] at hx
      split at hx
      · rw [List.mem_cons] at hx
        rcases hx with rfl | hx
        · simp
        · have := ih _ x hx
          simp at this ⊢
          omega
      · have := ih _ x hx
        simp at this ⊢
        omega
  intro x hx
  have := this s [] x hx
  simpa using this
section
variable {w : World}
set_option maxRecDepth 100000 in
set_option maxHeartbeats 16000000 in
theorem xinstr_any (s : ByteArray) (hs : s.size ≤ 65536) : Calls Tryz.prog 26 #[.string s] w fun e w' => InsR s.data.toList e ∧ Below w.heap.size w w' := by
  have HWD := Lib.hid fun (W : World) => xwords_any (w := W) s hs 32
  have hw1 := split_some s.data.toList
  have HWL := Lib.hid (split_len s.data.toList)
  obtain ⟨ws, hws⟩ : ∃ ws, Lib.split s.data.toList [32] = ws := ⟨_, rfl⟩
  have HWS := Lib.hid hws
  rw [hws] at HWD hw1 HWL
  have hlen : s.data.toList.length = s.size := Array.length_toList
  have HWZ : Hid (∀ x ∈ ws, x.length ≤ 65536) := Lib.hid fun x hx => by have := HWL.out x hx; omega
  clear hws HWL hlen
  generalize s.data.toList = sl at *
  have HR0 : Hid (In11 (w.alloc (.cells #[.int .u8 0, .int .u8 0, .int .i64 0, .int .i64 0, .int .i64 0, .int .i64 0, .int .u64 0, .int .u64 0, .int .i64 0, .int .i64 0, .int .i64 0] 37)) w.heap.size 0 in0 ∧ ∀ o, (w.alloc (.cells #[.int .u8 0, .int .u8 0, .int .i64 0, .int .i64 0, .int .i64 0, .int .i64 0, .int .u64 0, .int .u64 0, .int .i64 0, .int .i64 0, .int .i64 0] 37)).frozen? ⟨w.heap.size, o, none⟩ = false) := Lib.hid ⟨In11.new w in0 _, fun o => by simp [go_sem]⟩
  go_enter Tryz.func26, Tryz.ntmps26
  go_wp2_with fail
  go_at_call 23
  refine (HWD.out _).mono ?_
  rintro e w1 ⟨A, cap, rfl, ow, hb_w1⟩
  obtain ⟨hc_w1, hf_w1⟩ := bcell hb_w1; have hz_w1_w_0 : w.heap.size < w1.heap.size := (by have hzz := hb_w1.size; (try simp only [World.size_alloc, World.size_setCell, World.size_drew, World.heap_drewN] at hzz); omega); have hs_w1 := hb_w1.size; (try simp only [World.size_alloc, World.size_setCell, World.size_drew, World.heap_drewN] at hs_w1)
  have HRW := Lib.hid (WdRow.of_owns ow)
  have HR1 : Hid (In11 w1 w.heap.size 0 in0 ∧ ∀ o, w1.frozen? ⟨w.heap.size, o, none⟩ = false) := Lib.hid ⟨HR0.out.1.later hb_w1, fun o => ((bcell hb_w1).2 _ _ HR0.out.1.lt).trans (HR0.out.2 o)⟩
  have g1 := HR1.out.1.lt
  have b1 : Below w.heap.size w w1 := (by repeat (first | exact Below.refl _ _ | assumption | (refine below_drewN ?_ _) | (refine Below.drew ?_) | (refine Below.alloc ?_ (by first | omega | (simp; omega) | simp) _) | (refine Below.setCell ?_ (by first | omega | (simp; omega) | simp) _) | (refine below_trans ?_ (by assumption) (by first | omega | (simp; omega) | simp))))
  clear ow HWD HR0 hc_w1 hf_w1 hb_w1
  go_wp2_with fail
  go_at_call 41
  refine (xkinds_any).mono ?_
  rintro e w2 ⟨K, kc, rfl, hk, hb_w2⟩
  obtain ⟨hc_w2, hf_w2⟩ := bcell hb_w2; have hs_w2 := hb_w2.size; (try simp only [World.size_alloc, World.size_setCell, World.size_drew, World.heap_drewN] at hs_w2)
  have HRW2 := Lib.hid (HRW.out.later hb_w2)
  have HR2 : Hid (In11 w2 w.heap.size 0 in0 ∧ ∀ o, w2.frozen? ⟨w.heap.size, o, none⟩ = false) := Lib.hid ⟨HR1.out.1.later hb_w2, fun o => ((bcell hb_w2).2 _ _ HR1.out.1.lt).trans (HR1.out.2 o)⟩
  have HK2 := Lib.hid hk
  have b2 : Below w.heap.size w w2 := (by repeat (first | exact Below.refl _ _ | assumption | (refine below_drewN ?_ _) | (refine Below.drew ?_) | (refine Below.alloc ?_ (by first | omega | (simp; omega) | simp) _) | (refine Below.setCell ?_ (by first | omega | (simp; omega) | simp) _) | (refine below_trans ?_ (by assumption) (by first | omega | (simp; omega) | simp))))
  clear hk HRW HR1 g1 b1 hc_w2 hf_w2 hb_w2
  go_wp2_with fail
  go_loopw [17] (fun ii wr => ∃ k : Nat, ii = .int .i64 (k : Nat) ∧ k ≤ 20 ∧ Hid (∀ j (hj : j < fms.length), j < k → (fms[j]'hj).nm ≠ ws.headD []) ∧ Hid (WdRow wr wr.heap.size A ws) ∧ Hid (PRow wr wr.heap.size K brs) ∧ Hid (In11 wr w.heap.size 0 in0 ∧ ∀ o, wr.frozen? ⟨w.heap.size, o, none⟩ = false) ∧ Below w.heap.size w wr) (fun ii _ => 20 - (intOf ii).toNat)
  case atStart => exact ⟨0, rfl, Nat.zero_le _, Lib.hid (fun j _ h => by omega), HRW2, HK2, HR2, b2⟩
  case round =>
    clear HRW2 HK2 HR2 b2
    generalize wr = wA at *
    obtain ⟨k, rfl, hk, HNM, HW, HK, HR, hb_wA⟩ := hrel
    have hsA := hb_wA.size
    have gA := HR.out.1.lt
    by_cases hlt : k < 20
    · obtain ⟨kb, koff, hKe, hkb, kc5⟩ := HK.out.at_ (show 0 < brs.length by rw [brs_len]; omega)
      have c5 := kc5 k hlt
      rw [brs_nth k hlt] at c5
      clear kc5
      subst hKe
      have hk0 : (0 : Int) ≤ (k : Int) := by omega
      have hk1 : (k : Int) < (20 : Int) := by omega
      have HFM := Lib.hid (List.getElem_mem (l := fms) hlt)
      have HND := Lib.hid fun (W : World) => (by
        have := xname_any (w := W) (bare (fms[k]'hlt)) (bare_op k hlt).1 (bare_op k hlt).2
        rw [bare_form k hlt] at this
        exact this : Calls Tryz.prog 42 #[inv (bare (fms[k]'hlt))] W fun e w' => e = .returned (.tuple #[.string (bs (fms[k]'hlt).nm), .string (bs (hasF (fms[k]'hlt)))]) ∧ Below W.heap.size W w')
      have HFA : Hid ((fms[k]'hlt).nm = ws.headD [] → fnamed (ws.headD []) = some (fms[k]'hlt)) := Lib.hid fun h => fnamed_at hlt h
      have HNX : Hid ((fms[k]'hlt).nm ≠ ws.headD [] → ∀ j (hj : j < fms.length), j < k + 1 → (fms[j]'hj).nm ≠ ws.headD []) := Lib.hid fun h j hj hjk => by
        by_cases e : j = k
        · subst e; exact h
        · exact HNM.out j hj (by omega)
      generalize hf : fms[k]'hlt = f at *
      clear hf
      have HPH := Lib.hid fun h => parse_at HWS.out (HFA.out h)
      obtain ⟨wb, woff, hAe, hwb, wc5⟩ := HW.out.at_ (by omega)
      have wc0 := wc5 0 (by omega)
      have hhd : ws.getD 0 [] = ws.headD [] := by cases ws <;> rfl
      rw [hhd, Nat.add_zero] at wc0
      clear wc5 hhd
      subst hAe
      have HX0 := Lib.hid (In11.new wA (bare f) 37)
      obtain ⟨c0, c1, c2, c3, c4, c5, c6, c7, c8, c9, c10⟩ := c5
      unfold inv at HND
      generalize ws.headD [] = hd at *
      by_cases hn : f.nm = hd
      · have e1 : ((bs f.nm).toList == (bs hd).toList) = true := by rw [ByteArray.toList_eq, ByteArray.toList_eq, bs_data, bs_data, hn]; simp
        have e2 : ((bs f.nm).toList != (bs hd).toList) = false := by rw [bne, e1]; rfl
        have HPA := Lib.hid (HPH.out hn)
        have HHW := Lib.hid (fms_hasW f HFM.out)
        have HW9 := Lib.hid (fms_W9 f HFM.out)
        have hwf := (fms_wf f HFM.out).2
        have hw3 := (fms_wf f HFM.out).1
        have HOS := Lib.hid hwf
        have HTR := Lib.hid fun d hl ht => @tell_right f HFM.out (ws.drop 1) d hl ht
        clear hn HNX HFA HPH HNM HFM hwf
        generalize bs f.nm = B1 at *
        generalize bs hd = B2 at *
        go_wp2_with fail
        go_at_call 42
        refine (HND.out _).mono ?_
        rintro e w3 ⟨rfl, hb_w3⟩
        obtain ⟨hc_w3, hf_w3⟩ := bcell hb_w3; have hz_w3_wA_0 : wA.heap.size < w3.heap.size := (by have hzz := hb_w3.size; (try simp only [World.size_alloc, World.size_setCell, World.size_drew, World.heap_drewN] at hzz); omega); have hs_w3 := hb_w3.size; (try simp only [World.size_alloc, World.size_setCell, World.size_drew, World.heap_drewN] at hs_w3)
        have wc3 := (hb_w3.cell (p := ⟨wb, woff, none⟩) (by simp only [World.size_alloc]; omega)).trans ((World.cell?_alloc_lt _ _ ⟨wb, woff, none⟩ hwb).trans wc0)
        have b3 : Below wA.heap.size wA w3 := (by repeat (first | exact Below.refl _ _ | assumption | (refine below_drewN ?_ _) | (refine Below.drew ?_) | (refine Below.alloc ?_ (by first | omega | (simp; omega) | simp) _) | (refine Below.setCell ?_ (by first | omega | (simp; omega) | simp) _) | (refine below_trans ?_ (by assumption) (by first | omega | (simp; omega) | simp))))
        have HW3 := Lib.hid (HW.out.later b3)
        have HR3 : Hid (In11 w3 w.heap.size 0 in0 ∧ ∀ o, w3.frozen? ⟨w.heap.size, o, none⟩ = false) := Lib.hid ⟨HR.out.1.later b3, fun o => ((bcell b3).2 _ _ gA).trans (HR.out.2 o)⟩
        have HX3 : Hid (In11 w3 wA.heap.size 0 (bare f) ∧ ∀ o, w3.frozen? ⟨wA.heap.size, o, none⟩ = false) := Lib.hid ⟨HX0.out.later hb_w3, fun o => ((bcell hb_w3).2 _ _ HX0.out.lt).trans (by simp [go_sem])⟩
        have gX := HX3.out.1.lt
        have b4 : Below w.heap.size w w3 := (by repeat (first | exact Below.refl _ _ | assumption | (refine below_drewN ?_ _) | (refine Below.drew ?_) | (refine Below.alloc ?_ (by first | omega | (simp; omega) | simp) _) | (refine Below.setCell ?_ (by first | omega | (simp; omega) | simp) _) | (refine below_trans ?_ (by assumption) (by first | omega | (simp; omega) | simp))))
        clear hc_w3 hf_w3 HK HX0 HR HW c0 c1 c2 c3 c4 c5 c6 c7 c8 c9 c10 hb_w3 b3 HND
        have hXA : w.heap.size < wA.heap.size := gA
        have hwbX : wb < wA.heap.size := hwb
        generalize wA.heap.size = X at *
        obtain ⟨q3, e3⟩ : ∃ q : Bool, ((bs (hasF f)).toList == [97, 115]) = q := ⟨_, rfl⟩
        have HQ3 : Hid (q3 = true → (⟨#[97, 110, 109]⟩ : ByteArray) = bs (hasW f)) := Lib.hid fun h => by
          rw [h, ByteArray.toList_eq, bs_data] at e3
          rw [← HHW.out, if_pos (by simpa using e3)]
          rfl
        have HQ4 : Hid (q3 = false → bs (hasF f) = bs (hasW f)) := Lib.hid fun h => by
          rw [h, ByteArray.toList_eq, bs_data] at e3
          rw [← HHW.out, if_neg (by simpa using e3)]
        have hzH : (bs (hasW f)).size = f.os.length := by rw [bs_size]; simp [hasW]
        have HHJ : Hid (∀ j (hj : j < f.os.length) (hj2 : j < (bs (hasW f)).size), ((bs (hasW f))[j]'hj2).toNat = (letW (f.os[j]'hj)).toNat) := Lib.hid fun j hj hj2 => by
          have : (bs (hasW f))[j]'hj2 = (hasW f)[j]'(by simp [hasW]; exact hj) := rfl
          rw [this]
          simp [hasW]
        have HZH := Lib.hid hzH
        clear hzH HHW
        generalize bs (hasF f) = H0 at *
        generalize bs (hasW f) = H at *
        go_upto_if 32 with (fail)
        go_cut [9] from 31 to 32 (fun v wx => v = .string H ∧ wx = w3)
        case first =>
          cases q3 with
          | true =>
            have h9 := HQ3.out rfl
            have HH9 := Lib.hid h9
            clear h9 HQ3 HQ4 e3
            go_wp2
            go_meet
            exact ⟨by rw [← HH9.out], rfl⟩
          | false =>
            have HH9 := Lib.hid (HQ4.out rfl)
            clear HQ3 HQ4 e3
            go_wp2
            go_meet
            exact ⟨by rw [← HH9.out], rfl⟩
        case rest =>
          obtain ⟨rfl, rfl⟩ := hcut
          clear HQ3 HQ4 e3 e1 e2
          generalize wc = w3 at *
          obtain ⟨n, HN9⟩ : ∃ n, Hid (f.os.length = n) := ⟨_, Lib.hid rfl⟩
          have hzH : H.size = n := by rw [HZH.out, HN9.out]
          rw [HN9.out] at hw3
          by_cases hlen : ws.length = n + 1
          · have HLW := Lib.hid hlen
            have e4 : ((ws.length : Int) != (n : Int) + 1) = false := by simp; omega
            have e4n : (ws.length != n + 1) = false := by simp; exact hlen
            have e4m : ((ws.length : Int) != ((n + 1 : Nat) : Int)) = false := by simp; omega
            have HPB : Hid (parseS sl = match tellL f.os (ws.drop 1) (bare f, []) with | none => none | some c => if Sh c.1.n c.1.m then some c else none) := Lib.hid (by rw [HPA.out, if_pos (by rw [HN9.out]; exact hlen)])
            have HLO : Hid ((ws.drop 1).length = n) := Lib.hid (by rw [List.length_drop]; omega)
            have HEND : Hid (∀ c, tellL (f.os.drop n) ((ws.drop 1).drop n) c = some c) := Lib.hid fun c => by
              rw [List.drop_of_length_le (by rw [HN9.out]; exact Nat.le_refl _)]
              cases (ws.drop 1).drop n <;> rfl
            clear HPA wc3 hlen
            generalize hL : ws.length = L at *
            have HLL := Lib.hid hL
            clear hL
            go_wp2_with fail
            go_loopw [10, 11] (fun gg jj wr => ∃ (j : Nat) (c : In × List UInt8), gg = .string (bs c.2) ∧ jj = .int .i64 (j : Nat) ∧ j ≤ n ∧ Hid (tellL (f.os.drop j) ((ws.drop 1).drop j) c = tellL f.os (ws.drop 1) (bare f, [])) ∧ Hid (WdRow wr wr.heap.size (some ⟨wb, woff, none⟩) ws) ∧ Hid (In11 wr w.heap.size 0 in0 ∧ ∀ o, wr.frozen? ⟨w.heap.size, o, none⟩ = false) ∧ Hid (In11 wr X 0 c.1 ∧ ∀ o, wr.frozen? ⟨X, o, none⟩ = false) ∧ X < wr.heap.size ∧ Below w.heap.size w wr) (fun gg jj _ => n - (intOf jj).toNat)
            case atStart => exact ⟨0, (bare f, []), rfl, rfl, Nat.zero_le _, Lib.hid (by rw [List.drop_zero, List.drop_zero]), HW3, HR3, HX3, gX, b4⟩
            case round =>
              clear HW3 HR3 HX3 gX b4
              generalize wr = wB at *
              obtain ⟨j, c, rfl, rfl, hj, HT, HW, HR, HX, gX, hb_wB⟩ := hrel
              have hsB := hb_wB.size
              have gB := HR.out.1.lt
              by_cases hjt : j < n
              · have hjo : j < f.os.length := by rw [HN9.out]; exact hjt
                have hjw : j < (ws.drop 1).length := by rw [HLO.out]; exact hjt
                have hjH : j < H.size := by omega
                have hC := HHJ.out j hjo hjH
                have ho9 := HOS.out _ (List.getElem_mem hjo)
                have HI9 := Lib.hid (HW9.out _ (List.getElem_mem hjo))
                have HTN := Lib.hid (@tellL_next f.os (ws.drop 1) c j hjo hjw)
                have HSZ := HWZ.out _ (List.mem_of_mem_drop (List.getElem_mem hjw))
                obtain ⟨wb', woff', eA, hwb', wc5⟩ := HW.out.at_ (by rw [HLL.out]; have := HLW.out; omega)
                have wcj := wc5 (j + 1) (by rw [HLL.out]; have := HLW.out; omega)
                have hgd : ws.getD (j + 1) [] = (ws.drop 1)[j]'hjw := by
                  rw [List.getD_eq_getElem?_getD, show (ws.drop 1)[j]'hjw = ((ws.drop 1)[j]?).getD [] from by rw [List.getElem?_eq_getElem hjw]; rfl, List.getElem?_drop, Nat.add_comm]
                rw [hgd] at wcj
                simp only [Option.some.injEq, Addr.mk.injEq, and_true] at eA
                obtain ⟨eA1, eA2⟩ := eA
                rw [← eA1, ← eA2] at wcj
                rw [← eA1] at hwb'
                clear wc5 hgd eA1 eA2
                generalize f.os[j]'hjo = oo at *
                generalize (ws.drop 1)[j]'hjw = sj at *
                have hsz : (bs sj).size ≤ 65536 := by rw [bs_size]; exact HSZ
                have HIL := Lib.hid fun (W : World) => (by
                  have := xislabel_any (w := W) (bs sj) hsz
                  rw [bs_data] at this
                  exact this : Calls Tryz.prog 24 #[.string (bs sj)] W fun e w' => e = .returned (.bool (isLab sj)) ∧ Below W.heap.size W w')
                have hj0 : (0 : Int) ≤ (j : Int) := by omega
                have hj1 : (j : Int) < (n : Int) := by omega
                have hj2 : (0 : Int) ≤ (j : Int) + 1 := by omega
                have hj3 : (j : Int) + 1 < (L : Int) := by have := HLW.out; omega
                have hj4 : ((j : Int) + 1).toNat = j + 1 := by omega
                have hjHi : (j : Int) < (H.size : Int) := by omega
                clear hsz
                go_wp2_with fail
                go_at_call 24
                refine (HIL.out _).mono ?_
                rintro e w4 ⟨rfl, hb_w4⟩
                obtain ⟨hc_w4, hf_w4⟩ := bcell hb_w4; have hs_w4 := hb_w4.size; (try simp only [World.size_alloc, World.size_setCell, World.size_drew, World.heap_drewN] at hs_w4)
                have wcj4 := (hb_w4.cell (p := ⟨wb, woff + (j + 1), none⟩) hwb').trans wcj
                have HW4 := Lib.hid (HW.out.later hb_w4)
                have HR4 : Hid (In11 w4 w.heap.size 0 in0 ∧ ∀ o, w4.frozen? ⟨w.heap.size, o, none⟩ = false) := Lib.hid ⟨HR.out.1.later hb_w4, fun o => ((bcell hb_w4).2 _ _ gB).trans (HR.out.2 o)⟩
                have HX4 : Hid (In11 w4 X 0 c.1 ∧ ∀ o, w4.frozen? ⟨X, o, none⟩ = false) := Lib.hid ⟨HX.out.1.later hb_w4, fun o => ((bcell hb_w4).2 _ _ gX).trans (HX.out.2 o)⟩
                have g4 : X < w4.heap.size := by omega
                have b4 : Below w.heap.size w w4 := (by repeat (first | exact Below.refl _ _ | assumption | (refine below_drewN ?_ _) | (refine Below.drew ?_) | (refine Below.alloc ?_ (by first | omega | (simp; omega) | simp) _) | (refine Below.setCell ?_ (by first | omega | (simp; omega) | simp) _) | (refine below_trans ?_ (by assumption) (by first | omega | (simp; omega) | simp))))
                clear hc_w4 hf_w4 HW HR HX wcj HIL
                by_cases h9 : oo = 9
                · have e5 : ((letW oo).toNat : Int) == 116 := by rw [h9]; rfl
                  clear e5
                  have e5 : (((letW oo).toNat : Int) == 116) = true := by rw [h9]; rfl
                  have e5n : ((letW oo).toNat == 116) = true := by rw [h9]; rfl
                  have hTN := HTN.out
                  rw [h9] at hTN
                  have hT9 : tellO 9 sj c = if isLab sj then some (c.1, sj) else none := rfl
                  rw [hT9, HT.out] at hTN
                  have HTM := Lib.hid hTN
                  clear hTN hT9 HTN HT h9
                  cases hlb : isLab sj with
                  | true =>
                    have HT2 : Hid (tellL (f.os.drop (j + 1)) ((ws.drop 1).drop (j + 1)) (c.1, sj) = tellL f.os (ws.drop 1) (bare f, [])) := Lib.hid (by rw [HTM.out, hlb]; rfl)
                    clear HTM hlb
                    go_wp2
                    go_roundw
                    case rel => exact ⟨j + 1, (c.1, sj), rfl, by go_num, by omega, HT2, HW4, HR4, HX4, g4, b4⟩
                    case measure => (simp [intOf]; try omega)
                  | false =>
                    have HPN : Hid (parseS sl = none) := Lib.hid (by rw [HPB.out, HTM.out, hlb]; rfl)
                    clear HTM hlb
                    obtain ⟨x0, x1, x2, x3, x4, x5, x6, x7, x8, x9, x10⟩ := id HX4.out.1
                    simp only [Nat.zero_add] at x0 x1 x2 x3 x4 x5 x6 x7 x8 x9 x10
                    obtain ⟨z0, z1, z2, z3, z4, z5, z6, z7, z8, z9, z10⟩ := id HR4.out.1
                    simp only [Nat.zero_add] at z0 z1 z2 z3 z4 z5 z6 z7 z8 z9 z10
                    have f0 := HR4.out.2 0
                    have f1 := HR4.out.2 1
                    have f2 := HR4.out.2 2
                    have f3 := HR4.out.2 3
                    have f4 := HR4.out.2 4
                    have f5 := HR4.out.2 5
                    have f6 := HR4.out.2 6
                    have f7 := HR4.out.2 7
                    have f8 := HR4.out.2 8
                    have f9 := HR4.out.2 9
                    have f10 := HR4.out.2 10
                    go_wp2
                    refine bodyPost_ret (res_in3 (p := 2) (u := 3) (v := 4) rfl rfl (In11.set11 c.1 HR4.out.1)) rfl ⟨InsR.no c.1 HPN.out, below_set11 c.1 b4 (Nat.le_refl _)⟩
                · have hne : ¬ (letW oo).toNat = 116 := fun h => h9 (HI9.out.1 h)
                  have e5 : (((letW oo).toNat : Int) == 116) = false := by
                    simp only [beq_eq_false_iff_ne, ne_eq]
                    omega
                  have e5n : ((letW oo).toNat == 116) = false := by
                    simp only [beq_eq_false_iff_ne, ne_eq]
                    exact hne
                  have HFL := Lib.hid fun (W : World) => xfill_any (w := W) oo ho9.1 (by omega) c.1 sj HSZ
                  have HTF := Lib.hid (tellO_fill h9 sj c)
                  unfold inv at HFL
                  clear h9 HI9
                  obtain ⟨x0, x1, x2, x3, x4, x5, x6, x7, x8, x9, x10⟩ := id HX4.out.1
                  simp only [Nat.zero_add] at x0 x1 x2 x3 x4 x5 x6 x7 x8 x9 x10
                  have f0 := HX4.out.2 0
                  have f1 := HX4.out.2 1
                  have f2 := HX4.out.2 2
                  have f3 := HX4.out.2 3
                  have f4 := HX4.out.2 4
                  have f5 := HX4.out.2 5
                  have f6 := HX4.out.2 6
                  have f7 := HX4.out.2 7
                  have f8 := HX4.out.2 8
                  have f9 := HX4.out.2 9
                  have f10 := HX4.out.2 10
                  have hwrp : IntKind.i64.wrap ((j : Int) + 1) = (j : Int) + 1 := IntWalk.i64_in _ (by omega)
                  go_upto_region 18 with (fail)
                  go_cut [12] from 61 to 73 (fun v wx => ∃ (y : In) (b : Bool), v = .bool b ∧ Hid (b = true → fillO oo sj c.1 = some y) ∧ Hid (b = false → fillO oo sj c.1 = none) ∧ Hid (In11 wx X 0 y ∧ ∀ o, wx.frozen? ⟨X, o, none⟩ = false) ∧ Hid (WdRow wx wx.heap.size (some ⟨wb, woff, none⟩) ws) ∧ Hid (In11 wx w.heap.size 0 in0 ∧ ∀ o, wx.frozen? ⟨w.heap.size, o, none⟩ = false) ∧ X < wx.heap.size ∧ Below w.heap.size w wx)
                  case first =>
                    go_region_with (go_at_call 43; refine (HFL.out _).mono ?_; rintro e w5 ⟨⟨y, b, rfl, hy1, hy0⟩, hb_w5⟩; have HY1 := Lib.hid hy1; have HY0 := Lib.hid hy0; have hs5 := hb_w5.size; (try simp only [World.size_drew, World.heap_drewN, World.size_alloc] at hs5); clear hy1 hy0; have b5 : Below w4.heap.size w4 w5 := (by repeat (first | exact Below.refl _ _ | assumption | (refine below_drewN ?_ _) | (refine Below.drew ?_) | (refine Below.alloc ?_ (by first | omega | (simp; omega) | simp) _) | (refine Below.setCell ?_ (by first | omega | (simp; omega) | simp) _) | (refine below_trans ?_ (by assumption) (by first | omega | (simp; omega) | simp)))); have b6 : Below w.heap.size w w5 := (by repeat (first | exact Below.refl _ _ | assumption | (refine below_drewN ?_ _) | (refine Below.drew ?_) | (refine Below.alloc ?_ (by first | omega | (simp; omega) | simp) _) | (refine Below.setCell ?_ (by first | omega | (simp; omega) | simp) _) | (refine below_trans ?_ (by assumption) (by first | omega | (simp; omega) | simp)))); have HX5 := Lib.hid (HX4.out.1.later b5); have HR5 := Lib.hid (HR4.out.1.later b5); have HFX5 : Hid (∀ o, w5.frozen? ⟨X, o, none⟩ = false) := Lib.hid (fun o => ((bcell b5).2 _ _ g4).trans (HX4.out.2 o)); have HFR5 : Hid (∀ o, w5.frozen? ⟨w.heap.size, o, none⟩ = false) := Lib.hid (fun o => ((bcell b5).2 _ _ (by omega)).trans (HR4.out.2 o)); have HW5 := Lib.hid (HW4.out.later b5); have p0 : w5.cell? ⟨X, 0, none⟩ = some (.int .u8 c.1.kd) := (hb_w5.cell (p := ⟨X, 0, none⟩) (by first | omega | (simp; omega) | simp)).trans (by first | assumption | (simp [go_sem]; done) | exact (World.cell?_alloc_lt _ _ ⟨_, _, _⟩ (by first | omega | (simp; omega) | simp)).trans (by assumption)); have p1 : w5.cell? ⟨X, 1, none⟩ = some (.int .u8 c.1.op) := (hb_w5.cell (p := ⟨X, 1, none⟩) (by first | omega | (simp; omega) | simp)).trans (by first | assumption | (simp [go_sem]; done) | exact (World.cell?_alloc_lt _ _ ⟨_, _, _⟩ (by first | omega | (simp; omega) | simp)).trans (by assumption)); have p2 : w5.cell? ⟨X, 2, none⟩ = some (.int .i64 c.1.oa) := (hb_w5.cell (p := ⟨X, 2, none⟩) (by first | omega | (simp; omega) | simp)).trans (by first | assumption | (simp [go_sem]; done) | exact (World.cell?_alloc_lt _ _ ⟨_, _, _⟩ (by first | omega | (simp; omega) | simp)).trans (by assumption)); have p3 : w5.cell? ⟨X, 3, none⟩ = some (.int .i64 c.1.ob) := (hb_w5.cell (p := ⟨X, 3, none⟩) (by first | omega | (simp; omega) | simp)).trans (by first | assumption | (simp [go_sem]; done) | exact (World.cell?_alloc_lt _ _ ⟨_, _, _⟩ (by first | omega | (simp; omega) | simp)).trans (by assumption)); have p4 : w5.cell? ⟨X, 4, none⟩ = some (.int .i64 c.1.fd) := (hb_w5.cell (p := ⟨X, 4, none⟩) (by first | omega | (simp; omega) | simp)).trans (by first | assumption | (simp [go_sem]; done) | exact (World.cell?_alloc_lt _ _ ⟨_, _, _⟩ (by first | omega | (simp; omega) | simp)).trans (by assumption)); have p5 : w5.cell? ⟨X, 5, none⟩ = some (.int .i64 c.1.n) := (hb_w5.cell (p := ⟨X, 5, none⟩) (by first | omega | (simp; omega) | simp)).trans (by first | assumption | (simp [go_sem]; done) | exact (World.cell?_alloc_lt _ _ ⟨_, _, _⟩ (by first | omega | (simp; omega) | simp)).trans (by assumption)); have p6 : w5.cell? ⟨X, 6, none⟩ = some (.int .u64 c.1.m) := (hb_w5.cell (p := ⟨X, 6, none⟩) (by first | omega | (simp; omega) | simp)).trans (by first | assumption | (simp [go_sem]; done) | exact (World.cell?_alloc_lt _ _ ⟨_, _, _⟩ (by first | omega | (simp; omega) | simp)).trans (by assumption)); have p7 : w5.cell? ⟨X, 7, none⟩ = some (.int .u64 c.1.w) := (hb_w5.cell (p := ⟨X, 7, none⟩) (by first | omega | (simp; omega) | simp)).trans (by first | assumption | (simp [go_sem]; done) | exact (World.cell?_alloc_lt _ _ ⟨_, _, _⟩ (by first | omega | (simp; omega) | simp)).trans (by assumption)); have p8 : w5.cell? ⟨X, 8, none⟩ = some (.int .i64 c.1.a) := (hb_w5.cell (p := ⟨X, 8, none⟩) (by first | omega | (simp; omega) | simp)).trans (by first | assumption | (simp [go_sem]; done) | exact (World.cell?_alloc_lt _ _ ⟨_, _, _⟩ (by first | omega | (simp; omega) | simp)).trans (by assumption)); have p9 : w5.cell? ⟨X, 9, none⟩ = some (.int .i64 c.1.b) := (hb_w5.cell (p := ⟨X, 9, none⟩) (by first | omega | (simp; omega) | simp)).trans (by first | assumption | (simp [go_sem]; done) | exact (World.cell?_alloc_lt _ _ ⟨_, _, _⟩ (by first | omega | (simp; omega) | simp)).trans (by assumption)); have p10 : w5.cell? ⟨X, 10, none⟩ = some (.int .i64 c.1.to) := (hb_w5.cell (p := ⟨X, 10, none⟩) (by first | omega | (simp; omega) | simp)).trans (by first | assumption | (simp [go_sem]; done) | exact (World.cell?_alloc_lt _ _ ⟨_, _, _⟩ (by first | omega | (simp; omega) | simp)).trans (by assumption)); have q0 : w5.frozen? ⟨X, 0, none⟩ = false := ((bcell hb_w5).2 _ _ (by first | omega | (simp; omega) | simp)).trans (by first | assumption | (simp [go_sem]; done)); have q1 : w5.frozen? ⟨X, 1, none⟩ = false := ((bcell hb_w5).2 _ _ (by first | omega | (simp; omega) | simp)).trans (by first | assumption | (simp [go_sem]; done)); have q2 : w5.frozen? ⟨X, 2, none⟩ = false := ((bcell hb_w5).2 _ _ (by first | omega | (simp; omega) | simp)).trans (by first | assumption | (simp [go_sem]; done)); have q3 : w5.frozen? ⟨X, 3, none⟩ = false := ((bcell hb_w5).2 _ _ (by first | omega | (simp; omega) | simp)).trans (by first | assumption | (simp [go_sem]; done)); have q4 : w5.frozen? ⟨X, 4, none⟩ = false := ((bcell hb_w5).2 _ _ (by first | omega | (simp; omega) | simp)).trans (by first | assumption | (simp [go_sem]; done)); have q5 : w5.frozen? ⟨X, 5, none⟩ = false := ((bcell hb_w5).2 _ _ (by first | omega | (simp; omega) | simp)).trans (by first | assumption | (simp [go_sem]; done)); have q6 : w5.frozen? ⟨X, 6, none⟩ = false := ((bcell hb_w5).2 _ _ (by first | omega | (simp; omega) | simp)).trans (by first | assumption | (simp [go_sem]; done)); have q7 : w5.frozen? ⟨X, 7, none⟩ = false := ((bcell hb_w5).2 _ _ (by first | omega | (simp; omega) | simp)).trans (by first | assumption | (simp [go_sem]; done)); have q8 : w5.frozen? ⟨X, 8, none⟩ = false := ((bcell hb_w5).2 _ _ (by first | omega | (simp; omega) | simp)).trans (by first | assumption | (simp [go_sem]; done)); have q9 : w5.frozen? ⟨X, 9, none⟩ = false := ((bcell hb_w5).2 _ _ (by first | omega | (simp; omega) | simp)).trans (by first | assumption | (simp [go_sem]; done)); have q10 : w5.frozen? ⟨X, 10, none⟩ = false := ((bcell hb_w5).2 _ _ (by first | omega | (simp; omega) | simp)).trans (by first | assumption | (simp [go_sem]; done)); unfold inv)
                    all_goals go_wp2_with fail
                    all_goals go_meet
                    all_goals exact ⟨y, b, rfl, HY1, HY0, Lib.hid ⟨In11.set11 y HX5.out, fun o => by simp only [World.frozen?_setCell]; exact HFX5.out o⟩, Lib.hid (HW5.out.far (below_set11 y (Below.refl X _) (Nat.le_refl X)) hwbX), Lib.hid ⟨HR5.out.below (below_set11 y (Below.refl X _) (Nat.le_refl X)) hXA, fun o => by simp only [World.frozen?_setCell]; exact HFR5.out o⟩, by simp only [World.size_setCell]; omega, below_set11 y b6 (Nat.le_of_lt hXA)⟩
                  case rest =>
                    clear hwrp HFL HW4 HR4 HX4 g4 b4
                    obtain ⟨y, b, rfl, HY1, HY0, HX6, HW6, HR6, g6, b6⟩ := hcut
                    have HTQ := HTN.out
                    rw [HT.out, HTF.out] at HTQ
                    have HTR2 := Lib.hid HTQ
                    clear HTQ HTN HT HTF
                    cases b with
                    | true =>
                      have HT2 : Hid (tellL (f.os.drop (j + 1)) ((ws.drop 1).drop (j + 1)) (y, c.2) = tellL f.os (ws.drop 1) (bare f, [])) := Lib.hid (by rw [HTR2.out, HY1.out rfl]; rfl)
                      clear HTR2 HY1 HY0
                      go_wp2
                      go_roundw
                      case rel => exact ⟨j + 1, (y, c.2), rfl, by go_num, by omega, HT2, HW6, HR6, HX6, g6, b6⟩
                      case measure => (simp [intOf]; try omega)
                    | false =>
                      have HPN : Hid (parseS sl = none) := Lib.hid (by rw [HPB.out, HTR2.out, HY0.out rfl]; rfl)
                      clear HTR2 HY1 HY0
                      obtain ⟨x0, x1, x2, x3, x4, x5, x6, x7, x8, x9, x10⟩ := id HX6.out.1
                      simp only [Nat.zero_add] at x0 x1 x2 x3 x4 x5 x6 x7 x8 x9 x10
                      obtain ⟨z0, z1, z2, z3, z4, z5, z6, z7, z8, z9, z10⟩ := id HR6.out.1
                      simp only [Nat.zero_add] at z0 z1 z2 z3 z4 z5 z6 z7 z8 z9 z10
                      have f0 := HR6.out.2 0
                      have f1 := HR6.out.2 1
                      have f2 := HR6.out.2 2
                      have f3 := HR6.out.2 3
                      have f4 := HR6.out.2 4
                      have f5 := HR6.out.2 5
                      have f6 := HR6.out.2 6
                      have f7 := HR6.out.2 7
                      have f8 := HR6.out.2 8
                      have f9 := HR6.out.2 9
                      have f10 := HR6.out.2 10
                      go_wp2
                      refine bodyPost_ret (res_in3 (p := 2) (u := 3) (v := 4) rfl rfl (In11.set11 y HR6.out.1)) rfl ⟨InsR.no y HPN.out, below_set11 y b6 (Nat.le_refl _)⟩
              · obtain rfl : j = n := by omega
                have htl := HEND.out c
                rw [HT.out] at htl
                have hTR := HTR.out c (by rw [HLO.out, HN9.out]) htl
                have HPC := HPB.out
                rw [htl] at HPC
                have HPD := Lib.hid HPC
                obtain ⟨vb, hvb, HV⟩ := xright_both c.1 256 ⟨hTR.1, hTR.2.1, hTR.2.2.1⟩ (by omega)
                have HVB : Hid ((vb = true → parseS sl = some c) ∧ (vb = false → parseS sl = none)) := Lib.hid ⟨fun h => by
                  rw [HPD.out]
                  exact if_pos (hTR.2.2.2.1 (hvb.1 h)), fun h => by
                  rw [HPD.out]
                  exact if_neg fun hs => by
                    have := hvb.2 (hTR.2.2.2.2 hs)
                    rw [h] at this
                    cases this⟩
                clear HPC htl hvb hTR HT
                obtain ⟨x0, x1, x2, x3, x4, x5, x6, x7, x8, x9, x10⟩ := id HX.out.1
                simp only [Nat.zero_add] at x0 x1 x2 x3 x4 x5 x6 x7 x8 x9 x10
                obtain ⟨z0, z1, z2, z3, z4, z5, z6, z7, z8, z9, z10⟩ := id HR.out.1
                simp only [Nat.zero_add] at z0 z1 z2 z3 z4 z5 z6 z7 z8 z9 z10
                have f0 := HR.out.2 0
                have f1 := HR.out.2 1
                have f2 := HR.out.2 2
                have f3 := HR.out.2 3
                have f4 := HR.out.2 4
                have f5 := HR.out.2 5
                have f6 := HR.out.2 6
                have f7 := HR.out.2 7
                have f8 := HR.out.2 8
                have f9 := HR.out.2 9
                have f10 := HR.out.2 10
                have HVR := HV
                clear HV
                simp only [in0] at z0 z1 z2 z3 z4 z5 z6 z7 z8 z9 z10
                go_upto_region 21 with (fail)
                go_cut [3, 4] from 77 to 80 (fun v3 v4 wx => v3 = .string (bs c.2) ∧ v4 = .bool vb ∧ Hid (In11 wx w.heap.size 0 c.1) ∧ Below w.heap.size w wx)
                case first =>
                  go_region_with (go_at_call 33; refine (HVR.out _).mono ?_; rintro e w5 ⟨rfl, hb_w5⟩; have hs5 := hb_w5.size; (try simp only [World.size_drew, World.heap_drewN, World.size_alloc] at hs5); have b5 : Below wB.heap.size wB w5 := (by repeat (first | exact Below.refl _ _ | assumption | (refine below_drewN ?_ _) | (refine Below.drew ?_) | (refine Below.alloc ?_ (by first | omega | (simp; omega) | simp) _) | (refine Below.setCell ?_ (by first | omega | (simp; omega) | simp) _) | (refine below_trans ?_ (by assumption) (by first | omega | (simp; omega) | simp)))); have b6 : Below w.heap.size w w5 := (by repeat (first | exact Below.refl _ _ | assumption | (refine below_drewN ?_ _) | (refine Below.drew ?_) | (refine Below.alloc ?_ (by first | omega | (simp; omega) | simp) _) | (refine Below.setCell ?_ (by first | omega | (simp; omega) | simp) _) | (refine below_trans ?_ (by assumption) (by first | omega | (simp; omega) | simp)))); have HR5 := Lib.hid (HR.out.1.later b5); have p0 : w5.cell? ⟨w.heap.size, 0, none⟩ = some (.int .u8 0) := (hb_w5.cell (p := ⟨w.heap.size, 0, none⟩) (by first | omega | (simp; omega) | simp)).trans (by first | assumption | (simp [go_sem]; done) | exact (World.cell?_alloc_lt _ _ ⟨_, _, _⟩ (by first | omega | (simp; omega) | simp)).trans (by assumption)); have p1 : w5.cell? ⟨w.heap.size, 1, none⟩ = some (.int .u8 0) := (hb_w5.cell (p := ⟨w.heap.size, 1, none⟩) (by first | omega | (simp; omega) | simp)).trans (by first | assumption | (simp [go_sem]; done) | exact (World.cell?_alloc_lt _ _ ⟨_, _, _⟩ (by first | omega | (simp; omega) | simp)).trans (by assumption)); have p2 : w5.cell? ⟨w.heap.size, 2, none⟩ = some (.int .i64 0) := (hb_w5.cell (p := ⟨w.heap.size, 2, none⟩) (by first | omega | (simp; omega) | simp)).trans (by first | assumption | (simp [go_sem]; done) | exact (World.cell?_alloc_lt _ _ ⟨_, _, _⟩ (by first | omega | (simp; omega) | simp)).trans (by assumption)); have p3 : w5.cell? ⟨w.heap.size, 3, none⟩ = some (.int .i64 0) := (hb_w5.cell (p := ⟨w.heap.size, 3, none⟩) (by first | omega | (simp; omega) | simp)).trans (by first | assumption | (simp [go_sem]; done) | exact (World.cell?_alloc_lt _ _ ⟨_, _, _⟩ (by first | omega | (simp; omega) | simp)).trans (by assumption)); have p4 : w5.cell? ⟨w.heap.size, 4, none⟩ = some (.int .i64 0) := (hb_w5.cell (p := ⟨w.heap.size, 4, none⟩) (by first | omega | (simp; omega) | simp)).trans (by first | assumption | (simp [go_sem]; done) | exact (World.cell?_alloc_lt _ _ ⟨_, _, _⟩ (by first | omega | (simp; omega) | simp)).trans (by assumption)); have p5 : w5.cell? ⟨w.heap.size, 5, none⟩ = some (.int .i64 0) := (hb_w5.cell (p := ⟨w.heap.size, 5, none⟩) (by first | omega | (simp; omega) | simp)).trans (by first | assumption | (simp [go_sem]; done) | exact (World.cell?_alloc_lt _ _ ⟨_, _, _⟩ (by first | omega | (simp; omega) | simp)).trans (by assumption)); have p6 : w5.cell? ⟨w.heap.size, 6, none⟩ = some (.int .u64 0) := (hb_w5.cell (p := ⟨w.heap.size, 6, none⟩) (by first | omega | (simp; omega) | simp)).trans (by first | assumption | (simp [go_sem]; done) | exact (World.cell?_alloc_lt _ _ ⟨_, _, _⟩ (by first | omega | (simp; omega) | simp)).trans (by assumption)); have p7 : w5.cell? ⟨w.heap.size, 7, none⟩ = some (.int .u64 0) := (hb_w5.cell (p := ⟨w.heap.size, 7, none⟩) (by first | omega | (simp; omega) | simp)).trans (by first | assumption | (simp [go_sem]; done) | exact (World.cell?_alloc_lt _ _ ⟨_, _, _⟩ (by first | omega | (simp; omega) | simp)).trans (by assumption)); have p8 : w5.cell? ⟨w.heap.size, 8, none⟩ = some (.int .i64 0) := (hb_w5.cell (p := ⟨w.heap.size, 8, none⟩) (by first | omega | (simp; omega) | simp)).trans (by first | assumption | (simp [go_sem]; done) | exact (World.cell?_alloc_lt _ _ ⟨_, _, _⟩ (by first | omega | (simp; omega) | simp)).trans (by assumption)); have p9 : w5.cell? ⟨w.heap.size, 9, none⟩ = some (.int .i64 0) := (hb_w5.cell (p := ⟨w.heap.size, 9, none⟩) (by first | omega | (simp; omega) | simp)).trans (by first | assumption | (simp [go_sem]; done) | exact (World.cell?_alloc_lt _ _ ⟨_, _, _⟩ (by first | omega | (simp; omega) | simp)).trans (by assumption)); have p10 : w5.cell? ⟨w.heap.size, 10, none⟩ = some (.int .i64 0) := (hb_w5.cell (p := ⟨w.heap.size, 10, none⟩) (by first | omega | (simp; omega) | simp)).trans (by first | assumption | (simp [go_sem]; done) | exact (World.cell?_alloc_lt _ _ ⟨_, _, _⟩ (by first | omega | (simp; omega) | simp)).trans (by assumption)); have q0 : w5.frozen? ⟨w.heap.size, 0, none⟩ = false := ((bcell hb_w5).2 _ _ (by first | omega | (simp; omega) | simp)).trans (by first | assumption | (simp [go_sem]; done)); have q1 : w5.frozen? ⟨w.heap.size, 1, none⟩ = false := ((bcell hb_w5).2 _ _ (by first | omega | (simp; omega) | simp)).trans (by first | assumption | (simp [go_sem]; done)); have q2 : w5.frozen? ⟨w.heap.size, 2, none⟩ = false := ((bcell hb_w5).2 _ _ (by first | omega | (simp; omega) | simp)).trans (by first | assumption | (simp [go_sem]; done)); have q3 : w5.frozen? ⟨w.heap.size, 3, none⟩ = false := ((bcell hb_w5).2 _ _ (by first | omega | (simp; omega) | simp)).trans (by first | assumption | (simp [go_sem]; done)); have q4 : w5.frozen? ⟨w.heap.size, 4, none⟩ = false := ((bcell hb_w5).2 _ _ (by first | omega | (simp; omega) | simp)).trans (by first | assumption | (simp [go_sem]; done)); have q5 : w5.frozen? ⟨w.heap.size, 5, none⟩ = false := ((bcell hb_w5).2 _ _ (by first | omega | (simp; omega) | simp)).trans (by first | assumption | (simp [go_sem]; done)); have q6 : w5.frozen? ⟨w.heap.size, 6, none⟩ = false := ((bcell hb_w5).2 _ _ (by first | omega | (simp; omega) | simp)).trans (by first | assumption | (simp [go_sem]; done)); have q7 : w5.frozen? ⟨w.heap.size, 7, none⟩ = false := ((bcell hb_w5).2 _ _ (by first | omega | (simp; omega) | simp)).trans (by first | assumption | (simp [go_sem]; done)); have q8 : w5.frozen? ⟨w.heap.size, 8, none⟩ = false := ((bcell hb_w5).2 _ _ (by first | omega | (simp; omega) | simp)).trans (by first | assumption | (simp [go_sem]; done)); have q9 : w5.frozen? ⟨w.heap.size, 9, none⟩ = false := ((bcell hb_w5).2 _ _ (by first | omega | (simp; omega) | simp)).trans (by first | assumption | (simp [go_sem]; done)); have q10 : w5.frozen? ⟨w.heap.size, 10, none⟩ = false := ((bcell hb_w5).2 _ _ (by first | omega | (simp; omega) | simp)).trans (by first | assumption | (simp [go_sem]; done)); have r0 : w5.cell? ⟨X, 0, none⟩ = some (.int .u8 c.1.kd) := (hb_w5.cell (p := ⟨X, 0, none⟩) (by first | omega | (simp; omega) | simp)).trans (by first | assumption | (simp [go_sem]; done) | exact (World.cell?_alloc_lt _ _ ⟨_, _, _⟩ (by first | omega | (simp; omega) | simp)).trans (by assumption)); have r1 : w5.cell? ⟨X, 1, none⟩ = some (.int .u8 c.1.op) := (hb_w5.cell (p := ⟨X, 1, none⟩) (by first | omega | (simp; omega) | simp)).trans (by first | assumption | (simp [go_sem]; done) | exact (World.cell?_alloc_lt _ _ ⟨_, _, _⟩ (by first | omega | (simp; omega) | simp)).trans (by assumption)); have r2 : w5.cell? ⟨X, 2, none⟩ = some (.int .i64 c.1.oa) := (hb_w5.cell (p := ⟨X, 2, none⟩) (by first | omega | (simp; omega) | simp)).trans (by first | assumption | (simp [go_sem]; done) | exact (World.cell?_alloc_lt _ _ ⟨_, _, _⟩ (by first | omega | (simp; omega) | simp)).trans (by assumption)); have r3 : w5.cell? ⟨X, 3, none⟩ = some (.int .i64 c.1.ob) := (hb_w5.cell (p := ⟨X, 3, none⟩) (by first | omega | (simp; omega) | simp)).trans (by first | assumption | (simp [go_sem]; done) | exact (World.cell?_alloc_lt _ _ ⟨_, _, _⟩ (by first | omega | (simp; omega) | simp)).trans (by assumption)); have r4 : w5.cell? ⟨X, 4, none⟩ = some (.int .i64 c.1.fd) := (hb_w5.cell (p := ⟨X, 4, none⟩) (by first | omega | (simp; omega) | simp)).trans (by first | assumption | (simp [go_sem]; done) | exact (World.cell?_alloc_lt _ _ ⟨_, _, _⟩ (by first | omega | (simp; omega) | simp)).trans (by assumption)); have r5 : w5.cell? ⟨X, 5, none⟩ = some (.int .i64 c.1.n) := (hb_w5.cell (p := ⟨X, 5, none⟩) (by first | omega | (simp; omega) | simp)).trans (by first | assumption | (simp [go_sem]; done) | exact (World.cell?_alloc_lt _ _ ⟨_, _, _⟩ (by first | omega | (simp; omega) | simp)).trans (by assumption)); have r6 : w5.cell? ⟨X, 6, none⟩ = some (.int .u64 c.1.m) := (hb_w5.cell (p := ⟨X, 6, none⟩) (by first | omega | (simp; omega) | simp)).trans (by first | assumption | (simp [go_sem]; done) | exact (World.cell?_alloc_lt _ _ ⟨_, _, _⟩ (by first | omega | (simp; omega) | simp)).trans (by assumption)); have r7 : w5.cell? ⟨X, 7, none⟩ = some (.int .u64 c.1.w) := (hb_w5.cell (p := ⟨X, 7, none⟩) (by first | omega | (simp; omega) | simp)).trans (by first | assumption | (simp [go_sem]; done) | exact (World.cell?_alloc_lt _ _ ⟨_, _, _⟩ (by first | omega | (simp; omega) | simp)).trans (by assumption)); have r8 : w5.cell? ⟨X, 8, none⟩ = some (.int .i64 c.1.a) := (hb_w5.cell (p := ⟨X, 8, none⟩) (by first | omega | (simp; omega) | simp)).trans (by first | assumption | (simp [go_sem]; done) | exact (World.cell?_alloc_lt _ _ ⟨_, _, _⟩ (by first | omega | (simp; omega) | simp)).trans (by assumption)); have r9 : w5.cell? ⟨X, 9, none⟩ = some (.int .i64 c.1.b) := (hb_w5.cell (p := ⟨X, 9, none⟩) (by first | omega | (simp; omega) | simp)).trans (by first | assumption | (simp [go_sem]; done) | exact (World.cell?_alloc_lt _ _ ⟨_, _, _⟩ (by first | omega | (simp; omega) | simp)).trans (by assumption)); have r10 : w5.cell? ⟨X, 10, none⟩ = some (.int .i64 c.1.to) := (hb_w5.cell (p := ⟨X, 10, none⟩) (by first | omega | (simp; omega) | simp)).trans (by first | assumption | (simp [go_sem]; done) | exact (World.cell?_alloc_lt _ _ ⟨_, _, _⟩ (by first | omega | (simp; omega) | simp)).trans (by assumption)))
                  all_goals go_wp2_with fail
                  all_goals go_meet
                  all_goals exact ⟨rfl, rfl, Lib.hid (In11.set11 c.1 HR5.out), below_set11 c.1 b6 (Nat.le_refl _)⟩
                case rest =>
                  obtain ⟨rfl, rfl, HRC, b7⟩ := hcut
                  go_wp2
                  refine bodyPost_ret (res_in3 (p := 2) (u := 3) (v := 4) rfl rfl HRC.out) rfl ⟨⟨c.1, c.2, vb, rfl, HVB.out.1, HVB.out.2⟩, b7⟩
          · have e4 : ((ws.length : Int) != (n : Int) + 1) = true := by simp; omega
            have e4n : (ws.length != n + 1) = true := by simp; exact hlen
            have HPN : Hid (parseS sl = none) := Lib.hid (by rw [HPA.out, if_neg (by rw [HN9.out]; exact hlen)])
            clear hlen HPA
            obtain ⟨x0, x1, x2, x3, x4, x5, x6, x7, x8, x9, x10⟩ := id HX3.out.1
            obtain ⟨z0, z1, z2, z3, z4, z5, z6, z7, z8, z9, z10⟩ := id HR3.out.1
            simp only [Nat.zero_add] at x0 x1 x2 x3 x4 x5 x6 x7 x8 x9 x10 z0 z1 z2 z3 z4 z5 z6 z7 z8 z9 z10
            have f0 := HR3.out.2 0
            have f1 := HR3.out.2 1
            have f2 := HR3.out.2 2
            have f3 := HR3.out.2 3
            have f4 := HR3.out.2 4
            have f5 := HR3.out.2 5
            have f6 := HR3.out.2 6
            have f7 := HR3.out.2 7
            have f8 := HR3.out.2 8
            have f9 := HR3.out.2 9
            have f10 := HR3.out.2 10
            go_wp2
            refine bodyPost_ret (res_in3 (p := 2) (u := 3) (v := 4) rfl rfl (In11.set11 (bare f) HR3.out.1)) rfl ⟨InsR.no (bare f) HPN.out, below_set11 (bare f) b4 (Nat.le_refl _)⟩
      · have e1 : ((bs f.nm).toList == (bs hd).toList) = false := by rw [ByteArray.toList_eq, ByteArray.toList_eq, bs_data, bs_data]; simpa using hn
        have e2 : ((bs f.nm).toList != (bs hd).toList) = true := by rw [bne, e1]; rfl
        have HNX2 := Lib.hid (HNX.out hn)
        clear HNX HFA HPH hn
        generalize bs f.nm = B1 at *
        generalize bs hd = B2 at *
        generalize bs (hasF f) = B3 at *
        go_wp2_with fail
        go_at_call 42
        refine (HND.out _).mono ?_
        rintro e w3 ⟨rfl, hb_w3⟩
        obtain ⟨hc_w3, hf_w3⟩ := bcell hb_w3; have hz_w3_wA_0 : wA.heap.size < w3.heap.size := (by have hzz := hb_w3.size; (try simp only [World.size_alloc, World.size_setCell, World.size_drew, World.heap_drewN] at hzz); omega); have hs_w3 := hb_w3.size; (try simp only [World.size_alloc, World.size_setCell, World.size_drew, World.heap_drewN] at hs_w3)
        have wc3 := (hb_w3.cell (p := ⟨wb, woff, none⟩) (by simp only [World.size_alloc]; omega)).trans ((World.cell?_alloc_lt _ _ ⟨wb, woff, none⟩ hwb).trans wc0)
        have b3 : Below wA.heap.size wA w3 := (by repeat (first | exact Below.refl _ _ | assumption | (refine below_drewN ?_ _) | (refine Below.drew ?_) | (refine Below.alloc ?_ (by first | omega | (simp; omega) | simp) _) | (refine Below.setCell ?_ (by first | omega | (simp; omega) | simp) _) | (refine below_trans ?_ (by assumption) (by first | omega | (simp; omega) | simp))))
        have HW3 := Lib.hid (HW.out.later b3)
        have HK3 := Lib.hid (HK.out.later b3)
        have HR3 : Hid (In11 w3 w.heap.size 0 in0 ∧ ∀ o, w3.frozen? ⟨w.heap.size, o, none⟩ = false) := Lib.hid ⟨HR.out.1.later b3, fun o => ((bcell b3).2 _ _ gA).trans (HR.out.2 o)⟩
        have b4 : Below w.heap.size w w3 := (by repeat (first | exact Below.refl _ _ | assumption | (refine below_drewN ?_ _) | (refine Below.drew ?_) | (refine Below.alloc ?_ (by first | omega | (simp; omega) | simp) _) | (refine Below.setCell ?_ (by first | omega | (simp; omega) | simp) _) | (refine below_trans ?_ (by assumption) (by first | omega | (simp; omega) | simp))))
        clear hc_w3 hf_w3
        go_wp2
        go_roundw
        case rel => exact ⟨k + 1, by go_num, by omega, HNX2, HW3, HK3, HR3, b4⟩
        case measure => (simp [intOf]; try omega)
    · obtain rfl : k = 20 := by omega
      have HPN := Lib.hid (parse_none HWS.out (fnamed_none fun j hj => HNM.out j hj hj))
      have fz := HR.out.2
      have f0 := fz 0
      have f1 := fz 1
      have f2 := fz 2
      have f3 := fz 3
      have f4 := fz 4
      have f5 := fz 5
      have f6 := fz 6
      have f7 := fz 7
      have f8 := fz 8
      have f9 := fz 9
      have f10 := fz 10
      obtain ⟨z0, z1, z2, z3, z4, z5, z6, z7, z8, z9, z10⟩ := id HR.out.1
      simp only [Nat.zero_add] at z0 z1 z2 z3 z4 z5 z6 z7 z8 z9 z10
      clear fz
      go_wp2
      refine bodyPost_ret (res_in3 (p := 2) (u := 3) (v := 4) rfl rfl (In11.set11 in0 HR.out.1)) rfl ⟨InsR.no in0 HPN.out, below_set11 in0 hb_wA (Nat.le_refl _)⟩
end
end Go.Proofs.YtggaijdbaplfiaaGreatDoor
