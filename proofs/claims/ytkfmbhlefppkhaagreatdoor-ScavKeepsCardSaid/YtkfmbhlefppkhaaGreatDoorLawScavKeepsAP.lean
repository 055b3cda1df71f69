/- Parts of the proof. -/
import Derived.Test.YtkfmbhlefppkhaaGreatDoorScavQ20
import Derived.WalkKit
import Derived.BigQuiet
import Derived.Deep.QuietTactic
import Derived.WalkLawsBesides
import Derived.WalkSpells
import Derived.Lib.Hide
import Derived.Outline
import Derived.Test.YtkfmbhlefppkhaaGreatDoorProg
import Derived.LoopTactic
import Derived.Deep.AppendLies
import Derived.OwnWalk
set_option maxRecDepth 100000
set_option linter.unusedVariables false
set_option linter.unusedSimpArgs false
namespace Go.Proofs.YtkfmbhlefppkhaaGreatDoor
open Go.RowKit
theorem ret_bool {a b : Bool} (h : a = b) : Ending.returned (.bool a) = .returned (.bool b) := by rw [h]
section
variable (n : Int) (A : Option Addr) (len cap : Nat) (w : World)
end
def SameTo (ws ws' : List Nat) (k : Nat) : Prop := ∀ j, j < k → ws.getD j 0 = ws'.getD j 0
theorem same_loop (n : Int) (A A' : Option Addr) (cap cap' : Nat) (ws ws' : List Nat) (w : World) (hr : Row w w.heap.size A ws) (hr' : Row w w.heap.size A' ws') (hl : ws.length = ws'.length) (hm : ws.length ≤ maxLen) :
    Calls Tryz.prog 130 #[.agg #[.int .i64 n, .slice A ws.length cap], .agg #[.int .i64 n, .slice A' ws.length cap']] w fun e w' => e = .returned (.bool (decide (ws = ws'))) ∧ Below w.heap.size w w' := by
  unfold maxLen at hm
  have H := Lib.hid hl
  clear hl
  have hd : (n != n) = false := by simp
  have hd2 : ((ws.length : Int) != (ws.length : Int)) = false := by simp
  go_enter Tryz.func130, Tryz.ntmps130
  go_wp2
  go_loopw [23] (fun i wr => ∃ k m : Nat, i = .int .i64 k ∧ k ≤ ws.length ∧ SameTo ws ws' k ∧ wr = ((w.alloc (Obj.cells #[Value.int IntKind.i64 n, Value.slice A ws.length cap] 26)).alloc (Obj.cells #[Value.int IntKind.i64 n, Value.slice A' ws.length cap'] 26)).drewN m)
    (fun i _ => ws.length - (intOf i).toNat)
  case atStart => exact ⟨0, 0, rfl, Nat.zero_le _, fun j h => by omega, rfl⟩
  case round =>
    obtain ⟨k, m, rfl, hk, hs, rfl⟩ := hrel
    by_cases hlt : k < ws.length
    · obtain ⟨b, off, rfl, hb, hc⟩ := hr.at_ (by omega)
      obtain ⟨b', off', rfl, hb', hc'⟩ := hr'.at_ (by have := H.out; omega)
      have hck := hc k hlt
      have hck' := hc' k (by have := H.out; omega)
      obtain ⟨x, hx⟩ := named ws k
      obtain ⟨x', hx'⟩ := named ws' k
      rw [hx.out] at hck
      rw [hx'.out] at hck'
      clear hc hc'
      go_wp2
      go_quiet (fail)
      go_wp2
      · have ht : ((x : Int) != (x' : Int)) = true := by assumption
        go_ret
        refine ⟨ret_bool (decide_eq_false ?_).symm, bX⟩
        rintro rfl
        rw [← hx.out, ← hx'.out] at ht
        simp at ht
      · have ht : ((x : Int) != (x' : Int)) = false := by assumption
        go_roundw
        case rel => exact ⟨k + 1, _, by go_num, by omega, fun j hj => by
            by_cases e : j = k
            · rw [e, hx.out, hx'.out]; have := bne_eq_false_iff_eq.1 ht; omega
            · exact hs j (by omega), rfl⟩
        case measure => simp [intOf]; omega
    · go_wp2
      go_ret
      exact ⟨ret_bool (decide_eq_true (List.ext_getElem H.out (fun i h1 h2 => by have := hs i (by omega); simpa [h1, h2] using this))).symm, bX⟩
theorem block3 (w : World) (o o' o'' : Obj) : (((w.alloc o).alloc o').alloc o'').heap[w.heap.size + 2]? = some o'' := by
  have h := block2 (w.alloc o) o' o''
  rwa [World.size_alloc] at h
theorem own_empty (w w' : World) (o o' : Obj) (h : w'.heap = (((w.alloc o).alloc o').alloc (.cells #[] 32)).heap) : w'.ownsRow (w.heap.size + 2) 32 1 (.slice (some ⟨w.heap.size + 1 + 1, 0, none⟩) 0 0) 0 [] :=
  ⟨rfl, .inr ⟨w.heap.size + 1 + 1, 0, #[], rfl, Nat.le_refl _, by rw [h]; exact block3 _ _ _ _, Nat.le_refl _, Nat.zero_le _, rfl, rfl⟩⟩
theorem Own.of_owns {w : World} {B g cap : Nat} {ws : List Nat} (h : w.ownsRow B 32 1 (.slice (some ⟨g, 0, none⟩) ws.length cap) ws.length (vals ws)) (hw : Words ws) : Own w B (some ⟨g, 0, none⟩) ws :=
  ⟨hw, fun hl => ⟨g, rfl, (h.lt g rfl).1, (h.lt g rfl).2, fun i hi => ⟨by rw [h.cellAt i (by omega), vals_at ws i hi], h.frozenAt i⟩⟩⟩
theorem res_one {fn : Func} {p : Tmp} (h : fn.results = #[.cell p 26]) {tmps : Array Value} {w : World} {g : Nat} {v0 v1 : Value} (hp : tmps.getD p undef = .pointer (some ⟨g, 0, none⟩))
    (h0 : w.cell? ⟨g, 0, none⟩ = some v0) (h1 : w.cell? ⟨g, 1, none⟩ = some v1) : (results fn tmps).run Tryz.prog w = .ok (.agg #[v0, v1]) w := by
  have hp2 : tmps[p]?.getD undef = .pointer (some ⟨g, 0, none⟩) := by rw [← hp]; simp
  simp only [results, h]
  simp [go_sem, Result.andThen, h0, h1, asAddr, hp2]
theorem copy_nil (n : Int) (A : Option Addr) (cap : Nat) (w : World) :
    Calls Tryz.prog 122 #[.agg #[.int .i64 n, .slice A 0 cap]] w fun e w' => Copied w n [] e w' := by
  cases A
  all_goals
    go_enter Tryz.func122, Tryz.ntmps122
    go_wp2
    go_region
    all_goals
      go_wp2
      exact bodyPost_ret (res_one rfl rfl (g := w.heap.size + 1) (by simp [go_sem] <;> rfl) (by simp [go_sem] <;> rfl)) rfl ⟨_, 0, rfl, ⟨fun x hx => by simp at hx, fun h => by simp at h⟩, bX⟩
theorem copy_some (n : Int) (b off cap : Nat) (ws : List Nat) (w : World) (hr : Row w w.heap.size (some ⟨b, off, none⟩) ws) (h0 : 0 < ws.length) (hm : ws.length ≤ 17592186044416) :
    Calls Tryz.prog 122 #[.agg #[.int .i64 n, .slice (some ⟨b, off, none⟩) ws.length cap]] w fun e w' => Copied w n ws e w' := by
  obtain ⟨i0, hi, hz0, hz1, hz2⟩ := info_parts info_u64
  go_enter Tryz.func122, Tryz.ntmps122
  go_wp2
  go_region_law ((refine step_append_lies _ rfl (.tmp 5) (.tmp 7) 22 rfl (w.heap.size + 2) 32 i0 _ 1 8 Tryz.underlying22 hi hz0 hz1 hz2 rfl (by omega) (.slice (some ⟨w.heap.size + 1 + 1, 0, none⟩) 0 0) 0 [] (by simp [Act.eval, Act.put]) (own_empty w _ _ _ rfl) ⟨b, off, none⟩ ws.length cap (vals ws) (by simp [Act.eval, Act.put]) (by simp [vals]) (hr.src2 bX) (vals_one ws) h0 (by unfold maxLen; omega) (by omega) (by simp) _ rfl ?_; intro g cap2 w2 hown2 hg2 hat2 hlt2; simp only [Nat.zero_add, List.nil_append] at hown2; have hb_w2 : Below (w.heap.size + 2) _ w2 := (Below.refl _ _).grown hg2 lX (fun k hk => (by simp [Value.ownBlock] at hk; omega)); obtain ⟨hc_w2, hf_w2⟩ := bcell hb_w2; have hz_w2_w_0 : w.heap.size < w2.heap.size := lY hb_w2.size; have hz_w2_w_1 : w.heap.size + 1 < w2.heap.size := lY hb_w2.size))
  all_goals
    go_wp2
    have k0 : w2.cell? ⟨w.heap.size + 1, 0, none⟩ = _ := (hc_w2 _ _ lX).trans (by simp [go_sem]; rfl)
    have k1 : w2.cell? ⟨w.heap.size + 1, 1, none⟩ = _ := (hc_w2 _ _ lX).trans (by simp [go_sem]; rfl)
    have ho := Own.of_owns hown2 hr.words
    exact bodyPost_ret (res_one rfl rfl (set_two _ _ k0 k1).1 (set_two _ _ k0 k1).2) rfl ⟨_, cap2, rfl, ((ho.far (.inl lX) _).far (.inl lX) _).mono lX, bX⟩
theorem copy_any (n : Int) {A : Option Addr} (cap : Nat) {ws : List Nat} {w : World} (hr : Row w w.heap.size A ws) (hm : ws.length ≤ 17592186044416) :
    Calls Tryz.prog 122 #[.agg #[.int .i64 n, .slice A ws.length cap]] w fun e w' => Copied w n ws e w' := by
  by_cases h0 : 0 < ws.length
  · obtain ⟨b, off, rfl, _, _⟩ := hr.at_ h0
    exact copy_some n b off cap ws w hr h0 hm
  · obtain rfl : ws = [] := List.eq_nil_of_length_eq_zero (by omega)
    exact copy_nil n A cap w
theorem same_ok (n : Int) (ws : List Nat) (hm : ws.length ≤ maxLen) (w : World) (A A' : Option Addr) (cap cap' : Nat) (hr : Row w w.heap.size A ws) (hr' : Row w w.heap.size A' ws) :
    Calls Tryz.prog 130 #[.agg #[.int .i64 n, .slice A ws.length cap], .agg #[.int .i64 n, .slice A' ws.length cap']] w fun e w' => e = .returned (.bool true) ∧ Below w.heap.size w w' :=
  (same_loop n A A' cap cap' ws ws w hr hr' rfl hm).mono fun _ _ ⟨h1, h2⟩ => ⟨by rw [h1, decide_eq_true rfl], h2⟩
theorem IRow.of_owns {w : World} {B g cap : Nat} {xs : List Int} (h : w.ownsRow B 3 1 (.slice (some ⟨g, 0, none⟩) xs.length cap) xs.length (ivals xs)) (hw : ∀ x ∈ xs, I63 x) : IRow w w.heap.size (some ⟨g, 0, none⟩) xs :=
  ⟨hw, fun hl => ⟨g, 0, rfl, (h.lt g rfl).2, fun i hi => by rw [Nat.zero_add, h.cellAt i (by omega), ivals_at xs i hi]⟩⟩
theorem Row.cellAt {w : World} {B : Nat} {A : Option Addr} {ws : List Nat} (h : Row w B A ws) {k : Nat} (hk : k < ws.length) : ∃ b off, A = some ⟨b, off, none⟩ ∧ b < B ∧ w.cell? ⟨b, off + k, none⟩ = some (.int .u64 (ws.getD k 0 : Nat)) := by
  obtain ⟨b, off, e, hb, hc⟩ := h.at_ (by omega)
  exact ⟨b, off, e, hb, hc k hk⟩
section
variable {w : World} {A : Option Addr} {us : List Nat} {L : Nat} (cap : Nat)
end
theorem nth_mem (l : List Sd) (i : Nat) (h : i < l.length) : nth l i ∈ l := by
  unfold nth
  rw [List.getD_eq_getElem?_getD, List.getElem?_eq_getElem h]
  exact List.getElem_mem h
section
variable {w : World} {A : Option Addr} {l : List Sd} (cap : Nat)
end
section
variable {w : World} {A M C N : Option Addr} (ca cm cc cn : Nat)
theorem xsameone_self (d : Sd) (hA : Row w w.heap.size A d.aw) (hM : Row w w.heap.size M d.mw) (hC : Row w w.heap.size C d.aw) (hN : Row w w.heap.size N d.mw) (la : d.aw.length ≤ 17592186044416) (lm : d.mw.length ≤ 17592186044416) :
    Calls Tryz.prog 173 #[spv d A ca M cm, spv d C cc N cn] w fun e w' => e = .returned (.bool true) ∧ Below w.heap.size w w' := by
  have HA := Lib.hid fun (w : World) h1 h2 => same_ok d.an d.aw (by unfold maxLen; omega) w A C ca cc h1 h2
  have HM := Lib.hid fun (w : World) h1 h2 => same_ok d.mn d.mw (by unfold maxLen; omega) w M N cm cn h1 h2
  obtain ⟨f, p, z, an, aw, mn, mw, s⟩ := d
  unfold spv
  simp only at *
  have n1 : (f == f) = true := by simp
  have n2 : (p == p) = true := by simp
  have n3 : (z == z) = true := by simp
  have n4 : (s == s) = true := by simp
  go_enter Tryz.func173, Tryz.ntmps173
  go_wp2_with fail
  go_at_call 130
  refine (HA.out _ (hA.later bX) (hC.later bX)).mono ?_
  rintro e w2 ⟨rfl, hb_w2⟩
  obtain ⟨hc_w2, hf_w2⟩ := bcell hb_w2
  have hs2 := hb_w2.size
  (try simp only [zA] at hs2)
  have b2 : Below w.heap.size w w2 := bX
  have x0 : w2.cell? ⟨w.heap.size, 0, none⟩ = some (.int .i64 f) := (hc_w2 _ _ lX).trans (by simp [go_sem])
  have x1 : w2.cell? ⟨w.heap.size, 1, none⟩ = some (.int .i64 p) := (hc_w2 _ _ lX).trans (by simp [go_sem])
  have x2 : w2.cell? ⟨w.heap.size, 2, none⟩ = some (.int .i64 z) := (hc_w2 _ _ lX).trans (by simp [go_sem])
  have x3 : w2.cell? ⟨w.heap.size, 3, none⟩ = some (.int .i64 an) := (hc_w2 _ _ lX).trans (by simp [go_sem])
  have x4 : w2.cell? ⟨w.heap.size, 4, none⟩ = some (.slice A aw.length ca) := (hc_w2 _ _ lX).trans (by simp [go_sem])
  have x5 : w2.cell? ⟨w.heap.size, 5, none⟩ = some (.int .i64 mn) := (hc_w2 _ _ lX).trans (by simp [go_sem])
  have x6 : w2.cell? ⟨w.heap.size, 6, none⟩ = some (.slice M mw.length cm) := (hc_w2 _ _ lX).trans (by simp [go_sem])
  have x7 : w2.cell? ⟨w.heap.size, 7, none⟩ = some (.bool s) := (hc_w2 _ _ lX).trans (by simp [go_sem])
  have y0 : w2.cell? ⟨w.heap.size + 1, 0, none⟩ = some (.int .i64 f) := (hc_w2 _ _ lX).trans (by simp [go_sem])
  have y1 : w2.cell? ⟨w.heap.size + 1, 1, none⟩ = some (.int .i64 p) := (hc_w2 _ _ lX).trans (by simp [go_sem])
  have y2 : w2.cell? ⟨w.heap.size + 1, 2, none⟩ = some (.int .i64 z) := (hc_w2 _ _ lX).trans (by simp [go_sem])
  have y3 : w2.cell? ⟨w.heap.size + 1, 3, none⟩ = some (.int .i64 an) := (hc_w2 _ _ lX).trans (by simp [go_sem])
  have y4 : w2.cell? ⟨w.heap.size + 1, 4, none⟩ = some (.slice C aw.length cc) := (hc_w2 _ _ lX).trans (by simp [go_sem])
  have y5 : w2.cell? ⟨w.heap.size + 1, 5, none⟩ = some (.int .i64 mn) := (hc_w2 _ _ lX).trans (by simp [go_sem])
  have y6 : w2.cell? ⟨w.heap.size + 1, 6, none⟩ = some (.slice N mw.length cn) := (hc_w2 _ _ lX).trans (by simp [go_sem])
  have y7 : w2.cell? ⟨w.heap.size + 1, 7, none⟩ = some (.bool s) := (hc_w2 _ _ lX).trans (by simp [go_sem])
  clear hc_w2 hf_w2
  go_wp2_with fail
  go_at_call 130
  refine (HM.out _ (hM.later b2) (hN.later b2)).mono ?_
  rintro e w3 ⟨rfl, hb_w3⟩
  have hs3 := hb_w3.size
  have b3 : Below w.heap.size w w3 := b2.trans (hb_w3.mono (by omega))
  have X7 : w3.cell? ⟨w.heap.size, 7, none⟩ = some (.bool s) := (hb_w3.cell (p := ⟨w.heap.size, 7, none⟩) (by show w.heap.size < _; omega)).trans x7
  have Y7 : w3.cell? ⟨w.heap.size + 1, 7, none⟩ = some (.bool s) := (hb_w3.cell (p := ⟨w.heap.size + 1, 7, none⟩) (by show w.heap.size + 1 < _; omega)).trans y7
  go_wp2
  go_ret
  exact ⟨rfl, b3⟩
end
section
variable {w : World} {A C : Option Addr} {l : List Sd} (cap cc : Nat)
set_option maxHeartbeats 8000000 in
theorem xsameL_self (hr : SRow w w.heap.size A l) (hq : SRow w w.heap.size C l) (hl : l.length ≤ 17592186044416) (hw : WordsLe l) :
    Calls Tryz.prog 94 #[.slice A l.length cap, .slice C l.length cc] w fun e w' => e = .returned (.bool true) ∧ Below w.heap.size w w' := by
  have HW := Lib.hid hw
  clear hw
  go_enter Tryz.func94, Tryz.ntmps94
  go_wp2_with fail
  go_loopw [13] (fun ii wr => ∃ k : Nat, ii = .int .i64 (k : Nat) ∧ k ≤ l.length ∧ w.heap.size ≤ wr.heap.size ∧ Below w.heap.size w wr) (fun ii _ => l.length - (intOf ii).toNat)
  case atStart => exact ⟨0, rfl, Nat.zero_le _, lX, bX⟩
  case round =>
    obtain ⟨k, rfl, hk, hsz, hb_wr⟩ := hrel
    have hsr := hb_wr.size
    by_cases hlt : k < l.length
    · obtain ⟨b, off, hAe, hbb, hc⟩ := (hr.later hb_wr).at_ (by omega)
      obtain ⟨b', off', hCe, hbb', hc'⟩ := (hq.later hb_wr).at_ (by omega)
      obtain ⟨A, ca, M, cm, c8, ra, rm⟩ := hc k hlt
      obtain ⟨C, cc', N, cn, c8', rc, rn⟩ := hc' k hlt
      obtain ⟨wa, wm⟩ := HW.out _ (nth_mem l k hlt)
      generalize nth l k = d at *
      have HO := Lib.hid fun (w : World) h1 h2 h3 h4 => xsameone_self (w := w) (A := A) (M := M) (C := C) (N := N) ca cm cc' cn d h1 h2 h3 h4 wa wm
      obtain ⟨x0, x1, x2, x3, x4, x5, x6, x7⟩ := c8
      obtain ⟨y0, y1, y2, y3, y4, y5, y6, y7⟩ := c8'
      subst hAe hCe
      clear hc hc' wa wm
      obtain ⟨f, p, z, an, aw, mn, mw, s⟩ := d
      unfold spv at HO
      simp only at *
      have i1 : (k : Int) < (l.length : Int) := by omega
      have i2 : (0 : Int) ≤ (k : Int) := by omega
      go_wp2_with fail
      go_region_held3 (fun X : World => X.cell? ⟨b, off + k * 8, none⟩ = some (.int .i64 f) ∧ X.cell? ⟨b, off + k * 8 + 1, none⟩ = some (.int .i64 p) ∧ X.cell? ⟨b, off + k * 8 + 2, none⟩ = some (.int .i64 z) ∧ X.cell? ⟨b, off + k * 8 + 3, none⟩ = some (.int .i64 an) ∧ X.cell? ⟨b, off + k * 8 + 4, none⟩ = some (.slice A aw.length ca) ∧ X.cell? ⟨b, off + k * 8 + 5, none⟩ = some (.int .i64 mn) ∧ X.cell? ⟨b, off + k * 8 + 6, none⟩ = some (.slice M mw.length cm) ∧ X.cell? ⟨b, off + k * 8 + 7, none⟩ = some (.bool s) ∧ X.cell? ⟨b', off' + k * 8, none⟩ = some (.int .i64 f) ∧ X.cell? ⟨b', off' + k * 8 + 1, none⟩ = some (.int .i64 p) ∧ X.cell? ⟨b', off' + k * 8 + 2, none⟩ = some (.int .i64 z) ∧ X.cell? ⟨b', off' + k * 8 + 3, none⟩ = some (.int .i64 an) ∧ X.cell? ⟨b', off' + k * 8 + 4, none⟩ = some (.slice C aw.length cc') ∧ X.cell? ⟨b', off' + k * 8 + 5, none⟩ = some (.int .i64 mn) ∧ X.cell? ⟨b', off' + k * 8 + 6, none⟩ = some (.slice N mw.length cn) ∧ X.cell? ⟨b', off' + k * 8 + 7, none⟩ = some (.bool s))
        (refine ⟨?_, ?_, ?_, ?_, ?_, ?_, ?_, ?_, ?_, ?_, ?_, ?_, ?_, ?_, ?_, ?_⟩ <;> first | assumption | exact (World.cell?_alloc_lt _ _ ⟨_, _, _⟩ lX).trans (by assumption) | (simp [go_sem]; done))
        ((go_at_call 173; refine (HO.out _ (ra.later bX) (rm.later bX) (rc.later bX) (rn.later bX)).mono ?_; rintro e w5 ⟨rfl, hb_w5⟩; have hs5 := hb_w5.size; (try simp only [zZ] at hs5); have m0 : w5.cell? ⟨b, off + k * 8, none⟩ = some (.int .i64 f) := (hb_w5.cell lX).trans kY; have m1 : w5.cell? ⟨b, off + k * 8 + 1, none⟩ = some (.int .i64 p) := (hb_w5.cell lX).trans kY; have m2 : w5.cell? ⟨b, off + k * 8 + 2, none⟩ = some (.int .i64 z) := (hb_w5.cell lX).trans kY; have m3 : w5.cell? ⟨b, off + k * 8 + 3, none⟩ = some (.int .i64 an) := (hb_w5.cell lX).trans kY; have m4 : w5.cell? ⟨b, off + k * 8 + 4, none⟩ = some (.slice A aw.length ca) := (hb_w5.cell lX).trans kY; have m5 : w5.cell? ⟨b, off + k * 8 + 5, none⟩ = some (.int .i64 mn) := (hb_w5.cell lX).trans kY; have m6 : w5.cell? ⟨b, off + k * 8 + 6, none⟩ = some (.slice M mw.length cm) := (hb_w5.cell lX).trans kY; have m7 : w5.cell? ⟨b, off + k * 8 + 7, none⟩ = some (.bool s) := (hb_w5.cell lX).trans kY; have m8 : w5.cell? ⟨b', off' + k * 8, none⟩ = some (.int .i64 f) := (hb_w5.cell lX).trans kY; have m9 : w5.cell? ⟨b', off' + k * 8 + 1, none⟩ = some (.int .i64 p) := (hb_w5.cell lX).trans kY; have m10 : w5.cell? ⟨b', off' + k * 8 + 2, none⟩ = some (.int .i64 z) := (hb_w5.cell lX).trans kY; have m11 : w5.cell? ⟨b', off' + k * 8 + 3, none⟩ = some (.int .i64 an) := (hb_w5.cell lX).trans kY; have m12 : w5.cell? ⟨b', off' + k * 8 + 4, none⟩ = some (.slice C aw.length cc') := (hb_w5.cell lX).trans kY; have m13 : w5.cell? ⟨b', off' + k * 8 + 5, none⟩ = some (.int .i64 mn) := (hb_w5.cell lX).trans kY; have m14 : w5.cell? ⟨b', off' + k * 8 + 6, none⟩ = some (.slice N mw.length cn) := (hb_w5.cell lX).trans kY; have m15 : w5.cell? ⟨b', off' + k * 8 + 7, none⟩ = some (.bool s) := (hb_w5.cell lX).trans kY))
      all_goals
        go_wp2
        go_roundw
        case rel => exact ⟨k + 1, by go_num, by omega, lX, bX⟩
        case measure => simp [intOf]; omega
    · go_wp2
      go_ret
      exact ⟨rfl, hb_wr⟩
end
theorem count_full {a b : List Nat} {n : Nat} (h : ∀ i, i < n → tb a i = true → tb b i = false) (h2 : ∀ i, i < n → tb b i = false → tb a i = true) : countTo a n + countTo b n = n := by
  induction n with
  | zero => simp [countTo]
  | succ n ih =>
    have ih := ih (fun i hi => h i (by omega)) fun i hi => h2 i (by omega)
    have hn := h n (by omega)
    have hn2 := h2 n (by omega)
    rw [countTo, countTo]
    rcases ha : tb a n with _ | _
    · rcases hb : tb b n with _ | _
      · rw [hn2 hb] at ha; cases ha
      · simp; omega
    · rw [hn ha]; simp; omega
theorem relSc_all {s : Sc} (k : OkS s) {m : Nat} (hm : relG s.h.us s.n.toNat s.os m < m) : countTo (relSc s m).os s.n.toNat + countTo s.h.us s.n.toNat = s.n.toNat := by
  obtain ⟨n0, n1, n2⟩ := k.nn
  have p := relP s.h.us s.n s.n.toNat s.os m (by omega) k.o
  exact count_full (fun i hi ho => (relSc_ok k m).apart hi ho) fun i hi hu => p.all hm i hi hu
section
variable {A : Option Addr} {ws : List Nat} {w : World} (cap : Nat)
end
theorem asame_ok (ws : List Nat) (hm : ws.length ≤ maxLen) (w : World) (A A' : Option Addr) (cap cap' : Nat) (hr : Row w w.heap.size A ws) (hr' : Row w w.heap.size A' ws) :
    Calls Tryz.prog 92 #[.agg #[.slice A ws.length cap], .agg #[.slice A' ws.length cap']] w fun e w' => e = .returned (.bool true) ∧ Below w.heap.size w w' := by
  unfold maxLen at hm
  have hd2 : ((ws.length : Int) != (ws.length : Int)) = false := by simp
  go_enter Tryz.func92, Tryz.ntmps92
  go_wp2
  go_loopw [16] (fun i wr => ∃ k m : Nat, i = .int .i64 k ∧ k ≤ ws.length ∧ wr = ((w.alloc (Obj.cells #[Value.slice A ws.length cap] 24)).alloc (Obj.cells #[Value.slice A' ws.length cap'] 24)).drewN m)
    (fun i _ => ws.length - (intOf i).toNat)
  case atStart => exact ⟨0, 0, rfl, Nat.zero_le _, rfl⟩
  case round =>
    obtain ⟨k, m, rfl, hk, rfl⟩ := hrel
    by_cases hlt : k < ws.length
    · obtain ⟨b, off, rfl, hb, hc⟩ := hr.at_ (by omega)
      obtain ⟨b', off', rfl, hb', hc'⟩ := hr'.at_ (by omega)
      have hck := hc k hlt
      have hck' := hc' k hlt
      obtain ⟨x, hx⟩ := named ws k
      rw [hx.out] at hck hck'
      have hd3 : ((x : Int) != (x : Int)) = false := by simp
      clear hc hc'
      go_wp2
      go_quiet (fail)
      go_wp2
      go_roundw
      case rel => exact ⟨k + 1, _, by go_num, by omega, rfl⟩
      case measure => simp [intOf]; omega
    · go_wp2
      go_ret
      exact ⟨rfl, bX⟩
section
variable {n : Int} {A : Option Addr} {ws : List Nat} {w : World} (cap : Nat)
theorem rpcopy_any (hr : Row w w.heap.size A ws) (hm : ws.length ≤ 17592186044416) :
    Calls Tryz.prog 71 #[.agg #[.int .i64 n, .slice A ws.length cap]] w fun e w' => Copied w n ws e w' := by
  go_enter Tryz.func71, Tryz.ntmps71
  go_wp2_with (go_at_call 122; refine (copy_any _ _ (hr.later bX) hm).mono ?_; rintro e w1 ⟨A1, cap1, rfl, ho1, hb_w1⟩; obtain ⟨hc_w1, hf_w1⟩ := bcell hb_w1; have hz_w1_w_0 : w.heap.size < w1.heap.size := lY hb_w1.size; have hz_w1_w_1 : w.heap.size + 1 < w1.heap.size := lY hb_w1.size)
  have k0 : w1.cell? ⟨w.heap.size + 1, 0, none⟩ = _ := (hc_w1 _ _ lX).trans (by simp [go_sem]; rfl)
  have k1 : w1.cell? ⟨w.heap.size + 1, 1, none⟩ = _ := (hc_w1 _ _ lX).trans (by simp [go_sem]; rfl)
  exact bodyPost_ret (res_pages1 rfl rfl (set_two _ _ k0 k1).1 (set_two _ _ k0 k1).2) rfl ⟨A1, cap1, rfl, (ho1.two (g := w.heap.size + 1) lX).mono lX, bX⟩
theorem rpsame_ok (hm : ws.length ≤ maxLen) (A' : Option Addr) (cap' : Nat) (hr : Row w w.heap.size A ws) (hr' : Row w w.heap.size A' ws) :
    Calls Tryz.prog 93 #[.agg #[.int .i64 n, .slice A ws.length cap], .agg #[.int .i64 n, .slice A' ws.length cap']] w fun e w' => e = .returned (.bool true) ∧ Below w.heap.size w w' := by
  go_enter Tryz.func93, Tryz.ntmps93
  go_wp2_with fail
  go_at_call 130
  refine (same_ok n ws hm _ _ _ _ _ (hr.later bX) (hr'.later bX)).mono ?_
  rintro e w1 ⟨rfl, hb_w1⟩
  obtain ⟨hc_w1, hf_w1⟩ := bcell hb_w1; have hz_w1_w_0 : w.heap.size < w1.heap.size := lY hb_w1.size; have hz_w1_w_1 : w.heap.size + 1 < w1.heap.size := lY hb_w1.size; have hs_w1 := hb_w1.size; (try simp only [zZ] at hs_w1)
  go_wp2
  go_ret
  exact ⟨rfl, bX⟩
end
section
variable {w : World} {v v' : Hv} {h : Hp}
set_option maxHeartbeats 1000000 in
theorem hsame_any (m : HM w w.heap.size v h) (m' : HM w w.heap.size v' h) (hs : Short h) :
    Calls Tryz.prog 20 #[hpV v h, hpV v' h] w fun e w' => e = .returned (.bool true) ∧ Below w.heap.size w w' := by
  have HA := Lib.hid fun (w : World) h1 h2 => asame_ok h.ws (by have := hs.ws; unfold maxLen; omega) w v.A v'.A v.ca v'.ca h1 h2
  have HU := Lib.hid fun (w : World) h1 h2 => rpsame_ok (n := h.n) (A := v.U) (ws := h.us) (w := w) v.cu (by have := hs.us; unfold maxLen; omega) v'.U v'.cu h1 h2
  have HV := Lib.hid fun (w : World) h1 h2 => xsameL_self (w := w) (A := v.V) (C := v'.V) (l := h.l) v.cv v'.cv h1 h2 (by have := hs.l; omega) hs.each
  have hx := HIn.new m 31
  have hx1 := hx.alloc (.cells #[.slice v'.A h.ws.length v'.ca, .int .i64 h.n, .slice v'.U h.us.length v'.cu, .slice v'.V h.l.length v'.cv] 31)
  have hm1 := m'.later ((Below.refl _ _).alloc (Nat.le_refl _) (.cells #[.slice v.A h.ws.length v.ca, .int .i64 h.n, .slice v.U h.us.length v.cu, .slice v.V h.l.length v.cv] 31))
  have hy1 := HIn.new hm1 31
  rw [World.size_alloc] at hy1
  clear hx hm1
  unfold hpV hpv
  go_enter Tryz.func20, Tryz.ntmps20
  go_wp2_with fail
  go_at_call 92
  refine (HA.out _ (by exact hx1.m.a) (by exact hy1.m.a)).mono ?_
  rintro e w1 ⟨rfl, hb_w1⟩
  have b1 : Below w.heap.size w w1 := bX
  have hx2 := hx1.later hb_w1
  have hy2 := hy1.later hb_w1
  obtain ⟨c0, c1, c2, c3, f0, f1, f2, f3⟩ := id hx2.box
  obtain ⟨d0, d1, d2, d3, g0, g1, g2, g3⟩ := id hy2.box
  go_wp2_with fail
  go_at_call 93
  refine (HU.out _ (by exact hx2.m.u) (by exact hy2.m.u)).mono ?_
  rintro e w2 ⟨rfl, hb_w2⟩
  have b2 : Below w.heap.size w w2 := b1.trans (hb_w2.mono b1.size)
  have hx3 := hx2.later hb_w2
  have hy3 := hy2.later hb_w2
  clear c0 c1 c2 c3 f0 f1 f2 f3 d0 d1 d2 d3 g0 g1 g2 g3
  obtain ⟨c0, c1, c2, c3, f0, f1, f2, f3⟩ := id hx3.box
  obtain ⟨d0, d1, d2, d3, g0, g1, g2, g3⟩ := id hy3.box
  go_wp2_with fail
  go_at_call 94
  refine (HV.out _ (by exact hx3.m.v) (by exact hy3.m.v)).mono ?_
  rintro e w3 ⟨rfl, hb_w3⟩
  have b3 : Below w.heap.size w w3 := b2.trans (hb_w3.mono b2.size)
  go_wp2
  go_ret
  exact ⟨rfl, b3⟩
end
set_option maxHeartbeats 8000000 in
theorem scavKeeps_walk (v : Hv) (O : Option Addr) (co : Nat) (s : Sc) (q : Int) (w : World) (hz : Sizes w) (m : SM w v O s) (hs : Short s.h) (hnil : v.V = none → v.cv = 0) (hlo : s.os.length ≤ 17592186044416) (hfa : s.fa < W64) (hgo : s.go < W64) (hq : -9223372036854775808 ≤ q ∧ q ≤ 9223372036854775807) :
    Calls Tryz.prog 11 #[scV v O co s, .int .i64 q] w fun e w' => e = .returned (.bool true) ∧ Below w.heap.size w w' := by
  have X0 := E8.new w (.slice v.A s.h.ws.length v.ca) (.int .i64 s.h.n) (.slice v.U s.h.us.length v.cu) (.slice v.V s.h.l.length v.cv) (.int .i64 s.n) (.slice O s.os.length co) (.int .u64 (s.fa : Nat)) (.int .u64 (s.go : Nat)) 64
  have M0 := m.later ((Below.refl _ _).alloc (Nat.le_refl _) (.cells #[.slice v.A s.h.ws.length v.ca, .int .i64 s.h.n, .slice v.U s.h.us.length v.cu, .slice v.V s.h.l.length v.cv, .int .i64 s.n, .slice O s.os.length co, .int .u64 (s.fa : Nat), .int .u64 (s.go : Nat)] 64))
  have z0 := X0.lt
  obtain ⟨s', g, y, E⟩ := KeeE.ex s q
  have HK := Lib.hid fun (w : World) (v : Hv) (O : Option Addr) (co : Nat) z m n => fkeep_any (w := w) (v := v) (O := O) (s := s) co z m hs n q hq s' g y E
  unfold FreshSi at HK
  by_cases hy : y = 0
  · subst hy
    obtain ⟨hk, h0, he, hg⟩ : OkS s ∧ 0 ≤ q ∧ s' = relSc s (keeQ s q) ∧ g = (relG s.h.us s.n.toNat s.os (keeQ s q) : Nat) := by
      rcases E with ⟨_, _, _, e⟩ | ⟨_, _, _, _, e⟩ | ⟨h1, h2, h3, h4, _⟩
      · cases e
      · cases e
      · exact ⟨h1, h2, h3, h4⟩
    have hh : s'.h = s.h := by rw [he]; rfl
    have hn : s'.n = s.n := by rw [he]; rfl
    have hk' : OkS s' := by rw [he]; exact relSc_ok hk _
    obtain ⟨hc, hle⟩ := relSc_count hk (keeQ s q)
    have hall := fun h => relSc_all hk (m := keeQ s q) h
    rw [← he] at hc hall
    obtain ⟨n0, n1, n2⟩ := hk.nn
    have htw := hk.two
    have htw' := hk'.two
    rw [hn, hh] at htw'
    have hkq : (keeQ s q : Int) = max (s.n - (countTo s.os s.n.toNat : Nat) - q) 0 := by unfold keeQ; omega
    obtain ⟨a, b, y1, E1⟩ := TheE.ex s
    obtain ⟨c, d, y2, E2⟩ := TheE.ex s'
    have HT1 := Lib.hid fun (w : World) (v : Hv) (O : Option Addr) (co : Nat) z m n => fthere_any (w := w) (v := v) (O := O) (s := s) co z m hs n a b y1 E1
    have HT2 := Lib.hid fun (w : World) (v : Hv) (O : Option Addr) (co : Nat) z m n => fthere_any (w := w) (v := v) (O := O) (s := s') co z m hk'.h.short n c d y2 E2
    have HC := Lib.hid fun (w : World) (v : Hv) (O : Option Addr) (co : Nat) z m => fcheck_any (w := w) (v := v) (O := O) (s := s') co z m hk'.h.short 0 (.inl ⟨hk', rfl⟩)
    have HSM := Lib.hid fun (w : World) (v v' : Hv) (m : HM w w.heap.size v s.h) (m' : HM w w.heap.size v' s'.h) => (show Calls Tryz.prog 20 #[hpV v s.h, hpV v' s'.h] w (fun e w' => e = .returned (.bool true) ∧ Below w.heap.size w w') by rw [hh] at m' ⊢; exact hsame_any m m' hs)
    rcases E1 with ⟨h1, _⟩ | ⟨_, ha, hb, rfl⟩
    · exact absurd hk h1
    rcases E2 with ⟨h1, _⟩ | ⟨_, hc2, hd, rfl⟩
    · exact absurd hk' h1
    rw [hn] at hc2 hd
    rw [hh] at hd
    generalize countTo s.os s.n.toNat = k1 at *
    generalize countTo s'.os s.n.toNat = k2 at *
    generalize countTo s.h.us s.n.toNat = u at *
    generalize keeQ s q = kq at *
    generalize relG s.h.us s.n.toNat s.os kq = G at *
    have hB : 0 ≤ a ∧ a ≤ 4096 ∧ 0 ≤ b ∧ b ≤ 4096 ∧ 0 ≤ c ∧ c ≤ 4096 ∧ 0 ≤ d ∧ d ≤ 4096 ∧ 0 ≤ g ∧ g ≤ 4096 := by omega
    have e1 : (a - c == g) = true := by simp only [beq_iff_eq]; omega
    have e2 : (b - d == g) = true := by simp only [beq_iff_eq]; omega
    have e7 : (a - b == c - d) = true := by simp only [beq_iff_eq]; omega
    have e3 : decide (c ≤ q) = true ∨ (decide (c ≤ q) = false ∧ (d == (0 : Int)) = true) := by
      by_cases h : c ≤ q
      · exact .inl (decide_eq_true h)
      · have := hall (by omega)
        exact .inr ⟨decide_eq_false h, by simp only [beq_iff_eq]; omega⟩
    have e5 : (decide (a > q) = true ∧ decide (q < a) = true) ∨ (decide (a > q) = false ∧ decide (q < a) = false ∧ (g == (0 : Int)) = true) := by
      by_cases h : q < a
      · exact .inl ⟨decide_eq_true h, decide_eq_true h⟩
      · exact .inr ⟨decide_eq_false h, decide_eq_false h, by simp only [beq_iff_eq]; omega⟩
    obtain ⟨hB1, hB2, hB3, hB4, hB5, hB6, hB7, hB8, hB9, hB10⟩ := hB
    clear E he hg hc hle hall n0 n1 n2 htw htw' hkq ha hb hc2 hd hk hk' hh hn m hs h0
    unfold scV at HK HT1 HT2 HC ⊢
    unfold hpV hpv at HSM
    go_enter Tryz.func11, Tryz.ntmps11
    go_wp2_with fail
    go_at_call 51
    refine (flives_any _ (hz.later bX)).mono ?_
    rintro e w1 ⟨rfl, hb_w1⟩
    have b_w1 : Below w.heap.size w w1 := bX
    replace X0 := X0.later hb_w1
    replace M0 := M0.later hb_w1
    obtain ⟨X0_0, X0_1, X0_2, X0_3, X0_4, X0_5, X0_6, X0_7, X0_f⟩ := id X0
    go_wp2_with fail
    go_at_call 49
    refine (HK.out _ _ _ _ (hz.later (by exact b_w1)) (by exact M0) hnil).mono ?_
    rintro e w2 ⟨v2, O2, c2, rfl, o2, hb_w2⟩
    have n2 := o2.h.nil
    clear X0_0 X0_1 X0_2 X0_3 X0_4 X0_5 X0_6 X0_7 X0_f
    have b_w2 : Below w.heap.size w w2 := b_w1.trans (hb_w2.mono b_w1.size)
    replace X0 := X0.later hb_w2
    have p_X0 := X0
    have z_X0_w2 := X0.lt
    replace M0 := M0.later hb_w2
    have a_w2_0 : Below w2.heap.size w2 (w2.alloc (.cells #[.slice v2.A s'.h.ws.length v2.ca, .int .i64 s'.h.n, .slice v2.U s'.h.us.length v2.cu, .slice v2.V s'.h.l.length v2.cv, .int .i64 s'.n, .slice O2 s'.os.length c2, .int .u64 (s'.fa : Nat), .int .u64 (s'.go : Nat)] 64)) := Below.alloc (Below.refl _ _) (Nat.le_refl _) _
    replace X0 := X0.later a_w2_0
    replace M0 := M0.later a_w2_0
    have X2 := E8.new w2 (.slice v2.A s'.h.ws.length v2.ca) (.int .i64 s'.h.n) (.slice v2.U s'.h.us.length v2.cu) (.slice v2.V s'.h.l.length v2.cv) (.int .i64 s'.n) (.slice O2 s'.os.length c2) (.int .u64 (s'.fa : Nat)) (.int .u64 (s'.go : Nat)) 64
    have b_w2_0 : Below w.heap.size w (w2.alloc (.cells #[.slice v2.A s'.h.ws.length v2.ca, .int .i64 s'.h.n, .slice v2.U s'.h.us.length v2.cu, .slice v2.V s'.h.l.length v2.cv, .int .i64 s'.n, .slice O2 s'.os.length c2, .int .u64 (s'.fa : Nat), .int .u64 (s'.go : Nat)] 64)) := b_w2.trans (a_w2_0.mono b_w2.size)
    have M2 := o2.sm.later a_w2_0
    clear o2
    obtain ⟨X0_0, X0_1, X0_2, X0_3, X0_4, X0_5, X0_6, X0_7, X0_f⟩ := id p_X0
    go_wp2_with fail
    go_at_call 53
    refine (HT1.out _ _ _ _ (hz.later (by exact b_w2_0)) (by exact M0) hnil).mono ?_
    rintro e w3 ⟨rfl, hb_w3⟩
    clear p_X0
    clear X0_0 X0_1 X0_2 X0_3 X0_4 X0_5 X0_6 X0_7 X0_f
    have b_w3 : Below w.heap.size w w3 := b_w2_0.trans (hb_w3.mono b_w2_0.size)
    replace X0 := X0.later hb_w3
    replace M0 := M0.later hb_w3
    replace X2 := X2.later hb_w3
    replace M2 := M2.later hb_w3
    obtain ⟨X2_0, X2_1, X2_2, X2_3, X2_4, X2_5, X2_6, X2_7, X2_f⟩ := id X2
    go_wp2_with fail
    go_at_call 53
    refine (HT2.out _ _ _ _ (hz.later (by exact b_w3)) (by exact M2) n2).mono ?_
    rintro e w4 ⟨rfl, hb_w4⟩
    clear X2_0 X2_1 X2_2 X2_3 X2_4 X2_5 X2_6 X2_7 X2_f
    have b_w4 : Below w.heap.size w w4 := b_w3.trans (hb_w4.mono b_w3.size)
    replace X0 := X0.later hb_w4
    replace M0 := M0.later hb_w4
    replace X2 := X2.later hb_w4
    replace M2 := M2.later hb_w4
    obtain ⟨X0_0, X0_1, X0_2, X0_3, X0_4, X0_5, X0_6, X0_7, X0_f⟩ := id X0
    obtain ⟨X2_0, X2_1, X2_2, X2_3, X2_4, X2_5, X2_6, X2_7, X2_f⟩ := id X2
    rcases e3 with e3 | ⟨e3, e4⟩ <;> rcases e5 with ⟨e5, e6⟩ | ⟨e5, e6, e8⟩
    all_goals (go_wp2_with fail)
    all_goals (go_at_call 20)
    all_goals (refine (HSM.out _ _ _ (by exact M0.h) (by exact M2.h)).mono ?_)
    all_goals (rintro e w5 ⟨rfl, hb_w5⟩)
    all_goals (clear X0_0 X0_1 X0_2 X0_3 X0_4 X0_5 X0_6 X0_7 X0_f X2_0 X2_1 X2_2 X2_3 X2_4 X2_5 X2_6 X2_7 X2_f)
    all_goals (have X2 := X2.later hb_w5)
    all_goals (have M2 := M2.later hb_w5)
    all_goals (have b_w5 := b_w4.trans (hb_w5.mono b_w4.size))
    all_goals (obtain ⟨x0, x1, x2, x3, x4, x5, x6, x7, xf⟩ := id X2)
    all_goals (go_wp2_with fail)
    all_goals (go_at_call 59)
    all_goals (refine (HC.out _ _ _ _ (hz.later (by exact b_w5)) (by exact M2)).mono ?_)
    all_goals (rintro e w6 ⟨rfl, hb_w6⟩)
    all_goals (have b_w6 := b_w5.trans (hb_w6.mono b_w5.size))
    all_goals go_wp2
    all_goals go_ret
    all_goals exact ⟨rfl, b_w6⟩
  · have hg : g = 0 := by
      rcases E with ⟨_, _, e, _⟩ | ⟨_, _, _, e, _⟩ | ⟨_, _, _, _, e⟩
      · exact e
      · exact e
      · exact absurd e hy
    subst hg
    have hy1 : (y != (0 : Int)) = true := by simpa using hy
    clear E hy m hs
    unfold scV at HK ⊢
    go_enter Tryz.func11, Tryz.ntmps11
    go_wp2_with fail
    go_at_call 51
    refine (flives_any _ (hz.later bX)).mono ?_
    rintro e w1 ⟨rfl, hb_w1⟩
    have b_w1 : Below w.heap.size w w1 := bX
    replace X0 := X0.later hb_w1
    replace M0 := M0.later hb_w1
    obtain ⟨X0_0, X0_1, X0_2, X0_3, X0_4, X0_5, X0_6, X0_7, X0_f⟩ := id X0
    go_wp2_with fail
    go_at_call 49
    refine (HK.out _ _ _ _ (hz.later (by exact b_w1)) (by exact M0) hnil).mono ?_
    rintro e w2 ⟨v2, O2, c2, rfl, o2, hb_w2⟩
    clear X0_0 X0_1 X0_2 X0_3 X0_4 X0_5 X0_6 X0_7 X0_f
    have b_w2 : Below w.heap.size w w2 := b_w1.trans (hb_w2.mono b_w1.size)
    replace X0 := X0.later hb_w2
    have p_X0 := X0
    have z_X0_w2 := X0.lt
    replace M0 := M0.later hb_w2
    have a_w2_0 : Below w2.heap.size w2 (w2.alloc (.cells #[.slice v2.A s'.h.ws.length v2.ca, .int .i64 s'.h.n, .slice v2.U s'.h.us.length v2.cu, .slice v2.V s'.h.l.length v2.cv, .int .i64 s'.n, .slice O2 s'.os.length c2, .int .u64 (s'.fa : Nat), .int .u64 (s'.go : Nat)] 64)) := Below.alloc (Below.refl _ _) (Nat.le_refl _) _
    replace X0 := X0.later a_w2_0
    replace M0 := M0.later a_w2_0
    have b_w2_0 : Below w.heap.size w (w2.alloc (.cells #[.slice v2.A s'.h.ws.length v2.ca, .int .i64 s'.h.n, .slice v2.U s'.h.us.length v2.cu, .slice v2.V s'.h.l.length v2.cv, .int .i64 s'.n, .slice O2 s'.os.length c2, .int .u64 (s'.fa : Nat), .int .u64 (s'.go : Nat)] 64)) := b_w2.trans (a_w2_0.mono b_w2.size)
    go_wp2
    go_ret
    exact ⟨rfl, b_w2_0⟩
end Go.Proofs.YtkfmbhlefppkhaaGreatDoor
